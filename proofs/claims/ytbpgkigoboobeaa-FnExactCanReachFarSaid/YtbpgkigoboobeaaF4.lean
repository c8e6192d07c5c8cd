/-
  Contracts: CanReachFar.
-/
import Derived.Test.YtbpgkigoboobeaaF3
namespace Go.Proofs.Ytbpgkigoboobeaa
open Go.RowKit

def withinB (x y m : Int) : Bool := decide (-m ≤ x ∧ x ≤ m ∧ -m ≤ y ∧ y ≤ m)
theorem within_far {x y : Int} : withinB x y 100 = farIn x y := by rw [far_eq, withinB]

set_option maxHeartbeats 1000000 in
theorem isWithin_any (x y m : Int) (w : World) (hm1 : 0 ≤ m) (hm2 : m ≤ 1000) :
    Calls Try.prog 40 #[lpr x y, .int .i64 m] w fun e w' => e = .returned (.bool (withinB x y m)) ∧ Below w.heap.size w w' := by
  by_cases h1 : -m ≤ x
  rotate_left
  · go_enter Try.func40, Try.ntmps40
    go_wp2
    go_ret
    exact ⟨ret_bool (by simp [withinB]; omega), below_new (Below.refl _ _) _⟩
  by_cases h2 : x ≤ m
  rotate_left
  · go_enter Try.func40, Try.ntmps40
    go_wp2
    go_ret
    exact ⟨ret_bool (by simp [withinB]; omega), below_new (Below.refl _ _) _⟩
  by_cases h3 : -m ≤ y
  rotate_left
  · go_enter Try.func40, Try.ntmps40
    go_wp2
    go_ret
    exact ⟨ret_bool (by simp [withinB]; omega), below_new (Below.refl _ _) _⟩
  · go_enter Try.func40, Try.ntmps40
    go_wp2
    go_ret
    exact ⟨ret_bool (by rw [Bool.eq_iff_iff]; simp [withinB]; omega), below_new (Below.refl _ _) _⟩

set_option maxRecDepth 100000 in
set_option maxHeartbeats 2000000 in
theorem spec_CanReachFar (a b x y : Int) (w : World) :
    Calls Try.prog 23 #[lpr a b, .int .i64 x, .int .i64 y] w fun e w' => e = .returned (.tuple #[.bool (canV a b x y), .bool (leaperB a b && farIn x y)]) ∧ Below w.heap.size w w' := by
  by_cases hl : leaperB a b = true
  · have HL := Lib.hid hl
    cases hx : inB x (-100) 100
    · go_enter Try.func23, Try.ntmps23
      go_wp2_with fail
      refine (boLeaper_any _ _ _).mono ?_
      rw [hl]
      rintro e w1 ⟨rfl, hb1⟩
      have HB1 := Lib.hid (below_box hb1)
      clear hb1 hl
      go_wp2_with fail
      refine (l1In_any _ _ _ _).mono ?_
      rw [hx]
      rintro e w1 ⟨rfl, rfl⟩
      go_wp2
      go_ret2
      exact ⟨by rw [canV, farIn, hx]; simp, HB1.out⟩
    cases hy : inB y (-100) 100
    · go_enter Try.func23, Try.ntmps23
      go_wp2_with fail
      refine (boLeaper_any _ _ _).mono ?_
      rw [hl]
      rintro e w1 ⟨rfl, hb1⟩
      have HB1 := Lib.hid (below_box hb1)
      clear hb1 hl
      go_wp2_with fail
      refine (l1In_any _ _ _ _).mono ?_
      rw [hx]
      rintro e w1 ⟨rfl, rfl⟩
      go_wp2_with fail
      refine (l1In_any _ _ _ _).mono ?_
      rw [hy]
      rintro e w1 ⟨rfl, rfl⟩
      go_wp2
      go_ret2
      exact ⟨by rw [canV, farIn, hy]; simp, HB1.out⟩
    · have HX := Lib.hid hx; have HY := Lib.hid hy
      go_enter Try.func23, Try.ntmps23
      go_wp2_with fail
      refine (boLeaper_any _ _ _).mono ?_
      rw [hl]
      rintro e w1 ⟨rfl, hb1⟩
      have c0 := newbox hb1 0; have c1 := newbox hb1 1; have hlt := newbox_lt hb1
      simp only [List.getElem?_toArray, List.getElem?_cons_zero, List.getElem?_cons_succ] at c0 c1
      have HB1 := Lib.hid (below_box hb1)
      clear hb1 hl
      go_wp2_with fail
      refine (l1In_any _ _ _ _).mono ?_
      rw [hx]
      rintro e w1 ⟨rfl, rfl⟩
      go_wp2_with fail
      refine (l1In_any _ _ _ _).mono ?_
      rw [hy]
      rintro e w1 ⟨rfl, rfl⟩
      clear hx hy
      go_wp2_with fail
      refine (paReach_any _ _ _ _ _ HL.out (inB_iff.1 HX.out).1 (inB_iff.1 HX.out).2 (inB_iff.1 HY.out).1 (inB_iff.1 HY.out).2).mono ?_
      rintro e w1 ⟨rfl, hb1⟩
      replace HB1 := Lib.hid (below_next HB1.out hb1)
      clear hb1
      go_wp2
      go_ret2
      exact ⟨by rw [canV, farIn, HX.out, HY.out, HL.out]; simp, HB1.out⟩
  · have hl' : leaperB a b = false := by simpa using hl
    go_enter Try.func23, Try.ntmps23
    go_wp2_with fail
    refine (boLeaper_any _ _ _).mono ?_
    rw [hl']
    rintro e w1 ⟨rfl, hb1⟩
    have HB1 := Lib.hid (below_box hb1)
    clear hb1
    go_wp2
    go_ret2
    exact ⟨by rw [canV, hl']; rfl, HB1.out⟩

set_option maxRecDepth 100000 in
set_option maxHeartbeats 2000000 in
theorem impl_CanReachFar (a b x y : Int) (w : World) :
    Calls Try.prog 24 #[lpr a b, .int .i64 x, .int .i64 y] w fun e w' => e = .returned (.tuple #[.bool (canV a b x y), .bool (leaperB a b && farIn x y)]) ∧ Below w.heap.size w w' := by
  by_cases hl : leaperB a b = true
  · have HL := Lib.hid hl
    cases hx : withinB x y 100
    · go_enter Try.func24, Try.ntmps24
      go_wp2_with fail
      refine (isLeaper_any _ _ _).mono ?_
      rw [hl]
      rintro e w1 ⟨rfl, hb1⟩
      have hbx0 := below_box hb1
      have d0 : w1.cell? ⟨w.heap.size + 1, 0, none⟩ = some (.int .i64 x) := by simpa using newbox hb1 0
      have d1 : w1.cell? ⟨w.heap.size + 1, 1, none⟩ = some (.int .i64 y) := by simpa using newbox hb1 1
      have HB1 := Lib.hid (below_box hbx0)
      clear hb1 hbx0 hl
      go_wp2_with fail
      refine (isWithin_any _ _ _ _ (by omega) (by omega)).mono ?_
      rw [hx]
      rintro e w2 ⟨rfl, hb2⟩
      replace HB1 := Lib.hid (below_next HB1.out hb2)
      clear hb2
      go_wp2
      go_ret2
      exact ⟨by rw [canV, ← within_far, hx]; simp, HB1.out⟩
    · have HX := Lib.hid hx
      have HF := Lib.hid (show farIn x y = true by rw [← within_far]; exact hx)
      go_enter Try.func24, Try.ntmps24
      go_wp2_with fail
      refine (isLeaper_any _ _ _).mono ?_
      rw [hl]
      rintro e w1 ⟨rfl, hb1⟩
      have hbx0 := below_box hb1
      have c0 : w1.cell? ⟨w.heap.size, 0, none⟩ = some (.int .i64 a) := by simpa using newbox hbx0 0
      have c1 : w1.cell? ⟨w.heap.size, 1, none⟩ = some (.int .i64 b) := by simpa using newbox hbx0 1
      have d0 : w1.cell? ⟨w.heap.size + 1, 0, none⟩ = some (.int .i64 x) := by simpa using newbox hb1 0
      have d1 : w1.cell? ⟨w.heap.size + 1, 1, none⟩ = some (.int .i64 y) := by simpa using newbox hb1 1
      have hlt : w.heap.size < w1.heap.size := by simpa using newbox_lt hbx0
      have hlt2 : w.heap.size + 1 < w1.heap.size := by simpa using newbox_lt hb1
      have HB1 := Lib.hid (below_box hbx0)
      clear hb1 hbx0 hl
      go_wp2_with fail
      refine (isWithin_any _ _ _ _ (by omega) (by omega)).mono ?_
      rw [hx]
      rintro e w2 ⟨rfl, hb2⟩
      replace c0 := cell_keep c0 hlt hb2; replace c1 := cell_keep c1 hlt hb2; replace d0 := cell_keep d0 hlt2 hb2; replace d1 := cell_keep d1 hlt2 hb2
      replace HB1 := Lib.hid (below_next HB1.out hb2)
      clear hb2 hx hlt hlt2
      go_wp2_with fail
      refine (canReach_any _ _ _ _ _ HL.out (by have := HF.out; rw [far_eq] at this; simp at this; omega) (by have := HF.out; rw [far_eq] at this; simp at this; omega) (by have := HF.out; rw [far_eq] at this; simp at this; omega) (by have := HF.out; rw [far_eq] at this; simp at this; omega)).mono ?_
      rintro e w1 ⟨rfl, hb1⟩
      replace HB1 := Lib.hid (below_next HB1.out hb1)
      clear hb1
      go_wp2
      go_ret2
      exact ⟨by rw [canV, HF.out, HL.out]; simp, HB1.out⟩
  · have hl' : leaperB a b = false := by simpa using hl
    go_enter Try.func24, Try.ntmps24
    go_wp2_with fail
    refine (isLeaper_any _ _ _).mono ?_
    rw [hl']
    rintro e w1 ⟨rfl, hb1⟩
    have HB1 := Lib.hid (below_box (below_box hb1))
    clear hb1
    go_wp2
    go_ret2
    exact ⟨by rw [canV, hl']; rfl, HB1.out⟩

end Go.Proofs.Ytbpgkigoboobeaa
