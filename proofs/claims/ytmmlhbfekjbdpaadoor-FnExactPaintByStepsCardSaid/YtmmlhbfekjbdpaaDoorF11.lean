/-
  Contracts: colours by steps.
-/
import Derived.Test.YtmmlhbfekjbdpaaDoorB2
import Derived.Test.YtmmlhbfekjbdpaaDoorApp
import Derived.Test.YtmmlhbfekjbdpaaDoorB7
namespace Go.Proofs.YtmmlhbfekjbdpaaDoor
open Go.RowKit

def stepsOk (p q m : Int) : Bool := decide (1 ≤ m ∧ m ≤ 9 ∧ 0 ≤ p ∧ p < m ∧ 0 ≤ q ∧ q < m)
/-- Where the three numbers of a colouring by steps lie. -/
def ByAt (w : World) (gp gq gm : Nat) (p q m : Int) : Prop := w.cell? ⟨gp, 0, none⟩ = some (.int .i64 p) ∧ w.cell? ⟨gq, 0, none⟩ = some (.int .i64 q) ∧ w.cell? ⟨gm, 0, none⟩ = some (.int .i64 m) ∧ gp < w.heap.size ∧ gq < w.heap.size ∧ gm < w.heap.size
theorem ByAt.keep {w w' : World} {gp gq gm : Nat} {p q m : Int} (h : ByAt w gp gq gm p q m) (hb : Below w.heap.size w w') : ByAt w' gp gq gm p q m :=
  ⟨cell_keep h.1 h.2.2.2.1 hb, cell_keep h.2.1 h.2.2.2.2.1 hb, cell_keep h.2.2.1 h.2.2.2.2.2 hb, lt_keep h.2.2.2.1 hb, lt_keep h.2.2.2.2.1 hb, lt_keep h.2.2.2.2.2 hb⟩
def colFn (gp gq gm : Nat) : Value := .func (.func 56) #[] #[.pointer (some ⟨gp, 0, none⟩), .pointer (some ⟨gq, 0, none⟩), .pointer (some ⟨gm, 0, none⟩)]

set_option maxHeartbeats 1000000 in
theorem areSteps_any (p q m : Int) (w : World) :
    Calls Tryd.prog 36 #[.int .i64 p, .int .i64 q, .int .i64 m] w fun e w' => e = .returned (.bool (stepsOk p q m)) ∧ w = w' := by
  by_cases h1 : 1 ≤ m
  rotate_left
  · go_enter Tryd.func36, Tryd.ntmps36
    go_wp2
    go_ret
    exact ⟨ret_bool (by simp [stepsOk]; omega), rfl⟩
  by_cases h2 : m ≤ 9
  rotate_left
  · go_enter Tryd.func36, Tryd.ntmps36
    go_wp2
    go_ret
    exact ⟨ret_bool (by simp [stepsOk]; omega), rfl⟩
  by_cases h3 : 0 ≤ p
  rotate_left
  · go_enter Tryd.func36, Tryd.ntmps36
    go_wp2
    go_ret
    exact ⟨ret_bool (by simp [stepsOk]; omega), rfl⟩
  by_cases h4 : p < m
  rotate_left
  · go_enter Tryd.func36, Tryd.ntmps36
    go_wp2
    go_ret
    exact ⟨ret_bool (by simp [stepsOk]; omega), rfl⟩
  by_cases h5 : 0 ≤ q
  rotate_left
  · go_enter Tryd.func36, Tryd.ntmps36
    go_wp2
    go_ret
    exact ⟨ret_bool (by simp [stepsOk]; omega), rfl⟩
  · go_enter Tryd.func36, Tryd.ntmps36
    go_wp2
    go_ret
    exact ⟨ret_bool (by rw [Bool.eq_iff_iff]; simp [stepsOk]; omega), rfl⟩

set_option maxHeartbeats 1000000 in
theorem colourBySteps_any (p q m : Int) (w : World) :
    Calls Tryd.prog 37 #[.int .i64 p, .int .i64 q, .int .i64 m] w fun e w' => ∃ gp gq gm : Nat, e = .returned (colFn gp gq gm) ∧ ByAt w' gp gq gm p q m ∧ Below w.heap.size w w' := by
  go_enter Tryd.func37, Tryd.ntmps37
  go_wp2
  go_ret
  refine ⟨w.heap.size, w.heap.size + 1, w.heap.size + 1 + 1, rfl, ⟨by go_simp, by go_simp, by go_simp, by rw [World.size_alloc, World.size_alloc, World.size_alloc]; omega, by rw [World.size_alloc, World.size_alloc, World.size_alloc]; omega, by rw [World.size_alloc, World.size_alloc, World.size_alloc]; omega⟩, below_new (below_new (below_new (Below.refl _ _) _) _) _⟩

set_option maxHeartbeats 1000000 in
theorem colour_any (gp gq gm : Nat) (p q m x y : Int) (w : World) (hat : ByAt w gp gq gm p q m) (hs : stepsOk p q m = true) (hx1 : -100 ≤ x) (hx2 : x ≤ 100) (hy1 : -100 ≤ y) (hy2 : y ≤ 100) :
    Calls Tryd.prog 56 #[lpr x y, .pointer (some ⟨gp, 0, none⟩), .pointer (some ⟨gq, 0, none⟩), .pointer (some ⟨gm, 0, none⟩)] w fun e w' => e = .returned (.int .i64 ((p * x + q * y).tmod m)) ∧ Below w.heap.size w w' := by
  obtain ⟨c0, c1, c2, g0, g1, g2⟩ := hat
  obtain ⟨m1, m2, p1, p2, q1, q2⟩ := of_decide_eq_true hs
  have hpx : -800 ≤ p * x ∧ p * x ≤ 800 := by
    constructor
    · have := Int.mul_le_mul_of_nonneg_left hx1 p1; have h9 : p * -100 ≥ -800 := by omega
      omega
    · have := Int.mul_le_mul_of_nonneg_left hx2 p1; omega
  have hqy : -800 ≤ q * y ∧ q * y ≤ 800 := by
    constructor
    · have := Int.mul_le_mul_of_nonneg_left hy1 q1; omega
    · have := Int.mul_le_mul_of_nonneg_left hy2 q1; omega
  obtain ⟨hpx1, hpx2⟩ := hpx
  obtain ⟨hqy1, hqy2⟩ := hqy
  have hm0 : (m == 0) = false := by simp; omega
  go_enter Tryd.func56, Tryd.ntmps56
  go_wp2
  go_ret
  exact ⟨rfl, below_new (Below.refl _ _) _⟩

theorem paMany_any (m : Int) (w : World) :
    Calls Tryd.prog 32 #[.int .i64 m] w fun e w' => e = .returned (.bool (inB m 1 9)) ∧ w = w' := by
  go_enter Tryd.func32, Tryd.ntmps32
  go_wp2_with fail
  refine (l1In_any _ _ _ _).mono ?_
  rintro e w1 ⟨rfl, rfl⟩
  go_wp2
  go_ret
  exact ⟨rfl, rfl⟩

theorem steps_split (p q m : Int) : stepsOk p q m = (inB m 1 9 && (inB p 0 (m - 1) && inB q 0 (m - 1))) := by
  rw [Bool.eq_iff_iff]; simp [stepsOk, inB]; omega

end Go.Proofs.YtmmlhbfekjbdpaaDoor
