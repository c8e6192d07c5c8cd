/-
  Contracts: CommonStep, ReachesAll.
-/
import Derived.Test.YtbpgkigoboobeaaF1
namespace Go.Proofs.Ytbpgkigoboobeaa
open Go.RowKit

set_option maxRecDepth 100000 in
set_option maxHeartbeats 1000000 in
theorem spec_CommonStep (a b : Int) (w : World) :
    Calls Try.prog 18 #[lpr a b] w fun e w' => e = .returned (.tuple #[.int .i64 (commonV a b), .bool (leaperB a b)]) ∧ Below w.heap.size w w' := by
  by_cases hl : leaperB a b = true
  · have HL := Lib.hid hl
    go_enter Try.func18, Try.ntmps18
    go_wp2_with fail
    refine (boLeaper_any _ _ _).mono ?_
    rw [hl]
    rintro e w1 ⟨rfl, hb1⟩
    have c0 := newbox hb1 0; have c1 := newbox hb1 1; have hlt := newbox_lt hb1
    simp only [List.getElem?_toArray, List.getElem?_cons_zero, List.getElem?_cons_succ] at c0 c1
    have HB1 := Lib.hid (below_box hb1)
    clear hb1 hl
    go_wp2_with fail
    refine (paCommon_any _ _ _ HL.out).mono ?_
    rintro e w2 ⟨rfl, hb2⟩
    replace c0 := cell_keep c0 hlt hb2; replace c1 := cell_keep c1 hlt hb2; replace hlt := lt_keep hlt hb2
    replace HB1 := Lib.hid (below_next HB1.out hb2)
    clear hb2
    go_wp2
    go_ret2
    exact ⟨by rw [commonV, HL.out]; rfl, HB1.out⟩
  · have hl' : leaperB a b = false := by simpa using hl
    go_enter Try.func18, Try.ntmps18
    go_wp2_with fail
    refine (boLeaper_any _ _ _).mono ?_
    rw [hl']
    rintro e w1 ⟨rfl, hb1⟩
    have HB1 := Lib.hid (below_box hb1)
    clear hb1
    go_wp2
    go_ret2
    exact ⟨by rw [commonV, hl']; rfl, HB1.out⟩

set_option maxRecDepth 100000 in
set_option maxHeartbeats 1000000 in
theorem impl_CommonStep (a b : Int) (w : World) :
    Calls Try.prog 20 #[lpr a b] w fun e w' => e = .returned (.tuple #[.int .i64 (commonV a b), .bool (leaperB a b)]) ∧ Below w.heap.size w w' := by
  by_cases hl : leaperB a b = true
  · have HL := Lib.hid hl
    go_enter Try.func20, Try.ntmps20
    go_wp2_with fail
    refine (isLeaper_any _ _ _).mono ?_
    rw [hl]
    rintro e w1 ⟨rfl, hb1⟩
    have c0 := newbox hb1 0; have c1 := newbox hb1 1; have hlt := newbox_lt hb1
    simp only [List.getElem?_toArray, List.getElem?_cons_zero, List.getElem?_cons_succ] at c0 c1
    have HB1 := Lib.hid (below_box hb1)
    clear hb1 hl
    go_wp2_with fail
    refine (commonStep_any _ _ _ HL.out).mono ?_
    rintro e w2 ⟨rfl, hb2⟩
    replace c0 := cell_keep c0 hlt hb2; replace c1 := cell_keep c1 hlt hb2; replace hlt := lt_keep hlt hb2
    replace HB1 := Lib.hid (below_next HB1.out hb2)
    clear hb2
    go_wp2
    go_ret2
    exact ⟨by rw [commonV, HL.out]; rfl, HB1.out⟩
  · have hl' : leaperB a b = false := by simpa using hl
    go_enter Try.func20, Try.ntmps20
    go_wp2_with fail
    refine (isLeaper_any _ _ _).mono ?_
    rw [hl']
    rintro e w1 ⟨rfl, hb1⟩
    have HB1 := Lib.hid (below_box hb1)
    clear hb1
    go_wp2
    go_ret2
    exact ⟨by rw [commonV, hl']; rfl, HB1.out⟩

set_option maxRecDepth 100000 in
set_option maxHeartbeats 2000000 in
theorem spec_ReachesAll (a b : Int) (w : World) :
    Calls Try.prog 21 #[lpr a b] w fun e w' => e = .returned (.tuple #[.bool (reachAllV a b), .bool (leaperB a b)]) ∧ Below w.heap.size w w' := by
  by_cases hl : leaperB a b = true
  · have HL := Lib.hid hl
    have HR := Lib.hid (gcdV_rng HL.out)
    obtain ⟨z, hz⟩ : ∃ z, z = gcdV a b := ⟨_, rfl⟩
    have HZ := Lib.hid hz
    obtain ⟨l1, l2, l3, l4⟩ := leaperB_iff.1 hl
    have h0 : 0 ≤ a + b := by omega
    have h9 : a + b ≤ 10 := by omega
    by_cases h1 : gcdV a b = 1
    · go_enter Try.func21, Try.ntmps21
      go_wp2_with fail
      refine (boLeaper_any _ _ _).mono ?_
      rw [hl]
      rintro e w1 ⟨rfl, hb1⟩
      have c0 := newbox hb1 0; have c1 := newbox hb1 1; have hlt := newbox_lt hb1
      simp only [List.getElem?_toArray, List.getElem?_cons_zero, List.getElem?_cons_succ] at c0 c1
      have HB1 := Lib.hid (below_box hb1)
      clear hb1 hl
      go_wp2_with fail
      refine (paCommon_any _ _ _ HL.out).mono ?_
      rw [← hz]
      rintro e w2 ⟨rfl, hb2⟩
      replace c0 := cell_keep c0 hlt hb2; replace c1 := cell_keep c1 hlt hb2; replace hlt := lt_keep hlt hb2
      replace HB1 := Lib.hid (below_next HB1.out hb2)
      clear hb2
      obtain rfl : z = 1 := by rw [hz]; exact h1
      clear hz h1
      go_wp2
      go_ret2
      exact ⟨by rw [reachAllV, HL.out, ← HZ.out]; simp [oddB], HB1.out⟩
    · go_enter Try.func21, Try.ntmps21
      go_wp2_with fail
      refine (boLeaper_any _ _ _).mono ?_
      rw [hl]
      rintro e w1 ⟨rfl, hb1⟩
      have c0 := newbox hb1 0; have c1 := newbox hb1 1; have hlt := newbox_lt hb1
      simp only [List.getElem?_toArray, List.getElem?_cons_zero, List.getElem?_cons_succ] at c0 c1
      have HB1 := Lib.hid (below_box hb1)
      clear hb1 hl
      go_wp2_with fail
      refine (paCommon_any _ _ _ HL.out).mono ?_
      rw [← hz]
      rintro e w2 ⟨rfl, hb2⟩
      replace c0 := cell_keep c0 hlt hb2; replace c1 := cell_keep c1 hlt hb2; replace hlt := lt_keep hlt hb2
      replace HB1 := Lib.hid (below_next HB1.out hb2)
      clear hb2
      have hz1 : (z == 1) = false := by rw [hz]; simpa using h1
      clear hz h1
      go_wp2
      go_ret2
      exact ⟨by rw [reachAllV, HL.out, ← HZ.out]; simp [hz1], HB1.out⟩
  · have hl' : leaperB a b = false := by simpa using hl
    go_enter Try.func21, Try.ntmps21
    go_wp2_with fail
    refine (boLeaper_any _ _ _).mono ?_
    rw [hl']
    rintro e w1 ⟨rfl, hb1⟩
    have HB1 := Lib.hid (below_box hb1)
    clear hb1
    go_wp2
    go_ret2
    exact ⟨by rw [reachAllV, hl']; rfl, HB1.out⟩

set_option maxRecDepth 100000 in
set_option maxHeartbeats 2000000 in
theorem impl_ReachesAll (a b : Int) (w : World) :
    Calls Try.prog 22 #[lpr a b] w fun e w' => e = .returned (.tuple #[.bool (reachAllV a b), .bool (leaperB a b)]) ∧ Below w.heap.size w w' := by
  by_cases hl : leaperB a b = true
  · have HL := Lib.hid hl
    have HR := Lib.hid (gcdV_rng HL.out)
    obtain ⟨z, hz⟩ : ∃ z, z = gcdV a b := ⟨_, rfl⟩
    have HZ := Lib.hid hz
    obtain ⟨l1, l2, l3, l4⟩ := leaperB_iff.1 hl
    have h0 : 0 ≤ a + b := by omega
    have h9 : a + b ≤ 10 := by omega
    by_cases h1 : gcdV a b = 1
    · go_enter Try.func22, Try.ntmps22
      go_wp2_with fail
      refine (isLeaper_any _ _ _).mono ?_
      rw [hl]
      rintro e w1 ⟨rfl, hb1⟩
      have c0 := newbox hb1 0; have c1 := newbox hb1 1; have hlt := newbox_lt hb1
      simp only [List.getElem?_toArray, List.getElem?_cons_zero, List.getElem?_cons_succ] at c0 c1
      have HB1 := Lib.hid (below_box hb1)
      clear hb1 hl
      go_wp2_with fail
      refine (commonStep_any _ _ _ HL.out).mono ?_
      rw [← hz]
      rintro e w2 ⟨rfl, hb2⟩
      replace c0 := cell_keep c0 hlt hb2; replace c1 := cell_keep c1 hlt hb2; replace hlt := lt_keep hlt hb2
      replace HB1 := Lib.hid (below_next HB1.out hb2)
      clear hb2
      obtain rfl : z = 1 := by rw [hz]; exact h1
      clear hz h1
      go_wp2_with fail
      refine (changes_any _ _ _ HL.out).mono ?_
      rintro e w3 ⟨rfl, hb2⟩
      replace c0 := cell_keep c0 hlt hb2; replace c1 := cell_keep c1 hlt hb2; replace hlt := lt_keep hlt hb2
      replace HB1 := Lib.hid (below_next HB1.out hb2)
      clear hb2
      go_wp2
      go_ret2
      exact ⟨by rw [reachAllV, HL.out, ← HZ.out]; simp [oddB], HB1.out⟩
    · go_enter Try.func22, Try.ntmps22
      go_wp2_with fail
      refine (isLeaper_any _ _ _).mono ?_
      rw [hl]
      rintro e w1 ⟨rfl, hb1⟩
      have c0 := newbox hb1 0; have c1 := newbox hb1 1; have hlt := newbox_lt hb1
      simp only [List.getElem?_toArray, List.getElem?_cons_zero, List.getElem?_cons_succ] at c0 c1
      have HB1 := Lib.hid (below_box hb1)
      clear hb1 hl
      go_wp2_with fail
      refine (commonStep_any _ _ _ HL.out).mono ?_
      rw [← hz]
      rintro e w2 ⟨rfl, hb2⟩
      replace c0 := cell_keep c0 hlt hb2; replace c1 := cell_keep c1 hlt hb2; replace hlt := lt_keep hlt hb2
      replace HB1 := Lib.hid (below_next HB1.out hb2)
      clear hb2
      have hz1 : (z == 1) = false := by rw [hz]; simpa using h1
      clear hz h1
      go_wp2
      go_ret2
      exact ⟨by rw [reachAllV, HL.out, ← HZ.out]; simp [hz1], HB1.out⟩
  · have hl' : leaperB a b = false := by simpa using hl
    go_enter Try.func22, Try.ntmps22
    go_wp2_with fail
    refine (isLeaper_any _ _ _).mono ?_
    rw [hl']
    rintro e w1 ⟨rfl, hb1⟩
    have HB1 := Lib.hid (below_box hb1)
    clear hb1
    go_wp2
    go_ret2
    exact ⟨by rw [reachAllV, hl']; rfl, HB1.out⟩


end Go.Proofs.Ytbpgkigoboobeaa
