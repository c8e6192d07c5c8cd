/-
  Contracts: sets of cells.
-/
import Derived.Test.YtjplcnbifcpebaaDoorB5
namespace Go.Proofs.YtjplcnbifcpebaaDoor
open Go.RowKit

/-- Cells that are there, increasing, the first one greater than a number. -/
def setGo (W H : Int) (xs : List Int) : Int → List Int → Bool
  | _, [] => true
  | b, c :: t => decide (b < c) && hasB W H xs c && setGo W H xs c t
def setB (W H : Int) (xs ps : List Int) : Bool := setGo W H xs (-1) ps
theorem setGo_facts {W H : Int} {xs : List Int} : ∀ (ps : List Int) (b : Int), setGo W H xs b ps = true → (∀ x ∈ ps, b < x ∧ hasB W H xs x = true) ∧ ps.Pairwise (· < ·)
  | [], b, _ => ⟨(fun x h => by cases h), List.Pairwise.nil⟩
  | c :: t, b, h => by
    simp only [setGo, Bool.and_eq_true, decide_eq_true_eq] at h
    obtain ⟨h1, h2⟩ := setGo_facts t c h.2
    refine ⟨fun x hx => ?_, List.Pairwise.cons (fun x hx => (h1 x hx).1) h2⟩
    rcases List.mem_cons.1 hx with rfl | hx
    · exact h.1
    · exact ⟨by have := (h1 x hx).1; omega, (h1 x hx).2⟩
theorem setGo_len {W H : Int} {xs : List Int} (hN : W * H ≤ 64) : ∀ (ps : List Int) (b : Int), -1 ≤ b → setGo W H xs b ps = true → ps ≠ [] → (ps.length : Int) ≤ 63 - b
  | [], b, _, _, h => absurd rfl h
  | c :: t, b, hb, h, _ => by
    simp only [setGo, Bool.and_eq_true, decide_eq_true_eq] at h
    have hc := (hasB_iff.1 h.1.2).1
    rw [List.length_cons]
    by_cases ht : t = []
    · subst ht; simp; omega
    · have := setGo_len hN t c (by omega) h.2 ht
      omega
theorem setB_len {W H : Int} {xs ps : List Int} (hN : W * H ≤ 64) (h : setB W H xs ps = true) : ps.length ≤ 64 := by
  by_cases hp : ps = []
  · subst hp; simp
  · have := setGo_len hN ps (-1) (by omega) h hp; omega
theorem setGo_drop {W H : Int} {xs ps : List Int} {k : Nat} {x b : Int} (hx : ps[k]? = some x) : setGo W H xs b (ps.drop k) = (decide (b < x) && hasB W H xs x && setGo W H xs x (ps.drop (k + 1))) := by
  have hk : k < ps.length := (List.getElem?_eq_some_iff.1 hx).1
  rw [List.drop_eq_getElem_cons hk, (List.getElem?_eq_some_iff.1 hx).2]
  rfl
theorem setGo_nil {W H : Int} {xs ps : List Int} {k : Nat} {b : Int} (hk : ps.length ≤ k) : setGo W H xs b (ps.drop k) = true := by
  rw [List.drop_of_length_le hk]; rfl

set_option maxRecDepth 100000 in
set_option maxHeartbeats 1000000 in
theorem isSet_any (W H : Int) (A : Option Addr) (n c : Nat) (xs : List Int) (A2 : Option Addr) (m c2 : Nat) (ps : List Int) (w : World) (ha : Rd w A n xs) (hp : Rd w A2 m ps) (hg : goodB W H xs = true) :
    Calls Tryd.prog 38 #[brd W H A n c, .slice A2 m c2] w fun e w' => e = .returned (.bool (setB W H xs ps)) ∧ Below w.heap.size w w' := by
  have HG := Lib.hid hg
  have HPL := Lib.hid hp.1
  have m9 := hp.2.1
  go_enter Tryd.func38, Tryd.ntmps38
  obtain ⟨W1, hW1⟩ : ∃ W1, W1 = w.alloc (.cells #[.int .i64 W, .int .i64 H, .slice A n c] 30) := ⟨_, rfl⟩
  have B := Lib.hid (show Below w.heap.size w W1 by rw [hW1]; exact below_new (Below.refl _ _) _)
  have a0 : W1.cell? ⟨w.heap.size, 0, none⟩ = some (.int .i64 W) := by rw [hW1]; go_simp
  have a1 : W1.cell? ⟨w.heap.size, 1, none⟩ = some (.int .i64 H) := by rw [hW1]; go_simp
  have a2 : W1.cell? ⟨w.heap.size, 2, none⟩ = some (.slice A n c) := by rw [hW1]; go_simp
  have al : w.heap.size < W1.heap.size := by rw [hW1]; simp
  have R := Lib.hid (ha.keep B.out); have RP := Lib.hid (hp.keep B.out)
  have HA := Lib.hid (⟨a0, a1, a2⟩ : W1.cell? ⟨w.heap.size, 0, none⟩ = some (.int .i64 W) ∧ W1.cell? ⟨w.heap.size, 1, none⟩ = some (.int .i64 H) ∧ W1.cell? ⟨w.heap.size, 2, none⟩ = some (.slice A n c))
  clear a0 a1 a2 hg ha hp
  go_wp2
  rw [← hW1]
  clear hW1
  go_loopw [5, 10] (fun bv i wr => ∃ (k : Nat) (bf : Int), k ≤ m ∧ i = .int .i64 k ∧ bv = .int .i64 bf ∧ setB W H xs ps = setGo W H xs bf (ps.drop k) ∧ Below W1.heap.size W1 wr) (fun _ i _ => m - (intOf i).toNat)
  case atStart => exact ⟨0, -1, Nat.zero_le _, rfl, rfl, by rw [List.drop_zero]; rfl, Below.refl _ _⟩
  case round =>
    obtain ⟨k, bf, hk, rfl, rfl, hall, hbw⟩ := hrel
    by_cases hlt : k < m
    · obtain ⟨bb, oo, x, rfl, hg1, hx, x0⟩ := RP.out.at_ hlt
      rw [setGo_drop hx] at hall
      have HALL := Lib.hid hall
      replace x0 := cell_keep x0 hg1 hbw
      have a0 := cell_keep HA.out.1 al hbw; have a1 := cell_keep HA.out.2.1 al hbw; have a2 := cell_keep HA.out.2.2 al hbw
      have HB := Lib.hid hbw
      have RR := Lib.hid (R.out.keep hbw)
      clear hx hbw hall
      by_cases hbx : x ≤ bf
      · have HV := Lib.hid (show setB W H xs ps = false by rw [HALL.out]; simp; omega)
        go_wp2
        go_ret
        exact ⟨ret_bool HV.out.symm, B.out.trans (HB.out.mono B.out.size)⟩
      · have hbx2 : bf < x := by omega
        cases hs : hasB W H xs x with
        | true =>
          have HS := Lib.hid hs
          have HV := Lib.hid (show setB W H xs ps = setGo W H xs x (ps.drop (k + 1)) by rw [HALL.out, hs]; simp [hbx2])
          clear hs
          go_wp2_with fail
          refine (isThere_any W H A n c x xs _ RR.out HG.out).mono ?_
          rw [HS.out]
          rintro e wz ⟨rfl, hb⟩
          replace HB := Lib.hid (below_next HB.out hb)
          clear hb
          go_wp2
          go_roundw
          case rel => exact ⟨k + 1, x, by omega, by go_num, rfl, HV.out, HB.out⟩
          case measure => simp [intOf]; omega
        | false =>
          have HS := Lib.hid hs
          have HV := Lib.hid (show setB W H xs ps = false by rw [HALL.out, hs]; simp)
          clear hs
          go_wp2_with fail
          refine (isThere_any W H A n c x xs _ RR.out HG.out).mono ?_
          rw [HS.out]
          rintro e wz ⟨rfl, hb⟩
          replace HB := Lib.hid (below_next HB.out hb)
          clear hb
          go_wp2
          go_ret
          exact ⟨ret_bool HV.out.symm, B.out.trans (HB.out.mono B.out.size)⟩
    · have HV := Lib.hid (show setB W H xs ps = true by rw [hall]; exact setGo_nil (by have := HPL.out; omega))
      have HB := Lib.hid hbw
      clear hall hbw
      go_wp2
      go_ret
      exact ⟨ret_bool HV.out.symm, B.out.trans (HB.out.mono B.out.size)⟩

set_option maxRecDepth 100000 in
set_option maxHeartbeats 1000000 in
theorem guSet_any (W H : Int) (A : Option Addr) (n c : Nat) (xs : List Int) (A2 : Option Addr) (m c2 : Nat) (ps : List Int) (w : World) (ha : Rd w A n xs) (hp : Rd w A2 m ps) (hg : goodB W H xs = true) :
    Calls Tryd.prog 33 #[brd W H A n c, .slice A2 m c2] w fun e w' => e = .returned (.bool (setB W H xs ps)) ∧ Below w.heap.size w w' := by
  obtain ⟨hW, hH, _, _⟩ := goodB_iff.1 hg
  have HN := Lib.hid (cells_le hW hH)
  have HPL := Lib.hid hp.1
  have m9 := hp.2.1
  clear hW hH
  go_enter Tryd.func33, Tryd.ntmps33
  obtain ⟨W1, hW1⟩ : ∃ W1, W1 = w.alloc (.cells #[.int .i64 W, .int .i64 H, .slice A n c] 30) := ⟨_, rfl⟩
  have B := Lib.hid (show Below w.heap.size w W1 by rw [hW1]; exact below_new (Below.refl _ _) _)
  have a0 : W1.cell? ⟨w.heap.size, 0, none⟩ = some (.int .i64 W) := by rw [hW1]; go_simp
  have a1 : W1.cell? ⟨w.heap.size, 1, none⟩ = some (.int .i64 H) := by rw [hW1]; go_simp
  have a2 : W1.cell? ⟨w.heap.size, 2, none⟩ = some (.slice A n c) := by rw [hW1]; go_simp
  have al : w.heap.size < W1.heap.size := by rw [hW1]; simp
  have R := Lib.hid (ha.keep B.out); have RP := Lib.hid (hp.keep B.out)
  have HA := Lib.hid (⟨a0, a1, a2⟩ : W1.cell? ⟨w.heap.size, 0, none⟩ = some (.int .i64 W) ∧ W1.cell? ⟨w.heap.size, 1, none⟩ = some (.int .i64 H) ∧ W1.cell? ⟨w.heap.size, 2, none⟩ = some (.slice A n c))
  clear a0 a1 a2 hg ha hp
  by_cases hm : m ≤ 64
  rotate_left
  · have HV := Lib.hid (show setB W H xs ps = false by
      rw [Bool.eq_false_iff]; intro h
      have := setB_len HN.out.2 h; have := HPL.out; omega)
    go_wp2
    go_ret
    rw [← hW1]
    exact ⟨ret_bool HV.out.symm, B.out⟩
  go_wp2
  rw [← hW1]
  clear hW1
  go_loopw [12] (fun i wr => ∃ (k : Nat) (bf : Int), k ≤ m ∧ i = .int .i64 k ∧ (k = 0 ∧ bf = -1 ∨ 0 < k ∧ ps[k - 1]? = some bf) ∧ setB W H xs ps = setGo W H xs bf (ps.drop k) ∧ Below W1.heap.size W1 wr) (fun i _ => m - (intOf i).toNat)
  case atStart => exact ⟨0, -1, Nat.zero_le _, rfl, .inl ⟨rfl, rfl⟩, by rw [List.drop_zero]; rfl, Below.refl _ _⟩
  case round =>
    obtain ⟨k, bf, hk, rfl, hbf, hall, hbw⟩ := hrel
    by_cases hlt : k < m
    · obtain ⟨bb, oo, x, hAe, hg1, hx, x0⟩ := RP.out.at_ hlt
      rw [setGo_drop hx] at hall
      have HX := Lib.hid hx
      have HALL := Lib.hid hall
      replace x0 := cell_keep x0 hg1 hbw
      have a0 := cell_keep HA.out.1 al hbw; have a1 := cell_keep HA.out.2.1 al hbw; have a2 := cell_keep HA.out.2.2 al hbw
      have HB := Lib.hid hbw
      have RR := Lib.hid (R.out.keep hbw)
      have gb := lt_keep hg1 hbw
      cases hs : hasB W H xs x with
      | false =>
        have HS := Lib.hid hs
        have HV := Lib.hid (show setB W H xs ps = false by rw [HALL.out, hs]; simp)
        subst hAe
        clear hs hx hbw hall hbf
        go_wp2_with fail
        refine (boHas_any W H A n c x xs _ RR.out HN.out).mono ?_
        rw [HS.out]
        rintro e wz ⟨rfl, hb⟩
        replace HB := Lib.hid (below_next HB.out hb)
        clear hb
        go_wp2
        go_ret
        exact ⟨ret_bool HV.out.symm, B.out.trans (HB.out.mono B.out.size)⟩
      | true =>
        have HS := Lib.hid hs
        rcases hbf with ⟨rfl, rfl⟩ | ⟨hk0, hbf⟩
        · have hx0 := (hasB_iff.1 hs).1.1
          have HV := Lib.hid (show setB W H xs ps = setGo W H xs x (ps.drop (0 + 1)) by rw [HALL.out, hs]; simp; omega)
          subst hAe
          have x00 : wr.cell? ⟨bb, oo, none⟩ = some (.int .i64 x) := by simpa using x0
          clear hs hx hbw hall x0
          go_wp2_with fail
          refine (boHas_any W H A n c x xs _ RR.out HN.out).mono ?_
          rw [HS.out]
          rintro e wz ⟨rfl, hb⟩
          replace HB := Lib.hid (below_next HB.out hb)
          clear hb
          go_wp2
          go_roundw
          case rel => exact ⟨1, x, by omega, by go_num, .inr ⟨by omega, HX.out⟩, HV.out, HB.out⟩
          case measure => simp [intOf]; omega
        · obtain ⟨bb2, oo2, y, hAe2, hg2, hy, y0⟩ := RP.out.at_ (show k - 1 < m by omega)
          obtain rfl : bf = y := Option.some.inj (hbf.symm.trans hy)
          subst hAe
          cases hAe2
          replace y0 := cell_keep y0 hg2 hbw
          obtain ⟨j, rfl⟩ : ∃ j, k = j + 1 := ⟨k - 1, by omega⟩
          rw [show j + 1 - 1 = j by omega] at y0
          have hj1 : ((j + 1 : Nat) : Int) - 1 = (j : Int) := by omega
          clear hs hx hbw hall hy hbf hg2
          by_cases hbx : x ≤ bf
          · have HV := Lib.hid (show setB W H xs ps = false by rw [HALL.out]; simp; omega)
            go_wp2_with fail
            refine (boHas_any W H A n c x xs _ RR.out HN.out).mono ?_
            rw [HS.out]
            rintro e wz ⟨rfl, hb⟩
            replace HB := Lib.hid (below_next HB.out hb)
            replace y0 := cell_keep y0 gb hb
            clear hb
            go_wp2
            go_ret
            exact ⟨ret_bool HV.out.symm, B.out.trans (HB.out.mono B.out.size)⟩
          · have hbx2 : bf < x := by omega
            have HV := Lib.hid (show setB W H xs ps = setGo W H xs x (ps.drop (j + 1 + 1)) by rw [HALL.out, HS.out]; simp [hbx2])
            go_wp2_with fail
            refine (boHas_any W H A n c x xs _ RR.out HN.out).mono ?_
            rw [HS.out]
            rintro e wz ⟨rfl, hb⟩
            replace HB := Lib.hid (below_next HB.out hb)
            replace y0 := cell_keep y0 gb hb
            clear hb
            go_wp2
            go_roundw
            case rel => exact ⟨j + 1 + 1, x, by omega, by go_num, .inr ⟨by omega, HX.out⟩, HV.out, HB.out⟩
            case measure => simp [intOf]; omega
    · have HV := Lib.hid (show setB W H xs ps = true by rw [hall]; exact setGo_nil (by have := HPL.out; omega))
      have HB := Lib.hid hbw
      clear hall hbw hbf
      go_wp2
      go_ret
      exact ⟨ret_bool HV.out.symm, B.out.trans (HB.out.mono B.out.size)⟩
end Go.Proofs.YtjplcnbifcpebaaDoor
