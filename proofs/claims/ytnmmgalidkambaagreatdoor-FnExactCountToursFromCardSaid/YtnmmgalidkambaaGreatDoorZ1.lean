/-
  Contracts: whether all of these cells are there (slices.ContainsFunc with a closure), a leaper on a board with these cells.
-/
import Derived.Test.YtnmmgalidkambaaGreatDoorB3
import Derived.Test.YtnmmgalidkambaaGreatDoorB15
namespace Go.Proofs.YtnmmgalidkambaaGreatDoor
open Go.RowKit

/-- The board's box, which a closure reads. -/
def BrdAt (w : World) (g : Nat) (W H : Int) (A : Option Addr) (n c : Nat) : Prop := w.cell? ⟨g, 0, none⟩ = some (.int .i64 W) ∧ w.cell? ⟨g, 1, none⟩ = some (.int .i64 H) ∧ w.cell? ⟨g, 2, none⟩ = some (.slice A n c) ∧ g < w.heap.size
theorem BrdAt.keep {w w' : World} {g : Nat} {W H : Int} {A : Option Addr} {n c : Nat} (h : BrdAt w g W H A n c) (hb : Below w.heap.size w w') : BrdAt w' g W H A n c :=
  ⟨cell_keep h.1 h.2.2.2 hb, cell_keep h.2.1 h.2.2.2 hb, cell_keep h.2.2.1 h.2.2.2 hb, lt_keep h.2.2.2 hb⟩
def onK (W H : Int) (xs : List Int) (a b : Int) (ps : List Int) : Bool := twoV W H xs a b && ps.all (hasB W H xs)

set_option maxHeartbeats 1000000 in
theorem notThere_any (g : Nat) (W H : Int) (A : Option Addr) (n c : Nat) (xs : List Int) (q : Int) (w : World) (hat : BrdAt w g W H A n c) (ha : Rd w A n xs) (hg : goodB W H xs = true) :
    Calls Tryz.prog 85 #[.int .i64 q, .pointer (some ⟨g, 0, none⟩)] w fun e w' => e = .returned (.bool (!hasB W H xs q)) ∧ Below w.heap.size w w' := by
  obtain ⟨b0, b1, b2, bl⟩ := hat
  have HG := Lib.hid hg; have HA := Lib.hid ha
  clear hg ha
  go_enter Tryz.func85, Tryz.ntmps85
  go_wp2_with fail
  refine (isThere_any W H A n c q xs _ HA.out HG.out).mono ?_
  rintro e wv ⟨rfl, hb⟩
  go_wp2
  go_ret
  exact ⟨rfl, hb⟩

set_option maxRecDepth 100000 in
set_option maxHeartbeats 2000000 in
theorem indexThere_any (g : Nat) (W H : Int) (A : Option Addr) (n c : Nat) (xs : List Int) (A2 : Option Addr) (m c2 : Nat) (ps : List Int) (w : World) (hat : BrdAt w g W H A n c) (ha : Rd w A n xs) (hp : Rd w A2 m ps) (hg : goodB W H xs = true) :
    Calls Tryz.prog 94 #[.slice A2 m c2, .func (.func 85) #[] #[.pointer (some ⟨g, 0, none⟩)]] w fun e w' => ∃ r : Int, e = .returned (.int .i64 r) ∧ -1 ≤ r ∧ decide (0 ≤ r) = (!ps.all (hasB W H xs)) ∧ Below w.heap.size w w' := by
  have HAT := Lib.hid hat; have HA := Lib.hid ha; have HP := Lib.hid hp; have HG := Lib.hid hg
  have HPL := Lib.hid hp.1
  have m9 := hp.2.1
  clear hat ha hp hg
  go_enter Tryz.func94, Tryz.ntmps94
  go_wp2
  go_loopw [8] (fun i wr => ∃ k : Nat, k ≤ m ∧ i = .int .i64 k ∧ (ps.take k).all (hasB W H xs) = true ∧ Below w.heap.size w wr) (fun i _ => m - (intOf i).toNat)
  case atStart => exact ⟨0, Nat.zero_le _, rfl, by simp, Below.refl _ _⟩
  case round =>
    obtain ⟨k, hk, rfl, hno, hbw⟩ := hrel
    have HNO := Lib.hid hno
    have HB := Lib.hid hbw
    clear hno
    by_cases hlt : k < m
    · obtain ⟨bb, oo, x, rfl, hg1, hx, x0⟩ := HP.out.at_ hlt
      have HX := Lib.hid hx
      replace x0 := cell_keep x0 hg1 hbw
      have hK := notThere_any g W H A n c xs x wr (HAT.out.keep hbw) (HA.out.keep hbw) HG.out
      clear hx hbw hg1
      cases hsm : hasB W H xs x with
      | true =>
        have HS := Lib.hid hsm
        go_wp2_with fail
        refine hK.mono ?_
        rw [hsm]
        rintro e wv ⟨rfl, hb⟩
        replace HB := Lib.hid (HB.out.trans (hb.mono HB.out.size))
        clear hb hK hsm x0
        go_wp2
        go_roundw
        case rel => exact ⟨k + 1, by omega, by go_num, by rw [List.take_add_one, HX.out, List.all_append, HNO.out]; simp [HS.out], HB.out⟩
        case measure => simp [intOf]; omega
      | false =>
        have HS := Lib.hid hsm
        go_wp2_with fail
        refine hK.mono ?_
        rw [hsm]
        rintro e wv ⟨rfl, hb⟩
        replace HB := Lib.hid (HB.out.trans (hb.mono HB.out.size))
        clear hb hK hsm x0
        go_wp2
        go_ret
        exact ⟨(k : Int), rfl, by omega, by rw [show ps.all (hasB W H xs) = false from List.all_eq_false.2 ⟨x, List.mem_of_getElem? HX.out, by simp [HS.out]⟩]; simp, HB.out⟩
    · have hkn : k = m := by omega
      subst hkn
      clear hbw
      go_wp2
      go_ret
      exact ⟨-1, rfl, by omega, by have h := HNO.out; rw [List.take_of_length_le (by have := HPL.out; omega)] at h; rw [h]; simp, HB.out⟩

set_option maxRecDepth 100000 in
set_option maxHeartbeats 2000000 in
theorem containsThere_any (g : Nat) (W H : Int) (A : Option Addr) (n c : Nat) (xs : List Int) (A2 : Option Addr) (m c2 : Nat) (ps : List Int) (w : World) (hat : BrdAt w g W H A n c) (ha : Rd w A n xs) (hp : Rd w A2 m ps) (hg : goodB W H xs = true) :
    Calls Tryz.prog 84 #[.slice A2 m c2, .func (.func 85) #[] #[.pointer (some ⟨g, 0, none⟩)]] w fun e w' => e = .returned (.bool (!ps.all (hasB W H xs))) ∧ Below w.heap.size w w' := by
  have hI := indexThere_any g W H A n c xs A2 m c2 ps w hat ha hp hg
  clear hat ha hp hg
  go_enter Tryz.func84, Tryz.ntmps84
  go_wp2_with fail
  refine hI.mono ?_
  rintro e wv ⟨r, rfl, hr1, hr3, hb⟩
  have HR := Lib.hid hr3
  clear hI hr3
  go_wp2
  go_ret
  exact ⟨ret_bool (by rw [← HR.out]), hb⟩

set_option maxRecDepth 100000 in
set_option maxHeartbeats 2000000 in
theorem areThere_any (W H : Int) (A : Option Addr) (n c : Nat) (xs : List Int) (A2 : Option Addr) (m c2 : Nat) (ps : List Int) (w : World) (ha : Rd w A n xs) (hp : Rd w A2 m ps) (hg : goodB W H xs = true) :
    Calls Tryz.prog 67 #[brd W H A n c, .slice A2 m c2] w fun e w' => e = .returned (.bool (ps.all (hasB W H xs))) ∧ Below w.heap.size w w' := by
  obtain ⟨W2, hW2⟩ : ∃ W2, W2 = w.alloc (.cells #[.int .i64 W, .int .i64 H, .slice A n c] 30) := ⟨_, rfl⟩
  have hat : BrdAt W2 w.heap.size W H A n c := by rw [hW2]; exact ⟨by go_simp, by go_simp, by go_simp, by simp⟩
  have B := Lib.hid (show Below w.heap.size w W2 by rw [hW2]; exact below_new (Below.refl _ _) _)
  have hC := containsThere_any w.heap.size W H A n c xs A2 m c2 ps W2 hat (ha.keep B.out) (hp.keep B.out) hg
  clear hat ha hp hg
  go_enter Tryz.func67, Tryz.ntmps67
  go_wp2_with fail
  rw [← hW2]
  clear hW2
  refine hC.mono ?_
  rintro e wv ⟨rfl, hb⟩
  replace B := Lib.hid (below_next B.out hb)
  clear hC hb
  go_wp2
  go_ret
  exact ⟨ret_bool (by simp), B.out⟩

set_option maxRecDepth 100000 in
set_option maxHeartbeats 2000000 in
theorem isLeaperOnK_any (W H : Int) (A : Option Addr) (n c : Nat) (xs : List Int) (a b : Int) (A2 : Option Addr) (m c2 : Nat) (ps : List Int) (w : World) (ha : Rd w A n xs) (hp : Rd w A2 m ps) :
    Calls Tryz.prog 49 #[brd W H A n c, lpr a b, .slice A2 m c2] w fun e w' => e = .returned (.bool (onK W H xs a b ps)) ∧ Below w.heap.size w w' := by
  obtain ⟨W2, hW2⟩ : ∃ W2, W2 = (w.alloc (.cells #[.int .i64 W, .int .i64 H, .slice A n c] 30)).alloc (.cells #[.int .i64 a, .int .i64 b] 32) := ⟨_, rfl⟩
  have a0 : W2.cell? ⟨w.heap.size, 0, none⟩ = some (.int .i64 W) := by rw [hW2]; go_simp
  have a1 : W2.cell? ⟨w.heap.size, 1, none⟩ = some (.int .i64 H) := by rw [hW2]; go_simp
  have a2 : W2.cell? ⟨w.heap.size, 2, none⟩ = some (.slice A n c) := by rw [hW2]; go_simp
  have l0 : W2.cell? ⟨w.heap.size + 1, 0, none⟩ = some (.int .i64 a) := by rw [hW2]; go_simp
  have l1 : W2.cell? ⟨w.heap.size + 1, 1, none⟩ = some (.int .i64 b) := by rw [hW2]; go_simp
  have al : w.heap.size < W2.heap.size := by rw [hW2]; simp; omega
  have B := Lib.hid (show Below w.heap.size w W2 by rw [hW2]; exact below_new (below_new (Below.refl _ _) _) _)
  have R := Lib.hid (ha.keep B.out); have RP := Lib.hid (hp.keep B.out)
  clear ha hp
  cases hl : leaperB a b with
  | true =>
    have HL := Lib.hid hl
    clear hl
    cases hg : goodB W H xs with
    | true =>
      have HG := Lib.hid hg
      clear hg
      go_enter Tryz.func49, Tryz.ntmps49
      go_wp2_with fail
      rw [← hW2]
      clear hW2
      refine (isLeaper_any _ _ _).mono ?_
      rw [HL.out]
      rintro e wv ⟨rfl, hb⟩
      replace a0 := cell_keep a0 al hb; replace a1 := cell_keep a1 al hb; replace a2 := cell_keep a2 al hb; replace al := lt_keep al hb
      replace R := Lib.hid (R.out.keep hb); replace RP := Lib.hid (RP.out.keep hb)
      replace B := Lib.hid (below_next B.out hb)
      clear hb l0 l1
      go_wp2_with fail
      refine (isBoard_any _ _ _ _ _ _ _ R.out).mono ?_
      rw [HG.out]
      rintro e wv ⟨rfl, hb⟩
      replace a0 := cell_keep a0 al hb; replace a1 := cell_keep a1 al hb; replace a2 := cell_keep a2 al hb; replace al := lt_keep al hb
      replace R := Lib.hid (R.out.keep hb); replace RP := Lib.hid (RP.out.keep hb)
      replace B := Lib.hid (below_next B.out hb)
      clear hb
      go_wp2_with fail
      refine (areThere_any _ _ _ _ _ _ _ _ _ _ _ R.out RP.out HG.out).mono ?_
      rintro e wv ⟨rfl, hb⟩
      replace B := Lib.hid (below_next B.out hb)
      clear hb a0 a1 a2 al
      go_wp2
      go_ret
      exact ⟨ret_bool (by rw [onK, twoV, HL.out, HG.out]; simp), B.out⟩
    | false =>
      have HG := Lib.hid hg
      clear hg
      go_enter Tryz.func49, Tryz.ntmps49
      go_wp2_with fail
      rw [← hW2]
      clear hW2
      refine (isLeaper_any _ _ _).mono ?_
      rw [HL.out]
      rintro e wv ⟨rfl, hb⟩
      replace a0 := cell_keep a0 al hb; replace a1 := cell_keep a1 al hb; replace a2 := cell_keep a2 al hb; replace al := lt_keep al hb
      replace R := Lib.hid (R.out.keep hb); replace RP := Lib.hid (RP.out.keep hb)
      replace B := Lib.hid (below_next B.out hb)
      clear hb l0 l1
      go_wp2_with fail
      refine (isBoard_any _ _ _ _ _ _ _ R.out).mono ?_
      rw [HG.out]
      rintro e wv ⟨rfl, hb⟩
      replace B := Lib.hid (below_next B.out hb)
      clear hb a0 a1 a2 al
      go_wp2
      go_ret
      exact ⟨ret_bool (by rw [onK, twoV, HG.out]; simp), B.out⟩
  | false =>
    have HL := Lib.hid hl
    clear hl
    go_enter Tryz.func49, Tryz.ntmps49
    go_wp2_with fail
    rw [← hW2]
    clear hW2
    refine (isLeaper_any _ _ _).mono ?_
    rw [HL.out]
    rintro e wv ⟨rfl, hb⟩
    replace B := Lib.hid (below_next B.out hb)
    clear hb a0 a1 a2 al l0 l1
    go_wp2
    go_ret
    exact ⟨ret_bool (by rw [onK, twoV, HL.out]; simp), B.out⟩
theorem isOn0_any (W H : Int) (A : Option Addr) (n c : Nat) (xs : List Int) (a b : Int) (w : World) (ha : Rd w A n xs) :
    Calls Tryz.prog 49 #[brd W H A n c, lpr a b, .slice none 0 0] w fun e w' => e = .returned (.bool (twoV W H xs a b)) ∧ Below w.heap.size w w' := by
  have h := isLeaperOnK_any W H A n c xs a b none 0 0 [] w ha (Rd.nil w none)
  rw [show onK W H xs a b [] = twoV W H xs a b by simp [onK]] at h
  exact h
end Go.Proofs.YtnmmgalidkambaaGreatDoor
