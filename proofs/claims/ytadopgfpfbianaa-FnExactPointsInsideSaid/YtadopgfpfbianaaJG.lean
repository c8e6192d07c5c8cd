/-
  Contracts: rings, in the program.
-/
import Derived.Test.YtadopgfpfbianaaJE
namespace Go.Proofs.Ytadopgfpfbianaa
open Go.RowKit

/-- A ring, of a leaper and a board. -/
def ringB (W H : Int) (xs : List Int) (a b : Int) (ps : List Int) : Bool := decide (ps.length ≤ 16) && (walkB W H xs a b ps && (endB W a b ps && unB W (roundP ps)))
def okRg (W H : Int) (xs : List Int) (a b : Int) (ps : List Int) : Bool := twoV W H xs a b && ringB W H xs a b ps
theorem end_len {W a b : Int} {ps : List Int} (h : endB W a b ps = true) : 3 ≤ ps.length := by simp only [endB, Bool.and_eq_true, decide_eq_true_eq] at h; exact h.1
theorem end_ne {W H a b : Int} {xs ps : List Int} (ht : twoV W H xs a b = true) (h : endB W a b ps = true) : ps.getD (ps.length - 1) 0 ≠ ps.getD 0 0 := by
  simp only [endB, Bool.and_eq_true] at h; exact leap_ne (two_leaper ht) h.2
theorem round_ne {W H a b : Int} {xs ps : List Int} (ht : twoV W H xs a b = true) (hw : walkB W H xs a b ps = true) (he : endB W a b ps = true) : ∀ i, i + 1 < (roundP ps).length → (roundP ps).getD i 0 ≠ (roundP ps).getD (i + 1) 0 := fun i hi => by
  rw [roundP_len] at hi
  rcases Nat.lt_or_ge (i + 1) ps.length with h | h
  · rw [roundP_at (by omega), roundP_at h]; exact path_ne ht (walk_path2 hw) i h
  · have e : i + 1 = ps.length := by omega
    rw [roundP_at (by omega), e, roundP_last, show i = ps.length - 1 by omega]
    exact end_ne ht he
theorem ring_parts {W H a b : Int} {xs ps : List Int} (h : okRg W H xs a b ps = true) : twoV W H xs a b = true ∧ ps.length ≤ 16 ∧ walkB W H xs a b ps = true ∧ endB W a b ps = true := by
  simp only [okRg, ringB, Bool.and_eq_true, decide_eq_true_eq] at h; exact ⟨h.1, h.2.1, h.2.2.1, h.2.2.2.1⟩
theorem rg_W {W H a b : Int} {xs ps : List Int} (h : okRg W H xs a b ps = true) : 1 ≤ W ∧ W ≤ 8 := (goodB_iff.1 (two_gK (ring_parts h).1)).1
theorem rg_H {W H a b : Int} {xs ps : List Int} (h : okRg W H xs a b ps = true) : 1 ≤ H ∧ H ≤ 8 := (goodB_iff.1 (two_gK (ring_parts h).1)).2.1
theorem rg_64 {W H a b : Int} {xs ps : List Int} (h : okRg W H xs a b ps = true) : ∀ x ∈ ps, 0 ≤ x ∧ x < 64 := path_64 (two_gK (ring_parts h).1) (walk_path2 (ring_parts h).2.2.1)
theorem rg_len {W H a b : Int} {xs ps : List Int} (h : okRg W H xs a b ps = true) : 3 ≤ ps.length ∧ ps.length ≤ 16 := ⟨end_len (ring_parts h).2.2.2, (ring_parts h).2.1⟩

set_option maxRecDepth 100000 in
set_option maxHeartbeats 2000000 in
theorem isRing_any (W H : Int) (A : Option Addr) (n c : Nat) (xs : List Int) (a b : Int) (A2 : Option Addr) (m c2 : Nat) (ps : List Int) (w : World) (ha : Rd w A n xs) (hp : Rd w A2 m ps) (ht : twoV W H xs a b = true) (hcap : m ≤ c2) :
    Calls Try.prog 122 #[brd W H A n c, lpr a b, .slice A2 m c2] w fun e w' => e = .returned (.bool (ringB W H xs a b ps)) ∧ Below w.heap.size w w' := by
  obtain ⟨W2, hW2⟩ : ∃ W2, W2 = (w.alloc (.cells #[.int .i64 W, .int .i64 H, .slice A n c] 24)).alloc (.cells #[.int .i64 a, .int .i64 b] 26) := ⟨_, rfl⟩
  have a0 : W2.cell? ⟨w.heap.size, 0, none⟩ = some (.int .i64 W) := by rw [hW2]; go_simp
  have a1 : W2.cell? ⟨w.heap.size, 1, none⟩ = some (.int .i64 H) := by rw [hW2]; go_simp
  have a2 : W2.cell? ⟨w.heap.size, 2, none⟩ = some (.slice A n c) := by rw [hW2]; go_simp
  have l0 : W2.cell? ⟨w.heap.size + 1, 0, none⟩ = some (.int .i64 a) := by rw [hW2]; go_simp
  have l1 : W2.cell? ⟨w.heap.size + 1, 1, none⟩ = some (.int .i64 b) := by rw [hW2]; go_simp
  have al : w.heap.size < W2.heap.size := by rw [hW2]; simp; omega
  have ll : w.heap.size + 1 < W2.heap.size := by rw [hW2]; simp
  have B := Lib.hid (show Below w.heap.size w W2 by rw [hW2]; exact below_new (below_new (Below.refl _ _) _) _)
  have R := Lib.hid (ha.keep B.out); have RP := Lib.hid (hp.keep B.out)
  have HPL := Lib.hid hp.1; have HCAP := Lib.hid hcap; have HT := Lib.hid ht
  have m9 := hp.2.1
  clear ha hp ht
  by_cases h16 : m ≤ 16
  · have H16 := Lib.hid (show decide (ps.length ≤ 16) = true from decide_eq_true (by rw [HPL.out]; exact h16))
    have hm : (m : Int) ≤ 16 := by omega
    cases hw : walkB W H xs a b ps with
    | true =>
      have HW := Lib.hid hw
      clear hw
      cases he : endB W a b ps with
      | true =>
        have HE := Lib.hid he
        clear he
        go_enter Try.func122, Try.ntmps122
        go_wp2_with fail
        rw [← hW2]
        clear hW2
        refine (isWalk_any W H A n c xs a b A2 m c2 ps _ R.out RP.out (two_gK HT.out)).mono ?_
        rw [HW.out]
        rintro e wv ⟨rfl, hb⟩
        replace a0 := cell_keep a0 al hb; replace a1 := cell_keep a1 al hb; replace a2 := cell_keep a2 al hb; replace al := lt_keep al hb; replace l0 := cell_keep l0 ll hb; replace l1 := cell_keep l1 ll hb; replace ll := lt_keep ll hb; replace R := Lib.hid (R.out.keep hb); replace RP := Lib.hid (RP.out.keep hb); replace B := Lib.hid (below_next B.out hb)
        clear hb
        go_wp2_with fail
        refine (isClosed_any W H A n c a b A2 m c2 ps _ RP.out (goodB_iff.1 (two_gK HT.out)).1 (path_64 (two_gK HT.out) (walk_path2 HW.out))).mono ?_
        rw [HE.out]
        rintro e wv ⟨rfl, hb⟩
        replace a0 := cell_keep a0 al hb; replace a1 := cell_keep a1 al hb; replace a2 := cell_keep a2 al hb; replace al := lt_keep al hb; replace l0 := cell_keep l0 ll hb; replace l1 := cell_keep l1 ll hb; replace ll := lt_keep ll hb; replace R := Lib.hid (R.out.keep hb); replace RP := Lib.hid (RP.out.keep hb); replace B := Lib.hid (below_next B.out hb)
        clear hb
        cases hu : unB W (roundP ps) with
        | true =>
          have HU := Lib.hid hu
          have hu2 : ((crossN W (roundP ps) : Int) == 0) = true := hu
          clear hu
          go_wp2_with fail
          refine (linesAround_any W H A n c A2 m c2 ps _ RP.out HCAP.out (goodB_iff.1 (two_gK HT.out)).1 (path_64 (two_gK HT.out) (walk_path2 HW.out)) (by have := path_len (walk_path2 HW.out); have := HPL.out; omega)).mono ?_
          rintro e wv ⟨A', n', c', rfl, hown, hb⟩
          replace B := Lib.hid (below_next B.out hb)
          have hl := hown.len
          have hcp := hown.form
          clear hb a0 a1 a2 l0 l1 al ll
          go_wp2_with fail
          refine (countCrossings_any _ A' n' c' _ _ hown (co_lines (goodB_iff.1 (two_gK HT.out)).1 (round_64 (path_64 (two_gK HT.out) (walk_path2 HW.out)) (path_len (walk_path2 HW.out)).1)) (by rw [linesL_len, roundP_len] at hl; have := path_len (walk_path2 HW.out); omega) (by rcases hcp with ⟨_, h1, h2, _⟩ | ⟨_, _, _, _, h, _⟩ <;> omega)).mono ?_
          rw [lnR_path (round_ne HT.out HW.out HE.out)]
          rintro e wv ⟨rfl, hb⟩
          replace B := Lib.hid (below_next B.out hb)
          clear hb hl hcp hown
          go_wp2
          go_ret
          exact ⟨ret_bool (by rw [ringB, H16.out, HW.out, HE.out, HU.out]; rfl), B.out⟩
        | false =>
          have HU := Lib.hid hu
          have hu2 : ((crossN W (roundP ps) : Int) == 0) = false := hu
          clear hu
          go_wp2_with fail
          refine (linesAround_any W H A n c A2 m c2 ps _ RP.out HCAP.out (goodB_iff.1 (two_gK HT.out)).1 (path_64 (two_gK HT.out) (walk_path2 HW.out)) (by have := path_len (walk_path2 HW.out); have := HPL.out; omega)).mono ?_
          rintro e wv ⟨A', n', c', rfl, hown, hb⟩
          replace B := Lib.hid (below_next B.out hb)
          have hl := hown.len
          have hcp := hown.form
          clear hb a0 a1 a2 l0 l1 al ll
          go_wp2_with fail
          refine (countCrossings_any _ A' n' c' _ _ hown (co_lines (goodB_iff.1 (two_gK HT.out)).1 (round_64 (path_64 (two_gK HT.out) (walk_path2 HW.out)) (path_len (walk_path2 HW.out)).1)) (by rw [linesL_len, roundP_len] at hl; have := path_len (walk_path2 HW.out); omega) (by rcases hcp with ⟨_, h1, h2, _⟩ | ⟨_, _, _, _, h, _⟩ <;> omega)).mono ?_
          rw [lnR_path (round_ne HT.out HW.out HE.out)]
          rintro e wv ⟨rfl, hb⟩
          replace B := Lib.hid (below_next B.out hb)
          clear hb hl hcp hown
          go_wp2
          go_ret
          exact ⟨ret_bool (by rw [ringB, H16.out, HW.out, HE.out, HU.out]; rfl), B.out⟩
      | false =>
        have HE := Lib.hid he
        clear he
        go_enter Try.func122, Try.ntmps122
        go_wp2_with fail
        rw [← hW2]
        clear hW2
        refine (isWalk_any W H A n c xs a b A2 m c2 ps _ R.out RP.out (two_gK HT.out)).mono ?_
        rw [HW.out]
        rintro e wv ⟨rfl, hb⟩
        replace a0 := cell_keep a0 al hb; replace a1 := cell_keep a1 al hb; replace a2 := cell_keep a2 al hb; replace al := lt_keep al hb; replace l0 := cell_keep l0 ll hb; replace l1 := cell_keep l1 ll hb; replace ll := lt_keep ll hb; replace R := Lib.hid (R.out.keep hb); replace RP := Lib.hid (RP.out.keep hb); replace B := Lib.hid (below_next B.out hb)
        clear hb
        go_wp2_with fail
        refine (isClosed_any W H A n c a b A2 m c2 ps _ RP.out (goodB_iff.1 (two_gK HT.out)).1 (path_64 (two_gK HT.out) (walk_path2 HW.out))).mono ?_
        rw [HE.out]
        rintro e wv ⟨rfl, hb⟩
        replace a0 := cell_keep a0 al hb; replace a1 := cell_keep a1 al hb; replace a2 := cell_keep a2 al hb; replace al := lt_keep al hb; replace l0 := cell_keep l0 ll hb; replace l1 := cell_keep l1 ll hb; replace ll := lt_keep ll hb; replace R := Lib.hid (R.out.keep hb); replace RP := Lib.hid (RP.out.keep hb); replace B := Lib.hid (below_next B.out hb)
        clear hb
        go_wp2
        go_ret
        exact ⟨ret_bool (by rw [ringB, H16.out, HW.out, HE.out]; rfl), B.out⟩
    | false =>
      have HW := Lib.hid hw
      clear hw
      go_enter Try.func122, Try.ntmps122
      go_wp2_with fail
      rw [← hW2]
      clear hW2
      refine (isWalk_any W H A n c xs a b A2 m c2 ps _ R.out RP.out (two_gK HT.out)).mono ?_
      rw [HW.out]
      rintro e wv ⟨rfl, hb⟩
      replace a0 := cell_keep a0 al hb; replace a1 := cell_keep a1 al hb; replace a2 := cell_keep a2 al hb; replace al := lt_keep al hb; replace l0 := cell_keep l0 ll hb; replace l1 := cell_keep l1 ll hb; replace ll := lt_keep ll hb; replace R := Lib.hid (R.out.keep hb); replace RP := Lib.hid (RP.out.keep hb); replace B := Lib.hid (below_next B.out hb)
      clear hb
      go_wp2
      go_ret
      exact ⟨ret_bool (by rw [ringB, H16.out, HW.out]; rfl), B.out⟩
  · have H16 := Lib.hid (show decide (ps.length ≤ 16) = false from decide_eq_false (by rw [HPL.out]; exact h16))
    have hm : ¬ (m : Int) ≤ 16 := by omega
    go_enter Try.func122, Try.ntmps122
    go_wp2_with fail
    rw [← hW2]
    clear hW2
    go_wp2
    go_ret
    exact ⟨ret_bool (by rw [ringB, H16.out]; rfl), B.out⟩

set_option maxRecDepth 100000 in
set_option maxHeartbeats 1000000 in
theorem isRingOn_any (W H : Int) (A : Option Addr) (n c : Nat) (xs : List Int) (a b : Int) (A2 : Option Addr) (m c2 : Nat) (ps : List Int) (w : World) (ha : Rd w A n xs) (hp : Rd w A2 m ps) (hcap : m ≤ c2) :
    Calls Try.prog 89 #[brd W H A n c, lpr a b, .slice A2 m c2] w fun e w' => e = .returned (.bool (okRg W H xs a b ps)) ∧ Below w.heap.size w w' := by
  by_cases ht : twoV W H xs a b = true
  · go_enter Try.func89, Try.ntmps89
    go_wp2_with fail
    refine (isOn0_any _ _ _ _ _ _ _ _ _ ((ha.alloc _).alloc _)).mono ?_
    rw [ht]
    rintro e wv ⟨rfl, hb⟩
    have hbx0 := below_box hb
    have a0 : wv.cell? ⟨w.heap.size, 0, none⟩ = some (.int .i64 W) := by simpa using newbox hbx0 0
    have a1 : wv.cell? ⟨w.heap.size, 1, none⟩ = some (.int .i64 H) := by simpa using newbox hbx0 1
    have a2 : wv.cell? ⟨w.heap.size, 2, none⟩ = some (.slice A n c) := by simpa using newbox hbx0 2
    have al : w.heap.size < wv.heap.size := by simpa using newbox_lt hbx0
    have l0 : wv.cell? ⟨w.heap.size + 1, 0, none⟩ = some (.int .i64 a) := by simpa using newbox hb 0
    have l1 : wv.cell? ⟨w.heap.size + 1, 1, none⟩ = some (.int .i64 b) := by simpa using newbox hb 1
    have ll : w.heap.size + 1 < wv.heap.size := by simpa using newbox_lt hb
    have B := Lib.hid (below_box hbx0)
    clear hb hbx0
    have HT := Lib.hid ht
    clear ht
    go_wp2_with fail
    refine (isRing_any W H A n c xs a b A2 m c2 ps _ (ha.keep B.out) (hp.keep B.out) HT.out hcap).mono ?_
    rintro e wv ⟨rfl, hb⟩
    replace B := Lib.hid (below_next B.out hb)
    clear hb
    go_wp2
    go_ret
    exact ⟨ret_bool (by rw [okRg, HT.out]; rfl), B.out⟩
  · have ht' : twoV W H xs a b = false := by simpa using ht
    go_enter Try.func89, Try.ntmps89
    go_wp2_with fail
    refine (isOn0_any _ _ _ _ _ _ _ _ _ ((ha.alloc _).alloc _)).mono ?_
    rw [ht']
    rintro e wv ⟨rfl, hb⟩
    have hbx0 := below_box hb
    have a0 : wv.cell? ⟨w.heap.size, 0, none⟩ = some (.int .i64 W) := by simpa using newbox hbx0 0
    have a1 : wv.cell? ⟨w.heap.size, 1, none⟩ = some (.int .i64 H) := by simpa using newbox hbx0 1
    have a2 : wv.cell? ⟨w.heap.size, 2, none⟩ = some (.slice A n c) := by simpa using newbox hbx0 2
    have al : w.heap.size < wv.heap.size := by simpa using newbox_lt hbx0
    have l0 : wv.cell? ⟨w.heap.size + 1, 0, none⟩ = some (.int .i64 a) := by simpa using newbox hb 0
    have l1 : wv.cell? ⟨w.heap.size + 1, 1, none⟩ = some (.int .i64 b) := by simpa using newbox hb 1
    have ll : w.heap.size + 1 < wv.heap.size := by simpa using newbox_lt hb
    have B := Lib.hid (below_box hbx0)
    clear hb hbx0
    go_wp2
    go_ret
    exact ⟨ret_bool (by rw [okRg, ht']; rfl), B.out⟩

end Go.Proofs.Ytadopgfpfbianaa
