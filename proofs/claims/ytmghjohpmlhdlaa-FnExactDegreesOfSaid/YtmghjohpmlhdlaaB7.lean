/-
  Contracts: spots, turned and mirrored cells.
-/
import Derived.Test.YtmghjohpmlhdlaaB5
import Derived.Test.YtmghjohpmlhdlaaBN
import Derived.Deep.RegionHeld3
namespace Go.Proofs.Ytmghjohpmlhdlaa
open Go.RowKit

theorem mod_bd {W c : Int} (hW : 1 ≤ W ∧ W ≤ 8) : 0 ≤ c % W ∧ c % W < W ∧ c % W ≤ 7 := by
  have h1 := Int.emod_nonneg c (b := W) (by omega)
  have h2 := Int.emod_lt_of_pos c (b := W) (by omega)
  omega
theorem div_bd {W H c : Int} (hW : 1 ≤ W ∧ W ≤ 8) (hc : 0 ≤ c ∧ c < W * H) : 0 ≤ c / W ∧ c / W < H := by
  constructor
  · exact Int.ediv_nonneg hc.1 (by omega)
  · exact Int.ediv_lt_of_lt_mul (by omega) (by rw [Int.mul_comm]; exact hc.2)
theorem mulN {x y : Int} (hx : 0 ≤ x ∧ x ≤ 8) (hy : 0 ≤ y ∧ y ≤ 8) : 0 ≤ x * y ∧ x * y ≤ 64 :=
  ⟨Int.mul_nonneg hx.1 hy.1, by have := Int.mul_le_mul hx.2 hy.2 hy.1 (by omega); omega⟩
def turnV (W H c : Int) : Int := (c % W) * H + H - 1 - c / W
def mirrorV (W c : Int) : Int := c - c % W + W - 1 - c % W

set_option maxHeartbeats 400000 in
theorem spotOf_any (W H : Int) (A : Option Addr) (n c : Nat) (q : Int) (w : World) (hW : 1 ≤ W ∧ W ≤ 8) (hq : 0 ≤ q ∧ q ≤ 64) :
    Calls Try.prog 61 #[brd W H A n c, .int .i64 q] w fun e w' => e = .returned (lpr (q % W) (q / W)) ∧ Below w.heap.size w w' := by
  go_enter Try.func61, Try.ntmps61
  go_wp2_with fail
  refine (numbered_exact q W _ hW hq).mono ?_
  rintro e wv ⟨rfl, m, rfl⟩
  go_wp2
  exact bodyPost_ret (v := lpr (q % W) (q / W)) (by simp [results, Try.results61, go_sem]) rfl ⟨rfl, (by repeat (first | exact Below.refl _ _ | refine Below.setCell ?_ (by simp) _ | refine Below.drew ?_ | refine below_drewN ?_ _ | refine below_new ?_ _))⟩

set_option maxHeartbeats 400000 in
theorem number_any (x y W : Int) (w : World) (hx : 0 ≤ x ∧ x ≤ 1000) (hyW : 0 ≤ y * W ∧ y * W ≤ 1000) :
    Calls Try.prog 72 #[lpr x y, .int .i64 W] w fun e w' => e = .returned (.int .i64 (y * W + x)) ∧ Below w.heap.size w w' := by
  obtain ⟨hx1, hx2⟩ := hx
  obtain ⟨hy1, hy2⟩ := hyW
  go_enter Try.func72, Try.ntmps72
  go_wp2
  go_ret
  exact ⟨rfl, below_new (Below.refl _ _) _⟩

set_option maxHeartbeats 400000 in
theorem boTurn_any (W H : Int) (A : Option Addr) (n c : Nat) (q : Int) (w : World) (hW : 1 ≤ W ∧ W ≤ 8) (hH : 1 ≤ H ∧ H ≤ 8) (hq : 0 ≤ q ∧ q < W * H) :
    Calls Try.prog 70 #[brd W H A n c, .int .i64 q] w fun e w' => e = .returned (.int .i64 (turnV W H q)) ∧ Below w.heap.size w w' := by
  have hN := cells_le hW hH
  have hm := mod_bd (c := q) hW
  have hd := div_bd hW hq
  have hp := mulN (x := q % W) (y := H) (by omega) (by omega)
  obtain ⟨hW1, hW2⟩ := hW
  obtain ⟨hq1, hq2⟩ := hq
  obtain ⟨hH1, hH2⟩ := hH
  obtain ⟨hm1, hm2, hm3⟩ := hm
  obtain ⟨hd1, hd2⟩ := hd
  obtain ⟨hp1, hp2⟩ := hp
  go_enter Try.func70, Try.ntmps70
  go_wp2
  go_quiet (fail)
  go_wp2
  go_ret
  exact ⟨rfl, below_drewN (below_new (Below.refl _ _) _) _⟩

set_option maxHeartbeats 400000 in
theorem boMirror_any (W H : Int) (A : Option Addr) (n c : Nat) (q : Int) (w : World) (hW : 1 ≤ W ∧ W ≤ 8) (hq : 0 ≤ q ∧ q ≤ 64) :
    Calls Try.prog 73 #[brd W H A n c, .int .i64 q] w fun e w' => e = .returned (.int .i64 (mirrorV W q)) ∧ Below w.heap.size w w' := by
  have hm := mod_bd (c := q) hW
  obtain ⟨hW1, hW2⟩ := hW
  obtain ⟨hq1, hq2⟩ := hq
  obtain ⟨hm1, hm2, hm3⟩ := hm
  go_enter Try.func73, Try.ntmps73
  go_wp2
  go_quiet (fail)
  go_wp2
  go_ret
  exact ⟨rfl, below_drewN (below_new (Below.refl _ _) _) _⟩

set_option maxHeartbeats 400000 in
theorem turned_any (x y W H : Int) (A : Option Addr) (n c : Nat) (w : World) (hH : 1 ≤ H ∧ H ≤ 8) (hy : 0 ≤ y ∧ y ≤ 64) :
    Calls Try.prog 71 #[lpr x y, brd W H A n c] w fun e w' => e = .returned (lpr (H - 1 - y) x) ∧ Below w.heap.size w w' := by
  obtain ⟨hH1, hH2⟩ := hH
  obtain ⟨hy1, hy2⟩ := hy
  go_enter Try.func71, Try.ntmps71
  go_wp2
  exact bodyPost_ret (v := lpr (H - 1 - y) x) (by simp [results, Try.results71, go_sem]) rfl ⟨rfl, (by repeat (first | exact Below.refl _ _ | refine Below.setCell ?_ (by simp) _ | refine Below.drew ?_ | refine below_drewN ?_ _ | refine below_new ?_ _))⟩

set_option maxHeartbeats 400000 in
theorem mirrored_any (x y W H : Int) (A : Option Addr) (n c : Nat) (w : World) (hW : 1 ≤ W ∧ W ≤ 8) (hx : 0 ≤ x ∧ x ≤ 64) :
    Calls Try.prog 74 #[lpr x y, brd W H A n c] w fun e w' => e = .returned (lpr (W - 1 - x) y) ∧ Below w.heap.size w w' := by
  obtain ⟨hW1, hW2⟩ := hW
  obtain ⟨hx1, hx2⟩ := hx
  go_enter Try.func74, Try.ntmps74
  go_wp2
  exact bodyPost_ret (v := lpr (W - 1 - x) y) (by simp [results, Try.results74, go_sem]) rfl ⟨rfl, (by repeat (first | exact Below.refl _ _ | refine Below.setCell ?_ (by simp) _ | refine Below.drew ?_ | refine below_drewN ?_ _ | refine below_new ?_ _))⟩

set_option maxHeartbeats 400000 in
theorem isOnBoard_any (W H : Int) (A : Option Addr) (n c : Nat) (q : Int) (xs : List Int) (w : World) (ha : Rd w A n xs) :
    Calls Try.prog 59 #[brd W H A n c, .int .i64 q] w fun e w' => e = .returned (.bool (hasV W H xs q)) ∧ Below w.heap.size w w' := by
  by_cases hg : goodB W H xs = true
  · go_enter Try.func59, Try.ntmps59
    go_wp2_with fail
    refine (isBoard_any _ _ _ _ _ _ _ (ha.alloc _)).mono ?_
    rw [hg]
    rintro e w1 ⟨rfl, hb1⟩
    have hb0 := newbox hb1 0; have hb2 := newbox hb1 1; have hb3 := newbox hb1 2; have hlt := newbox_lt hb1
    simp only [List.getElem?_toArray, List.getElem?_cons_zero, List.getElem?_cons_succ] at hb0 hb2 hb3
    have HB1 := Lib.hid (below_box hb1)
    clear hb1
    go_wp2_with fail
    refine (isThere_any _ _ _ _ _ _ _ _ (ha.keep HB1.out) hg).mono ?_
    rintro e w2 ⟨rfl, hb4⟩
    have HB2 := Lib.hid (below_next HB1.out hb4)
    clear hb4 HB1
    go_wp2
    go_ret
    exact ⟨ret_bool (by rw [hasV, hg]; rfl), HB2.out⟩
  · have hg' : goodB W H xs = false := by simpa using hg
    go_enter Try.func59, Try.ntmps59
    go_wp2_with fail
    refine (isBoard_any _ _ _ _ _ _ _ (ha.alloc _)).mono ?_
    rw [hg']
    rintro e w1 ⟨rfl, hb1⟩
    have HB1 := Lib.hid (below_box hb1)
    clear hb1
    go_wp2
    go_ret
    exact ⟨ret_bool (by rw [hasV, hg']; rfl), HB1.out⟩

/-! ### TurnCell, MirrorCell -/
def turnCellV (W H : Int) (xs : List Int) (q : Int) : Int := if hasV W H xs q then turnV W H q else 0
def mirrorCellV (W H : Int) (xs : List Int) (q : Int) : Int := if hasV W H xs q then mirrorV W q else 0
theorem hasV_facts {W H q : Int} {xs : List Int} (h : hasV W H xs q = true) : goodB W H xs = true ∧ (1 ≤ W ∧ W ≤ 8) ∧ (1 ≤ H ∧ H ≤ 8) ∧ (0 ≤ q ∧ q < W * H) ∧ W * H ≤ 64 ∧ hasB W H xs q = true := by
  simp only [hasV, Bool.and_eq_true] at h
  obtain ⟨hW, hH, _, _⟩ := goodB_iff.1 h.1
  exact ⟨h.1, hW, hH, (hasB_iff.1 h.2).1, (cells_le hW hH).2, h.2⟩

set_option maxHeartbeats 1000000 in
theorem impl_TurnCell (W H : Int) (A : Option Addr) (n c : Nat) (xs : List Int) (q : Int) (w : World) (ha : Rd w A n xs) :
    Calls Try.prog 30 #[brd W H A n c, .int .i64 q] w fun e w' => e = .returned (.tuple #[.int .i64 (turnCellV W H xs q), .bool (hasV W H xs q)]) ∧ Below w.heap.size w w' := by
  by_cases hv : hasV W H xs q = true
  · obtain ⟨hg, hW, hH, hq, hN, hh⟩ := hasV_facts hv
    have hm := mod_bd (c := q) hW
    have hd := div_bd hW hq
    have hp := mulN (x := q % W) (y := H) (by omega) (by omega)
    go_enter Try.func30, Try.ntmps30
    go_wp2_with fail
    refine (isOnBoard_any _ _ _ _ _ _ _ _ (ha.alloc _)).mono ?_
    rw [hv]
    rintro e wv ⟨rfl, hb1⟩
    have hb0 := newbox hb1 0; have hb2 := newbox hb1 1; have hb3 := newbox hb1 2; have hlt := newbox_lt hb1
    simp only [List.getElem?_toArray, List.getElem?_cons_zero, List.getElem?_cons_succ] at hb0 hb2 hb3
    have B := Lib.hid (below_box hb1)
    have HH := Lib.hid (And.intro hW (And.intro hH (And.intro hq (And.intro hm (And.intro hd (And.intro hp hN))))))
    clear hb1 hg hW hH hq hm hd hp hN
    go_wp2_with fail
    go_region_held3 (fun w' => w'.cell? ⟨w.heap.size, 0, none⟩ = some (.int .i64 W) ∧ w'.cell? ⟨w.heap.size, 1, none⟩ = some (.int .i64 H) ∧ w'.cell? ⟨w.heap.size, 2, none⟩ = some (.slice A n c)) (first | exact ⟨hb0, hb2, hb3⟩)
      (first
        | (go_at_call 61; refine (spotOf_any _ _ _ _ _ _ _ (by exact HH.out.1) (by have := HH.out; omega)).mono ?_; rintro e wv ⟨rfl, hb⟩; (try replace hb := below_undrew hb); replace hb0 := cell_keep hb0 hlt hb; replace hb2 := cell_keep hb2 hlt hb; replace hb3 := cell_keep hb3 hlt hb; replace hlt := lt_keep hlt hb; replace B := Lib.hid (below_next B.out hb); clear hb)
        | (go_at_call 71; refine (turned_any _ _ _ _ _ _ _ _ (by exact HH.out.2.1) (by have := HH.out; omega)).mono ?_; rintro e wv ⟨rfl, hb⟩; (try replace hb := below_undrew hb); replace hb0 := cell_keep hb0 hlt hb; replace hb2 := cell_keep hb2 hlt hb; replace hb3 := cell_keep hb3 hlt hb; replace hlt := lt_keep hlt hb; replace B := Lib.hid (below_next B.out hb); clear hb)
        | (go_at_call 72; refine (number_any _ _ _ _ (by have := HH.out; omega) (by have := HH.out; omega)).mono ?_; rintro e wv ⟨rfl, hb⟩; (try replace hb := below_undrew hb); replace hb0 := cell_keep hb0 hlt hb; replace hb2 := cell_keep hb2 hlt hb; replace hb3 := cell_keep hb3 hlt hb; replace hlt := lt_keep hlt hb; replace B := Lib.hid (below_next B.out hb); clear hb))
    go_wp2
    go_ret2
    exact ⟨by rw [hv, turnCellV, if_pos hv, show turnV W H q = q % W * H + (H - 1 - q / W) by unfold turnV; omega]; rfl, B.out⟩
  · have hv' : hasV W H xs q = false := by simpa using hv
    go_enter Try.func30, Try.ntmps30
    go_wp2_with fail
    refine (isOnBoard_any _ _ _ _ _ _ _ _ (ha.alloc _)).mono ?_
    rw [hv']
    rintro e wv ⟨rfl, hb1⟩
    have B := Lib.hid (below_box hb1)
    clear hb1
    go_wp2
    go_ret2
    exact ⟨by rw [hv', turnCellV, if_neg hv]; rfl, B.out⟩

end Go.Proofs.Ytmghjohpmlhdlaa
