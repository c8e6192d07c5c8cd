/-
  The walk of the exact law on BalanceOf: it answers true, and what was there stays.
-/
import Derived.Test.YtbpgkigoboobeaaLaw0
import Derived.Test.YtbpgkigoboobeaaF5
namespace Go.Proofs.Ytbpgkigoboobeaa
open Go.RowKit

set_option maxHeartbeats 4000000 in
set_option maxRecDepth 100000 in
theorem law_BalanceOf (w : World) (V0 G0 : Int) (A0 : Option Addr) (n0 c0 : Nat) (xs0 : List Int) (ha0 : Rd w A0 n0 xs0) :
    Calls Try.prog 7 #[brd V0 G0 A0 n0 c0] w fun e w' => e = .returned (.bool true) ∧ Below w.heap.size w w' := by
  have hn9 := ha0.2.1
  by_cases hnB : (n0 : Int) ≤ 1048576
  rotate_left
  · go_enter Try.func7, Try.ntmps7
    go_wp2_with fail
    refine (szBoard_any _ _ _ _ _ _ _ hn9 (by omega) (by omega)).mono ?_
    rintro e wv ⟨rfl, hb⟩
    have B := Lib.hid (below_box hb)
    clear hb
    go_wp2
    go_ret
    exact ⟨rfl, B.out⟩
  · go_enter Try.func7, Try.ntmps7
    go_wp2_with fail
    refine (szBoard_any _ _ _ _ _ _ _ hn9 (by omega) (by omega)).mono ?_
    rintro e wv ⟨rfl, hb⟩
    have a0 : wv.cell? ⟨w.heap.size, 0, none⟩ = some (.int .i64 V0) := by simpa using newbox hb 0
    have a1 : wv.cell? ⟨w.heap.size, 1, none⟩ = some (.int .i64 G0) := by simpa using newbox hb 1
    have a2 : wv.cell? ⟨w.heap.size, 2, none⟩ = some (.slice A0 n0 c0) := by simpa using newbox hb 2
    have al : w.heap.size < wv.heap.size := by simpa using newbox_lt hb
    have B := Lib.hid (below_box hb)
    have hs1 := Lib.hid (below_box hb).size
    have hz := Lib.hid al
    clear hb
    go_wp2_with fail
    refine (toBoard_any _ _ _ _ _ _ _ (ha0.keep B.out) (by omega)).mono ?_
    rintro e wv ⟨gs, rfl, owns, hb⟩
    replace a0 := cell_keep a0 al hb
    replace a1 := cell_keep a1 al hb
    replace a2 := cell_keep a2 al hb
    replace al := lt_keep al hb
    have hs2 := Lib.hid hb.size
    replace B := Lib.hid (below_next B.out hb)
    have Os := Lib.hid owns; have SPs := Lib.hid owns.span; clear owns; clear hb
    go_wp2_with fail
    refine (spec_BalanceOf _ _ _ _ _ _ _ Os.out.rd).mono ?_
    rintro e wv ⟨rfl, hb⟩
    replace a0 := cell_keep a0 al hb
    replace a1 := cell_keep a1 al hb
    replace a2 := cell_keep a2 al hb
    replace al := lt_keep al hb
    have hs3 := Lib.hid hb.size
    replace B := Lib.hid (below_next B.out hb)
    clear hb Os SPs
    go_wp2_with fail
    refine (toBoard_any _ _ _ _ _ _ _ (ha0.keep B.out) (by omega)).mono ?_
    rintro e wv ⟨gx, rfl, ownx, hb⟩
    replace a0 := cell_keep a0 al hb
    replace a1 := cell_keep a1 al hb
    replace a2 := cell_keep a2 al hb
    replace al := lt_keep al hb
    have hs4 := Lib.hid hb.size
    replace B := Lib.hid (below_next B.out hb)
    have Ox := Lib.hid ownx; have SPx := Lib.hid ownx.span; clear ownx; clear hb
    obtain ⟨wx, hwx⟩ : ∃ wx, wx = wv := ⟨_, rfl⟩
    subst hwx
    go_wp2_with fail
    refine (impl_BalanceOf _ _ _ _ _ _ _ (Ox.out.rd.alloc _)).mono ?_
    rintro e wv ⟨rfl, hb0⟩
    have x0 := newbox hb0 0
    have x1 := newbox hb0 1
    have x2 := newbox hb0 2
    have xl := newbox_lt hb0
    simp only [List.getElem?_toArray, List.getElem?_cons_zero, List.getElem?_cons_succ] at x0 x1 x2
    have hb := below_box hb0
    replace a0 := cell_keep a0 al hb
    replace a1 := cell_keep a1 al hb
    replace a2 := cell_keep a2 al hb
    replace al := lt_keep al hb
    replace Ox := Lib.hid (Ox.out.keep hb)
    have hs5 := Lib.hid hb.size
    replace B := Lib.hid (below_next B.out hb)
    clear hb hb0
    have hx0 : gx < wx.heap.size := (SPx.out _ rfl).2
    generalize hx : wx.heap.size = x at *
    go_wp2_with fail
    go_region_held3 (fun w' => w'.cell? ⟨w.heap.size, 0, none⟩ = some (.int .i64 V0) ∧ w'.cell? ⟨w.heap.size, 1, none⟩ = some (.int .i64 G0) ∧ w'.cell? ⟨w.heap.size, 2, none⟩ = some (.slice A0 n0 c0) ∧ w'.cell? ⟨x, 0, none⟩ = some (.int .i64 V0) ∧ w'.cell? ⟨x, 1, none⟩ = some (.int .i64 G0) ∧ w'.cell? ⟨x, 2, none⟩ = some (.slice (some ⟨gx, 0, none⟩) n0 n0)) (first | exact ⟨a0, a1, a2, x0, x1, x2⟩)
      (first
        | (go_at_call 10; refine (toBoard_any _ _ _ _ _ _ _ (by exact (ha0.keep B.out).drew1) (by omega)).mono ?_; rintro e wv ⟨gy, rfl, owny, hb⟩; (try replace hb := below_undrew hb); replace a0 := cell_keep a0 al hb; replace a1 := cell_keep a1 al hb; replace a2 := cell_keep a2 al hb; replace al := lt_keep al hb; replace x0 := cell_keep x0 xl hb; replace x1 := cell_keep x1 xl hb; replace x2 := cell_keep x2 xl hb; replace xl := lt_keep xl hb; replace Ox := Lib.hid (Ox.out.keep hb); have hs6 := Lib.hid hb.size; replace B := Lib.hid (below_next B.out hb); have Oy := Lib.hid owny; have SPy := Lib.hid owny.span; clear owny; clear hb)
        | (go_at_call 14; refine (eqBoard_any _ _ _ _ _ _ _ _ _ _ _ Ox.out.rd Oy.out.rd).mono ?_; simp only [decide_true]; rintro e wv ⟨rfl, hb⟩; (try replace hb := below_undrew hb); replace a0 := cell_keep a0 al hb; replace a1 := cell_keep a1 al hb; replace a2 := cell_keep a2 al hb; replace al := lt_keep al hb; replace x0 := cell_keep x0 xl hb; replace x1 := cell_keep x1 xl hb; replace x2 := cell_keep x2 xl hb; replace xl := lt_keep xl hb; replace Ox := Lib.hid (Ox.out.keep hb); have hs7 := Lib.hid hb.size; replace B := Lib.hid (below_next B.out hb); clear hb Oy SPy))
    go_wp2
    go_ret
    exact ⟨rfl, B.out⟩

end Go.Proofs.Ytbpgkigoboobeaa
