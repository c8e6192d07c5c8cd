/-
  The walk of the exact law on PathText: it answers true, and what was there stays.
-/
import Derived.Test.YtadopgfpfbianaaLaw0
import Derived.Test.YtadopgfpfbianaaN3
namespace Go.Proofs.Ytadopgfpfbianaa
open Go.RowKit

set_option maxHeartbeats 4000000 in
set_option maxRecDepth 100000 in
theorem law_PathText (w : World) (V0 G0 : Int) (A0 : Option Addr) (n0 c0 : Nat) (xs0 : List Int) (ha0 : Rd w A0 n0 xs0) (A1 : Option Addr) (n1 c1 : Nat) (xs1 : List Int) (ha1 : Rd w A1 n1 xs1) :
    Calls Try.prog 7 #[brd V0 G0 A0 n0 c0, .slice A1 n1 c1] w fun e w' => e = .returned (.bool true) ∧ Below w.heap.size w w' := by
  have hn9 := ha0.2.1
  have hp9 := ha1.2.1
  by_cases hnP : (n1 : Int) ≤ 1048576
  rotate_left
  · go_enter Try.func7, Try.ntmps7
    go_wp2
    go_ret
    exact ⟨rfl, (below_new (Below.refl _ _) _)⟩
  by_cases hnB : (n0 : Int) ≤ 1048576
  rotate_left
  · go_enter Try.func7, Try.ntmps7
    go_wp2_with fail
    refine (szBoard_any _ _ _ _ _ _ _ hn9 (by omega) (by omega)).mono ?_
    rintro e wv ⟨rfl, hb⟩
    have B := Lib.hid (below_box hb)
    clear hb
    go_wp2
    go_ret
    exact ⟨rfl, B.out⟩
  · have HPn := Lib.hid (show n1 ≤ 17179869184 by omega)
    go_enter Try.func7, Try.ntmps7
    go_wp2_with fail
    refine (szBoard_any _ _ _ _ _ _ _ hn9 (by omega) (by omega)).mono ?_
    rintro e wv ⟨rfl, hb⟩
    have a0 : wv.cell? ⟨w.heap.size, 0, none⟩ = some (.int .i64 V0) := by simpa using newbox hb 0
    have a1 : wv.cell? ⟨w.heap.size, 1, none⟩ = some (.int .i64 G0) := by simpa using newbox hb 1
    have a2 : wv.cell? ⟨w.heap.size, 2, none⟩ = some (.slice A0 n0 c0) := by simpa using newbox hb 2
    have al : w.heap.size < wv.heap.size := by simpa using newbox_lt hb
    have B := Lib.hid (below_box hb)
    have hs1 := Lib.hid (below_box hb).size
    have hz := Lib.hid al
    clear hb
    go_wp2_with fail
    refine (toBoard_any _ _ _ _ _ _ _ (ha0.keep B.out) (by omega)).mono ?_
    rintro e wv ⟨gs, rfl, owns, hb⟩
    replace a0 := cell_keep a0 al hb
    replace a1 := cell_keep a1 al hb
    replace a2 := cell_keep a2 al hb
    replace al := lt_keep al hb
    have hs2 := Lib.hid hb.size
    replace B := Lib.hid (below_next B.out hb)
    have Os := Lib.hid owns; have SPs := Lib.hid owns.span; clear owns; clear hb
    go_wp2_with fail
    refine (toIntS_any _ _ _ _ _ (ha1.keep B.out) (by omega)).mono ?_
    rintro e wv ⟨gp, rfl, ownp, hb⟩
    replace a0 := cell_keep a0 al hb
    replace a1 := cell_keep a1 al hb
    replace a2 := cell_keep a2 al hb
    replace al := lt_keep al hb
    (try replace Os := Lib.hid (Os.out.keep hb))
    have hs3 := Lib.hid hb.size
    replace B := Lib.hid (below_next B.out hb)
    have Op := Lib.hid ownp; have SPp := Lib.hid ownp.span; clear ownp; clear hb
    go_wp2_with fail
    refine (spec_PathText _ _ _ _ _ _ _ _ _ _ _ Os.out.rd Op.out.rd).mono ?_
    rintro e wv ⟨rfl, hb⟩
    replace a0 := cell_keep a0 al hb
    replace a1 := cell_keep a1 al hb
    replace a2 := cell_keep a2 al hb
    replace al := lt_keep al hb
    have hs4 := Lib.hid hb.size
    replace B := Lib.hid (below_next B.out hb)
    clear hb Os SPs Op SPp
    go_wp2_with fail
    refine (toBoard_any _ _ _ _ _ _ _ (ha0.keep B.out) (by omega)).mono ?_
    rintro e wv ⟨gx, rfl, ownx, hb⟩
    replace a0 := cell_keep a0 al hb
    replace a1 := cell_keep a1 al hb
    replace a2 := cell_keep a2 al hb
    replace al := lt_keep al hb
    have hs5 := Lib.hid hb.size
    replace B := Lib.hid (below_next B.out hb)
    have Ox := Lib.hid ownx; have SPx := Lib.hid ownx.span; clear ownx; clear hb
    obtain ⟨wx, hwx⟩ : ∃ wx, wx = wv := ⟨_, rfl⟩
    subst hwx
    go_wp2_with fail
    have hb := Below.refl (wx.alloc (.cells #[.int .i64 V0, .int .i64 G0, .slice (some ⟨gx, 0, none⟩) n0 n0] 24)).heap.size (wx.alloc (.cells #[.int .i64 V0, .int .i64 G0, .slice (some ⟨gx, 0, none⟩) n0 n0] 24))
    have x0 : (wx.alloc (.cells #[.int .i64 V0, .int .i64 G0, .slice (some ⟨gx, 0, none⟩) n0 n0] 24)).cell? ⟨wx.heap.size, 0, none⟩ = some (.int .i64 V0) := by simp
    have x1 : (wx.alloc (.cells #[.int .i64 V0, .int .i64 G0, .slice (some ⟨gx, 0, none⟩) n0 n0] 24)).cell? ⟨wx.heap.size, 1, none⟩ = some (.int .i64 G0) := by simp
    have x2 : (wx.alloc (.cells #[.int .i64 V0, .int .i64 G0, .slice (some ⟨gx, 0, none⟩) n0 n0] 24)).cell? ⟨wx.heap.size, 2, none⟩ = some (.slice (some ⟨gx, 0, none⟩) n0 n0) := by simp
    have xl := newbox_lt hb
    have hzx := Lib.hid xl
    replace hb := below_box hb
    replace a0 := cell_keep a0 al hb
    replace a1 := cell_keep a1 al hb
    replace a2 := cell_keep a2 al hb
    replace al := lt_keep al hb
    replace Ox := Lib.hid (Ox.out.keep hb)
    have hs6 := Lib.hid hb.size
    replace B := Lib.hid (below_next B.out hb)
    clear hb
    have hx0 : gx < wx.heap.size := (SPx.out _ rfl).2
    generalize wx.alloc (.cells #[.int .i64 V0, .int .i64 G0, .slice (some ⟨gx, 0, none⟩) n0 n0] 24) = wv at *
    generalize hx : wx.heap.size = x at *
    refine (toIntS_any _ _ _ _ _ (ha1.keep B.out) (by omega)).mono ?_
    rintro e wv ⟨gq, rfl, ownq, hb⟩
    replace a0 := cell_keep a0 al hb
    replace a1 := cell_keep a1 al hb
    replace a2 := cell_keep a2 al hb
    replace al := lt_keep al hb
    replace x0 := cell_keep x0 xl hb
    replace x1 := cell_keep x1 xl hb
    replace x2 := cell_keep x2 xl hb
    replace xl := lt_keep xl hb
    replace Ox := Lib.hid (Ox.out.keep hb)
    have hs7 := Lib.hid hb.size
    replace B := Lib.hid (below_next B.out hb)
    have Oq := Lib.hid ownq; have SPq := Lib.hid ownq.span; clear ownq; clear hb
    go_wp2_with fail
    refine (impl_PathText _ _ _ _ _ _ _ _ _ _ _ Ox.out.rd Oq.out.rd).mono ?_
    rintro e wv ⟨rfl, hb⟩
    replace a0 := cell_keep a0 al hb
    replace a1 := cell_keep a1 al hb
    replace a2 := cell_keep a2 al hb
    replace al := lt_keep al hb
    replace x0 := cell_keep x0 xl hb
    replace x1 := cell_keep x1 xl hb
    replace x2 := cell_keep x2 xl hb
    replace xl := lt_keep xl hb
    replace Ox := Lib.hid (Ox.out.keep hb)
    replace Oq := Lib.hid (Oq.out.keep hb)
    have hs8 := Lib.hid hb.size
    replace B := Lib.hid (below_next B.out hb)
    clear hb
    go_wp2_with fail
    go_region_held3 (fun w' => w'.cell? ⟨w.heap.size, 0, none⟩ = some (.int .i64 V0) ∧ w'.cell? ⟨w.heap.size, 1, none⟩ = some (.int .i64 G0) ∧ w'.cell? ⟨w.heap.size, 2, none⟩ = some (.slice A0 n0 c0) ∧ w'.cell? ⟨x, 0, none⟩ = some (.int .i64 V0) ∧ w'.cell? ⟨x, 1, none⟩ = some (.int .i64 G0) ∧ w'.cell? ⟨x, 2, none⟩ = some (.slice (some ⟨gx, 0, none⟩) n0 n0)) (first | exact ⟨a0, a1, a2, x0, x1, x2⟩)
      (first
        | (go_at_call 25; refine (toBoard_any _ _ _ _ _ _ _ (by exact (ha0.keep B.out).drew1) (by omega)).mono ?_; rintro e wv ⟨gy, rfl, owny, hb⟩; (try replace hb := below_undrew hb); replace a0 := cell_keep a0 al hb; replace a1 := cell_keep a1 al hb; replace a2 := cell_keep a2 al hb; replace al := lt_keep al hb; replace x0 := cell_keep x0 xl hb; replace x1 := cell_keep x1 xl hb; replace x2 := cell_keep x2 xl hb; replace xl := lt_keep xl hb; replace Ox := Lib.hid (Ox.out.keep hb); replace Oq := Lib.hid (Oq.out.keep hb); have hs9 := Lib.hid hb.size; replace B := Lib.hid (below_next B.out hb); have Oy := Lib.hid owny; have SPy := Lib.hid owny.span; clear owny; clear hb)
        | (go_at_call 27; refine (eqBoard_any _ _ _ _ _ _ _ _ _ _ _ Ox.out.rd Oy.out.rd).mono ?_; simp only [decide_true]; rintro e wv ⟨rfl, hb⟩; (try replace hb := below_undrew hb); replace a0 := cell_keep a0 al hb; replace a1 := cell_keep a1 al hb; replace a2 := cell_keep a2 al hb; replace al := lt_keep al hb; replace x0 := cell_keep x0 xl hb; replace x1 := cell_keep x1 xl hb; replace x2 := cell_keep x2 xl hb; replace xl := lt_keep xl hb; replace Ox := Lib.hid (Ox.out.keep hb); replace Oq := Lib.hid (Oq.out.keep hb); have hs10 := Lib.hid hb.size; replace B := Lib.hid (below_next B.out hb); clear hb Oy SPy))
    go_wp2_with fail
    refine (toIntS_any _ _ _ _ _ (ha1.keep B.out) (by omega)).mono ?_
    rintro e wv ⟨gy, rfl, owny, hb⟩
    replace a0 := cell_keep a0 al hb
    replace a1 := cell_keep a1 al hb
    replace a2 := cell_keep a2 al hb
    replace al := lt_keep al hb
    replace x0 := cell_keep x0 xl hb
    replace x1 := cell_keep x1 xl hb
    replace x2 := cell_keep x2 xl hb
    replace xl := lt_keep xl hb
    replace Ox := Lib.hid (Ox.out.keep hb)
    replace Oq := Lib.hid (Oq.out.keep hb)
    have hs11 := Lib.hid hb.size
    replace B := Lib.hid (below_next B.out hb)
    have Oy := Lib.hid owny; have SPy := Lib.hid owny.span; clear owny; clear hb
    go_wp2_with fail
    refine (eqIntS_any _ _ _ _ _ _ _ _ _ Oq.out.rd Oy.out.rd).mono ?_
    simp only [decide_true]
    rintro e wv ⟨rfl, hb⟩
    replace a0 := cell_keep a0 al hb
    replace a1 := cell_keep a1 al hb
    replace a2 := cell_keep a2 al hb
    replace al := lt_keep al hb
    replace x0 := cell_keep x0 xl hb
    replace x1 := cell_keep x1 xl hb
    replace x2 := cell_keep x2 xl hb
    replace xl := lt_keep xl hb
    replace Ox := Lib.hid (Ox.out.keep hb)
    replace Oq := Lib.hid (Oq.out.keep hb)
    have hs12 := Lib.hid hb.size
    replace B := Lib.hid (below_next B.out hb)
    clear hb Oy SPy
    go_wp2
    go_ret
    exact ⟨rfl, B.out⟩

end Go.Proofs.Ytadopgfpfbianaa
