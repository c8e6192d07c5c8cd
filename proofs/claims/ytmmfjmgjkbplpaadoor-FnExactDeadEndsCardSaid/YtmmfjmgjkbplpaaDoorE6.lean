/-
  DeadEnds: what the law compares.
-/
import Derived.Test.YtmmfjmgjkbplpaaDoorE5
import Derived.Test.YtmmfjmgjkbplpaaDoorS9
namespace Go.Proofs.YtmmfjmgjkbplpaaDoor
open Go.RowKit

theorem len_DeadEnds (W H : Int) (xs : List Int) (a b : Int) : (deadV W H xs a b).length ≤ 1000000 := by
  unfold deadV
  split
  · rename_i h
    have h1 := List.length_filter_le (deadB W H xs a b) (cellsL W H xs)
    have h3 : (cellsL W H xs).length ≤ (W * H).toNat := cellsTo_len _
    obtain ⟨hW, hH, _, _⟩ := goodB_iff.1 (two_gK h)
    have := cells_le hW hH
    rw [deadL]; omega
  · simp

theorem impl_DeadEnds (W H : Int) (A : Option Addr) (n c : Nat) (xs : List Int) (a b : Int) (w : World) (ha : Rd w A n xs) (hT : Tab64 w ∧ 0 < w.heap.size) :
    Calls Tryd.prog 9 #[brd W H A n c, lpr a b] w fun e w' => ∃ A' n' c', e = .returned (.tuple #[.slice A' n' c', .bool (twoV W H xs a b)]) ∧ OwnI 3 w' w.heap.size A' n' c' (deadV W H xs a b) ∧ Below w.heap.size w w' :=
  deadEnds_any W H A n c xs a b w ha hT.1 hT.2

set_option maxRecDepth 100000 in
set_option maxHeartbeats 2000000 in
theorem spec_DeadEnds (W H : Int) (A : Option Addr) (n c : Nat) (xs : List Int) (a b : Int) (w : World) (ha : Rd w A n xs) :
    Calls Tryd.prog 6 #[brd W H A n c, lpr a b] w fun e w' => ∃ A' n' c', e = .returned (.tuple #[.slice A' n' c', .bool (twoV W H xs a b)]) ∧ OwnI 3 w' w.heap.size A' n' c' (deadV W H xs a b) ∧ Below w.heap.size w w' := by
  by_cases ht : twoV W H xs a b = true
  · have HTw := Lib.hid ht
    have hg := two_gK ht
    obtain ⟨hW, hH, _, _⟩ := goodB_iff.1 hg
    have HN := Lib.hid (cells_le hW hH)
    have HG := Lib.hid hg
    obtain ⟨i0, hi, hz0, hz1, hz2⟩ := info_parts infoI
    have HI := Lib.hid hi; have HZ0 := Lib.hid hz0; have HZ1 := Lib.hid hz1; have HZ2 := Lib.hid hz2
    clear hW hH hg hi hz0 hz1 hz2
    go_enter Tryd.func6, Tryd.ntmps6
    go_wp2_with fail
    refine (boTwo_any W H A n c xs a b _ ((ha.alloc _).alloc _)).mono ?_
    rw [show (goodB W H xs && leaperB a b) = true from ht]
    clear ht
    rintro e wv ⟨rfl, hb⟩
    have hbx0 := below_box hb
    have a0 : wv.cell? ⟨w.heap.size, 0, none⟩ = some (.int .i64 W) := by simpa using newbox hbx0 0
    have a1 : wv.cell? ⟨w.heap.size, 1, none⟩ = some (.int .i64 H) := by simpa using newbox hbx0 1
    have a2 : wv.cell? ⟨w.heap.size, 2, none⟩ = some (.slice A n c) := by simpa using newbox hbx0 2
    have ga : w.heap.size < wv.heap.size := by simpa using newbox_lt hbx0
    have l0 : wv.cell? ⟨w.heap.size + 1, 0, none⟩ = some (.int .i64 a) := by simpa using newbox hb 0
    have l1 : wv.cell? ⟨w.heap.size + 1, 1, none⟩ = some (.int .i64 b) := by simpa using newbox hb 1
    have gl : w.heap.size + 1 < wv.heap.size := by simpa using newbox_lt hb
    have B := Lib.hid (below_box hbx0)
    have R := Lib.hid (ha.keep B.out)
    clear hb hbx0
    go_wp2_with fail
    refine (boCells_any W H A n c xs _ R.out HN.out).mono ?_
    rintro e ws ⟨A1, n1, c1, rfl, hst, hb⟩
    replace a0 := cell_keep a0 ga hb; replace a1 := cell_keep a1 ga hb; replace a2 := cell_keep a2 ga hb; replace l0 := cell_keep l0 gl hb; replace l1 := cell_keep l1 gl hb; replace ga := lt_keep ga hb; replace gl := lt_keep gl hb; replace R := Lib.hid (R.out.keep hb)
    have hB0 := B.out.size
    replace B := Lib.hid (below_next B.out hb)
    have hs1 := hb.size
    have ST := Lib.hid hst.rd
    have SL := Lib.hid hst.len
    have n8 : n1 ≤ 64 := by have := cellsTo_len (W := W) (H := H) (hs := xs) (W * H).toNat; have := hst.len; have := HN.out; unfold cellsL at *; omega
    have n9 := hst.rd.2.1
    clear hst hb
    go_wp2
    go_loopw [6, 16] (fun v i wr => ∃ (k m c' : Nat) (A' : Option Addr), k ≤ n1 ∧ m ≤ 64 ∧ i = .int .i64 k ∧ v = .slice A' m c' ∧ OwnI 3 wr ws.heap.size A' m c' (((cellsL W H xs).take k).filter (deadB W H xs a b)) ∧ Below ws.heap.size ws wr) (fun _ i _ => n1 - (intOf i).toNat)
    case atStart => exact ⟨0, 0, 0, none, by omega, by omega, rfl, rfl, OwnI.none_ _ _ _, Below.refl _ _⟩
    case round =>
      obtain ⟨k, m, c', A', hk, hm64, rfl, rfl, hown, hbw⟩ := hrel
      by_cases hlt : k < n1
      · obtain ⟨bb, oo, x, rfl, hg1, hx, x0⟩ := ST.out.at_ hlt
        have HX := Lib.hid hx
        have hin := cellsL_mem.1 (List.mem_of_getElem? hx)
        have HXR := Lib.hid (range_of HN.out hin)
        replace x0 := cell_keep x0 hg1 hbw
        have b0 := cell_keep a0 ga hbw; have b1 := cell_keep a1 ga hbw; have b2 := cell_keep a2 ga hbw; have m0 := cell_keep l0 gl hbw; have m1 := cell_keep l1 gl hbw
        have gb := lt_keep ga hbw; have gm := lt_keep gl hbw
        have RR := Lib.hid (R.out.keep hbw)
        have hm1 : m ≤ k := by
          have h1 := hown.len
          have h2 := List.length_filter_le (deadB W H xs a b) ((cellsL W H xs).take k)
          have h3 : ((cellsL W H xs).take k).length ≤ k := by rw [List.length_take]; omega
          omega
        have HO := Lib.hid hown; have HB := Lib.hid hbw
        have hsw := hbw.size
        clear hx hin hown hbw
        go_wp2_with fail
        refine (boLeaps_any W H A n c xs a b x _ RR.out HG.out HXR.out).mono ?_
        rintro e wv ⟨A3, n3, c3, rfl, hl3, hb⟩
        have HL3 := Lib.hid hl3.len
        have hn3 : n3 ≤ 64 := by have := leapsL_len64 (W := W) (H := H) (xs := xs) (a := a) (b := b) (q := x) HN.out; have := hl3.len; omega
        clear hl3
        replace b0 := cell_keep b0 gb hb; replace b1 := cell_keep b1 gb hb; replace b2 := cell_keep b2 gb hb; replace m0 := cell_keep m0 gm hb; replace m1 := cell_keep m1 gm hb; replace gb := lt_keep gb hb; replace gm := lt_keep gm hb; replace RR := Lib.hid (RR.out.keep hb); replace HO := Lib.hid (HO.out.keep hb); replace HB := Lib.hid (HB.out.trans (hb.mono (by omega))); replace hsw := Nat.le_trans hsw hb.size; clear hb
        by_cases hd : (n3 : Int) ≤ 1
        · have HD := Lib.hid (show deadB W H xs a b x = true by simp only [deadB, decide_eq_true_eq]; rw [HL3.out]; omega)
          go_wp2_with (at_builtin; refine wpList_app1 rfl (.tmp 26) (.tmp 28) 22 3 rfl i0 Tryd.underlying22 HI.out HZ0.out HZ1.out HZ2.out ws.heap.size A' m c' _ x rfl HO.out rfl (by omega) hsw ?_; intro A2 c2 w2 hown2 hb2)
          have HO2 := Lib.hid hown2; have HB2 := Lib.hid (HB.out.trans hb2)
          clear hown2 hb2
          go_wp2
          go_roundw
          case rel => exact ⟨k + 1, m + 1, c2, A2, by omega, by omega, by go_num, rfl, by rw [List.take_add_one, HX.out, List.filter_append]; simp only [Option.toList, List.filter_cons, HD.out, if_true, List.filter_nil]; exact HO2.out, HB2.out⟩
          case measure => simp [intOf]; omega
        · have HD := Lib.hid (show deadB W H xs a b x = false by simp only [deadB, decide_eq_false_iff_not]; rw [HL3.out]; omega)
          go_wp2
          go_roundw
          case rel => exact ⟨k + 1, m, c', A', by omega, by omega, by go_num, rfl, by rw [List.take_add_one, HX.out, List.filter_append]; simp only [Option.toList, List.filter_cons, HD.out, List.filter_nil, Bool.false_eq_true, if_false, List.append_nil]; exact HO.out, HB.out⟩
          case measure => simp [intOf]; omega
      · have e : k = n1 := by omega
        subst e
        have e2 : (cellsL W H xs).take k = cellsL W H xs := List.take_of_length_le (by have := SL.out; omega)
        rw [e2] at hown
        have HO := Lib.hid hown; have HB := Lib.hid hbw
        clear hown hbw e2
        go_wp2
        go_ret2
        exact ⟨A', m, c', by rw [HTw.out]; rfl, by rw [show deadV W H xs a b = (cellsL W H xs).filter (deadB W H xs a b) by (rw [deadV, if_pos HTw.out, deadL])]; exact HO.out.lower (by omega), B.out.trans (HB.out.mono (by omega))⟩
  · have hv : twoV W H xs a b = false := by simpa using ht
    clear ht
    go_enter Tryd.func6, Tryd.ntmps6
    go_wp2_with fail
    refine (boTwo_any W H A n c xs a b _ ((ha.alloc _).alloc _)).mono ?_
    rw [show (goodB W H xs && leaperB a b) = false from hv]
    rintro e wv ⟨rfl, hb⟩
    have B := Lib.hid (below_box (below_box hb))
    clear hb
    go_wp2
    go_ret2
    have hz : deadV W H xs a b = [] := by rw [deadV, hv]; rfl
    exact ⟨none, 0, 0, by rw [hv]; rfl, by rw [hz]; exact OwnI.none_ _ _ _, B.out⟩
end Go.Proofs.YtmmfjmgjkbplpaaDoor
