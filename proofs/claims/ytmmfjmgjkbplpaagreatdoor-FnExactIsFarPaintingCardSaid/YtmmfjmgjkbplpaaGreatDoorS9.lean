/-
  Contracts: the cells to which a leaper leaps, and degrees, in the model.
-/
import Derived.Test.YtmmfjmgjkbplpaaGreatDoorS8
import Derived.Test.YtmmfjmgjkbplpaaGreatDoorB11
namespace Go.Proofs.YtmmfjmgjkbplpaaGreatDoor
open Go.RowKit

theorem filter_yes {f : Int → Bool} {l : List Int} {k : Nat} {x : Int} (hx : l[k]? = some x) (h : f x = true) : (l.take (k + 1)).filter f = (l.take k).filter f ++ [x] := by
  rw [List.take_add_one, hx, List.filter_append]; simp [h]
theorem filter_no {f : Int → Bool} {l : List Int} {k : Nat} {x : Int} (hx : l[k]? = some x) (h : f x = false) : (l.take (k + 1)).filter f = (l.take k).filter f := by
  rw [List.take_add_one, hx, List.filter_append]; simp [h]
theorem filter_len_le {f : Int → Bool} {l : List Int} {k : Nat} : ((l.take k).filter f).length ≤ k := Nat.le_trans (List.length_filter_le _ _) (by rw [List.length_take]; omega)
theorem cellsL_len64 {W H : Int} {xs : List Int} (hN : 1 ≤ W * H ∧ W * H ≤ 64) : (cellsL W H xs).length ≤ 64 := by
  have := cellsTo_len (W := W) (H := H) (hs := xs) (W * H).toNat; unfold cellsL; omega
theorem leapsL_len64 {W H a b q : Int} {xs : List Int} (hN : 1 ≤ W * H ∧ W * H ≤ 64) : (leapsL W H xs a b q).length ≤ 64 := Nat.le_trans (List.length_filter_le _ _) (cellsL_len64 hN)

set_option maxRecDepth 100000 in
set_option maxHeartbeats 2000000 in
theorem boLeaps_any (W H : Int) (A : Option Addr) (n c : Nat) (xs : List Int) (a b : Int) (q : Int) (w : World) (ha : Rd w A n xs) (hg : goodB W H xs = true) (hq : 0 ≤ q ∧ q ≤ 64) :
    Calls Tryz.prog 25 #[brd W H A n c, lpr a b, .int .i64 q] w fun e w' => ∃ A' n' c', e = .returned (.slice A' n' c') ∧ OwnI 3 w' w.heap.size A' n' c' (leapsL W H xs a b q) ∧ Below w.heap.size w w' := by
  have HQ := Lib.hid hq
  clear hq
  obtain ⟨hW, hH, _, _⟩ := goodB_iff.1 hg
  have HW := Lib.hid hW; have HN := Lib.hid (cells_le hW hH)
  have HG := Lib.hid hg
  obtain ⟨i0, hi, hz0, hz1, hz2⟩ := info_parts infoI
  have HI := Lib.hid hi; have HZ0 := Lib.hid hz0; have HZ1 := Lib.hid hz1; have HZ2 := Lib.hid hz2
  clear hW hH hg hi hz0 hz1 hz2
  obtain ⟨W2, hW2⟩ : ∃ W2, W2 = (w.alloc (.cells #[.int .i64 W, .int .i64 H, .slice A n c] 30)).alloc (.cells #[.int .i64 a, .int .i64 b] 32) := ⟨_, rfl⟩
  have a0 : W2.cell? ⟨w.heap.size, 0, none⟩ = some (.int .i64 W) := by rw [hW2]; go_simp
  have a1 : W2.cell? ⟨w.heap.size, 1, none⟩ = some (.int .i64 H) := by rw [hW2]; go_simp
  have a2 : W2.cell? ⟨w.heap.size, 2, none⟩ = some (.slice A n c) := by rw [hW2]; go_simp
  have l0 : W2.cell? ⟨w.heap.size + 1, 0, none⟩ = some (.int .i64 a) := by rw [hW2]; go_simp
  have l1 : W2.cell? ⟨w.heap.size + 1, 1, none⟩ = some (.int .i64 b) := by rw [hW2]; go_simp
  have hsz : w.heap.size + 2 ≤ W2.heap.size := by rw [hW2]; simp
  have B := Lib.hid (show Below w.heap.size w W2 by rw [hW2]; exact below_new (below_new (Below.refl _ _) _) _)
  have R := Lib.hid (ha.keep B.out)
  have ga : w.heap.size < W2.heap.size := by omega
  have gl : w.heap.size + 1 < W2.heap.size := by omega
  go_enter Tryz.func25, Tryz.ntmps25
  go_wp2_with fail
  rw [← hW2]
  clear hW2
  refine (boCells_any W H A n c xs _ R.out HN.out).mono ?_
  rintro e ws ⟨A1, n1, c1, rfl, hst, hb⟩
  replace a0 := cell_keep a0 ga hb; replace a1 := cell_keep a1 ga hb; replace a2 := cell_keep a2 ga hb; replace l0 := cell_keep l0 gl hb; replace l1 := cell_keep l1 gl hb; replace ga := lt_keep ga hb; replace gl := lt_keep gl hb; replace R := Lib.hid (R.out.keep hb)
  have hB0 := B.out.size
  replace B := Lib.hid (below_next B.out hb)
  have hs1 := hb.size
  have ST := Lib.hid hst.rd
  have SL := Lib.hid hst.len
  have n8 : n1 ≤ 64 := by have := cellsTo_len (W := W) (H := H) (hs := xs) (W * H).toNat; have := hst.len; have := HN.out; unfold cellsL at *; omega
  have n9 := hst.rd.2.1
  clear hst hb
  go_wp2
  go_loopw [7, 13] (fun v i wr => ∃ (k n' c' : Nat) (A' : Option Addr), k ≤ n1 ∧ i = .int .i64 k ∧ v = .slice A' n' c' ∧ OwnI 3 wr ws.heap.size A' n' c' (((cellsL W H xs).take k).filter (leapB W a b q)) ∧ Below ws.heap.size ws wr) (fun _ i _ => n1 - (intOf i).toNat)
  case atStart => exact ⟨0, 0, 0, none, by omega, rfl, rfl, OwnI.none_ _ _ _, Below.refl _ _⟩
  case round =>
    obtain ⟨k, n', c', A', hk, rfl, rfl, hown, hbw⟩ := hrel
    have hn' : n' ≤ 64 := by have := hown.len; have := filter_len_le (f := leapB W a b q) (l := cellsL W H xs) (k := k); omega
    by_cases hlt : k < n1
    · obtain ⟨bb, oo, x, rfl, hg1, hx, x0⟩ := ST.out.at_ hlt
      have HX := Lib.hid hx
      have hin := cellsL_mem.1 (List.mem_of_getElem? hx)
      have HIN := Lib.hid hin
      have HXR := Lib.hid (range_of HN.out hin)
      replace x0 := cell_keep x0 hg1 hbw
      have b0 := cell_keep a0 ga hbw; have b1 := cell_keep a1 ga hbw; have b2 := cell_keep a2 ga hbw; have m0 := cell_keep l0 gl hbw; have m1 := cell_keep l1 gl hbw
      have gb := lt_keep ga hbw; have gm := lt_keep gl hbw
      have RR := Lib.hid (R.out.keep hbw)
      have HO := Lib.hid hown; have HB := Lib.hid hbw
      have hsw := hbw.size
      clear hx hin hown hbw
      cases hs : leapB W a b q x with
      | true =>
        have HS := Lib.hid hs
        clear hs
        go_wp2_with fail
        refine (boIs_any W H A n c a b q x _ HW.out HQ.out HXR.out).mono ?_
        rw [HS.out]
        rintro e wv ⟨rfl, hb⟩
        replace b0 := cell_keep b0 gb hb; replace b1 := cell_keep b1 gb hb; replace b2 := cell_keep b2 gb hb; replace m0 := cell_keep m0 gm hb; replace m1 := cell_keep m1 gm hb; replace gb := lt_keep gb hb; replace gm := lt_keep gm hb; replace RR := Lib.hid (RR.out.keep hb); replace HO := Lib.hid (HO.out.keep hb); replace HB := Lib.hid (HB.out.trans (hb.mono (by omega))); replace hsw := Nat.le_trans hsw hb.size; clear hb
        go_wp2_with (at_builtin; refine wpList_app1 rfl (.tmp 22) (.tmp 24) 22 3 rfl i0 Tryz.underlying22 HI.out HZ0.out HZ1.out HZ2.out ws.heap.size A' n' c' (((cellsL W H xs).take k).filter (leapB W a b q)) x rfl HO.out rfl (by omega) hsw ?_; intro A2 c2 w2 hown2 hb2)
        have HO2 := Lib.hid hown2; have HB2 := Lib.hid (HB.out.trans hb2)
        clear hown2 hb2
        go_wp2
        go_roundw
        case rel => exact ⟨k + 1, n' + 1, c2, A2, by omega, by go_num, rfl, by rw [filter_yes HX.out HS.out]; exact HO2.out, HB2.out⟩
        case measure => simp [intOf]; omega
      | false =>
        have HS := Lib.hid hs
        clear hs
        go_wp2_with fail
        refine (boIs_any W H A n c a b q x _ HW.out HQ.out HXR.out).mono ?_
        rw [HS.out]
        rintro e wv ⟨rfl, hb⟩
        replace b0 := cell_keep b0 gb hb; replace b1 := cell_keep b1 gb hb; replace b2 := cell_keep b2 gb hb; replace m0 := cell_keep m0 gm hb; replace m1 := cell_keep m1 gm hb; replace gb := lt_keep gb hb; replace gm := lt_keep gm hb; replace RR := Lib.hid (RR.out.keep hb); replace HO := Lib.hid (HO.out.keep hb); replace HB := Lib.hid (HB.out.trans (hb.mono (by omega))); replace hsw := Nat.le_trans hsw hb.size; clear hb
        go_wp2
        go_roundw
        case rel => exact ⟨k + 1, n', c', A', by omega, by go_num, rfl, by rw [filter_no HX.out HS.out]; exact HO.out, HB.out⟩
        case measure => simp [intOf]; omega
    · have e2 : (cellsL W H xs).take k = cellsL W H xs := List.take_of_length_le (by have := SL.out; omega)
      rw [e2] at hown
      have HO := Lib.hid hown; have HB := Lib.hid hbw
      clear hown hbw e2
      go_wp2
      go_ret
      exact ⟨A', n', c', rfl, HO.out.lower (by omega), B.out.trans (HB.out.mono (by omega))⟩

def degL (W H : Int) (xs : List Int) (a b : Int) : List Int := (cellsL W H xs).map fun q => ((leapsL W H xs a b q).length : Int)

end Go.Proofs.YtmmfjmgjkbplpaaGreatDoor
