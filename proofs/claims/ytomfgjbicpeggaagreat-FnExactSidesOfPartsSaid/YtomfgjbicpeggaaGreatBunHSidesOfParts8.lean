/-
  Contracts: two colours by parts, in the model.
  Rows of words that a block holds: loaded and stored whole.
  Pure: the number of one bits of a word as bits.OnesCount64 counts them, and of a set of cells.
  Contracts: sets of cells as bits.
  Paintings: for each colour the cells that have it; colours of a board.
  Paintings by a colouring: plain facts; loads and stores of a painting in a drawn region.
-/
import Derived.Test.YtomfgjbicpeggaaGreatBunHSidesOfParts7
import Derived.Test.YtomfgjbicpeggaaGreatProg
import Derived.Test.YtomfgjbicpeggaaGreatBunHSidesOfParts1
import Derived.Deep.WholeRow
import Derived.Deep.MidRow
import Derived.Deep.Heap
import Derived.Maps.RangeWalk
import Derived.RangeFuncNested
import Derived.RangeFuncLeaves
import Derived.RangeFuncCalls
import Derived.Shelf.Abstract
import Derived.Shelf.RegionOpen
import Derived.WalkKit
import Derived.OwnWalkIn
import Derived.Test.YtomfgjbicpeggaaGreatBunHSidesOfParts2
import Derived.Laws.Bits64b
import Derived.Laws.Bits128
import Derived.Test.YtomfgjbicpeggaaGreatBunHSidesOfParts3
import Derived.BigRegionIn
import Derived.LoopIn
import Derived.Sort.QuietIn
import Derived.Deep.RegionWith
namespace Go.Proofs.YtomfgjbicpeggaaGreat
open Go.RowKit

set_option maxRecDepth 100000 in
set_option maxHeartbeats 4000000 in
theorem paTwo_any (W H : Int) (A : Option Addr) (n c : Nat) (xs : List Int) (a b : Int) (N : Nat) (w : World) (ha : Rd w A n xs) (hF : OnFacts W H xs a b N) :
    Calls Tryz.prog 16 #[brd W H A n c, lpr a b] w fun e w' => ∃ g, e = .returned (.tuple #[.slice (some ⟨g, 0, none⟩) N N, .bool (paIsB W H xs a b (twoL W H xs a b))]) ∧ OwnI 3 w' w.heap.size (some ⟨g, 0, none⟩) N N (twoL W H xs a b) ∧ Below w.heap.size w w' := by
  have hWH := hF.wh
  have HWH := Lib.hid hWH
  have hg := hF.g
  have HF := Lib.hid hF
  clear hF
  have hN64 : N ≤ 64 := by obtain ⟨h1, h2, _, _⟩ := goodB_iff.1 hg; have := cells_le h1 h2; omega
  have hN0 : (0 : Int) ≤ (N : Int) := by omega
  obtain ⟨hW, hH, _, _⟩ := goodB_iff.1 hg
  have HW := Lib.hid hW; have HN := Lib.hid (cells_le hW hH)
  have HG := Lib.hid hg
  obtain ⟨i0, hi, hz0, hz1, hz2⟩ := info_parts infoI
  have HI := Lib.hid hi; have HZ0 := Lib.hid hz0; have HZ1 := Lib.hid hz1; have HZ2 := Lib.hid hz2
  clear hW hH hg hi hz0 hz1 hz2
  obtain ⟨W2, hW2⟩ : ∃ W2, W2 = (w.alloc (.cells #[.int .i64 W, .int .i64 H, .slice A n c] 31)).alloc (.cells #[.int .i64 a, .int .i64 b] 33) := ⟨_, rfl⟩
  have a0 : W2.cell? ⟨w.heap.size, 0, none⟩ = some (.int .i64 W) := by rw [hW2]; go_simp
  have a1 : W2.cell? ⟨w.heap.size, 1, none⟩ = some (.int .i64 H) := by rw [hW2]; go_simp
  have a2 : W2.cell? ⟨w.heap.size, 2, none⟩ = some (.slice A n c) := by rw [hW2]; go_simp
  have l0 : W2.cell? ⟨w.heap.size + 1, 0, none⟩ = some (.int .i64 a) := by rw [hW2]; go_simp
  have l1 : W2.cell? ⟨w.heap.size + 1, 1, none⟩ = some (.int .i64 b) := by rw [hW2]; go_simp
  have hsz : w.heap.size + 2 ≤ W2.heap.size := by rw [hW2]; simp
  have B := Lib.hid (show Below w.heap.size w W2 by rw [hW2]; exact below_new (below_new (Below.refl _ _) _) _)
  have R := Lib.hid (ha.keep B.out)
  have ga : w.heap.size < W2.heap.size := by omega
  have gl : w.heap.size + 1 < W2.heap.size := by omega
  go_enter Tryz.func16, Tryz.ntmps16
  go_wp2_with (at_make; refine wpList_make_full _ rfl _ _ 22 rfl w.heap.size 3 i0 (.int .i64 0) 1 Tryz.underlying22 HI.out HZ0.out HZ1.out .i64 .i64 _ _ N rfl rfl rfl rfl (by rw [HZ2.out]; omega) (by unfold maxLen; omega) (by simp; omega) ?_; intro w1 hown1 hg1)
  rw [← hW2] at hown1 hg1
  have hW2s : W2.heap.size = w.heap.size + 2 := by rw [hW2]; simp
  have hO1 : OwnI 3 w1 w.heap.size (some ⟨w.heap.size + 1 + 1, 0, none⟩) N N (List.replicate N 0) := by
    unfold OwnI
    rw [show N * 1 = N from by omega, hW2s] at hown1
    have e : (madeCells (Value.cells (.int .i64 0)) N).toList = List.replicate N (.int .i64 0) := toList_madeCells_one (.int .i64 0) N
    rw [e] at hown1
    simpa using hown1
  obtain ⟨fb, hfb⟩ : ∃ fb, fb = w.heap.size + 1 + 1 := ⟨_, rfl⟩
  rw [← hfb] at hO1 ⊢
  have hb1 : Below W2.heap.size W2 w1 := below_of_grown hg1 (Nat.le_refl _) (by simp)
  have hfb1 : W2.heap.size ≤ fb := by omega
  have hfb2 : fb < w1.heap.size := by rcases hO1.some_ (k := 0) (by omega) with ⟨g9, h9, _, h8⟩; injection h9 with h9; injection h9 with h9; omega
  have FAR := Lib.hid hO1; have B1 := Lib.hid hb1
  have hlow : w.heap.size + 2 ≤ W2.heap.size := by omega
  have hs1z := hb1.size
  clear hW2 hfb hown1 hg1 hO1 hb1 hsz hW2s hWH
  replace a0 := cell_keep a0 ga B1.out; replace a1 := cell_keep a1 ga B1.out; replace a2 := cell_keep a2 ga B1.out; replace l0 := cell_keep l0 gl B1.out; replace l1 := cell_keep l1 gl B1.out
  replace ga := lt_keep ga B1.out; replace gl := lt_keep gl B1.out
  go_loopw [20] (fun i wr => ∃ k : Nat, k ≤ N ∧ i = .int .i64 k ∧ OwnI 3 wr w.heap.size (some ⟨fb, 0, none⟩) N N (List.replicate k (-1) ++ List.replicate (N - k) 0) ∧ w1.grownBy wr (some fb)) (fun i _ => N - (intOf i).toNat)
  case atStart => exact ⟨0, by omega, rfl, by simpa using FAR.out, grown_refl _ _⟩
  case round =>
    obtain ⟨k, hk, rfl, hown, hgw⟩ := hrel
    by_cases hlt : k < N
    · have hx : (List.replicate k (-1 : Int) ++ List.replicate (N - k) 0)[k]? = some 0 := by
        rw [List.getElem?_append_right (by simp), List.length_replicate, Nat.sub_self, List.getElem?_replicate, if_pos (by omega)]
      have c0 := hown.cell hx
      have f0 := hown.frozen k
      have hi0 : (0 : Int) ≤ (k : Int) := by omega
      have hi1 : (k : Int) < (N : Int) := by omega
      obtain ⟨o1, g1⟩ := hown.stored k (-1)
      rw [minus_setN hlt] at o1
      have O1 := Lib.hid o1; have G1 := Lib.hid (grown_next hgw g1)
      clear o1 g1 hgw hown hx
      go_wp2
      go_roundw
      case rel => exact ⟨k + 1, by omega, by go_num, O1.out, G1.out⟩
      case measure => simp [intOf]; omega
    · obtain rfl : N = k := by omega
      have hown2 : OwnI 3 wr w.heap.size (some ⟨fb, 0, none⟩) N N (List.replicate N (-1)) := by simpa using hown
      have HBW := Lib.hid (B.out.trans ((B1.out.trans (below_of_grown hgw (by omega) (fun g h => by injection h with h; omega))).mono B.out.size))
      have hszw := hgw.size
      replace a0 := hgw.cell a0 (by simp; omega); replace a1 := hgw.cell a1 (by simp; omega); replace a2 := hgw.cell a2 (by simp; omega); replace l0 := hgw.cell l0 (by simp; omega); replace l1 := hgw.cell l1 (by simp; omega)
      have OW := Lib.hid hown2
      replace ga : w.heap.size < wr.heap.size := by omega
      replace gl : w.heap.size + 1 < wr.heap.size := by omega
      have hfbr : fb < wr.heap.size := by omega
      have hf2 : w.heap.size + 2 ≤ fb := by omega
      clear hgw hown hown2 FAR B1 B hk hlt hfb1 hfb2 hlow hs1z hszw R
      go_wp2_with fail
      refine (boCells_any W H A n c xs _ (ha.keep HBW.out) HN.out).mono ?_
      rintro e ws ⟨A1, n1, c1, rfl, hst, hb⟩
      replace a0 := cell_keep a0 ga hb; replace a1 := cell_keep a1 ga hb; replace a2 := cell_keep a2 ga hb; replace l0 := cell_keep l0 gl hb; replace l1 := cell_keep l1 gl hb; replace ga := lt_keep ga hb; replace gl := lt_keep gl hb
      replace OW := Lib.hid (OW.out.keep hb)
      have hfbs := lt_keep hfbr hb
      have hA1 : Hid (0 < n1 → ∃ g, A1 = some ⟨g, 0, none⟩ ∧ wr.heap.size ≤ g) := Lib.hid (fun h => by obtain ⟨g, h1, h2, _⟩ := hst.some_ h; exact ⟨g, h1, h2⟩)
      replace HBW := Lib.hid (below_next HBW.out hb)
      have hBs := HBW.out.size
      have ST := Lib.hid hst.rd
      have SL := Lib.hid hst.len
      have n8 : n1 ≤ 64 := by have := cellsL_len64 (xs := xs) HN.out; have := hst.len; omega
      clear hst hb
      go_wp2
      go_loopw [30] (fun i wq => ∃ k : Nat, k ≤ n1 ∧ i = .int .i64 k ∧ OwnI 3 wq w.heap.size (some ⟨fb, 0, none⟩) N N (twoTo W H xs a b k) ∧ ws.grownBy wq (some fb)) (fun i _ => n1 - (intOf i).toNat)
      case atStart => exact ⟨0, by omega, rfl, by rw [(two_ok HF.out 0).eq]; exact OW.out, grown_refl _ _⟩
      case round =>
        clear OW
        obtain ⟨k, hk, rfl, hown, hgw⟩ := hrel
        rename_i w0
        have hsq := hgw.size
        have hBQ : Below w.heap.size w wr := HBW.out.trans (below_of_grown hgw hBs (fun g h => by injection h with h; omega))
        have HBQ := Lib.hid hBQ
        by_cases hlt : k < n1
        · obtain ⟨g1, rfl, hg1l⟩ := hA1.out (by omega)
          obtain ⟨bb, oo, x, e1, hg1, hx, x0⟩ := ST.out.at_ hlt
          obtain ⟨rfl, rfl⟩ : bb = g1 ∧ oo = 0 := by simp at e1; exact ⟨e1.1.symm, e1.2.symm⟩
          rw [Nat.zero_add] at x0
          have hin := cellsL_mem.1 (List.mem_of_getElem? hx)
          have hxr := (hasB_iff.1 hin).1
          rw [HF.out.wh] at hxr
          obtain ⟨xn, rfl⟩ : ∃ xn : Nat, x = (xn : Int) := ⟨x.toNat, by omega⟩
          have hxn : xn < N := by omega
          have hx0 : (0 : Int) ≤ (xn : Int) := by omega
          have hx1 : (xn : Int) < (N : Int) := by omega
          have HX := Lib.hid hx; have HXI := Lib.hid hin
          replace x0 := hgw.cell x0 (by simp; omega)
          have b0 := hgw.cell a0 (by simp; omega); have b1 := hgw.cell a1 (by simp; omega); have b2 := hgw.cell a2 (by simp; omega); have m0 := hgw.cell l0 (by simp; omega); have m1 := hgw.cell l1 (by simp; omega)
          have hlen := (two_ok HF.out k).len
          obtain ⟨v, hv⟩ : ∃ v, (twoTo W H xs a b k)[xn]? = some v := ⟨_, List.getElem?_eq_getElem (by omega)⟩
          have v0 := hown.cell hv
          have hvd : (twoTo W H xs a b k).getD xn (-1) = v := by rw [List.getD_eq_getElem?_getD, hv]; rfl
          have HVD := Lib.hid hvd; have HOWN := Lib.hid hown; have HGW := Lib.hid hgw
          have HNEXT := Lib.hid (twoTo_next (a := a) (b := b) hx)
          clear hx hin hxr hgw hBQ hown hlen hv hvd e1
          by_cases hv0 : 0 ≤ v
          · have eN : Hid (twoTo W H xs a b (k + 1) = twoTo W H xs a b k) := Lib.hid (by rw [HNEXT.out, twoStep, Int.toNat_natCast, HVD.out, if_pos hv0])
            clear HNEXT
            go_wp2
            go_roundw
            case rel => exact ⟨k + 1, by omega, by go_num, by rw [eN.out]; exact HOWN.out, HGW.out⟩
            case measure => simp [intOf]; omega
          · have eN : Hid (twoTo W H xs a b (k + 1) = layK (distL W H xs a b (xn : Int)) (twoTo W H xs a b k) N) := Lib.hid (by rw [HNEXT.out, twoStep, Int.toNat_natCast, HVD.out, if_neg hv0, show (W * H).toNat = N by have := HF.out.wh; omega])
            clear HNEXT
            go_wp2_with fail
            refine (faFrom_any W H A n c xs a b xn N _ (ha.keep HBQ.out) HF.out.g HF.out.wh hxn).mono ?_
            rintro e wv ⟨g, rfl, own, hb⟩
            have eD : farL (leapsL W H xs a b) N (xn : Int) = distL W H xs a b (xn : Int) := by rw [distL, show (W * H).toNat = N by have := HF.out.wh; omega]
            rw [eD] at own
            have hbd := Lib.hid (dist_bd HF.out HXI.out)
            obtain ⟨D, hD⟩ : ∃ D, D = distL W H xs a b (xn : Int) := ⟨_, rfl⟩
            rw [← hD] at own hbd eN
            have DLEN := Lib.hid own.len
            have hgl : wr.heap.size ≤ g := by obtain ⟨g9, h1, h3, h2⟩ := own.some_ (k := 0) (by omega); injection h1 with h1; injection h1 with h1; omega
            have hgf : g ≠ fb := by omega
            have hgv : g < wv.heap.size := by obtain ⟨g9, h1, _, h2⟩ := own.some_ (k := 0) (by omega); injection h1 with h1; injection h1 with h1; omega
            have FAR := Lib.hid own
            have OW := Lib.hid (HOWN.out.keep hb)
            have HGV := Lib.hid (grown_next HGW.out (grown_of_below hb (some fb)))
            obtain ⟨out0, hout0⟩ : ∃ o, o = twoTo W H xs a b k := ⟨_, rfl⟩
            rw [← hout0] at OW eN
            have ho := Lib.hid OW.out.len
            clear hb own eD hD HGW HOWN HVD hout0 x0 v0
            go_wp2
            go_loopw [44] (fun i wx => ∃ j : Nat, j ≤ N ∧ i = .int .i64 j ∧ OwnI 3 wx w.heap.size (some ⟨fb, 0, none⟩) N N (layK D out0 j) ∧ wv.grownBy wx (some fb)) (fun i _ => N - (intOf i).toNat)
            case atStart => exact ⟨0, by omega, rfl, OW.out, grown_refl _ _⟩
            case round =>
              clear OW
              obtain ⟨j, hj, rfl, hown, hgx⟩ := hrel
              have hsx := hgx.size
              by_cases hjl : j < N
              · obtain ⟨y, hy⟩ : ∃ y, D[j]? = some y := ⟨_, List.getElem?_eq_getElem (show j < D.length by have := DLEN.out; omega)⟩
                have y0 := hgx.cell (FAR.out.cell hy) (by simp; omega)
                have hyb := hbd.out y (List.mem_of_getElem? hy)
                have hyd : D.getD j (-1) = y := by rw [List.getD_eq_getElem?_getD, hy]; rfl
                have hj0 : (0 : Int) ≤ (j : Int) := by omega
                have hj1 : (j : Int) < (N : Int) := by omega
                have HGX := Lib.hid hgx
                by_cases hy0 : 0 ≤ y
                · obtain ⟨r, hr⟩ : ∃ r, r = y % 2 := ⟨_, rfl⟩
                  have hrt : Int.tmod y 2 = r := by rw [hr, Int.tmod_eq_emod_of_nonneg hy0]
                  have hl := layK_yes (D := D) (out := out0) (k := j) (by rw [hyd]; exact hy0)
                  rw [hyd, ← hr] at hl
                  obtain ⟨z, hz⟩ : ∃ z, (layK D out0 j)[j]? = some z := ⟨_, List.getElem?_eq_getElem (by rw [layK_len]; have := ho.out; omega)⟩
                  have c0 := hown.cell hz
                  have f0 := hown.frozen j
                  obtain ⟨o1, g1⟩ := hown.stored j r
                  rw [← hl] at o1
                  have O1 := Lib.hid o1; have G1 := Lib.hid (grown_next hgx g1)
                  have hr0 : 0 ≤ r ∧ r ≤ 1 := by omega
                  have hy1 : y ≤ 64 := hyb.2
                  clear o1 g1 hgx hown hy hyb hyd hl hz hr
                  go_wp2
                  go_roundw
                  case rel => exact ⟨j + 1, by omega, by go_num, O1.out, G1.out⟩
                  case measure => simp [intOf]; omega
                · have hl := layK_no (D := D) (out := out0) (k := j) (by rw [hyd]; exact hy0)
                  have O1 := Lib.hid hown
                  have HL := Lib.hid hl
                  clear hgx hown hy hyb hyd hl
                  go_wp2
                  go_roundw
                  case rel => exact ⟨j + 1, by omega, by go_num, by rw [HL.out]; exact O1.out, HGX.out⟩
                  case measure => simp [intOf]; omega
              · obtain rfl : j = N := by omega
                rw [← eN.out] at hown
                have OW2 := Lib.hid hown
                have G2 := Lib.hid (grown_next HGV.out hgx)
                clear hown hgx
                go_wp2
                go_roundw
                case rel => exact ⟨k + 1, by omega, by go_num, OW2.out, G2.out⟩
                case measure => simp [intOf]; omega
        · obtain rfl : k = n1 := by omega
          have eT : Hid (twoTo W H xs a b k = twoL W H xs a b) := Lib.hid (by rw [twoTo, List.take_of_length_le (by have := SL.out; omega)]; rfl)
          have b0 := hgw.cell a0 (by simp; omega); have b1 := hgw.cell a1 (by simp; omega); have b2 := hgw.cell a2 (by simp; omega); have m0 := hgw.cell l0 (by simp; omega); have m1 := hgw.cell l1 (by simp; omega)
          rw [eT.out] at hown
          have OWN := Lib.hid hown
          have hTL : ((twoL W H xs a b).length : Int) = W * H := by have := (two_parts HF.out).1; have := HF.out.wh; omega
          clear hgw hBQ hown
          go_wp2_with fail
          refine (paIs_any W H A n c xs a b (some ⟨fb, 0, none⟩) N N (twoL W H xs a b) _ (ha.keep HBQ.out) OWN.out.rd HF.out.g hTL).mono ?_
          rintro e wz ⟨rfl, hb⟩
          have OWZ := Lib.hid (OWN.out.keep hb)
          have HBZ := Lib.hid (below_next HBQ.out hb)
          clear hb hTL
          go_wp2
          go_ret2
          exact ⟨fb, rfl, OWZ.out, HBZ.out⟩
end Go.Proofs.YtomfgjbicpeggaaGreat

namespace Go.Proofs.YtomfgjbicpeggaaGreat
open Go.RowKit Go.Shelf
attribute [local go_sem] Oper.semAt_some

def words (L : List Nat) : List Value := L.map fun n : Nat => .int .u64 (n : Int)
theorem words_one (L : List Nat) : ∀ v ∈ words L, v.oneCell' = true := by
  intro v hv
  obtain ⟨n, _, rfl⟩ := List.mem_map.1 hv
  rfl
theorem grown_set (W : World) (g j : Nat) (v : Value) : W.grownBy (W.setCell ⟨g, j, none⟩ v) (some g) :=
  ⟨rfl, rfl, rfl, by rw [Deep.nblk_setCell]; exact Nat.le_refl _, fun k _ hne => Deep.blk_setCell_other W _ v k (fun e => hne (by rw [e]))⟩
theorem heap_set {W : World} {g j : Nat} {cs : Array Value} {t : TypeId} (v : Value) (h : W.heap[g]? = some (.cells cs t (0, 0))) : (W.setCell ⟨g, j, none⟩ v).heap[g]? = some (.cells (cs.setIfInBounds j v) t (0, 0)) := by
  simp [World.setCell, Array.getElem?_modify, h]
theorem load_row {P : Program} {w : World} {g : Nat} {cs : List Value} {t : TypeId} (h : w.heap[g]? = some (.cells cs.toArray t (0, 0))) (n : Nat) (hn : cs.length = n) :
    (loadCellsFrom ⟨g, 0, none⟩ 0 n #[]).run P w = .ok cs.toArray w := by
  subst hn
  have := run_loadCells_list (P := P) w ⟨g, 0, none⟩ cs (fun j v hv => by
    rw [Addr.add_mid, Nat.zero_add, cell_of_row _ _ j _ t (0, 0) h]
    simpa using hv)
  simpa [loadCells] using this
theorem store_row {P : Program} {w : World} {g : Nat} {c : Array Value} {cs : List Value} {t : TypeId} (h : w.heap[g]? = some (.cells c t (0, 0))) (hi : (P.info? t).map (·.size) = some cs.length) (ho : c.size = cs.length) (h1 : ∀ v ∈ cs, v.oneCell' = true) :
    (storeCells ⟨g, 0, none⟩ cs 0).run P w = .ok () (w.setRow g cs.toArray) := by
  have := run_storeVar_row (P := P) w g t t c cs.toArray h (by simpa using hi) (by simpa using ho) (all_oneCell_toArray h1)
  cases hq : P.info? t with
  | none => simp [hq] at hi
  | some i =>
    have hs : cs.length = i.size := by simp [hq] at hi; omega
    simpa [storeVar, sizeOf, typeInfo, hq, Value.cells, hs] using this
theorem heap_setRow {W : World} {g : Nat} {cs c' : Array Value} {t : TypeId} (h : W.heap[g]? = some (.cells cs t (0, 0))) : (W.setRow g c').heap[g]? = some (.cells c' t (0, 0)) := by
  simp [World.setRow, Array.getElem?_modify, h]
theorem grown_setRow (W : World) (g : Nat) (c' : Array Value) : W.grownBy (W.setRow g c') (some g) :=
  ⟨rfl, rfl, rfl, by simp [World.setRow], fun k _ hne => by
    have : ¬ g = k := fun e => hne (by rw [e])
    simp [World.setRow, Array.getElem?_modify, this]⟩

theorem wpIn_load_run {F : Fence} {n : Nat} {P : Program} {op : Oper} {a : Act} {w : World} {K : Act → World → Prop} {Q : Exit → Act → World → Prop} (ty : TypeId) (x : Operand) (p v : Value) (ho : op.op = .load ty x)
    (hx : a.eval x = p) (hr : (Instr.loadAt ty p).run P w = .ok v w) (h : K (a.put op.dst v) w) : op.wpIn F n P a w K Q := by
  refine ⟨fun f hf => (by simp [Oper.about, ho] at hf), ?_⟩
  rw [Oper.semAt_plain F _ _ (fun c => by rw [ho]; simp)]
  unfold execOp
  simp only [ho, hx, Sem.run_bind, hr, Sem.run_pure, Result.andThen_ok]
  exact h
theorem wpIn_store_run {F : Fence} {n : Nat} {P : Program} {op : Oper} {a : Act} {w w' : World} {K : Act → World → Prop} {Q : Exit → Act → World → Prop} (ty : TypeId) (x y : Operand) (p v : Value) (ho : op.op = .store ty x y)
    (hx : a.eval x = p) (hy : a.eval y = v) (hr : (Instr.storeAt ty p v).run P w = .ok () w') (h : K (a.put op.dst undef) w') : op.wpIn F n P a w K Q := by
  refine ⟨fun f hf => (by simp [Oper.about, ho] at hf), ?_⟩
  rw [Oper.semAt_plain F _ _ (fun c => by rw [ho]; simp)]
  unfold execOp
  simp only [ho, hx, hy, Sem.run_bind, hr, Sem.run_pure, Result.andThen_ok]
  exact h


end Go.Proofs.YtomfgjbicpeggaaGreat

namespace Go.Proofs.YtomfgjbicpeggaaGreat

/-- The number of one bits among the lowest n. -/
def popN : Nat → Nat → Nat
  | 0, _ => 0
  | n + 1, x => x % 2 + popN n (x / 2)

theorem popN_append : ∀ (a b x : Nat), popN (a + b) x = popN a (x % 2 ^ a) + popN b (x / 2 ^ a)
  | 0, b, x => by simp [popN]
  | a + 1, b, x => by
    rw [show a + 1 + b = (a + b) + 1 by omega]
    simp only [popN]
    rw [popN_append a b (x / 2)]
    have e1 : x % 2 ^ (a + 1) % 2 = x % 2 := by
      rw [Nat.pow_succ, Nat.mul_comm]
      rw [Nat.mod_mul_right_mod]
    have e2 : x % 2 ^ (a + 1) / 2 = x / 2 % 2 ^ a := by
      rw [Nat.pow_succ, Nat.mul_comm, Nat.mod_mul_right_div_self]
    have e3 : x / 2 / 2 ^ a = x / 2 ^ (a + 1) := by
      rw [Nat.div_div_eq_div_mul, Nat.pow_succ, Nat.mul_comm]
    rw [e1, e2, e3]; omega

theorem and_split (q r m c : Nat) (hr : r < 256) (hc : c < 256) : (256 * q + r) &&& (256 * m + c) = 256 * (q &&& m) + (r &&& c) := by
  have h1 := Nat.and_div_two_pow (a := 256 * q + r) (b := 256 * m + c) (n := 8)
  have h2 := Nat.and_mod_two_pow (a := 256 * q + r) (b := 256 * m + c) (n := 8)
  have e1 : (256 * q + r) / 2 ^ 8 = q := by omega
  have e2 : (256 * m + c) / 2 ^ 8 = m := by omega
  have e3 : (256 * q + r) % 2 ^ 8 = r := by omega
  have e4 : (256 * m + c) % 2 ^ 8 = c := by omega
  rw [e1, e2] at h1; rw [e3, e4] at h2
  omega

theorem shr_split (k q r m c : Nat) (hk : k ≤ 8) (hr : r < 256) (hc : c < 2 ^ (8 - k)) : ((256 * q + r) / 2 ^ k) &&& (256 * m + c) = 256 * ((q / 2 ^ k) &&& m) + ((r / 2 ^ k) &&& c) := by
  have hp : 2 ^ k * 2 ^ (8 - k) = 256 := by rw [← Nat.pow_add, show k + (8 - k) = 8 by omega]
  have hc8 : c < 256 := Nat.lt_of_lt_of_le hc (by rw [← hp]; exact Nat.le_mul_of_pos_left _ (Nat.two_pow_pos k))
  have hX : (256 * q + r) / 2 ^ k = 256 * (q / 2 ^ k) + ((256 * q + r) / 2 ^ k) % 256 := by
    have h1 : (256 * q + r) / 2 ^ k / 256 = q / 2 ^ k := by
      have e0 : (256 * q + r) / 256 = q := by omega
      rw [Nat.div_div_eq_div_mul, Nat.mul_comm (2 ^ k), ← Nat.div_div_eq_div_mul, e0]
    have := Nat.div_add_mod ((256 * q + r) / 2 ^ k) 256
    rw [h1] at this; omega
  rw [hX, and_split _ _ _ _ (Nat.mod_lt _ (by decide)) hc8]
  congr 1
  -- the low byte behind the mask
  have hz : ∀ y, y &&& c = (y % 2 ^ (8 - k)) &&& c := by
    intro y
    have h2 := Nat.and_mod_two_pow (a := y) (b := c) (n := 8 - k)
    rw [Nat.mod_eq_of_lt hc, Nat.mod_eq_of_lt (Nat.lt_of_le_of_lt Nat.and_le_right hc)] at h2
    exact h2
  rw [hz ((256 * q + r) / 2 ^ k % 256)]
  have e5 : (256 * q + r) / 2 ^ k % 256 % 2 ^ (8 - k) = r / 2 ^ k := by
    rw [Nat.mod_mod_of_dvd _ ⟨2 ^ k, by rw [Nat.mul_comm, hp]⟩]
    rw [← Nat.mod_mul_right_div_self, hp]
    congr 1; omega
  rw [e5]

/-- A mask of n bytes. -/
def maskN (c : Nat) : Nat → Nat
  | 0 => 0
  | n + 1 => 256 * maskN c n + c

def sw1 (n x : Nat) : Nat := ((x / 2) &&& maskN 85 n) + (x &&& maskN 85 n)
def sw2 (n x : Nat) : Nat := ((x / 4) &&& maskN 51 n) + (x &&& maskN 51 n)
def sw3 (n x : Nat) : Nat := ((x / 16) + x) &&& maskN 15 n
def b1 (r : Nat) : Nat := ((r / 2) &&& 85) + (r &&& 85)
def b2 (r : Nat) : Nat := ((r / 4) &&& 51) + (r &&& 51)

theorem sw1_step (n q r : Nat) (hr : r < 256) : sw1 (n + 1) (256 * q + r) = 256 * sw1 n q + b1 r := by
  have hm : maskN 85 (n + 1) = 256 * maskN 85 n + 85 := rfl
  unfold sw1 b1
  rw [hm]
  have h1 := shr_split 1 q r (maskN 85 n) 85 (by decide) hr (by decide)
  have h2 := and_split q r (maskN 85 n) 85 hr (by decide)
  simp only [Nat.pow_one] at h1
  rw [h1, h2]; omega

theorem sw2_step (n q r : Nat) (hr : r < 256) : sw2 (n + 1) (256 * q + r) = 256 * sw2 n q + b2 r := by
  have hm : maskN 51 (n + 1) = 256 * maskN 51 n + 51 := rfl
  unfold sw2 b2
  rw [hm]
  have h1 := shr_split 2 q r (maskN 51 n) 51 (by decide) hr (by decide)
  have h2 := and_split q r (maskN 51 n) 51 hr (by decide)
  simp only [show (2:Nat) ^ 2 = 4 by decide] at h1
  rw [h1, h2]; omega

theorem and15 (x : Nat) : x &&& 15 = x % 16 := Nat.and_two_pow_sub_one_eq_mod x 4

theorem sw3_step (n q r : Nat) (hr : r < 256) (h0 : r % 16 ≤ 4) (h1 : r / 16 ≤ 4) (h2 : q % 16 ≤ 4) : sw3 (n + 1) (256 * q + r) = 256 * sw3 n q + (r / 16 + r % 16) := by
  have hm : maskN 15 (n + 1) = 256 * maskN 15 n + 15 := rfl
  unfold sw3
  rw [hm]
  have e : (256 * q + r) / 16 + (256 * q + r) = 256 * (q / 16 + q) + (16 * (q % 16 + r / 16) + (r / 16 + r % 16)) := by omega
  rw [e, and_split _ _ _ _ (by omega) (by decide), and15]
  congr 1
  omega

theorem byte_fact : ∀ r : Fin 256, b1 r.val < 256 ∧ b2 (b1 r.val) % 16 ≤ 4 ∧ b2 (b1 r.val) / 16 ≤ 4 ∧ b2 (b1 r.val) / 16 + b2 (b1 r.val) % 16 = popN 8 r.val := by decide +kernel

/-- The three steps, byte by byte. -/
theorem sw_step (n q r : Nat) (hr : r < 256) (hq : sw2 n (sw1 n q) % 16 ≤ 4) :
    sw2 (n + 1) (sw1 (n + 1) (256 * q + r)) % 16 ≤ 4 ∧ sw3 (n + 1) (sw2 (n + 1) (sw1 (n + 1) (256 * q + r))) = 256 * sw3 n (sw2 n (sw1 n q)) + popN 8 r := by
  obtain ⟨f1, f2, f3, f4⟩ := byte_fact ⟨r, hr⟩
  simp only at f1 f2 f3 f4
  rw [sw1_step n q r hr, sw2_step n _ _ f1]
  refine ⟨by omega, ?_⟩
  rw [sw3_step n _ _ (by omega) f2 f3 hq, f4]

theorem popN_le : ∀ n x, popN n x ≤ n
  | 0, _ => by simp [popN]
  | n + 1, x => by simp only [popN]; have := popN_le n (x / 2); omega

/-- All bytes. -/
def bytesOf : Nat → Nat → Nat
  | 0, _ => 0
  | n + 1, x => 256 * bytesOf n (x / 256) + popN 8 (x % 256)

theorem bytesOf_zero (x : Nat) : bytesOf 0 x = 0 := rfl
theorem bytesOf_succ (n x : Nat) : bytesOf (n + 1) x = 256 * bytesOf n (x / 256) + popN 8 (x % 256) := rfl

theorem sw_all : ∀ n x, x < 256 ^ n → sw2 n (sw1 n x) % 16 ≤ 4 ∧ sw3 n (sw2 n (sw1 n x)) = bytesOf n x
  | 0, x, h => by
    have : x = 0 := by simpa using h
    subst this; decide
  | n + 1, x, h => by
    have hx : x = 256 * (x / 256) + x % 256 := by omega
    obtain ⟨i1, i2⟩ := sw_all n (x / 256) (by rw [Nat.pow_succ] at h; exact Nat.div_lt_of_lt_mul (by omega))
    obtain ⟨j1, j2⟩ := sw_step n (x / 256) (x % 256) (by omega) i1
    rw [← hx] at j1 j2
    exact ⟨j1, by rw [j2, i2, bytesOf]⟩

theorem popN_bytes (n x : Nat) (k : Nat) (h : n = 8 + k) : popN n x = popN 8 (x % 256) + popN k (x / 256) := by
  subst h; exact popN_append 8 k x

theorem div_of_split (M a q X : Nat) (e : X = a + M * q) (h : a < M) : X / M = q := by
  rw [e, Nat.add_mul_div_left _ _ (by omega), Nat.div_eq_of_lt h]; omega

theorem swar_sum (B0 B1 B2 B3 B4 B5 B6 B7 x x1 x2 x3 : Nat) (h0 : B0 ≤ 8) (h1 : B1 ≤ 8) (h2 : B2 ≤ 8) (h3 : B3 ≤ 8) (h4 : B4 ≤ 8) (h5 : B5 ≤ 8) (h6 : B6 ≤ 8) (h7 : B7 ≤ 8)
    (e : x = B0 + 256 * (B1 + 256 * (B2 + 256 * (B3 + 256 * (B4 + 256 * (B5 + 256 * (B6 + 256 * B7)))))))
    (e1 : x1 = x + x / 256) (e2 : x2 = x1 + x1 / 65536) (e3 : x3 = x2 + x2 / 4294967296) :
    x3 % 128 = B0 + B1 + B2 + B3 + B4 + B5 + B6 + B7 ∧ x3 < 9223372036854775808 := by
  have d1 := div_of_split 256 B0 _ x e (by omega)
  rw [d1] at e1
  have d2 := div_of_split 65536 ((B0 + B1) + 256 * (B1 + B2)) ((B2 + B3) + 256 * ((B3 + B4) + 256 * ((B4 + B5) + 256 * ((B5 + B6) + 256 * ((B6 + B7) + 256 * B7))))) x1 (by omega) (by omega)
  rw [d2] at e2
  have d3 := div_of_split 4294967296 ((B0 + B1 + (B2 + B3)) + 256 * ((B1 + B2 + (B3 + B4)) + 256 * ((B2 + B3 + (B4 + B5)) + 256 * (B3 + B4 + (B5 + B6))))) ((B4 + B5 + (B6 + B7)) + 256 * ((B5 + B6 + B7) + 256 * ((B6 + B7) + 256 * B7))) x2 (by omega) (by omega)
  rw [d3] at e3
  clear d1 d2 d3
  have f : x3 = (B0 + B1 + B2 + B3 + B4 + B5 + B6 + B7) + 256 * ((B1 + B2 + (B3 + B4) + (B5 + B6 + B7)) + 256 * ((B2 + B3 + (B4 + B5) + (B6 + B7)) + 256 * ((B3 + B4 + (B5 + B6) + B7) + 256 * ((B4 + B5 + (B6 + B7)) + 256 * ((B5 + B6 + B7) + 256 * ((B6 + B7) + 256 * B7)))))) := by omega
  clear e e1 e2 e3
  subst f
  constructor
  · rw [Nat.add_mod, Nat.mod_eq_of_lt (b := 128) (a := B0 + B1 + B2 + B3 + B4 + B5 + B6 + B7) (by omega), show (256 : Nat) = 128 * 2 by rfl, Nat.mul_assoc 128 2, Nat.mul_mod_right, Nat.add_zero, Nat.mod_eq_of_lt (by omega)]
  · omega

/-- Go's text of bits.OnesCount64. -/
theorem onesCount64 (x y1 y2 y3 x1 x2 x3 : Nat) (hx : x < 18446744073709551616)
    (e1 : y1 = ((x / 2) &&& 6148914691236517205) + (x &&& 6148914691236517205))
    (e2 : y2 = ((y1 / 4) &&& 3689348814741910323) + (y1 &&& 3689348814741910323))
    (e3 : y3 = ((y2 / 16) + y2) &&& 1085102592571150095)
    (f1 : x1 = y3 + y3 / 256) (f2 : x2 = x1 + x1 / 65536) (f3 : x3 = x2 + x2 / 4294967296) :
    x3 % 128 = popN 64 x ∧ x3 < 9223372036854775808 := by
  have m0 : maskN 85 8 = 6148914691236517205 := by decide
  have m1 : maskN 51 8 = 3689348814741910323 := by decide
  have m2 : maskN 15 8 = 1085102592571150095 := by decide
  have hy : y3 = bytesOf 8 x := by
    have := (sw_all 8 x (by omega)).2
    rw [← this, e3, e2, e1]
    unfold sw3 sw2 sw1
    rw [m0, m1, m2]
  have hp : popN 64 x = popN 8 (x % 256) + (popN 8 (x / 256 % 256) + (popN 8 (x / 256 / 256 % 256) + (popN 8 (x / 256 / 256 / 256 % 256) + (popN 8 (x / 256 / 256 / 256 / 256 % 256) + (popN 8 (x / 256 / 256 / 256 / 256 / 256 % 256) + (popN 8 (x / 256 / 256 / 256 / 256 / 256 / 256 % 256) + (popN 8 (x / 256 / 256 / 256 / 256 / 256 / 256 / 256 % 256)))))))) := by
    rw [popN_bytes 64 x 56 rfl, popN_bytes 56 _ 48 rfl, popN_bytes 48 _ 40 rfl, popN_bytes 40 _ 32 rfl, popN_bytes 32 _ 24 rfl, popN_bytes 24 _ 16 rfl, popN_bytes 16 _ 8 rfl]
    rw [popN_bytes 8 (x / 256 / 256 / 256 / 256 / 256 / 256 / 256) 0 rfl]; exact congrArg _ (congrArg _ (congrArg _ (congrArg _ (congrArg _ (congrArg _ (congrArg _ (Nat.add_zero _)))))))
  have l := fun r => popN_le 8 r
  rw [hp]
  have hb : bytesOf 8 x = popN 8 (x % 256) + 256 * (popN 8 (x / 256 % 256) + 256 * (popN 8 (x / 256 / 256 % 256) + 256 * (popN 8 (x / 256 / 256 / 256 % 256) + 256 * (popN 8 (x / 256 / 256 / 256 / 256 % 256) + 256 * (popN 8 (x / 256 / 256 / 256 / 256 / 256 % 256) + 256 * (popN 8 (x / 256 / 256 / 256 / 256 / 256 / 256 % 256) + 256 * popN 8 (x / 256 / 256 / 256 / 256 / 256 / 256 / 256 % 256))))))) := by
    rw [bytesOf_succ 7, bytesOf_succ 6, bytesOf_succ 5, bytesOf_succ 4, bytesOf_succ 3, bytesOf_succ 2, bytesOf_succ 1, bytesOf_succ 0, bytesOf_zero]
    simp only [Nat.mul_zero, Nat.zero_add, Nat.add_comm]
  rw [hb] at hy
  have hl := swar_sum _ _ _ _ _ _ _ _ y3 x1 x2 x3 (l (x % 256)) (l (x / 256 % 256)) (l (x / 256 / 256 % 256)) (l (x / 256 / 256 / 256 % 256)) (l (x / 256 / 256 / 256 / 256 % 256)) (l (x / 256 / 256 / 256 / 256 / 256 % 256)) (l (x / 256 / 256 / 256 / 256 / 256 / 256 % 256)) (l (x / 256 / 256 / 256 / 256 / 256 / 256 / 256 % 256)) hy f1 f2 f3
  refine ⟨?_, hl.2⟩
  rw [hl.1]
  simp only [Nat.add_assoc]

theorem popN_or : ∀ (n x c : Nat), c < n → popN n (x ||| 2 ^ c) = popN n x + if x.testBit c then 0 else 1
  | 0, _, _, h => by omega
  | n + 1, x, 0, _ => by
    simp only [popN, Nat.pow_zero]
    have e1 : (x ||| 1) % 2 = 1 := by
      have h := Nat.or_mod_two_pow (a := x) (b := 1) (n := 1)
      rcases Nat.mod_two_eq_zero_or_one x with h0 | h0
      · rw [Nat.pow_one, h0] at h; exact h
      · rw [Nat.pow_one, h0] at h; exact h
    have e2 : (x ||| 1) / 2 = x / 2 := by
      have := Nat.or_div_two_pow (a := x) (b := 1) (n := 1)
      simpa using this
    rw [e1, e2, Nat.testBit_zero]
    by_cases h : x % 2 = 1
    · simp [h]
    · have : x % 2 = 0 := by omega
      simp [this]; omega
  | n + 1, x, c + 1, h => by
    simp only [popN]
    have e1 : (x ||| 2 ^ (c + 1)) % 2 = x % 2 := by
      have h := Nat.or_mod_two_pow (a := x) (b := 2 ^ (c + 1)) (n := 1)
      have hz : 2 ^ (c + 1) % 2 = 0 := by rw [Nat.pow_succ]; omega
      simpa [hz] using h
    have e2 : (x ||| 2 ^ (c + 1)) / 2 = x / 2 ||| 2 ^ c := by
      have h := Nat.or_div_two_pow (a := x) (b := 2 ^ (c + 1)) (n := 1)
      have hz : 2 ^ (c + 1) / 2 = 2 ^ c := by rw [Nat.pow_succ]; omega
      simpa [hz] using h
    rw [e1, e2, popN_or n (x / 2) c (by omega), Nat.testBit_succ]
    omega

/-- The set of a list of cells. -/
def setBits (xs : List Nat) : Nat := xs.foldl (fun s c => s ||| 2 ^ c) 0

theorem setBits_snoc (xs : List Nat) (c : Nat) : setBits (xs ++ [c]) = setBits xs ||| 2 ^ c := by
  simp [setBits, List.foldl_append]

theorem setBits_test (c : Nat) : ∀ (n : Nat) (xs : List Nat), xs.length = n → ((setBits xs).testBit c = true ↔ c ∈ xs)
  | 0, xs, h => by
    have : xs = [] := List.eq_nil_of_length_eq_zero h
    subst this; simp [setBits]
  | n + 1, xs, h => by
    obtain ⟨ys, y, rfl⟩ : ∃ ys y, xs = ys ++ [y] := ⟨xs.dropLast, xs.getLast (by intro e; simp [e] at h), (List.dropLast_concat_getLast _).symm⟩
    rw [setBits_snoc, Nat.testBit_or, Bool.or_eq_true, setBits_test c n ys (by simpa using h), Nat.testBit_two_pow]
    simp [eq_comm]

theorem setBits_lt (xs : List Nat) (h : ∀ c ∈ xs, c < 64) : setBits xs < 18446744073709551616 := by
  apply Nat.lt_pow_two_of_testBit (n := 64)
  intro i hi
  by_cases hm : (setBits xs).testBit i = true
  · have := (setBits_test i _ xs rfl).1 hm
    have := h i this; omega
  · simpa using hm

/-- A list has a bit for each of its cells just where none stands in it twice. -/
theorem popN_set : ∀ (n : Nat) (xs : List Nat), xs.length = n → (∀ c ∈ xs, c < 64) → popN 64 (setBits xs) ≤ xs.length ∧ (popN 64 (setBits xs) = xs.length ↔ xs.Nodup)
  | 0, xs, h, _ => by
    have : xs = [] := List.eq_nil_of_length_eq_zero h
    subst this; simp [setBits]; decide
  | n + 1, xs, h, hc => by
    obtain ⟨ys, y, rfl⟩ : ∃ ys y, xs = ys ++ [y] := ⟨xs.dropLast, xs.getLast (by intro e; simp [e] at h), (List.dropLast_concat_getLast _).symm⟩
    obtain ⟨i1, i2⟩ := popN_set n ys (by simpa using h) (fun c hm => hc c (by simp [hm]))
    rw [setBits_snoc, popN_or 64 _ y (hc y (by simp))]
    have ht := setBits_test y _ ys rfl
    have hn : (ys ++ [y]).Nodup ↔ ys.Nodup ∧ y ∉ ys := by
      rw [List.nodup_append]
      simp
      intro _
      constructor
      · intro h hm; exact h y hm rfl
      · intro h a ha e; exact h (e ▸ ha)
    rw [hn]
    by_cases hm : (setBits ys).testBit y = true
    · have := ht.1 hm
      simp [hm]
      constructor
      · omega
      · constructor
        · intro h; omega
        · intro h; exact absurd this h.2
    · have hm' : y ∉ ys := fun h => hm (ht.2 h)
      simp [hm]
      constructor
      · omega
      · rw [i2]; constructor
        · intro h; exact ⟨h, hm'⟩
        · intro h; exact h.1
end Go.Proofs.YtomfgjbicpeggaaGreat

namespace Go.Proofs.YtomfgjbicpeggaaGreat
open Go.RowKit

theorem and_nat (a b : Nat) (v : Int) (ha : a < 18446744073709551616) (hb : b < 18446744073709551616) (hv : v = (a : Int)) : bits .and .u64 v (b : Int) = ((a &&& b : Nat) : Int) := by
  rw [hv]; exact bits_and_u64_nat a b ha hb
theorem wrap_nat (a : Nat) (v : Int) (ha : a < 18446744073709551616) (hv : v = (a : Int)) : IntKind.u64.wrap v = (a : Int) := by
  rw [IntKind.wrap_u64, hv]; omega

set_option maxRecDepth 100000 in
set_option maxHeartbeats 1000000 in
theorem onesCount_any (x : Nat) (hx : x < 18446744073709551616) (w : World) :
    Calls Tryz.prog 41 #[.int .u64 (x : Int)] w fun e w' => e = .returned (.int .i64 (popN 64 x : Int)) ∧ w = w' := by
  obtain ⟨y1, e1⟩ : ∃ y, y = ((x / 2) &&& 6148914691236517205) + (x &&& 6148914691236517205) := ⟨_, rfl⟩
  obtain ⟨y2, e2⟩ : ∃ y, y = ((y1 / 4) &&& 3689348814741910323) + (y1 &&& 3689348814741910323) := ⟨_, rfl⟩
  obtain ⟨y3, e3⟩ : ∃ y, y = ((y2 / 16) + y2) &&& 1085102592571150095 := ⟨_, rfl⟩
  obtain ⟨x1, f1⟩ : ∃ y, y = y3 + y3 / 256 := ⟨_, rfl⟩
  obtain ⟨x2, f2⟩ : ∃ y, y = x1 + x1 / 65536 := ⟨_, rfl⟩
  obtain ⟨x3, f3⟩ : ∃ y, y = x2 + x2 / 4294967296 := ⟨_, rfl⟩
  obtain ⟨hr, hx3⟩ := onesCount64 x y1 y2 y3 x1 x2 x3 hx e1 e2 e3 f1 f2 f3
  have l1 : (x / 2) &&& 6148914691236517205 ≤ 6148914691236517205 := Nat.and_le_right
  have l2 : x &&& 6148914691236517205 ≤ 6148914691236517205 := Nat.and_le_right
  have l3 : (y1 / 4) &&& 3689348814741910323 ≤ 3689348814741910323 := Nat.and_le_right
  have l4 : y1 &&& 3689348814741910323 ≤ 3689348814741910323 := Nat.and_le_right
  have l5 : ((y2 / 16) + y2) &&& 1085102592571150095 ≤ 1085102592571150095 := Nat.and_le_right
  have hy1 : y1 ≤ 12297829382473034410 := by omega
  have hy2 : y2 ≤ 7378697629483820646 := by omega
  have hy3 : y3 ≤ 1085102592571150095 := by omega
  have hx1 : x1 ≤ 2085102592571150095 := by omega
  have hx2 : x2 ≤ 4085102592571150095 := by omega
  have k1 : IntKind.u64.wrap (bits BinOp.and IntKind.u64 ((x : Int) / 2) 6148914691236517205 + bits BinOp.and IntKind.u64 (x : Int) 6148914691236517205) = (y1 : Int) := by
    rw [show (6148914691236517205 : Int) = ((6148914691236517205 : Nat) : Int) from rfl, and_nat (x / 2) _ _ (by omega) (by omega) (by omega), and_nat x _ _ hx (by omega) rfl]
    exact wrap_nat _ _ (by omega) (by rw [e1]; omega)
  have k2 : IntKind.u64.wrap (bits BinOp.and IntKind.u64 ((y1 : Int) / 4) 3689348814741910323 + bits BinOp.and IntKind.u64 (y1 : Int) 3689348814741910323) = (y2 : Int) := by
    rw [show (3689348814741910323 : Int) = ((3689348814741910323 : Nat) : Int) from rfl, and_nat (y1 / 4) _ _ (by omega) (by omega) (by omega), and_nat y1 _ _ (by omega) (by omega) rfl]
    exact wrap_nat _ _ (by omega) (by rw [e2]; omega)
  have k3 : bits BinOp.and IntKind.u64 (IntKind.u64.wrap ((y2 : Int) / 16 + (y2 : Int))) 1085102592571150095 = (y3 : Int) := by
    rw [wrap_nat (y2 / 16 + y2) _ (by omega) (by omega), show (1085102592571150095 : Int) = ((1085102592571150095 : Nat) : Int) from rfl, and_nat (y2 / 16 + y2) _ _ (by omega) (by omega) rfl, e3]
  have k4 : IntKind.u64.wrap ((y3 : Int) + (y3 : Int) / 256) = (x1 : Int) := wrap_nat _ _ (by omega) (by omega)
  have k5 : IntKind.u64.wrap ((x1 : Int) + (x1 : Int) / 65536) = (x2 : Int) := wrap_nat _ _ (by omega) (by omega)
  have k6 : IntKind.u64.wrap ((x2 : Int) + (x2 : Int) / 4294967296) = (x3 : Int) := wrap_nat _ _ (by omega) (by omega)
  have k7 : bits BinOp.and IntKind.i64 (x3 : Int) 127 = (popN 64 x : Int) := by rw [i64_and127, ← hr]; omega
  clear hr e1 e2 e3 f1 f2 f3 l1 l2 l3 l4 l5 hy1 hy2 hy3 hx1 hx2
  go_enter Tryz.func41, Tryz.ntmps41
  go_wp2
  go_ret
  exact ⟨rfl, rfl⟩

set_option maxHeartbeats 1000000 in
theorem setOf_any (A : Option Addr) (n c : Nat) (ps : List Int) (w : World) (ha : Rd w A n ps) (hc : ∀ x ∈ ps, 0 ≤ x ∧ x < 64) :
    Calls Tryz.prog 23 #[.slice A n c] w fun e w' => e = .returned (.int .u64 (setBits (ps.map Int.toNat) : Int)) ∧ Below w.heap.size w w' := by
  have h3 := ha.2.1
  have H1 := Lib.hid ha.1
  have HC := Lib.hid hc
  clear hc
  go_enter Tryz.func23, Tryz.ntmps23
  go_wp2
  go_loopw [3, 8] (fun s i wr => ∃ (k S : Nat), k ≤ n ∧ i = .int .i64 k ∧ s = .int .u64 (S : Int) ∧ S = setBits ((ps.take k).map Int.toNat) ∧ Below w.heap.size w wr) (fun _ i _ => n - (intOf i).toNat)
  case atStart => exact ⟨0, 0, Nat.zero_le _, rfl, rfl, by simp [setBits], Below.refl _ _⟩
  case round =>
    obtain ⟨k, S, hk, rfl, rfl, hs, hbw⟩ := hrel
    have HS := Lib.hid hs
    have hS : S < 18446744073709551616 := by
      rw [hs]; refine setBits_lt _ (fun c hm => ?_)
      obtain ⟨y, hy, rfl⟩ := List.mem_map.1 hm
      have := HC.out y (List.mem_of_mem_take hy); omega
    clear hs
    by_cases hlt : k < n
    · obtain ⟨b1, o1, x, rfl, hl1, hx, hc1⟩ := (ha.keep hbw).at_ hlt
      have HX := Lib.hid hx
      obtain ⟨hx0, hx64⟩ := HC.out x (List.mem_of_getElem? hx)
      clear hx
      obtain ⟨j, rfl⟩ : ∃ j : Nat, x = (j : Int) := ⟨x.toNat, by omega⟩
      have hj : j < 64 := by omega
      have hp : (2 : Nat) ^ j < 18446744073709551616 := Nat.lt_of_lt_of_le (Nat.pow_lt_pow_right (by decide) hj) (by decide)
      have hw2 : IntKind.u64.wrap ((2 : Int) ^ j) = ((2 ^ j : Nat) : Int) := wrap_nat _ _ hp (by simp)
      have hor := bits_or_u64_nat S (2 ^ j) hS hp
      go_wp2
      go_roundw
      case rel => exact ⟨k + 1, S ||| 2 ^ j, by omega, by go_num, by rw [show ((2 : Int) ^ j) = ((2 ^ j : Nat) : Int) by simp, hor], by rw [List.take_add_one, HX.out, List.map_append, HS.out]; exact (setBits_snoc _ _).symm, hbw⟩
      case measure => simp [intOf]; omega
    · go_wp2
      go_ret
      exact ⟨by rw [HS.out, List.take_of_length_le (by have := H1.out; omega)]; rfl, hbw⟩

theorem size_any (x : Nat) (hx : x < 18446744073709551616) (w : World) :
    Calls Tryz.prog 24 #[.int .u64 (x : Int)] w fun e w' => e = .returned (.int .i64 (popN 64 x : Int)) ∧ Below w.heap.size w w' := by
  go_enter Tryz.func24, Tryz.ntmps24
  go_wp2_with fail
  refine (onesCount_any x hx _).mono ?_
  rintro e wv ⟨rfl, rfl⟩
  go_wp2
  go_ret
  exact ⟨rfl, Below.refl _ _⟩
end Go.Proofs.YtomfgjbicpeggaaGreat

namespace Go.Proofs.YtomfgjbicpeggaaGreat
open Go.RowKit Go.Shelf
attribute [local go_sem] Oper.semAt_some

def cellOk (W H : Int) (xs : List Int) (k x : Int) : Bool := if hasB W H xs k then inB x 0 8 else x == -1
def goodFrom (W H : Int) (xs : List Int) : Nat → List Int → Bool
  | _, [] => true
  | k, x :: t => cellOk W H xs k x && goodFrom W H xs (k + 1) t
/-- Whether a list are colours of a board. -/
def goodCols (W H : Int) (xs cs : List Int) : Bool := decide ((cs.length : Int) = W * H) && goodFrom W H xs 0 cs
theorem goodFrom_drop {W H x : Int} {xs cs : List Int} {k : Nat} (hx : cs[k]? = some x) : goodFrom W H xs k (cs.drop k) = (cellOk W H xs k x && goodFrom W H xs (k + 1) (cs.drop (k + 1))) := by
  rw [drop_cons_of hx]; rfl
theorem goodFrom_at {W H : Int} {xs : List Int} : ∀ (cs : List Int) (i : Nat), goodFrom W H xs i cs = true → ∀ k x, cs[k]? = some x → cellOk W H xs ((i + k : Nat) : Int) x = true
  | [], _, _, k, x, h => by simp at h
  | y :: t, i, hg, 0, x, h => by
    simp only [goodFrom, Bool.and_eq_true] at hg
    simp at h; subst h; exact hg.1
  | y :: t, i, hg, k + 1, x, h => by
    simp only [goodFrom, Bool.and_eq_true] at hg
    have := goodFrom_at t (i + 1) hg.2 k x (by simpa using h)
    rwa [show i + 1 + k = i + (k + 1) by omega] at this
theorem good_at {W H : Int} {xs cs : List Int} (h : goodCols W H xs cs = true) {k : Nat} {x : Int} (hx : cs[k]? = some x) : cellOk W H xs k x = true := by
  simp only [goodCols, Bool.and_eq_true] at h
  have := goodFrom_at cs 0 h.2 k x hx
  rwa [Nat.zero_add] at this
theorem good_len {W H : Int} {xs cs : List Int} (h : goodCols W H xs cs = true) : (cs.length : Int) = W * H := by
  simp only [goodCols, Bool.and_eq_true, decide_eq_true_eq] at h; exact h.1
theorem ok_rng {W H k x : Int} {xs : List Int} (h : cellOk W H xs k x = true) : -1 ≤ x ∧ x ≤ 8 := by
  unfold cellOk at h
  split at h
  · have := inB_iff.1 h; omega
  · simp at h; omega

/-- The cells before the k-th one that have a colour. -/
def paintN (cs : List Int) (k c : Nat) : Nat := setBits ((List.range k).filter fun i => cs[i]? == some (c : Int))
def paintL (cs : List Int) (k : Nat) : List Nat := (List.range 9).map (paintN cs k)
theorem paintL_len (cs : List Int) (k : Nat) : (paintL cs k).length = 9 := by simp [paintL]
theorem paintN_yes {cs : List Int} {k c : Nat} (h : cs[k]? = some (c : Int)) : paintN cs (k + 1) c = paintN cs k c ||| 2 ^ k := by
  rw [paintN, List.range_succ, List.filter_append, List.filter_cons, if_pos (by simp [h]), List.filter_nil, setBits_snoc]; rfl
theorem paintN_no {cs : List Int} {k c : Nat} (h : cs[k]? ≠ some (c : Int)) : paintN cs (k + 1) c = paintN cs k c := by
  rw [paintN, List.range_succ, List.filter_append, List.filter_cons, if_neg (by simpa using h), List.filter_nil, List.append_nil]; rfl
theorem paintN_test {cs : List Int} {k c i : Nat} : (paintN cs k c).testBit i = true ↔ i < k ∧ cs[i]? = some (c : Int) := by
  rw [paintN, setBits_test i _ _ rfl]; simp
theorem paintN_lt {cs : List Int} {k c : Nat} (hk : k ≤ 64) : paintN cs k c < 18446744073709551616 := setBits_lt _ (fun i hi => by simp at hi; omega)
theorem paintN_pop (cs : List Int) (c : Nat) : ∀ k, k ≤ 64 → k ≤ cs.length → popN 64 (paintN cs k c) = (cs.take k).count (c : Int)
  | 0, _, _ => by simp [paintN, setBits]; decide
  | k + 1, h, hl => by
    have ih := paintN_pop cs c k (by omega) (by omega)
    have hx : cs[k]? = some cs[k] := List.getElem?_eq_getElem (by omega)
    have hb : (paintN cs k c).testBit k = false := by
      cases hh : (paintN cs k c).testBit k
      · rfl
      · have := paintN_test.1 hh; omega
    rw [List.take_add_one, hx, List.count_append]
    by_cases he : cs[k] = (c : Int)
    · rw [paintN_yes (by rw [hx, he]), popN_or _ _ _ (by omega), hb, ih]; simp [he]
    · rw [paintN_no (by rw [hx]; simpa using he), ih]; simp [he]
theorem paintL_at {cs : List Int} {k c : Nat} (hc : c < 9) : (paintL cs k)[c]? = some (paintN cs k c) := by
  simp [paintL, hc]
theorem paintL_set {cs : List Int} {k c : Nat} (h : cs[k]? = some (c : Int)) : (paintL cs k).set c (paintN cs k c ||| 2 ^ k) = paintL cs (k + 1) := by
  apply List.ext_getElem?
  intro j
  rw [List.getElem?_set]
  by_cases hj : j < 9
  · by_cases e : c = j
    · subst e
      rw [if_pos rfl, if_pos (by rw [paintL_len]; omega), paintL_at hj, paintN_yes h]
    · rw [if_neg e, paintL_at hj, paintL_at hj, paintN_no (by rw [h]; simp; omega)]
  · have e1 : (paintL cs (k + 1))[j]? = none := List.getElem?_eq_none (by rw [paintL_len]; omega)
    have e2 : (paintL cs k)[j]? = none := List.getElem?_eq_none (by rw [paintL_len]; omega)
    rw [e1, e2]
    split
    · rw [if_neg (by rw [paintL_len]; omega)]
    · rfl
theorem paintL_skip {cs : List Int} {k : Nat} {x : Int} (h : cs[k]? = some x) (hx : x < 0) : paintL cs (k + 1) = paintL cs k := by
  unfold paintL
  refine List.map_congr_left fun c _ => paintN_no (by rw [h]; simp; omega)


theorem info_painting : (Tryz.prog.info? 53).map (·.size) = some 9 := by kernel_rfl
/-- Nine empty sets. -/
def nine0 : Array Value := #[.int .u64 0, .int .u64 0, .int .u64 0, .int .u64 0, .int .u64 0, .int .u64 0, .int .u64 0, .int .u64 0, .int .u64 0]
def none9 : List Nat := List.replicate 9 0
theorem paintL_zero (cs : List Int) : paintL cs 0 = none9 := by rfl
theorem none9_len : none9.length = 9 := by rfl
theorem nine0_size : nine0.size = 9 := by rfl
theorem nine_words : nine0 = (words none9).toArray := by rfl

set_option maxRecDepth 100000 in
theorem paint_load {W : World} {g : Nat} {P : List Nat} (h : W.heap[g]? = some (.cells (words P).toArray 53 (0, 0))) (hP : P.length = 9) :
    (Instr.loadAt 53 (.pointer (some ⟨g, 0, none⟩))).run Tryz.prog W = .ok (.agg (words P).toArray) W :=
  run_loadAt_mid (P := Tryz.prog) W g 0 53 (words P) (.array _ _) (fun j v hv => by rw [Nat.zero_add, cell_of_row _ _ _ _ _ _ h]; simpa using hv) rfl rfl (by rw [info_painting]; simp [words, hP])
set_option maxRecDepth 100000 in
theorem paint_store {W : World} {g : Nat} {c : Array Value} {P : List Nat} (h : W.heap[g]? = some (.cells c 53 (0, 0))) (hc : c.size = 9) (hP : P.length = 9) :
    (Instr.storeAt 53 (.pointer (some ⟨g, 0, none⟩)) (.agg (words P).toArray)).run Tryz.prog W = .ok () (W.setRow g (words P).toArray) := by
  simp only [Instr.storeAt, Instr.sureAddr, Sem.run_bind, Sem.run_pure, Result.andThen_ok]
  exact run_storeVar_row _ _ _ _ _ _ h (by rw [info_painting]; simp [words, hP]) (by simp [words, hP, hc]) (all_oneCell_toArray (words_one _))

theorem run_paint (L : List Nat) (k v : Nat) (hk : k < 9) (hv : L[k]? = some v) (w : World) :
    (Instr.index 53 (.agg (words L).toArray) (.int .i64 (k : Int))).run Tryz.prog w = .ok (.int .u64 (v : Int)) w := by
  have hu := Tryz.underlying53
  have hz := Tryz.sizeOf51
  have ha := Tryz.isAgg51
  simp [Instr.index, run_underlying hu, asIntOf, go_sem]
  rw [if_pos hk, words, List.getElem?_map, hv]
  rfl
set_option maxRecDepth 100000 in
theorem paint_lay (w : World) {P : List Nat} (hP : P.length = 9) :
    (storeCells ⟨w.heap.size, 0, none⟩ (words P)).run Tryz.prog (w.alloc (.cells nine0 53)) = .ok () (w.alloc (.cells (words P).toArray 53)) :=
  run_storeCells_new (P := Tryz.prog) w 53 nine0 (words P).toArray (by rw [info_painting]; simp [words, hP]) (by rw [nine0_size]; simp [words, hP]) (all_oneCell_toArray (words_one _))

set_option maxRecDepth 100000 in
set_option maxHeartbeats 1000000 in
theorem with_any (P : List Nat) (hP : P.length = 9) (cell colour x : Nat) (hc : cell < 64) (hk : colour < 9) (hx : P[colour]? = some x) (hx9 : x < 18446744073709551616) (w : World) :
    Calls Tryz.prog 39 #[.agg (words P).toArray, .int .i64 cell, .int .i64 colour] w fun e w' => e = .returned (.agg (words (P.set colour (x ||| 2 ^ cell))).toArray) ∧ Below w.heap.size w w' := by
  refine (callsIn_wide (n := 5)).1 ?_
  refine callsIn_of_wp_marks Tryz.func39 rfl trivial ?_ rfl
  simp only [Tryz.ntmps39, List.size_toArray, List.length_cons, List.length_nil, Nat.reduceAdd, Nat.reduceSub, Array.replicate_succ, Array.replicate_zero, List.push_toArray, List.append_toArray, List.nil_append, List.cons_append]
  obtain ⟨W2, hW2⟩ : ∃ W2, W2 = (w.alloc (.cells (words P).toArray 53)).alloc (.cells nine0 53) := ⟨_, rfl⟩
  have hh : W2.heap[w.heap.size]? = some (.cells (words P).toArray 53 (0, 0)) := by rw [hW2, Below.heap_alloc _ _ _ (by simp)]; exact World.alloc_heap_new _ _
  have hr : W2.heap[w.heap.size + 1]? = some (.cells nine0 53 (0, 0)) := by
    have h := World.alloc_heap_new (w.alloc (.cells (words P).toArray 53)) (.cells nine0 53)
    rw [hW2]; rw [World.size_alloc] at h; exact h
  have hcell : W2.cell? ⟨w.heap.size, colour, none⟩ = some (.int .u64 (x : Int)) := by
    rw [cell_of_row _ _ _ _ _ _ hh, List.getElem?_toArray, words, List.getElem?_map, hx]; rfl
  have hfro : W2.frozen? ⟨w.heap.size, colour, none⟩ = false := frozen_of_row _ _ _ _ _ hh
  have hb1 : Below w.heap.size w W2 := by rw [hW2]; exact ((Below.refl _ _).alloc (Nat.le_refl _) _).alloc (by simp) _
  have hp : (2 : Nat) ^ cell < 18446744073709551616 := Nat.lt_of_lt_of_le (Nat.pow_lt_pow_right (by decide) hc) (by decide)
  have hw2 : IntKind.u64.wrap ((2 : Int) ^ cell) = ((2 ^ cell : Nat) : Int) := wrap_nat _ _ hp (by simp)
  have hor := bits_or_u64_nat x (2 ^ cell) hx9 hp
  unfold nine0 at hW2
  gi_wp2
  rw [← hW2]
  clear hW2
  gi_wp2
  have hh3 := heap_set (j := colour) (.int .u64 ((x ||| 2 ^ cell : Nat) : Int)) hh
  have hg3 := grown_set W2 w.heap.size colour (.int .u64 ((x ||| 2 ^ cell : Nat) : Int))
  have hr3 := (hg3.block (w.heap.size + 1) (Array.getElem?_eq_some_iff.1 hr).1 (by simp)).trans hr
  have hb3 := hb1.grown hg3 hb1.size (fun k e => by cases e; omega)
  have hset : (words P).toArray.setIfInBounds colour (.int .u64 ((x ||| 2 ^ cell : Nat) : Int)) = (words (P.set colour (x ||| 2 ^ cell))).toArray := by simp [words, List.map_set]
  rw [hset] at hh3
  have hL9 : (P.set colour (x ||| 2 ^ cell)).length = 9 := by simp [hP]
  clear hset hg3 hb1
  gi_region
  all_goals rw [show ((2 : Int) ^ cell) = ((2 ^ cell : Nat) : Int) by simp, hor]
  all_goals
    generalize W2.setCell ⟨w.heap.size, colour, none⟩ (.int .u64 ((x ||| 2 ^ cell : Nat) : Int)) = W3 at *
  all_goals
    have hld := paint_load (W := W3.drew) hh3 hL9
    have hst := paint_store (W := W3.drew) hr3 (by rfl) hL9
    have hh4 := heap_setRow (W := W3.drew) (c' := (words (P.set colour (x ||| 2 ^ cell))).toArray) hr3
    have hg4 := grown_setRow W3.drew (w.heap.size + 1) (words (P.set colour (x ||| 2 ^ cell))).toArray
    have hb4 := hb3.drew.grown hg4 hb3.size (fun k e => by cases e; omega)
    generalize W3.drew.setRow (w.heap.size + 1) (words (P.set colour (x ||| 2 ^ cell))).toArray = W4 at *
    clear hh hr hcell hfro hh3 hr3 hb3 hg4 hor hw2 hp
    gi_wp2_with (first | refine wpIn_load_run 53 _ _ _ rfl rfl hld ?_ | refine wpIn_store_run 53 _ _ _ _ rfl rfl rfl hst ?_)
    refine ⟨_, results_cell_row rfl _ _ _ _ (words (P.set colour (x ||| 2 ^ cell))).toArray _ _ rfl hh4 rfl rfl (by rw [info_painting]; simp [words, hP]), rfl, hb4⟩
end Go.Proofs.YtomfgjbicpeggaaGreat

namespace Go.Proofs.YtomfgjbicpeggaaGreat
open Go.RowKit Go.Shelf
attribute [local go_sem] Oper.semAt_some

/-- The painting of some cells by a colouring. -/
def paintF (f : Int → Nat) (ys : List Int) : List Nat := (List.range 9).map fun c => setBits ((ys.filter fun y => f y == c).map Int.toNat)
theorem paintF_len (f : Int → Nat) (ys : List Int) : (paintF f ys).length = 9 := by simp [paintF]
theorem paintF_at {f : Int → Nat} {ys : List Int} {c : Nat} (hc : c < 9) : (paintF f ys)[c]? = some (setBits ((ys.filter fun y => f y == c).map Int.toNat)) := by simp [paintF, hc]
theorem paintF_snoc {f : Int → Nat} {ys : List Int} {y : Int} : (paintF f ys).set (f y) (setBits ((ys.filter fun z => f z == f y).map Int.toNat) ||| 2 ^ y.toNat) = paintF f (ys ++ [y]) := by
  apply List.ext_getElem?
  intro j
  rw [List.getElem?_set]
  by_cases hj : j < 9
  · rw [paintF_at hj, paintF_at hj]
    by_cases e : f y = j
    · subst e
      rw [if_pos rfl, if_pos (by rw [paintF_len]; omega), List.filter_append, List.map_append]
      simp [setBits_snoc]
    · rw [if_neg e, List.filter_append, List.map_append]
      have : (f y == j) = false := by simpa using e
      simp [this]
  · have e1 : (paintF f (ys ++ [y]))[j]? = none := List.getElem?_eq_none (by rw [paintF_len]; omega)
    have e2 : (paintF f ys)[j]? = none := List.getElem?_eq_none (by rw [paintF_len]; omega)
    rw [e1, e2]
    split
    · rw [if_neg (by rw [paintF_len]; omega)]
    · rfl
theorem paintF_nil (f : Int → Nat) : paintF f [] = none9 := by rfl
theorem paintF_lt {f : Int → Nat} {ys : List Int} (h : ∀ y ∈ ys, 0 ≤ y ∧ y < 64) : ∀ s ∈ paintF f ys, s < 18446744073709551616 := by
  intro s hs
  obtain ⟨c, _, rfl⟩ := List.mem_map.1 hs
  refine setBits_lt _ (fun i hi => ?_)
  obtain ⟨y, hy, rfl⟩ := List.mem_map.1 hi
  have := h y (List.mem_filter.1 hy).1
  omega
/-- The painting in the midst of its making. -/
def MidP (W3 : World) (g : Nat) (L : List Nat) (W' : World) : Prop :=
  W3.grownBy W' (some g) ∧ W'.heap[g]? = some (.cells (words L).toArray 53 (0, 0))
theorem midP_below {W3 W W' : World} {g : Nat} {L : List Nat} (h : MidP W3 g L W) (hb : Below W.heap.size W W') : MidP W3 g L W' :=
  ⟨grown_next h.1 (grown_of_below hb _), (hb.block g (Array.getElem?_eq_some_iff.1 h.2).1).trans h.2⟩
theorem midP_set {W3 W : World} {g : Nat} {L : List Nat} (L' : List Nat) (h : MidP W3 g L W) : MidP W3 g L' (W.setRow g (words L').toArray) :=
  ⟨grown_next h.1 (grown_setRow _ _ _), heap_setRow h.2⟩

theorem cell_setRow_ne {W : World} {b o g : Nat} {v : Value} {cs : Array Value} (h : W.cell? ⟨b, o, none⟩ = some v) (hne : b ≠ g) : (W.setRow g cs).cell? ⟨b, o, none⟩ = some v := by
  rw [← h]
  simp [World.cell?, World.setRow, Array.getElem?_modify, show ¬ g = b from fun e => hne e.symm]

theorem range_of_row {w : World} {g : Nat} {L : List Value} {T : TypeId} (h : w.heap[g]? = some (.cells L.toArray T (0, 0))) : w.rangeAt g 0 L := fun j v hv => by
  rw [Nat.zero_add, cell_of_row _ _ _ _ _ _ h]; simpa using hv
theorem there_of_row {w : World} {g n : Nat} {L : List Value} {T : TypeId} (h : w.heap[g]? = some (.cells L.toArray T (0, 0))) (hn : L.length = n) : w.there g 0 n := fun j hj => by
  refine ⟨?_, frozen_of_row _ _ _ _ _ h⟩
  rw [Nat.zero_add, cell_of_row _ _ _ _ _ _ h, List.getElem?_toArray, List.getElem?_eq_getElem (by omega)]; rfl
theorem step_load_paint {ops : Array Oper} {o : Oper} {a : Act} {w : World} {K : Act → World → Prop} {Q : Exit → Act → World → Prop} {E0 : Prop} (hgd : o.guard = none) (x : Operand) (ho : o.op = .load 53 x)
    (g : Nat) (hx : a.eval x = .pointer (some ⟨g, 0, none⟩)) (L : List Nat) (h : w.heap[g]? = some (.cells (words L).toArray 53 (0, 0))) (hL : L.length = 9)
    (hK : K (a.put o.dst (.agg (words L).toArray)) w) : if Region.wanted o (yielded ops a.tmps) = true then Oper.wp Tryz.prog o a w K Q else E0 := by
  have hw : Region.wanted o (yielded ops a.tmps) = true := by simp [Region.wanted, hgd]
  rw [if_pos hw]
  unfold Oper.wp execOp
  simp only [ho, hx, Sem.run_bind, paint_load h hL, Sem.run_pure, Result.andThen_ok]
  exact hK
theorem step_store_paint {ops : Array Oper} {o : Oper} {a : Act} {w : World} {K : Act → World → Prop} {Q : Exit → Act → World → Prop} {E0 : Prop} (hgd : o.guard = none) (x y : Operand) (ho : o.op = .store 53 x y)
    (g : Nat) (hx : a.eval x = .pointer (some ⟨g, 0, none⟩)) (L L0 : List Nat) (hy : a.eval y = .agg (words L).toArray) (h : w.heap[g]? = some (.cells (words L0).toArray 53 (0, 0))) (hL0 : L0.length = 9) (hL : L.length = 9)
    (hK : K (a.put o.dst undef) (w.setRow g (words L).toArray)) : if Region.wanted o (yielded ops a.tmps) = true then Oper.wp Tryz.prog o a w K Q else E0 := by
  have hw : Region.wanted o (yielded ops a.tmps) = true := by simp [Region.wanted, hgd]
  rw [if_pos hw]
  unfold Oper.wp execOp
  simp only [ho, hx, hy, Sem.run_bind, paint_store h (by simp [words, hL0]) hL, Sem.run_pure, Result.andThen_ok]
  exact hK
theorem nine_of_len {P : List Nat} (h : P.length = 9) : ∃ y0 y1 y2 y3 y4 y5 y6 y7 y8 : Nat, P = [y0, y1, y2, y3, y4, y5, y6, y7, y8] := by
  match P, h with
  | [y0, y1, y2, y3, y4, y5, y6, y7, y8], _ => exact ⟨y0, y1, y2, y3, y4, y5, y6, y7, y8, rfl⟩
theorem nine_cells {W : World} {g : Nat} {T : TypeId} {y0 y1 y2 y3 y4 y5 y6 y7 y8 : Nat} (h : W.heap[g]? = some (.cells (words [y0, y1, y2, y3, y4, y5, y6, y7, y8]).toArray T (0, 0))) :
    W.cell? ⟨g, 0, none⟩ = some (.int .u64 ((y0 : Nat) : Int)) ∧ W.cell? ⟨g, 1, none⟩ = some (.int .u64 ((y1 : Nat) : Int)) ∧ W.cell? ⟨g, 2, none⟩ = some (.int .u64 ((y2 : Nat) : Int)) ∧ W.cell? ⟨g, 3, none⟩ = some (.int .u64 ((y3 : Nat) : Int)) ∧ W.cell? ⟨g, 4, none⟩ = some (.int .u64 ((y4 : Nat) : Int)) ∧ W.cell? ⟨g, 5, none⟩ = some (.int .u64 ((y5 : Nat) : Int)) ∧ W.cell? ⟨g, 6, none⟩ = some (.int .u64 ((y6 : Nat) : Int)) ∧ W.cell? ⟨g, 7, none⟩ = some (.int .u64 ((y7 : Nat) : Int)) ∧ W.cell? ⟨g, 8, none⟩ = some (.int .u64 ((y8 : Nat) : Int)) :=
  ⟨by rw [cell_of_row _ _ _ _ _ _ h]; rfl, by rw [cell_of_row _ _ _ _ _ _ h]; rfl, by rw [cell_of_row _ _ _ _ _ _ h]; rfl, by rw [cell_of_row _ _ _ _ _ _ h]; rfl, by rw [cell_of_row _ _ _ _ _ _ h]; rfl, by rw [cell_of_row _ _ _ _ _ _ h]; rfl, by rw [cell_of_row _ _ _ _ _ _ h]; rfl, by rw [cell_of_row _ _ _ _ _ _ h]; rfl, by rw [cell_of_row _ _ _ _ _ _ h]; rfl⟩
end Go.Proofs.YtomfgjbicpeggaaGreat
