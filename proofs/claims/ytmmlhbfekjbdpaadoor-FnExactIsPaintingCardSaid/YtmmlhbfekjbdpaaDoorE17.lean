/-
  Contracts: whether a list is a painting of a ground.
-/
import Derived.Test.YtmmlhbfekjbdpaaDoorE16
import Derived.Test.YtmmlhbfekjbdpaaDoorF7
namespace Go.Proofs.YtmmlhbfekjbdpaaDoor
open Go.RowKit Go.Shelf

def paintedB (W H : Int) (xs : List Int) (G : List Nat) (cs : List Int) : Bool := goodCols W H xs cs && (List.range 9).all fun c => freeB G (paintN cs cs.length c)
theorem all_range {f : Nat → Bool} {n k : Nat} (h : ∀ j, j < k → f j = true) (hk : k = n) : (List.range n).all f = true := by
  subst hk; rw [List.all_eq_true]; intro j hj; exact h j (by simpa using hj)
theorem info_groundE : (Tryd.prog.info? 51).map (·.size) = some 65 := info_ground

set_option maxRecDepth 100000 in
set_option maxHeartbeats 4000000 in
theorem isPainted_any (G : List Nat) (hG : G.length = 65) (hGb : ∀ x ∈ G, x < 18446744073709551616) (W H : Int) (A : Option Addr) (n c : Nat) (xs : List Int) (A2 : Option Addr) (m c2 : Nat) (cs : List Int) (w : World) (ha : Rd w A n xs) (hc : Rd w A2 m cs) (hg : goodB W H xs = true) (hT : Tab64 w) (hgb : 0 < w.heap.size) :
    Calls Tryd.prog 27 #[.agg (words G).toArray, brd W H A n c, .slice A2 m c2] w fun e w' => e = .returned (.bool (paintedB W H xs G cs)) ∧ Below w.heap.size w w' := by
  have HT := Lib.hid hT; have HG := Lib.hid hg; have HGB := Lib.hid hGb
  have m9 := hc.2.1
  have HML := Lib.hid hc.1
  obtain ⟨W2, hW2⟩ : ∃ W2, W2 = (w.alloc (.cells (words G).toArray 51)).alloc (.cells #[.int .i64 W, .int .i64 H, .slice A n c] 30) := ⟨_, rfl⟩
  have hs2 : W2.heap.size = w.heap.size + 2 := by rw [hW2]; simp
  have B := Lib.hid (show Below w.heap.size w W2 by rw [hW2]; exact (below_new (Below.refl _ _) _).alloc (by simp) _)
  have hgr := Lib.hid (show W2.heap[w.heap.size]? = some (.cells (words G).toArray 51 (0, 0)) by
    rw [hW2, Below.heap_alloc _ _ _ (by simp)]; exact World.alloc_heap_new _ _)
  have R := Lib.hid (ha.keep B.out); have RC := Lib.hid (hc.keep B.out)
  clear hT hg ha hc hGb
  cases hq : goodCols W H xs cs with
  | false =>
    go_enter Tryd.func27, Tryd.ntmps27
    go_wp2_with fail
    rw [← hW2]
    clear hW2
    refine (paintingOf_any W H A n c xs A2 m c2 cs W2 R.out RC.out HG.out).mono ?_
    rw [paintA, hq]
    rintro e ws ⟨rfl, hb⟩
    have hst := paint_lay ws none9_len
    unfold nine0 at hst
    rw [if_neg (by simp)]
    replace B := Lib.hid (below_next B.out hb)
    clear hb
    go_wp2
    go_ret
    exact ⟨by rw [paintedB, hq]; rfl, B.out.alloc B.out.size _⟩
  | true =>
    have hm8 : m ≤ 64 := by have := good_len hq; have := HML.out; have := cells_le (goodB_iff.1 HG.out).1 (goodB_iff.1 HG.out).2.1; omega
    have HQ := Lib.hid hq
    go_enter Tryd.func27, Tryd.ntmps27
    go_wp2_with fail
    rw [← hW2]
    clear hW2
    refine (paintingOf_any W H A n c xs A2 m c2 cs W2 R.out RC.out HG.out).mono ?_
    rw [paintA, hq]
    rintro e ws ⟨rfl, hb⟩
    rw [if_pos rfl]
    have hst := paint_lay ws (paintL_len cs cs.length)
    unfold nine0 at hst
    have hrow : (ws.alloc (.cells (words (paintL cs cs.length)).toArray 63)).heap[ws.heap.size]? = some (.cells (words (paintL cs cs.length)).toArray 63 (0, 0)) := World.alloc_heap_new _ _
    have hgs : ws.heap[w.heap.size]? = some (.cells (words G).toArray 51 (0, 0)) := (hb.block w.heap.size (by omega)).trans hgr.out
    have hgs2 := Lib.hid ((Below.heap_alloc ws (.cells (words (paintL cs cs.length)).toArray 63) w.heap.size (Array.getElem?_eq_some_iff.1 hgs).1).trans hgs)
    replace B := Lib.hid (below_next B.out hb)
    have hB0 := B.out.size
    have B3 := Lib.hid (B.out.alloc B.out.size (.cells (words (paintL cs cs.length)).toArray 63))
    have hw9 : w.heap.size < (ws.alloc (.cells (words (paintL cs cs.length)).toArray 63)).heap.size := Nat.lt_of_le_of_lt hB0 (by simp)
    clear hb hgs hq hB0
    go_wp2_with (refine wpList_load_mid rfl 63 _ rfl ws.heap.size 0 rfl (words (paintL cs cs.length)) (.array _ _) (fun j v hv => by rw [Nat.zero_add, cell_of_row _ _ _ _ _ _ hrow]; simpa using hv) rfl rfl (by rw [info_painting]; simp [words, paintL_len]) ?_)
    clear hst hrow
    generalize ws.alloc (.cells (words (paintL cs cs.length)).toArray 63) = W3 at *
    go_loopw [20] (fun i wr => ∃ k : Nat, k ≤ 9 ∧ i = .int .i64 k ∧ (∀ j, j < k → freeB G (paintN cs cs.length j) = true) ∧ Below W3.heap.size W3 wr) (fun i _ => 9 - (intOf i).toNat)
    case atStart => exact ⟨0, by omega, rfl, by omega, Below.refl _ _⟩
    case round =>
      obtain ⟨k, hk, rfl, hall, hbw⟩ := hrel
      have HALL := Lib.hid hall
      have HB := Lib.hid hbw
      have hwr := B3.out.trans (hbw.mono B3.out.size)
      have HWR := Lib.hid hwr
      clear hall
      by_cases hlt : k < 9
      · have hrun := run_paint (paintL cs cs.length) k (paintN cs cs.length k) hlt (paintL_at hlt)
        have hlt9 : paintN cs cs.length k < 18446744073709551616 := paintN_lt (by have := HML.out; omega)
        have hgw := (hbw.block w.heap.size hw9).trans hgs2.out
        have hfr := isFree_any G hG HGB.out (paintN cs cs.length k) hlt9 wr (HT.out.keep hgb hwr) (Nat.lt_of_lt_of_le hgb hwr.size)
        clear hbw hwr
        cases hf : freeB G (paintN cs cs.length k) with
        | true =>
          have HF := Lib.hid hf
          go_wp2_with (refine wpList_load_mid rfl 51 _ rfl w.heap.size 0 rfl (words G) (.struct _) (fun j v hv => by rw [Nat.zero_add, cell_of_row _ _ _ _ _ _ hgw]; simpa using hv) rfl rfl (by rw [info_groundE]; simp [words, hG]) ?_)
          refine hfr.mono ?_
          rw [hf]
          rintro e wy ⟨rfl, hb⟩
          replace HB := Lib.hid (HB.out.trans (hb.mono HB.out.size))
          clear hb hfr hrun hgw
          go_wp2
          go_roundw
          case rel => exact ⟨k + 1, by omega, by go_num, fun j hj => by by_cases e : j = k; (subst e; exact HF.out); exact HALL.out j (by omega), HB.out⟩
          case measure => simp [intOf]; omega
        | false =>
          have HF := Lib.hid hf
          go_wp2_with (refine wpList_load_mid rfl 51 _ rfl w.heap.size 0 rfl (words G) (.struct _) (fun j v hv => by rw [Nat.zero_add, cell_of_row _ _ _ _ _ _ hgw]; simpa using hv) rfl rfl (by rw [info_groundE]; simp [words, hG]) ?_)
          refine hfr.mono ?_
          rw [hf]
          rintro e wy ⟨rfl, hb⟩
          replace HB := Lib.hid (HB.out.trans (hb.mono HB.out.size))
          clear hb hfr hrun hgw
          go_wp2
          go_ret
          exact ⟨ret_bool (by symm; rw [paintedB, HQ.out, Bool.true_and, Bool.eq_false_iff]; intro h; have := List.all_eq_true.1 h k (by simpa using hlt); rw [HF.out] at this; cases this), B3.out.trans (HB.out.mono B3.out.size)⟩
      · have hk9 : k = 9 := by omega
        clear hbw hwr
        subst hk9
        go_wp2
        go_ret
        exact ⟨ret_bool (by symm; rw [paintedB, HQ.out, Bool.true_and]; exact all_range HALL.out rfl), HWR.out⟩
end Go.Proofs.YtmmlhbfekjbdpaaDoor
