/-
  Contracts: CellsOfColours, in the program.
-/
import Derived.Test.YtbpgkigoboobeaaF9
namespace Go.Proofs.Ytbpgkigoboobeaa
open Go.RowKit Go.Shelf
attribute [local go_sem] Oper.semAt_some

set_option maxRecDepth 100000 in
set_option maxHeartbeats 4000000 in
theorem impl_CellsOfColours (W H : Int) (A : Option Addr) (n c : Nat) (xs : List Int) (A2 : Option Addr) (m c2 : Nat) (cs : List Int) (w : World) (ha : Rd w A n xs) (hc : Rd w A2 m cs) :
    Calls Try.prog 12 #[brd W H A n c, .slice A2 m c2] w fun e w' => ∃ A' n' c', e = .returned (.tuple #[.slice A' n' c', .bool (okCols W H xs cs)]) ∧ OwnI 3 w' w.heap.size A' n' c' (countsV W H xs cs) ∧ Below w.heap.size w w' := by
  by_cases hg : goodB W H xs = true
  · by_cases hq : goodCols W H xs cs = true
    · have hok : okCols W H xs cs = true := by rw [okCols, hg, hq]; rfl
      have HOK := Lib.hid hok
      have HQ := Lib.hid hq; have HG := Lib.hid hg
      have m9 := hc.2.1
      have hm8 : m ≤ 64 := by have := good_len hq; have := hc.1; have := cells_le (goodB_iff.1 hg).1 (goodB_iff.1 hg).2.1; omega
      have HML := Lib.hid hc.1
      obtain ⟨i0, hi, hz0, hz1, hz2⟩ := info_parts infoI
      have HI := Lib.hid hi; have HZ0 := Lib.hid hz0; have HZ1 := Lib.hid hz1; have HZ2 := Lib.hid hz2
      clear hi hz0 hz1 hz2 hok
      go_enter Try.func12, Try.ntmps12
      go_wp2_with fail
      refine (isBoard_any _ _ _ _ _ _ _ (ha.alloc _)).mono ?_
      rw [hg]
      rintro e wv ⟨rfl, hb⟩
      have a0 := newbox hb 0; have a1 := newbox hb 1; have a2 := newbox hb 2; have al := newbox_lt hb
      simp only [List.getElem?_toArray, List.getElem?_cons_zero, List.getElem?_cons_succ] at a0 a1 a2
      have B := Lib.hid (below_box hb)
      clear hb hg
      go_wp2_with fail
      refine (paintingOf_any W H A n c xs A2 m c2 cs _ (ha.keep B.out) (hc.keep B.out) HG.out).mono ?_
      rw [paintA, hq, if_pos rfl]
      rintro e ws ⟨rfl, hb⟩
      replace B := Lib.hid (below_next B.out hb)
      clear hb a0 a1 a2 al hq ha hc
      have hst := paint_lay ws (paintL_len cs cs.length)
      unfold nine0 at hst
      have hrow : (ws.alloc (.cells (words (paintL cs cs.length)).toArray 55)).heap[ws.heap.size]? = some (.cells (words (paintL cs cs.length)).toArray 55 (0, 0)) := World.alloc_heap_new _ _
      have hB0 := B.out.size
      replace B := Lib.hid (B.out.alloc B.out.size (.cells (words (paintL cs cs.length)).toArray 55))
      have hw9 : w.heap.size < (ws.alloc (.cells (words (paintL cs cs.length)).toArray 55)).heap.size := Nat.lt_of_le_of_lt hB0 (by simp)
      clear hB0
      go_wp2_with (refine wpList_load_mid rfl 55 _ rfl ws.heap.size 0 rfl (words (paintL cs cs.length)) (.array _ _) (fun j v hv => by rw [Nat.zero_add, cell_of_row _ _ _ _ _ _ hrow]; simpa using hv) rfl rfl (by rw [info_painting]; simp [words, paintL_len]) ?_)
      clear hst hrow
      generalize ws.alloc (.cells (words (paintL cs cs.length)).toArray 55) = W3 at *
      go_loopw [8, 23] (fun s i wr => ∃ (k n' c' : Nat) (A' : Option Addr), k ≤ 9 ∧ i = .int .i64 k ∧ s = .slice A' n' c' ∧ OwnI 3 wr W3.heap.size A' n' c' ((countsK cs cs.length).take k) ∧ Below W3.heap.size W3 wr) (fun _ i _ => 9 - (intOf i).toNat)
      case atStart => exact ⟨0, 0, 0, none, by omega, rfl, rfl, OwnI.none_ _ _ _, Below.refl _ _⟩
      case round =>
        obtain ⟨k, n', c', A', hk, rfl, rfl, hown, hbw⟩ := hrel
        have hn' : n' ≤ 64 := by have := hown.len; rw [List.length_take] at this; omega
        have hsw := hbw.size
        by_cases hlt : k < 9
        · have hrun := run_paint (paintL cs cs.length) k (paintN cs cs.length k) hlt (paintL_at hlt)
          have hlt9 : paintN cs cs.length k < 18446744073709551616 := paintN_lt (by have := HML.out; omega)
          have hS := fun w => size_any (paintN cs cs.length k) hlt9 w
          rw [paintN_pop cs k cs.length (by have := HML.out; omega) (Nat.le_refl _)] at hS
          have HO := Lib.hid hown; have HB := Lib.hid hbw
          clear hown hbw
          go_wp2_with fail
          refine (hS _).mono ?_
          rintro e wy ⟨rfl, hb⟩
          replace HO := Lib.hid (HO.out.keep hb); replace HB := Lib.hid (HB.out.trans (hb.mono (by omega))); replace hsw := Nat.le_trans hsw hb.size
          clear hb hS hrun
          go_wp2_with (at_builtin; refine wpList_app1 rfl (.tmp 26) (.tmp 29) 22 3 rfl i0 Try.underlying22 HI.out HZ0.out HZ1.out HZ2.out W3.heap.size A' n' c' ((countsK cs cs.length).take k) _ rfl HO.out rfl (by omega) hsw ?_; intro A2 c2 w2 hown2 hb2)
          have HO2 := Lib.hid hown2; have HB2 := Lib.hid (HB.out.trans hb2)
          clear hown2 hb2
          go_wp2
          go_roundw
          case rel => exact ⟨k + 1, n' + 1, c2, A2, by omega, by go_num, rfl, by rw [List.take_add_one, countsK_at hlt, List.take_length]; exact HO2.out, HB2.out⟩
          case measure => simp [intOf]; omega
        · have hk9 : k = 9 := by omega
          subst hk9
          have HO := Lib.hid hown; have HB := Lib.hid hbw
          clear hown hbw
          go_wp2
          go_ret2
          exact ⟨_, _, _, by rw [HOK.out]; rfl, by rw [countsV, HOK.out, if_pos rfl]; have h := HO.out; rw [List.take_of_length_le (by rw [countsK_len]; omega)] at h; exact h.lower (by omega), B.out.trans (HB.out.mono (by omega))⟩
    · have hq' : goodCols W H xs cs = false := by simpa using hq
      have hok : okCols W H xs cs = false := by rw [okCols, hq']; simp
      have HG := Lib.hid hg
      go_enter Try.func12, Try.ntmps12
      go_wp2_with fail
      refine (isBoard_any _ _ _ _ _ _ _ (ha.alloc _)).mono ?_
      rw [hg]
      rintro e wv ⟨rfl, hb⟩
      have a0 := newbox hb 0; have a1 := newbox hb 1; have a2 := newbox hb 2; have al := newbox_lt hb
      simp only [List.getElem?_toArray, List.getElem?_cons_zero, List.getElem?_cons_succ] at a0 a1 a2
      have B := Lib.hid (below_box hb)
      clear hb hg
      go_wp2_with fail
      refine (paintingOf_any W H A n c xs A2 m c2 cs _ (ha.keep B.out) (hc.keep B.out) HG.out).mono ?_
      rw [paintA, hq']
      rintro e ws ⟨rfl, hb⟩
      replace B := Lib.hid (below_next B.out hb)
      clear hb a0 a1 a2 al
      have hst := paint_lay ws none9_len
      unfold nine0 at hst
      go_wp2
      go_ret2
      exact ⟨none, 0, 0, by rw [hok]; rfl, by rw [countsV, hok]; exact OwnI.none_ _ _ _, B.out.alloc B.out.size _⟩
  · have hg' : goodB W H xs = false := by simpa using hg
    have hok : okCols W H xs cs = false := by rw [okCols, hg']; simp
    go_enter Try.func12, Try.ntmps12
    go_wp2_with fail
    refine (isBoard_any _ _ _ _ _ _ _ (ha.alloc _)).mono ?_
    rw [hg']
    rintro e wv ⟨rfl, hb⟩
    have B := Lib.hid (below_box hb)
    clear hb
    go_wp2
    go_ret2
    exact ⟨none, 0, 0, by rw [hok]; rfl, by rw [countsV, hok]; exact OwnI.none_ _ _ _, B.out⟩

end Go.Proofs.Ytbpgkigoboobeaa
