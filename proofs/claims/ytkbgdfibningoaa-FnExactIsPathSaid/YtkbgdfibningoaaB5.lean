/-
  Contracts: cells in order, in the program; CellsOf, CountCells, HasCell, PlainBoard.
-/
import Derived.Test.YtkbgdfibningoaaB4
namespace Go.Proofs.Ytkbgdfibningoaa
open Go.RowKit

set_option maxHeartbeats 800000 in
theorem cellsThere_any (W H : Int) (A : Option Addr) (n c : Nat) (xs : List Int) (w : World) (ha : Rd w A n xs) (hg : goodB W H xs = true) :
    Calls Try.prog 82 #[brd W H A n c] w fun e w' => ∃ A' n' c', e = .returned (.slice A' n' c') ∧ OwnI 3 w' w.heap.size A' n' c' (cellsL W H xs) ∧ Below w.heap.size w w' := by
  obtain ⟨hW, hH, _, _⟩ := goodB_iff.1 hg
  obtain ⟨hN1, hN2⟩ := cells_le hW hH
  have HG := Lib.hid hg
  clear hg hW hH
  obtain ⟨i0, hi, hz0, hz1, hz2⟩ := info_parts infoI
  have HI := Lib.hid hi; have HZ0 := Lib.hid hz0; have HZ1 := Lib.hid hz1; have HZ2 := Lib.hid hz2
  clear hi hz0 hz1 hz2
  go_enter Try.func82, Try.ntmps82
  go_wp2
  go_loopw [3, 10] (fun v i wr => ∃ (k n' c' : Nat) (A' : Option Addr), (k : Int) ≤ W * H ∧ i = .int .i64 k ∧ v = .slice A' n' c' ∧ OwnI 3 wr (w.heap.size + 1) A' n' c' (cellsTo W H xs k) ∧ Below (w.heap.size + 1) (w.alloc (.cells #[.int .i64 W, .int .i64 H, .slice A n c] 33)) wr) (fun _ i _ => (W * H).toNat - (intOf i).toNat)
  case atStart => exact ⟨0, 0, 0, none, by omega, rfl, rfl, OwnI.none_ _ _ _, Below.refl _ _⟩
  case round =>
    obtain ⟨k, n', c', A', hk, rfl, rfl, hown, hbw⟩ := hrel
    have hb0 := box_cell hbw 0; have hb1 := box_cell hbw 1; have hb2 := box_cell hbw 2
    simp only [List.getElem?_toArray, List.getElem?_cons_zero, List.getElem?_cons_succ] at hb0 hb1 hb2
    have hsz := box_size hbw
    by_cases hlt : (k : Int) < W * H
    · by_cases hh : hasB W H xs k = true
      · have hn' : n' ≤ 64 := by have := cellsTo_len (W := W) (H := H) (hs := xs) k; have := hown.len; omega
        have HO := Lib.hid hown; have HB := Lib.hid hbw
        clear hown hbw
        go_wp2_with fail
        refine (isThere_any _ _ _ _ _ _ _ _ (ha.keep (box_below HB.out)) HG.out).mono ?_
        rintro e w1 ⟨rfl, hbh⟩
        have HO1 := Lib.hid (HO.out.keep hbh)
        have HB1 := Lib.hid (HB.out.trans (hbh.mono (by omega)))
        clear hbh HO HB
        go_wp2_with (at_builtin; refine wpList_app1 rfl (.tmp 16) (.tmp 18) 28 3 rfl i0 Try.underlying28 HI.out HZ0.out HZ1.out HZ2.out (w.heap.size + 1) A' n' c' (cellsTo W H xs k) (k : Int) rfl HO1.out rfl (by omega) (by have := box_size HB1.out; omega) ?_; intro A2 c2 w2 hown2 hb2')
        have HO2 := Lib.hid hown2; have HB2 := Lib.hid (HB1.out.trans hb2')
        clear hown2 hb2'
        go_wp2
        go_roundw
        case rel => exact ⟨k + 1, n' + 1, c2, A2, by omega, by go_num, rfl, by rw [cellsTo_yes hh]; exact HO2.out, HB2.out⟩
        case measure => simp [intOf]; omega
      · have hh' : hasB W H xs k = false := by simpa using hh
        clear hh
        have HO := Lib.hid hown; have HB := Lib.hid hbw
        clear hown hbw
        go_wp2_with fail
        refine (isThere_any _ _ _ _ _ _ _ _ (ha.keep (box_below HB.out)) HG.out).mono ?_
        rintro e w1 ⟨rfl, hbh⟩
        have HO1 := Lib.hid (HO.out.keep hbh)
        have HB1 := Lib.hid (HB.out.trans (hbh.mono (by omega)))
        clear hbh HO HB
        go_wp2
        go_roundw
        case rel => exact ⟨k + 1, n', c', A', by omega, by go_num, rfl, by rw [cellsTo_no hh']; exact HO1.out, HB1.out⟩
        case measure => simp [intOf]; omega
    · go_wp2
      go_ret
      have e : (W * H).toNat = k := by omega
      exact ⟨A', n', c', rfl, by rw [cellsL, e]; exact hown.lower (by omega), box_below hbw⟩


def cellsV (W H : Int) (xs : List Int) : List Int := if goodB W H xs then cellsL W H xs else []
def countV (W H : Int) (xs : List Int) : Int := if goodB W H xs then (cellsL W H xs).length else 0
def hasV (W H : Int) (xs : List Int) (q : Int) : Bool := goodB W H xs && hasB W H xs q

set_option maxHeartbeats 400000 in
theorem spec_CellsOf (W H : Int) (A : Option Addr) (n c : Nat) (xs : List Int) (w : World) (ha : Rd w A n xs) :
    Calls Try.prog 35 #[brd W H A n c] w fun e w' => ∃ A' n' c', e = .returned (.tuple #[.slice A' n' c', .bool (goodB W H xs)]) ∧ OwnI 3 w' w.heap.size A' n' c' (cellsV W H xs) ∧ Below w.heap.size w w' := by
  by_cases hg : goodB W H xs = true
  · obtain ⟨hW, hH, _, _⟩ := goodB_iff.1 hg
    have hN := Lib.hid (cells_le hW hH)
    clear hW hH
    go_enter Try.func35, Try.ntmps35
    go_wp2_with fail
    refine (boGood_any _ _ _ _ _ _ _ (ha.alloc _)).mono ?_
    rw [hg]
    rintro e w1 ⟨rfl, hb1⟩
    have hb0 := newbox hb1 0; have hb2 := newbox hb1 1; have hb3 := newbox hb1 2; have hlt := newbox_lt hb1
    simp only [List.getElem?_toArray, List.getElem?_cons_zero, List.getElem?_cons_succ] at hb0 hb2 hb3
    have HB1 := Lib.hid (below_box hb1)
    clear hb1
    go_wp2_with fail
    refine (boCells_any _ _ _ _ _ _ _ (ha.keep HB1.out) hN.out).mono ?_
    rintro e w2 ⟨A', n', c', rfl, hown, hb4⟩
    have HO := Lib.hid (hown.lower HB1.out.size); have HB2 := Lib.hid (below_next HB1.out hb4)
    clear hown hb4 HB1
    go_wp2
    go_ret2
    exact ⟨A', n', c', by rw [hg]; rfl, by rw [cellsV, if_pos hg]; exact HO.out, HB2.out⟩
  · have hg' : goodB W H xs = false := by simpa using hg
    go_enter Try.func35, Try.ntmps35
    go_wp2_with fail
    refine (boGood_any _ _ _ _ _ _ _ (ha.alloc _)).mono ?_
    rw [hg']
    rintro e w1 ⟨rfl, hb1⟩
    have HB1 := Lib.hid (below_box hb1)
    clear hb1
    go_wp2
    go_ret2
    exact ⟨none, 0, 0, by rw [hg']; rfl, by rw [cellsV, if_neg hg]; exact OwnI.none_ _ _ _, HB1.out⟩

set_option maxHeartbeats 400000 in
theorem impl_CellsOf (W H : Int) (A : Option Addr) (n c : Nat) (xs : List Int) (w : World) (ha : Rd w A n xs) :
    Calls Try.prog 36 #[brd W H A n c] w fun e w' => ∃ A' n' c', e = .returned (.tuple #[.slice A' n' c', .bool (goodB W H xs)]) ∧ OwnI 3 w' w.heap.size A' n' c' (cellsV W H xs) ∧ Below w.heap.size w w' := by
  by_cases hg : goodB W H xs = true
  · obtain ⟨hW, hH, _, _⟩ := goodB_iff.1 hg
    have hN := Lib.hid (cells_le hW hH)
    clear hW hH
    go_enter Try.func36, Try.ntmps36
    go_wp2_with fail
    refine (isBoard_any _ _ _ _ _ _ _ (ha.alloc _)).mono ?_
    rw [hg]
    rintro e w1 ⟨rfl, hb1⟩
    have hb0 := newbox hb1 0; have hb2 := newbox hb1 1; have hb3 := newbox hb1 2; have hlt := newbox_lt hb1
    simp only [List.getElem?_toArray, List.getElem?_cons_zero, List.getElem?_cons_succ] at hb0 hb2 hb3
    have HB1 := Lib.hid (below_box hb1)
    clear hb1
    go_wp2_with fail
    refine (cellsThere_any _ _ _ _ _ _ _ (ha.keep HB1.out) hg).mono ?_
    rintro e w2 ⟨A', n', c', rfl, hown, hb4⟩
    have HO := Lib.hid (hown.lower HB1.out.size); have HB2 := Lib.hid (below_next HB1.out hb4)
    clear hown hb4 HB1
    go_wp2
    go_ret2
    exact ⟨A', n', c', by rw [hg]; rfl, by rw [cellsV, if_pos hg]; exact HO.out, HB2.out⟩
  · have hg' : goodB W H xs = false := by simpa using hg
    go_enter Try.func36, Try.ntmps36
    go_wp2_with fail
    refine (isBoard_any _ _ _ _ _ _ _ (ha.alloc _)).mono ?_
    rw [hg']
    rintro e w1 ⟨rfl, hb1⟩
    have HB1 := Lib.hid (below_box hb1)
    clear hb1
    go_wp2
    go_ret2
    exact ⟨none, 0, 0, by rw [hg']; rfl, by rw [cellsV, if_neg hg]; exact OwnI.none_ _ _ _, HB1.out⟩

set_option maxHeartbeats 400000 in
theorem spec_HasCell (W H : Int) (A : Option Addr) (n c : Nat) (xs : List Int) (q : Int) (w : World) (ha : Rd w A n xs) :
    Calls Try.prog 42 #[brd W H A n c, .int .i64 q] w fun e w' => e = .returned (.tuple #[.bool (hasV W H xs q), .bool (goodB W H xs)]) ∧ Below w.heap.size w w' := by
  by_cases hg : goodB W H xs = true
  · obtain ⟨hW, hH, hlen, hri⟩ := goodB_iff.1 hg
    have hN := cells_le hW hH
    obtain ⟨hN1, hN2⟩ := hN
    have hl := ha.1
    have hn3 := ha.2.1
    have hln : (n : Int) < W * H := by omega
    have HL := Lib.hid hl
    clear hl hlen hri hW hH
    go_enter Try.func42, Try.ntmps42
    go_wp2_with fail
    refine (boGood_any _ _ _ _ _ _ _ (ha.alloc _)).mono ?_
    rw [hg]
    rintro e w1 ⟨rfl, hb1⟩
    have hb0 := newbox hb1 0; have hb2 := newbox hb1 1; have hb3 := newbox hb1 2; have hlt := newbox_lt hb1
    simp only [List.getElem?_toArray, List.getElem?_cons_zero, List.getElem?_cons_succ] at hb0 hb2 hb3
    have HB1 := Lib.hid (below_box hb1)
    clear hb1
    go_wp2_with fail
    refine (boHas_any _ _ _ _ _ _ _ _ (ha.keep HB1.out) ⟨hN1, hN2⟩).mono ?_
    rintro e w2 ⟨rfl, hb4⟩
    have HB2 := Lib.hid (below_next HB1.out hb4)
    clear hb4 HB1
    go_wp2
    go_ret2
    exact ⟨by rw [hg, hasV, hg, Bool.true_and]; rfl, HB2.out⟩
  · have hg' : goodB W H xs = false := by simpa using hg
    go_enter Try.func42, Try.ntmps42
    go_wp2_with fail
    refine (boGood_any _ _ _ _ _ _ _ (ha.alloc _)).mono ?_
    rw [hg']
    rintro e w1 ⟨rfl, hb1⟩
    have HB1 := Lib.hid (below_box hb1)
    clear hb1
    go_wp2
    go_ret2
    exact ⟨by rw [hg', hasV, hg']; rfl, HB1.out⟩

set_option maxHeartbeats 400000 in
theorem impl_HasCell (W H : Int) (A : Option Addr) (n c : Nat) (xs : List Int) (q : Int) (w : World) (ha : Rd w A n xs) :
    Calls Try.prog 43 #[brd W H A n c, .int .i64 q] w fun e w' => e = .returned (.tuple #[.bool (hasV W H xs q), .bool (goodB W H xs)]) ∧ Below w.heap.size w w' := by
  by_cases hg : goodB W H xs = true
  · obtain ⟨hW, hH, hlen, hri⟩ := goodB_iff.1 hg
    have hN := cells_le hW hH
    obtain ⟨hN1, hN2⟩ := hN
    have hl := ha.1
    have hn3 := ha.2.1
    have hln : (n : Int) < W * H := by omega
    have HL := Lib.hid hl
    clear hl hlen hri hW hH
    go_enter Try.func43, Try.ntmps43
    go_wp2_with fail
    refine (isBoard_any _ _ _ _ _ _ _ (ha.alloc _)).mono ?_
    rw [hg]
    rintro e w1 ⟨rfl, hb1⟩
    have hb0 := newbox hb1 0; have hb2 := newbox hb1 1; have hb3 := newbox hb1 2; have hlt := newbox_lt hb1
    simp only [List.getElem?_toArray, List.getElem?_cons_zero, List.getElem?_cons_succ] at hb0 hb2 hb3
    have HB1 := Lib.hid (below_box hb1)
    clear hb1
    go_wp2_with fail
    refine (isThere_any _ _ _ _ _ _ _ _ (ha.keep HB1.out) hg).mono ?_
    rintro e w2 ⟨rfl, hb4⟩
    have HB2 := Lib.hid (below_next HB1.out hb4)
    clear hb4 HB1
    go_wp2
    go_ret2
    exact ⟨by rw [hg, hasV, hg, Bool.true_and]; rfl, HB2.out⟩
  · have hg' : goodB W H xs = false := by simpa using hg
    go_enter Try.func43, Try.ntmps43
    go_wp2_with fail
    refine (isBoard_any _ _ _ _ _ _ _ (ha.alloc _)).mono ?_
    rw [hg']
    rintro e w1 ⟨rfl, hb1⟩
    have HB1 := Lib.hid (below_box hb1)
    clear hb1
    go_wp2
    go_ret2
    exact ⟨by rw [hg', hasV, hg']; rfl, HB1.out⟩

set_option maxHeartbeats 400000 in
theorem spec_CountCells (W H : Int) (A : Option Addr) (n c : Nat) (xs : List Int) (w : World) (ha : Rd w A n xs) :
    Calls Try.prog 40 #[brd W H A n c] w fun e w' => e = .returned (.tuple #[.int .i64 (countV W H xs), .bool (goodB W H xs)]) ∧ Below w.heap.size w w' := by
  by_cases hg : goodB W H xs = true
  · obtain ⟨hW, hH, hlen, hri⟩ := goodB_iff.1 hg
    have hN := cells_le hW hH
    obtain ⟨hN1, hN2⟩ := hN
    have hl := ha.1
    have hn3 := ha.2.1
    have hln : (n : Int) < W * H := by omega
    have HL := Lib.hid hl
    clear hl hlen hri hW hH
    go_enter Try.func40, Try.ntmps40
    go_wp2_with fail
    refine (boGood_any _ _ _ _ _ _ _ (ha.alloc _)).mono ?_
    rw [hg]
    rintro e w1 ⟨rfl, hb1⟩
    have hb0 := newbox hb1 0; have hb2 := newbox hb1 1; have hb3 := newbox hb1 2; have hlt := newbox_lt hb1
    simp only [List.getElem?_toArray, List.getElem?_cons_zero, List.getElem?_cons_succ] at hb0 hb2 hb3
    have HB1 := Lib.hid (below_box hb1)
    clear hb1
    go_wp2_with fail
    refine (boCells_any _ _ _ _ _ _ _ (ha.keep HB1.out) ⟨hN1, hN2⟩).mono ?_
    rintro e w2 ⟨A', n', c', rfl, hown, hb4⟩
    have HB2 := Lib.hid (below_next HB1.out hb4)
    have HO := Lib.hid hown.len
    clear hown hb4 HB1
    go_wp2
    go_ret2
    exact ⟨by rw [hg, countV, if_pos hg, HO.out]; rfl, HB2.out⟩
  · have hg' : goodB W H xs = false := by simpa using hg
    go_enter Try.func40, Try.ntmps40
    go_wp2_with fail
    refine (boGood_any _ _ _ _ _ _ _ (ha.alloc _)).mono ?_
    rw [hg']
    rintro e w1 ⟨rfl, hb1⟩
    have HB1 := Lib.hid (below_box hb1)
    clear hb1
    go_wp2
    go_ret2
    exact ⟨by rw [hg', countV, if_neg hg]; rfl, HB1.out⟩

set_option maxHeartbeats 400000 in
theorem impl_CountCells (W H : Int) (A : Option Addr) (n c : Nat) (xs : List Int) (w : World) (ha : Rd w A n xs) :
    Calls Try.prog 41 #[brd W H A n c] w fun e w' => e = .returned (.tuple #[.int .i64 (countV W H xs), .bool (goodB W H xs)]) ∧ Below w.heap.size w w' := by
  by_cases hg : goodB W H xs = true
  · obtain ⟨hW, hH, hlen, hri⟩ := goodB_iff.1 hg
    have hN := cells_le hW hH
    obtain ⟨hN1, hN2⟩ := hN
    have hl := ha.1
    have hn3 := ha.2.1
    have hln : (n : Int) < W * H := by omega
    have HL := Lib.hid hl
    clear hl hlen hri hW hH
    go_enter Try.func41, Try.ntmps41
    go_wp2_with fail
    refine (isBoard_any _ _ _ _ _ _ _ (ha.alloc _)).mono ?_
    rw [hg]
    rintro e w1 ⟨rfl, hb1⟩
    have hb0 := newbox hb1 0; have hb2 := newbox hb1 1; have hb3 := newbox hb1 2; have hlt := newbox_lt hb1
    simp only [List.getElem?_toArray, List.getElem?_cons_zero, List.getElem?_cons_succ] at hb0 hb2 hb3
    have HB1 := Lib.hid (below_box hb1)
    clear hb1
    go_wp2
    go_ret2
    exact ⟨by rw [hg, countV, if_pos hg, cellsL_len hg, HL.out]; rfl, HB1.out⟩
  · have hg' : goodB W H xs = false := by simpa using hg
    go_enter Try.func41, Try.ntmps41
    go_wp2_with fail
    refine (isBoard_any _ _ _ _ _ _ _ (ha.alloc _)).mono ?_
    rw [hg']
    rintro e w1 ⟨rfl, hb1⟩
    have HB1 := Lib.hid (below_box hb1)
    clear hb1
    go_wp2
    go_ret2
    exact ⟨by rw [hg', countV, if_neg hg]; rfl, HB1.out⟩


end Go.Proofs.Ytkbgdfibningoaa
