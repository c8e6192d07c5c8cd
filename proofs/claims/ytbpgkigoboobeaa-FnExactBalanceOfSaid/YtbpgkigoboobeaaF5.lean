/-
  Contracts: BalanceOf.
-/
import Derived.Test.YtbpgkigoboobeaaK7a
namespace Go.Proofs.Ytbpgkigoboobeaa
open Go.RowKit

def evenV (W H : Int) (xs : List Int) : Int := if goodB W H xs then (eN W (cellsL W H xs) : Int) else 0
def oddV (W H : Int) (xs : List Int) : Int := if goodB W H xs then (oN W (cellsL W H xs) : Int) else 0

set_option maxRecDepth 100000 in
set_option maxHeartbeats 2000000 in
theorem impl_BalanceOf (W H : Int) (A : Option Addr) (n c : Nat) (xs : List Int) (w : World) (ha : Rd w A n xs) :
    Calls Try.prog 26 #[brd W H A n c] w fun e w' => e = .returned (.tuple #[.int .i64 (evenV W H xs), .int .i64 (oddV W H xs), .bool (goodB W H xs)]) ∧ Below w.heap.size w w' := by
  by_cases hg : goodB W H xs = true
  · have HG := Lib.hid hg
    go_enter Try.func26, Try.ntmps26
    go_wp2_with fail
    refine (isBoard_any _ _ _ _ _ _ _ (ha.alloc _)).mono ?_
    rw [hg]
    rintro e wv ⟨rfl, hb⟩
    have a0 := newbox hb 0; have a1 := newbox hb 1; have a2 := newbox hb 2
    simp only [List.getElem?_toArray, List.getElem?_cons_zero, List.getElem?_cons_succ] at a0 a1 a2
    have B := Lib.hid (below_box hb)
    clear hb hg
    go_wp2_with fail
    refine (balanceOf_any W H A n c xs _ (ha.keep B.out) HG.out).mono ?_
    rintro e wz ⟨rfl, hb⟩
    replace B := Lib.hid (below_next B.out hb)
    clear hb a0 a1 a2
    go_wp2
    go_ret3
    exact ⟨by rw [evenV, oddV, HG.out]; rfl, B.out⟩
  · have hg' : goodB W H xs = false := by simpa using hg
    go_enter Try.func26, Try.ntmps26
    go_wp2_with fail
    refine (isBoard_any _ _ _ _ _ _ _ (ha.alloc _)).mono ?_
    rw [hg']
    rintro e wv ⟨rfl, hb⟩
    have B := Lib.hid (below_box hb)
    clear hb
    go_wp2
    go_ret3
    exact ⟨by rw [evenV, oddV, hg']; rfl, B.out⟩

set_option maxRecDepth 100000 in
set_option maxHeartbeats 4000000 in
theorem spec_BalanceOf (W H : Int) (A : Option Addr) (n c : Nat) (xs : List Int) (w : World) (ha : Rd w A n xs) :
    Calls Try.prog 25 #[brd W H A n c] w fun e w' => e = .returned (.tuple #[.int .i64 (evenV W H xs), .int .i64 (oddV W H xs), .bool (goodB W H xs)]) ∧ Below w.heap.size w w' := by
  by_cases hg : goodB W H xs = true
  · have HG := Lib.hid hg
    have HW : Hid (1 ≤ W ∧ W ≤ 8) := Lib.hid (goodB_iff.1 hg).1
    have HN := Lib.hid (good_N7 hg)
    go_enter Try.func25, Try.ntmps25
    go_wp2_with fail
    refine (boGood_any _ _ _ _ _ _ _ (ha.alloc _)).mono ?_
    rw [hg]
    rintro e wv ⟨rfl, hb⟩
    have a0 := newbox hb 0; have a1 := newbox hb 1; have a2 := newbox hb 2; have al := newbox_lt hb
    simp only [List.getElem?_toArray, List.getElem?_cons_zero, List.getElem?_cons_succ] at a0 a1 a2
    have B := Lib.hid (below_box hb)
    clear hb hg
    go_wp2_with fail
    refine (boCells_any W H A n c xs _ (ha.keep B.out) HN.out).mono ?_
    rintro e wv ⟨A', n', c', rfl, own, hb⟩
    replace a0 := cell_keep a0 al hb
    replace al := lt_keep al hb
    replace B := Lib.hid (below_next B.out hb)
    have HL := Lib.hid own.len
    have RC := Lib.hid own.rd
    have hn8 : n' ≤ 64 := by have := own.len; have := cells_64 HG.out; omega
    clear own hb a1 a2
    go_wp2
    go_loopw [5, 6, 15] (fun s t i wr => ∃ (k E O : Nat), k ≤ n' ∧ i = .int .i64 k ∧ s = .int .i64 E ∧ t = .int .i64 O ∧ E = eN W ((cellsL W H xs).take k) ∧ O = oN W ((cellsL W H xs).take k) ∧ Below wv.heap.size wv wr) (fun _ _ i _ => n' - (intOf i).toNat)
    case atStart => exact ⟨0, 0, 0, Nat.zero_le _, rfl, rfl, rfl, by simp [eN], by simp [oN], Below.refl _ _⟩
    case round =>
      obtain ⟨k, E, O, hk, rfl, rfl, rfl, hE, hO, hbw⟩ := hrel
      have HE := Lib.hid hE; have HO := Lib.hid hO
      have hb9 : E ≤ 64 ∧ O ≤ 64 := by
        have := eo_len W ((cellsL W H xs).take k)
        rw [List.length_take, HL.out] at this; omega
      obtain ⟨hE9, hO9⟩ := hb9
      clear hE hO
      by_cases hlt : k < n'
      · obtain ⟨bb, oo, x, rfl, hg1, hx, x0⟩ := RC.out.at_ hlt
        have HX := Lib.hid hx
        replace x0 := cell_keep x0 hg1 hbw
        have b0 := cell_keep a0 al hbw
        have HB := Lib.hid hbw
        obtain ⟨hx0, hx1⟩ := cells_rng HG.out x (List.mem_of_getElem? hx)
        obtain ⟨hr1, hr2, hr3, hr4⟩ := row_facts HW.out ⟨hx0, hx1⟩
        obtain ⟨hW1, hW2⟩ := HW.out
        clear hx hbw
        cases hs : evB W x with
        | true =>
          have HS := Lib.hid hs
          have hpv : (x % W + x / W) % 2 = 0 := by simpa [evB] using hs
          clear hs
          go_wp2
          go_quiet (fail)
          go_wp2
          go_roundw
          case rel => exact ⟨k + 1, E + 1, O, by omega, by go_num, by go_num, by go_num, by have h := e_step HX.out HS.out; rw [h.1, HE.out], by have h := e_step HX.out HS.out; rw [h.2, HO.out], below_drewN HB.out _⟩
          case measure => simp [intOf]; omega
        | false =>
          have HS := Lib.hid hs
          have hpv : (x % W + x / W) % 2 = 1 := by have := hs; simp [evB] at this; omega
          clear hs
          go_wp2
          go_quiet (fail)
          go_wp2
          go_roundw
          case rel => exact ⟨k + 1, E, O + 1, by omega, by go_num, by go_num, by go_num, by have h := o_step HX.out HS.out; rw [h.1, HE.out], by have h := o_step HX.out HS.out; rw [h.2, HO.out], below_drewN HB.out _⟩
          case measure => simp [intOf]; omega
      · have HE2 := Lib.hid (show E = eN W (cellsL W H xs) by have h := HE.out; rw [List.take_of_length_le (by have := HL.out; omega)] at h; exact h)
        have HO2 := Lib.hid (show O = oN W (cellsL W H xs) by have h := HO.out; rw [List.take_of_length_le (by have := HL.out; omega)] at h; exact h)
        have HB := Lib.hid hbw
        clear hbw
        go_wp2
        go_ret3
        exact ⟨by rw [evenV, oddV, HG.out, ← HE2.out, ← HO2.out]; rfl, B.out.trans (HB.out.mono B.out.size)⟩
  · have hg' : goodB W H xs = false := by simpa using hg
    go_enter Try.func25, Try.ntmps25
    go_wp2_with fail
    refine (boGood_any _ _ _ _ _ _ _ (ha.alloc _)).mono ?_
    rw [hg']
    rintro e wv ⟨rfl, hb⟩
    have B := Lib.hid (below_box hb)
    clear hb
    go_wp2
    go_ret3
    exact ⟨by rw [evenV, oddV, hg']; rfl, B.out⟩

end Go.Proofs.Ytbpgkigoboobeaa
