/-
  Contracts: TurnBoard, MirrorBoard.
-/
import Derived.Test.YtmghjohpmlhdlaaU2
namespace Go.Proofs.Ytmghjohpmlhdlaa
open Go.RowKit

theorem num_ofU (W c : Int) : c / W * W + c % W = c := by have := Int.mul_ediv_add_emod c W; rw [Int.mul_comm] at this; exact this
def TurnBoard_w (W H : Int) (xs : List Int) : Int := if goodB W H xs then H else 0
def TurnBoard_h (W H : Int) (xs : List Int) : Int := if goodB W H xs then W else 0
def TurnBoard_l (W H : Int) (xs : List Int) : List Int := if goodB W H xs then movedL (xs.map (turnV W H)) else []
def MirrorBoard_w (W H : Int) (xs : List Int) : Int := if goodB W H xs then W else 0
def MirrorBoard_h (W H : Int) (xs : List Int) : Int := if goodB W H xs then H else 0
def MirrorBoard_l (W H : Int) (xs : List Int) : List Int := if goodB W H xs then movedL (xs.map (mirrorV W)) else []
theorem few_moved {W H : Int} {xs : List Int} (f : Int → Int) (h : goodB W H xs = true) : (movedL (xs.map f)).length ≤ 1000000 := by
  have h1 := movedL_len (xs.map f)
  have h2 := holes_few h
  rw [List.length_map] at h1; omega
theorem len_TurnBoard (W H : Int) (xs : List Int) : (TurnBoard_l W H xs).length ≤ 1000000 := by
  unfold TurnBoard_l; split
  · exact few_moved _ ‹_›
  · simp
theorem len_MirrorBoard (W H : Int) (xs : List Int) : (MirrorBoard_l W H xs).length ≤ 1000000 := by
  unfold MirrorBoard_l; split
  · exact few_moved _ ‹_›
  · simp

set_option maxRecDepth 100000 in
set_option maxHeartbeats 1000000 in
theorem spec_TurnBoard (W H : Int) (A : Option Addr) (n c : Nat) (xs : List Int) (w : World) (ha : Rd w A n xs) :
    Calls Try.prog 33 #[brd W H A n c] w fun e w' => ∃ A' n' c', e = .returned (.tuple #[brd (TurnBoard_w W H xs) (TurnBoard_h W H xs) A' n' c', .bool (goodB W H xs)]) ∧ OwnI 3 w' w.heap.size A' n' c' (TurnBoard_l W H xs) ∧ Below w.heap.size w w' := by
  obtain ⟨W2, hW2⟩ : ∃ W2, W2 = (w.alloc (.cells #[.int .i64 W, .int .i64 H, .slice A n c] 28)).alloc (.cells #[.int .i64 0, .int .i64 0, .slice none 0 0] 28) := ⟨_, rfl⟩
  have hsz : W2.heap.size = w.heap.size + 2 := by rw [hW2]; simp
  have a0 : W2.cell? ⟨w.heap.size, 0, none⟩ = some (.int .i64 W) := by rw [hW2]; go_simp
  have a1 : W2.cell? ⟨w.heap.size, 1, none⟩ = some (.int .i64 H) := by rw [hW2]; go_simp
  have a2 : W2.cell? ⟨w.heap.size, 2, none⟩ = some (.slice A n c) := by rw [hW2]; go_simp
  have r0 : W2.cell? ⟨w.heap.size + 1, 0, none⟩ = some (.int .i64 0) := by rw [hW2]; go_simp
  have r1 : W2.cell? ⟨w.heap.size + 1, 1, none⟩ = some (.int .i64 0) := by rw [hW2]; go_simp
  have r2 : W2.cell? ⟨w.heap.size + 1, 2, none⟩ = some (.slice none 0 0) := by rw [hW2]; go_simp
  have f0 : W2.frozen? ⟨w.heap.size + 1, 0, none⟩ = false := by rw [hW2]; go_simp
  have f1 : W2.frozen? ⟨w.heap.size + 1, 1, none⟩ = false := by rw [hW2]; go_simp
  have f2 : W2.frozen? ⟨w.heap.size + 1, 2, none⟩ = false := by rw [hW2]; go_simp
  have al : w.heap.size < W2.heap.size := by omega
  have rl : w.heap.size + 1 < W2.heap.size := by omega
  have B := Lib.hid (show Below w.heap.size w W2 by rw [hW2]; exact below_new (below_new (Below.refl _ _) _) _)
  have R := Lib.hid (ha.keep B.out)
  by_cases hg : goodB W H xs = true
  · have HG := Lib.hid hg
    go_enter Try.func33, Try.ntmps33
    go_wp2_with fail
    rw [← hW2]
    clear hW2
    refine (boGood_any W H A n c xs W2 R.out).mono ?_
    rw [hg]
    rintro e wv ⟨rfl, hb⟩
    replace a0 := cell_keep a0 al hb; replace a1 := cell_keep a1 al hb; replace a2 := cell_keep a2 al hb; replace r0 := cell_keep r0 rl hb; replace r1 := cell_keep r1 rl hb; replace r2 := cell_keep r2 rl hb; replace f0 := (hb.frozen (p := ⟨w.heap.size + 1, 0, none⟩) rl).trans f0; replace f1 := (hb.frozen (p := ⟨w.heap.size + 1, 1, none⟩) rl).trans f1; replace f2 := (hb.frozen (p := ⟨w.heap.size + 1, 2, none⟩) rl).trans f2; replace al := lt_keep al hb; replace rl := lt_keep rl hb; replace B := Lib.hid (below_next B.out hb)
    clear hb hsz R
    have R9 := Lib.hid rl
    go_wp2_with fail
    refine (boTurned_any W H A n c xs _ (ha.keep B.out) HG.out).mono ?_
    rintro e wx ⟨A9, n9, c9, rfl, own, hb⟩
    have O9 := Lib.hid own
    replace a0 := cell_keep a0 al hb; replace a1 := cell_keep a1 al hb; replace a2 := cell_keep a2 al hb; replace r0 := cell_keep r0 rl hb; replace r1 := cell_keep r1 rl hb; replace r2 := cell_keep r2 rl hb; replace f0 := (hb.frozen (p := ⟨w.heap.size + 1, 0, none⟩) rl).trans f0; replace f1 := (hb.frozen (p := ⟨w.heap.size + 1, 1, none⟩) rl).trans f1; replace f2 := (hb.frozen (p := ⟨w.heap.size + 1, 2, none⟩) rl).trans f2; replace al := lt_keep al hb; replace rl := lt_keep rl hb; replace B := Lib.hid (below_next B.out hb)
    clear own hb hg
    go_wp2
    exact bodyPost_ret (v := .tuple #[brd H W A9 n9 c9, .bool true]) (by simp [results, Try.results33, go_sem, r0, r1, r2]) rfl ⟨A9, n9, c9, by rw [TurnBoard_w, TurnBoard_h, HG.out]; rfl, by rw [TurnBoard_l, if_pos HG.out]; exact (((O9.out.set_ (p := ⟨w.heap.size + 1, 0, none⟩) (by have := R9.out; show w.heap.size + 1 < _; omega) _).set_ (p := ⟨w.heap.size + 1, 1, none⟩) (by have := R9.out; show w.heap.size + 1 < _; omega) _).set_ (p := ⟨w.heap.size + 1, 2, none⟩) (by have := R9.out; show w.heap.size + 1 < _; omega) _).lower (by have := R9.out; omega), (Below.setCell (Below.setCell (Below.setCell B.out (p := ⟨w.heap.size + 1, 0, none⟩) (by simp) _) (p := ⟨w.heap.size + 1, 1, none⟩) (by simp) _) (p := ⟨w.heap.size + 1, 2, none⟩) (by simp) _)⟩
  · have hg' : goodB W H xs = false := by simpa using hg
    have HG := Lib.hid hg'
    go_enter Try.func33, Try.ntmps33
    go_wp2_with fail
    rw [← hW2]
    clear hW2
    refine (boGood_any W H A n c xs W2 R.out).mono ?_
    rw [hg']
    rintro e wv ⟨rfl, hb⟩
    replace a0 := cell_keep a0 al hb; replace a1 := cell_keep a1 al hb; replace a2 := cell_keep a2 al hb; replace r0 := cell_keep r0 rl hb; replace r1 := cell_keep r1 rl hb; replace r2 := cell_keep r2 rl hb; replace f0 := (hb.frozen (p := ⟨w.heap.size + 1, 0, none⟩) rl).trans f0; replace f1 := (hb.frozen (p := ⟨w.heap.size + 1, 1, none⟩) rl).trans f1; replace f2 := (hb.frozen (p := ⟨w.heap.size + 1, 2, none⟩) rl).trans f2; replace al := lt_keep al hb; replace rl := lt_keep rl hb; replace B := Lib.hid (below_next B.out hb)
    clear hb hsz R
    go_wp2
    exact bodyPost_ret (v := .tuple #[brd 0 0 none 0 0, .bool false]) (by simp [results, Try.results33, go_sem, r0, r1, r2]) rfl ⟨none, 0, 0, by rw [TurnBoard_w, TurnBoard_h, HG.out]; rfl, by rw [TurnBoard_l, HG.out]; exact OwnI.none_ _ _ _, (Below.setCell (Below.setCell (Below.setCell B.out (p := ⟨w.heap.size + 1, 0, none⟩) (by simp) _) (p := ⟨w.heap.size + 1, 1, none⟩) (by simp) _) (p := ⟨w.heap.size + 1, 2, none⟩) (by simp) _)⟩

set_option maxRecDepth 100000 in
set_option maxHeartbeats 1000000 in
theorem spec_MirrorBoard (W H : Int) (A : Option Addr) (n c : Nat) (xs : List Int) (w : World) (ha : Rd w A n xs) :
    Calls Try.prog 37 #[brd W H A n c] w fun e w' => ∃ A' n' c', e = .returned (.tuple #[brd (MirrorBoard_w W H xs) (MirrorBoard_h W H xs) A' n' c', .bool (goodB W H xs)]) ∧ OwnI 3 w' w.heap.size A' n' c' (MirrorBoard_l W H xs) ∧ Below w.heap.size w w' := by
  obtain ⟨W2, hW2⟩ : ∃ W2, W2 = (w.alloc (.cells #[.int .i64 W, .int .i64 H, .slice A n c] 28)).alloc (.cells #[.int .i64 0, .int .i64 0, .slice none 0 0] 28) := ⟨_, rfl⟩
  have hsz : W2.heap.size = w.heap.size + 2 := by rw [hW2]; simp
  have a0 : W2.cell? ⟨w.heap.size, 0, none⟩ = some (.int .i64 W) := by rw [hW2]; go_simp
  have a1 : W2.cell? ⟨w.heap.size, 1, none⟩ = some (.int .i64 H) := by rw [hW2]; go_simp
  have a2 : W2.cell? ⟨w.heap.size, 2, none⟩ = some (.slice A n c) := by rw [hW2]; go_simp
  have r0 : W2.cell? ⟨w.heap.size + 1, 0, none⟩ = some (.int .i64 0) := by rw [hW2]; go_simp
  have r1 : W2.cell? ⟨w.heap.size + 1, 1, none⟩ = some (.int .i64 0) := by rw [hW2]; go_simp
  have r2 : W2.cell? ⟨w.heap.size + 1, 2, none⟩ = some (.slice none 0 0) := by rw [hW2]; go_simp
  have f0 : W2.frozen? ⟨w.heap.size + 1, 0, none⟩ = false := by rw [hW2]; go_simp
  have f1 : W2.frozen? ⟨w.heap.size + 1, 1, none⟩ = false := by rw [hW2]; go_simp
  have f2 : W2.frozen? ⟨w.heap.size + 1, 2, none⟩ = false := by rw [hW2]; go_simp
  have al : w.heap.size < W2.heap.size := by omega
  have rl : w.heap.size + 1 < W2.heap.size := by omega
  have B := Lib.hid (show Below w.heap.size w W2 by rw [hW2]; exact below_new (below_new (Below.refl _ _) _) _)
  have R := Lib.hid (ha.keep B.out)
  by_cases hg : goodB W H xs = true
  · have HG := Lib.hid hg
    go_enter Try.func37, Try.ntmps37
    go_wp2_with fail
    rw [← hW2]
    clear hW2
    refine (boGood_any W H A n c xs W2 R.out).mono ?_
    rw [hg]
    rintro e wv ⟨rfl, hb⟩
    replace a0 := cell_keep a0 al hb; replace a1 := cell_keep a1 al hb; replace a2 := cell_keep a2 al hb; replace r0 := cell_keep r0 rl hb; replace r1 := cell_keep r1 rl hb; replace r2 := cell_keep r2 rl hb; replace f0 := (hb.frozen (p := ⟨w.heap.size + 1, 0, none⟩) rl).trans f0; replace f1 := (hb.frozen (p := ⟨w.heap.size + 1, 1, none⟩) rl).trans f1; replace f2 := (hb.frozen (p := ⟨w.heap.size + 1, 2, none⟩) rl).trans f2; replace al := lt_keep al hb; replace rl := lt_keep rl hb; replace B := Lib.hid (below_next B.out hb)
    clear hb hsz R
    have R9 := Lib.hid rl
    go_wp2_with fail
    refine (boMirrored_any W H A n c xs _ (ha.keep B.out) HG.out).mono ?_
    rintro e wx ⟨A9, n9, c9, rfl, own, hb⟩
    have O9 := Lib.hid own
    replace a0 := cell_keep a0 al hb; replace a1 := cell_keep a1 al hb; replace a2 := cell_keep a2 al hb; replace r0 := cell_keep r0 rl hb; replace r1 := cell_keep r1 rl hb; replace r2 := cell_keep r2 rl hb; replace f0 := (hb.frozen (p := ⟨w.heap.size + 1, 0, none⟩) rl).trans f0; replace f1 := (hb.frozen (p := ⟨w.heap.size + 1, 1, none⟩) rl).trans f1; replace f2 := (hb.frozen (p := ⟨w.heap.size + 1, 2, none⟩) rl).trans f2; replace al := lt_keep al hb; replace rl := lt_keep rl hb; replace B := Lib.hid (below_next B.out hb)
    clear own hb hg
    go_wp2
    exact bodyPost_ret (v := .tuple #[brd W H A9 n9 c9, .bool true]) (by simp [results, Try.results37, go_sem, r0, r1, r2]) rfl ⟨A9, n9, c9, by rw [MirrorBoard_w, MirrorBoard_h, HG.out]; rfl, by rw [MirrorBoard_l, if_pos HG.out]; exact (((O9.out.set_ (p := ⟨w.heap.size + 1, 0, none⟩) (by have := R9.out; show w.heap.size + 1 < _; omega) _).set_ (p := ⟨w.heap.size + 1, 1, none⟩) (by have := R9.out; show w.heap.size + 1 < _; omega) _).set_ (p := ⟨w.heap.size + 1, 2, none⟩) (by have := R9.out; show w.heap.size + 1 < _; omega) _).lower (by have := R9.out; omega), (Below.setCell (Below.setCell (Below.setCell B.out (p := ⟨w.heap.size + 1, 0, none⟩) (by simp) _) (p := ⟨w.heap.size + 1, 1, none⟩) (by simp) _) (p := ⟨w.heap.size + 1, 2, none⟩) (by simp) _)⟩
  · have hg' : goodB W H xs = false := by simpa using hg
    have HG := Lib.hid hg'
    go_enter Try.func37, Try.ntmps37
    go_wp2_with fail
    rw [← hW2]
    clear hW2
    refine (boGood_any W H A n c xs W2 R.out).mono ?_
    rw [hg']
    rintro e wv ⟨rfl, hb⟩
    replace a0 := cell_keep a0 al hb; replace a1 := cell_keep a1 al hb; replace a2 := cell_keep a2 al hb; replace r0 := cell_keep r0 rl hb; replace r1 := cell_keep r1 rl hb; replace r2 := cell_keep r2 rl hb; replace f0 := (hb.frozen (p := ⟨w.heap.size + 1, 0, none⟩) rl).trans f0; replace f1 := (hb.frozen (p := ⟨w.heap.size + 1, 1, none⟩) rl).trans f1; replace f2 := (hb.frozen (p := ⟨w.heap.size + 1, 2, none⟩) rl).trans f2; replace al := lt_keep al hb; replace rl := lt_keep rl hb; replace B := Lib.hid (below_next B.out hb)
    clear hb hsz R
    go_wp2
    exact bodyPost_ret (v := .tuple #[brd 0 0 none 0 0, .bool false]) (by simp [results, Try.results37, go_sem, r0, r1, r2]) rfl ⟨none, 0, 0, by rw [MirrorBoard_w, MirrorBoard_h, HG.out]; rfl, by rw [MirrorBoard_l, HG.out]; exact OwnI.none_ _ _ _, (Below.setCell (Below.setCell (Below.setCell B.out (p := ⟨w.heap.size + 1, 0, none⟩) (by simp) _) (p := ⟨w.heap.size + 1, 1, none⟩) (by simp) _) (p := ⟨w.heap.size + 1, 2, none⟩) (by simp) _)⟩

end Go.Proofs.Ytmghjohpmlhdlaa
