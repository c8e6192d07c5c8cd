/-
  Contracts: TurnBoard, MirrorBoard.
-/
import Derived.Test.YtkdfilhiljfanaaU2
namespace Go.Proofs.Ytkdfilhiljfanaa
open Go.RowKit

theorem num_ofU (W c : Int) : c / W * W + c % W = c := by have := Int.mul_ediv_add_emod c W; rw [Int.mul_comm] at this; exact this
def TurnBoard_w (W H : Int) (xs : List Int) : Int := if goodB W H xs then H else 0
def TurnBoard_h (W H : Int) (xs : List Int) : Int := if goodB W H xs then W else 0
def TurnBoard_l (W H : Int) (xs : List Int) : List Int := if goodB W H xs then movedL (xs.map (turnV W H)) else []
def MirrorBoard_w (W H : Int) (xs : List Int) : Int := if goodB W H xs then W else 0
def MirrorBoard_h (W H : Int) (xs : List Int) : Int := if goodB W H xs then H else 0
def MirrorBoard_l (W H : Int) (xs : List Int) : List Int := if goodB W H xs then movedL (xs.map (mirrorV W)) else []
theorem few_moved {W H : Int} {xs : List Int} (f : Int → Int) (h : goodB W H xs = true) : (movedL (xs.map f)).length ≤ 1000000 := by
  have h1 := movedL_len (xs.map f)
  have h2 := holes_few h
  rw [List.length_map] at h1; omega
theorem len_TurnBoard (W H : Int) (xs : List Int) : (TurnBoard_l W H xs).length ≤ 1000000 := by
  unfold TurnBoard_l; split
  · exact few_moved _ ‹_›
  · simp
theorem len_MirrorBoard (W H : Int) (xs : List Int) : (MirrorBoard_l W H xs).length ≤ 1000000 := by
  unfold MirrorBoard_l; split
  · exact few_moved _ ‹_›
  · simp

end Go.Proofs.Ytkdfilhiljfanaa
