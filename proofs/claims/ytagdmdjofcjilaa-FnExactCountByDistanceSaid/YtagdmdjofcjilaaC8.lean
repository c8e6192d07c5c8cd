/-
  Sizes of what is handed back: counts by distance.
-/
import Derived.Test.YtagdmdjofcjilaaT10b
namespace Go.Proofs.Ytagdmdjofcjilaa
open Go.RowKit

theorem len_CountByDistance (W H : Int) (xs : List Int) (a b p : Int) : (countsV W H xs a b p).length ≤ 1000000 := by
  unfold countsV
  split
  · rename_i h
    have hF := on_facts (onB_one h).1
    have hb := dist_bd hF (onB_one h).2
    have := (cnt_pad (M := 65) (distL W H xs a b p) [] (fun x hx => by have := hb x hx; omega) (by simp)).2
    unfold cntL
    omega
  · simp

end Go.Proofs.Ytagdmdjofcjilaa
