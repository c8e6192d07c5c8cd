/-
  Sizes of what is handed back: cells within a distance.
-/
import Derived.Test.YtagdmdjofcjilaaT8b
namespace Go.Proofs.Ytagdmdjofcjilaa
open Go.RowKit

theorem len_CellsWithin (W H : Int) (xs : List Int) (a b p q : Int) : (withinV W H xs a b p q).length ≤ 1000000 := by
  unfold withinV
  split
  · rename_i h
    rw [okWithin, Bool.and_eq_true] at h
    have hF := on_facts (onB_one h.1).1
    have := selTo_len (nearB (distL W H xs a b p) q) (W * H).toNat
    have := hF.n; have := hF.wh; omega
  · simp

end Go.Proofs.Ytagdmdjofcjilaa
