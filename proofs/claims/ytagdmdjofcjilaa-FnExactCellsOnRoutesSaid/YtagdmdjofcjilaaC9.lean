/-
  Sizes of what is handed back: cells on routes.
-/
import Derived.Test.YtagdmdjofcjilaaR3
namespace Go.Proofs.Ytagdmdjofcjilaa
open Go.RowKit

theorem len_CellsOnRoutes (W H : Int) (xs : List Int) (a b p q : Int) : (onRoutesV W H xs a b p q).length ≤ 1000000 := by
  unfold onRoutesV
  split
  · rename_i h
    have hF := on_facts (onB_two h).1
    have := selTo_len (routeSel (distL W H xs a b p) (distL W H xs a b q) (distV W H xs a b p q)) (W * H).toNat
    have := hF.n; have := hF.wh; omega
  · simp

end Go.Proofs.Ytagdmdjofcjilaa
