/-
  Contracts: IsUncrossed, BackPath.
-/
import Derived.Test.YtadopgfpfbianaaJD
import Derived.Test.YtadopgfpfbianaaZ4
namespace Go.Proofs.Ytadopgfpfbianaa
open Go.RowKit

def unB (W : Int) (ps : List Int) : Bool := (crossN W ps : Int) == 0
def uncrossV (W H : Int) (xs : List Int) (a b : Int) (ps : List Int) : Bool := okWk W H xs a b ps && unB W ps
theorem ok_ne {W H a b : Int} {xs ps : List Int} (h : okWk W H xs a b ps = true) : ∀ i, i + 1 < ps.length → ps.getD i 0 ≠ ps.getD (i + 1) 0 := path_ne (ok_two h) (walk_path2 (ok_walk h))
def backV (W H : Int) (xs : List Int) (a b : Int) (ps : List Int) : List Int := if okPa W H xs a b ps then ps.reverse else []
theorem len_BackPath (W H : Int) (xs : List Int) (a b : Int) (ps : List Int) : (backV W H xs a b ps).length ≤ 1000000 := by
  unfold backV; split
  · rename_i h; have := okPa_len h; rw [List.length_reverse]; omega
  · simp

end Go.Proofs.Ytadopgfpfbianaa
