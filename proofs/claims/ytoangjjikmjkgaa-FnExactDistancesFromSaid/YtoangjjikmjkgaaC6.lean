/-
  Sizes of what is handed back: distances.
-/
import Derived.Test.YtoangjjikmjkgaaT6b
namespace Go.Proofs.Ytoangjjikmjkgaa
open Go.RowKit

theorem len_DistancesFrom (W H : Int) (xs : List Int) (a b p : Int) : (distFromV W H xs a b p).length ≤ 1000000 := by
  unfold distFromV
  split
  · rename_i h
    have hF := on_facts (onB_one h).1
    rw [dist_len hF (onB_one h).2]; have := hF.n; omega
  · simp

end Go.Proofs.Ytoangjjikmjkgaa
