/-
  Contracts: DistancesFrom, the program.
-/
import Derived.Test.YtholjdllbhnldaaT6a
import Derived.Test.YtholjdllbhnldaaT5d
namespace Go.Proofs.Ytholjdllbhnldaa
open Go.RowKit

theorem far_len64 {W H a b p : Int} {xs : List Int} {N : Nat} (h : OnFacts W H xs a b N) (hp : hasB W H xs p = true) : (farL (leapsL W H xs a b) 64 p).length = 64 := by
  rw [far64 h hp, List.length_append, dist_len h hp, List.length_replicate]; have := h.n; omega

end Go.Proofs.Ytholjdllbhnldaa
