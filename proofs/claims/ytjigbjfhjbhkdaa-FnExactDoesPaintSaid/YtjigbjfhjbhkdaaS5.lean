/-
  Contracts: whether a spot is there.
-/
import Derived.Test.YtjigbjfhjbhkdaaQ1
import Derived.Test.YtjigbjfhjbhkdaaB9
import Derived.Deep.RegionHeld3
namespace Go.Proofs.Ytjigbjfhjbhkdaa
open Go.RowKit

theorem mul_bd {y W : Int} (hy : -100 ≤ y ∧ y ≤ 100) (hW : 1 ≤ W ∧ W ≤ 8) : -1000 ≤ y * W ∧ y * W ≤ 1000 := by
  have h : W = 1 ∨ W = 2 ∨ W = 3 ∨ W = 4 ∨ W = 5 ∨ W = 6 ∨ W = 7 ∨ W = 8 := by omega
  rcases h with rfl | rfl | rfl | rfl | rfl | rfl | rfl | rfl <;> omega

end Go.Proofs.Ytjigbjfhjbhkdaa
