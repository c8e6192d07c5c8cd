/-
  Contracts: MirrorCell; TurnCell and MirrorCell in the model.
-/
import Derived.Test.YtnmmgalidkambaaGreatDoorB7
namespace Go.Proofs.YtnmmgalidkambaaGreatDoor
open Go.RowKit

theorem div7 {W H c : Int} (hW : 1 ≤ W ∧ W ≤ 8) (hH : 1 ≤ H ∧ H ≤ 8) (hc : 0 ≤ c ∧ c < W * H) : 0 ≤ c / W ∧ c / W ≤ 7 := by
  have := div_bd hW hc; omega


end Go.Proofs.YtnmmgalidkambaaGreatDoor
