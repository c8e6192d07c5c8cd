/-
  Contracts: whether no leap joins two cells of one colour, in the model (no table is read).
-/
import Derived.Test.YtmmfjmgjkbplpaaGreatDoorS9
import Derived.Deep.RegionHeld3
namespace Go.Proofs.YtmmfjmgjkbplpaaGreatDoor
open Go.RowKit

def cAt (cs : List Int) (x : Int) : Int := cs.getD x.toNat 0
/-- No leap joins two cells of one colour. -/
def paIsB (W H : Int) (xs : List Int) (a b : Int) (cs : List Int) : Bool := (cellsL W H xs).all fun c => (leapsL W H xs a b c).all fun d => !(cAt cs c == cAt cs d)
theorem cells_rng64 {W H : Int} {xs : List Int} (hg : goodB W H xs = true) : ∀ x ∈ cellsL W H xs, 0 ≤ x ∧ x < 64 := fun x hx => by
  have h1 := (hasB_iff.1 (cellsL_mem.1 hx)).1
  obtain ⟨hW, hH, _, _⟩ := goodB_iff.1 hg
  have := cells_le hW hH
  omega
theorem cAt_of {cs : List Int} {x : Int} (h1 : x.toNat < cs.length) : cs[x.toNat]? = some (cAt cs x) := by
  rw [cAt, List.getD_eq_getElem?_getD, List.getElem?_eq_getElem h1]; rfl

end Go.Proofs.YtmmfjmgjkbplpaaGreatDoor

namespace Go.Proofs.YtmmfjmgjkbplpaaGreatDoor
open Go.RowKit

end Go.Proofs.YtmmfjmgjkbplpaaGreatDoor
