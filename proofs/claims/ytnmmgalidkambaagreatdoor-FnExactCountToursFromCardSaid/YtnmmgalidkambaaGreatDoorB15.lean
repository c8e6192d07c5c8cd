/-
  Contracts: IsPath.
-/
import Derived.Test.YtnmmgalidkambaaGreatDoorB14
namespace Go.Proofs.YtnmmgalidkambaaGreatDoor
open Go.RowKit

def twoV (W H : Int) (xs : List Int) (a b : Int) : Bool := goodB W H xs && leaperB a b
def isPathV (W H : Int) (xs : List Int) (a b : Int) (ps : List Int) : Bool := if twoV W H xs a b then pathB W H xs a b ps else false

end Go.Proofs.YtnmmgalidkambaaGreatDoor
