/-
  Contracts: IsWalk, IsTour, IsClosedTour.
-/
import Derived.Test.YtkdfilhiljfanaaK4
namespace Go.Proofs.Ytkdfilhiljfanaa
open Go.RowKit


def isWalkV (W H : Int) (xs : List Int) (a b : Int) (ps : List Int) : Bool := twoV W H xs a b && walkB W H xs a b ps

def isTourV (W H : Int) (xs : List Int) (a b : Int) (ps : List Int) : Bool := twoV W H xs a b && tourB W H xs a b ps

def isClosedTourV (W H : Int) (xs : List Int) (a b : Int) (ps : List Int) : Bool := twoV W H xs a b && closedB W H xs a b ps

end Go.Proofs.Ytkdfilhiljfanaa
