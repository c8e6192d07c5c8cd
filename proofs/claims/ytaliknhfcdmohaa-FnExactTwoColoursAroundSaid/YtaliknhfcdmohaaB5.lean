/-
  Contracts: cells in order, in the program; CellsOf, CountCells, HasCell, PlainBoard.
-/
import Derived.Test.YtaliknhfcdmohaaB4
namespace Go.Proofs.Ytaliknhfcdmohaa
open Go.RowKit

def cellsV (W H : Int) (xs : List Int) : List Int := if goodB W H xs then cellsL W H xs else []
def countV (W H : Int) (xs : List Int) : Int := if goodB W H xs then (cellsL W H xs).length else 0
def hasV (W H : Int) (xs : List Int) (q : Int) : Bool := goodB W H xs && hasB W H xs q

end Go.Proofs.Ytaliknhfcdmohaa
