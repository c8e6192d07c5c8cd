/-
  Contracts: cells in order, in the program; CellsOf, CountCells, HasCell, PlainBoard.
-/
import Derived.Test.YtmecomcokmffbaaB4
namespace Go.Proofs.Ytmecomcokmffbaa
open Go.RowKit

def cellsV (W H : Int) (xs : List Int) : List Int := if goodB W H xs then cellsL W H xs else []
def countV (W H : Int) (xs : List Int) : Int := if goodB W H xs then (cellsL W H xs).length else 0
def hasV (W H : Int) (xs : List Int) (q : Int) : Bool := goodB W H xs && hasB W H xs q

end Go.Proofs.Ytmecomcokmffbaa
