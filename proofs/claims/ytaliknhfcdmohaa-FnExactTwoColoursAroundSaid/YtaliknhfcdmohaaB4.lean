/-
  Contracts: the cells that are there, in order.
-/
import Derived.Test.YtaliknhfcdmohaaB3
import Derived.Test.YtaliknhfcdmohaaApp
import Derived.Test.YtaliknhfcdmohaaPure
namespace Go.Proofs.Ytaliknhfcdmohaa
open Go.RowKit

end Go.Proofs.Ytaliknhfcdmohaa
