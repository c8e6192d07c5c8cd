/-
  Contracts: which cells are there.
-/
import Derived.Test.YtnhmnkdmocnaeaaB2
import Derived.Test.YtnhmnkdmocnaeaaShelf
namespace Go.Proofs.Ytnhmnkdmocnaeaa
open Go.RowKit

end Go.Proofs.Ytnhmnkdmocnaeaa
