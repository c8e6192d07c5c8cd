/-
  Contracts: the cells that are there, in order.
-/
import Derived.Test.YtnhmnkdmocnaeaaB3
import Derived.Test.YtnhmnkdmocnaeaaApp
import Derived.Test.YtnhmnkdmocnaeaaPure
namespace Go.Proofs.Ytnhmnkdmocnaeaa
open Go.RowKit

end Go.Proofs.Ytnhmnkdmocnaeaa
