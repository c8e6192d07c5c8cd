/-
  Contracts: the cells that are there, in order.
-/
import Derived.Test.YtkmodbeenmiogaaB3
import Derived.Test.YtkmodbeenmiogaaApp
import Derived.Test.YtkmodbeenmiogaaPure
namespace Go.Proofs.Ytkmodbeenmiogaa
open Go.RowKit

end Go.Proofs.Ytkmodbeenmiogaa
