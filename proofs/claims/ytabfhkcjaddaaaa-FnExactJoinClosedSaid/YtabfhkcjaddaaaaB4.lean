/-
  Contracts: the cells that are there, in order.
-/
import Derived.Test.YtabfhkcjaddaaaaB3
import Derived.Test.YtabfhkcjaddaaaaApp
import Derived.Test.YtabfhkcjaddaaaaPure
namespace Go.Proofs.Ytabfhkcjaddaaaa
open Go.RowKit

end Go.Proofs.Ytabfhkcjaddaaaa
