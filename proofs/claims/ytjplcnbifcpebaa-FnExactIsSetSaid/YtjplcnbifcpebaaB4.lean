/-
  Contracts: the cells that are there, in order.
-/
import Derived.Test.YtjplcnbifcpebaaB3
import Derived.Test.YtjplcnbifcpebaaApp
import Derived.Test.YtjplcnbifcpebaaPure
namespace Go.Proofs.Ytjplcnbifcpebaa
open Go.RowKit

end Go.Proofs.Ytjplcnbifcpebaa
