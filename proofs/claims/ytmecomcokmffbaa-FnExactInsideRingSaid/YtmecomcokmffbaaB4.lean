/-
  Contracts: the cells that are there, in order.
-/
import Derived.Test.YtmecomcokmffbaaB3
import Derived.Test.YtmecomcokmffbaaApp
import Derived.Test.YtmecomcokmffbaaPure
namespace Go.Proofs.Ytmecomcokmffbaa
open Go.RowKit

end Go.Proofs.Ytmecomcokmffbaa
