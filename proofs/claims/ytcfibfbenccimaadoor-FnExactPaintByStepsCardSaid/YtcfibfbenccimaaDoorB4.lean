/-
  Contracts: the cells that are there, in order.
-/
import Derived.Test.YtcfibfbenccimaaDoorB3
import Derived.Test.YtcfibfbenccimaaDoorApp
import Derived.Test.YtcfibfbenccimaaDoorPure
namespace Go.Proofs.YtcfibfbenccimaaDoor
open Go.RowKit

end Go.Proofs.YtcfibfbenccimaaDoor
