/-
  Contracts: closed tours.
-/
import Derived.Test.YtmghjohpmlhdlaaK3
import Derived.Deep.RegionHeld3
namespace Go.Proofs.Ytmghjohpmlhdlaa
open Go.RowKit

end Go.Proofs.Ytmghjohpmlhdlaa
