/-
  Contracts: closed tours.
-/
import Derived.Test.YtkdfilhiljfanaaK3
import Derived.Deep.RegionHeld3
namespace Go.Proofs.Ytkdfilhiljfanaa
open Go.RowKit

end Go.Proofs.Ytkdfilhiljfanaa
