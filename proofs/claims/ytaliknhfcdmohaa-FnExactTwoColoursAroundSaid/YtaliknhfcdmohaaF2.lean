/-
  Contracts: CommonStep, ReachesAll.
-/
import Derived.Test.YtaliknhfcdmohaaF1
namespace Go.Proofs.Ytaliknhfcdmohaa
open Go.RowKit

end Go.Proofs.Ytaliknhfcdmohaa
