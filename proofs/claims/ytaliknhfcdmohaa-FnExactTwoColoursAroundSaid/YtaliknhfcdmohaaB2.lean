/-
  Contracts: boards, in the program and in its model.
-/
import Derived.Test.YtaliknhfcdmohaaB1
namespace Go.Proofs.Ytaliknhfcdmohaa
open Go.RowKit

end Go.Proofs.Ytaliknhfcdmohaa
