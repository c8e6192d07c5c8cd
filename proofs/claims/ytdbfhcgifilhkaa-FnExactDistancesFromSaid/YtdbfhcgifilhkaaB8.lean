/-
  Contracts: MirrorCell; TurnCell and MirrorCell in the model.
-/
import Derived.Test.YtdbfhcgifilhkaaB7
namespace Go.Proofs.Ytdbfhcgifilhkaa
open Go.RowKit

end Go.Proofs.Ytdbfhcgifilhkaa
