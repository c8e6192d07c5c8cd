/-
  Contracts: the cells that are there, in order.
-/
import Derived.Test.YtjlcaggnfocabaaB3
import Derived.Test.YtjlcaggnfocabaaApp
import Derived.Test.YtjlcaggnfocabaaPure
namespace Go.Proofs.Ytjlcaggnfocabaa
open Go.RowKit

end Go.Proofs.Ytjlcaggnfocabaa
