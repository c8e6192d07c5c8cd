/-
  Contracts: NameOf.
-/
import Derived.Test.YtadopgfpfbianaaB12
namespace Go.Proofs.Ytadopgfpfbianaa
open Go.RowKit

def nameV (W H : Int) (xs : List Int) (q : Int) : ByteArray := if hasV W H xs q then nameS (q % W) (q / W) else ByteArray.empty
end Go.Proofs.Ytadopgfpfbianaa
