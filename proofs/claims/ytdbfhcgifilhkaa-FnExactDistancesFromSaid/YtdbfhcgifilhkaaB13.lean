/-
  Contracts: NameOf.
-/
import Derived.Test.YtdbfhcgifilhkaaB12
namespace Go.Proofs.Ytdbfhcgifilhkaa
open Go.RowKit

def nameV (W H : Int) (xs : List Int) (q : Int) : ByteArray := if hasV W H xs q then nameS (q % W) (q / W) else ByteArray.empty
theorem div7 {W H c : Int} (hW : 1 ≤ W ∧ W ≤ 8) (hH : 1 ≤ H ∧ H ≤ 8) (hc : 0 ≤ c ∧ c < W * H) : 0 ≤ c / W ∧ c / W ≤ 7 := by
  have := div_bd hW hc; omega

end Go.Proofs.Ytdbfhcgifilhkaa
