/-
  Contracts: sets of cells as bits.
-/
import Derived.Test.YtjlcaggnfocabaaGreatB2
import Derived.Test.YtjlcaggnfocabaaGreatPop
import Derived.Laws.Bits64b
import Derived.Laws.Bits128
namespace Go.Proofs.YtjlcaggnfocabaaGreat
open Go.RowKit

theorem and_nat (a b : Nat) (v : Int) (ha : a < 18446744073709551616) (hb : b < 18446744073709551616) (hv : v = (a : Int)) : bits .and .u64 v (b : Int) = ((a &&& b : Nat) : Int) := by
  rw [hv]; exact bits_and_u64_nat a b ha hb
theorem wrap_nat (a : Nat) (v : Int) (ha : a < 18446744073709551616) (hv : v = (a : Int)) : IntKind.u64.wrap v = (a : Int) := by
  rw [IntKind.wrap_u64, hv]; omega

end Go.Proofs.YtjlcaggnfocabaaGreat
