/-
  CellOfName: its contracts as the law's walk asks for them.
-/
import Derived.Test.YtadopgfpfbianaaS13
namespace Go.Proofs.Ytadopgfpfbianaa
open Go.RowKit
theorem spec_CellOfName (W H : Int) (A : Option Addr) (n c : Nat) (xs : List Int) (s : ByteArray) (w : World) (ha : Rd w A n xs) (_hs : s.size ≤ maxLen) :
    Calls Try.prog 24 #[brd W H A n c, .string s] w fun e w' => e = .returned (.tuple #[.int .i64 (cellV W H xs s), .bool (cellB W H xs s)]) ∧ Below w.heap.size w w' := spec0_CellOfName W H A n c xs s w ha
end Go.Proofs.Ytadopgfpfbianaa
