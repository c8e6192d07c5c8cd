/-
  Contracts: a leaper, a board and cells of it.
-/
import Derived.Test.YtbpgkigoboobeaaGreatS10
import Derived.Test.YtbpgkigoboobeaaGreatZ1
namespace Go.Proofs.YtbpgkigoboobeaaGreat
open Go.RowKit

def onB (W H : Int) (xs : List Int) (a b : Int) (ps : List Int) : Bool := okTwo W H xs a b && ps.all (hasB W H xs)

theorem onB_onK (W H : Int) (xs : List Int) (a b : Int) (ps : List Int) : onB W H xs a b ps = onK W H xs a b ps := by
  rw [onB, onK, okTwo, twoV, Bool.and_comm (leaperB a b)]
theorem isLeaperOn_any (W H : Int) (A : Option Addr) (n c : Nat) (xs : List Int) (a b : Int) (A2 : Option Addr) (m c2 : Nat) (ps : List Int) (w : World) (ha : Rd w A n xs) (hp : Rd w A2 m ps) :
    Calls Tryz.prog 25 #[brd W H A n c, lpr a b, .slice A2 m c2] w fun e w' => e = .returned (.bool (onB W H xs a b ps)) ∧ Below w.heap.size w w' := by
  rw [onB_onK]; exact isLeaperOnK_any W H A n c xs a b A2 m c2 ps w ha hp

end Go.Proofs.YtbpgkigoboobeaaGreat
