/-
  Names for contracts as the laws' walks ask for them, and sizes of what is handed back.
-/
import Derived.Test.YtkbgdfibningoaaB5
namespace Go.Proofs.Ytkbgdfibningoaa
open Go.RowKit

theorem spec_IsBoard (W H : Int) (A : Option Addr) (n c : Nat) (xs : List Int) (w : World) (ha : Rd w A n xs) :
    Calls Try.prog 27 #[brd W H A n c] w fun e w' => e = .returned (.bool (goodB W H xs)) ∧ Below w.heap.size w w' := specIsBoard_any W H A n c xs w ha
theorem impl_IsBoard (W H : Int) (A : Option Addr) (n c : Nat) (xs : List Int) (w : World) (ha : Rd w A n xs) :
    Calls Try.prog 29 #[brd W H A n c] w fun e w' => e = .returned (.bool (goodB W H xs)) ∧ Below w.heap.size w w' := isBoard_any W H A n c xs w ha
theorem len_CellsOf (W H : Int) (xs : List Int) : (cellsV W H xs).length ≤ 1000000 := by
  unfold cellsV
  split
  · rename_i hg
    obtain ⟨hW, hH, hlen, hri⟩ := goodB_iff.1 hg
    have hN := cells_le hW hH
    have := cellsTo_len (W := W) (H := H) (hs := xs) (W * H).toNat
    rw [cellsL]; omega
  · simp

end Go.Proofs.Ytkbgdfibningoaa
