/-
  Contracts: paths.
-/
import Derived.Test.YtnmmgalidkambaaGreatDoorB11
import Derived.Test.YtnmmgalidkambaaGreatDoorApp
import Derived.Deep.RegionHeld3
namespace Go.Proofs.YtnmmgalidkambaaGreatDoor
open Go.RowKit

def goesB (W H : Int) (hs : List Int) (a b : Int) : Option Int → List Int → Bool
  | _, [] => true
  | p, c :: t => hasB W H hs c && (match p with | none => true | some q => leapB W a b q c) && goesB W H hs a b (some c) t
def pathB (W H : Int) (hs : List Int) (a b : Int) (ps : List Int) : Bool := decide (1 ≤ ps.length ∧ ps.length ≤ 64) && goesB W H hs a b none ps
def prevOf (ps : List Int) : Nat → Option Int
  | 0 => none
  | k + 1 => ps[k]?
theorem goes_drop {W H a b x : Int} {hs ps : List Int} {k : Nat} {p : Option Int} (hx : ps[k]? = some x) :
    goesB W H hs a b p (ps.drop k) = (hasB W H hs x && (match p with | none => true | some q => leapB W a b q x) && goesB W H hs a b (some x) (ps.drop (k + 1))) := by
  rw [drop_cons_of hx]; rfl
theorem below_undrewN {w w' : World} {k : Nat} (h : Below (w.drewN k).heap.size (w.drewN k) w') : Below w.heap.size w w' := ⟨h.os, h.tape, h.output, h.size, h.block⟩

end Go.Proofs.YtnmmgalidkambaaGreatDoor
