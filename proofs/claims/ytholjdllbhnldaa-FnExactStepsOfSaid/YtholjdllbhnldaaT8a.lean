/-
  Cells picked by their distances; the contract of CellsWithin, the model.
-/
import Derived.Test.YtholjdllbhnldaaT6b
import Derived.Test.YtholjdllbhnldaaQ4
import Derived.Deep.MidRow
namespace Go.Proofs.Ytholjdllbhnldaa
open Go.RowKit

theorem range_laid (w : World) (L : List Int) (E : TypeId) : (w.alloc (.cells (L.map (Value.int .i64)).toArray E)).rangeAt w.heap.size 0 (L.map (Value.int .i64)) := fun j v hv => by
  have h := newbox (w := w) (w' := w.alloc (.cells (L.map (Value.int .i64)).toArray E)) (cs := (L.map (Value.int .i64)).toArray) (t := E) (Below.refl _ _) j
  rw [Nat.zero_add, h, ← Array.getElem?_toList, List.toList_toArray]; exact hv
theorem range_keep {w w' : World} {g o : Nat} {cs : List Value} (h : w.rangeAt g o cs) (hg : g < w.heap.size) (hb : Below w.heap.size w w') : w'.rangeAt g o cs := fun j v hv => cell_keep (h j v hv) hg hb
theorem l1In_b (n lo hi : Int) (w : World) : Calls Try.prog 37 #[.int .i64 n, .int .i64 lo, .int .i64 hi] w fun e w' => e = .returned (.bool (inB n lo hi)) ∧ Below w.heap.size w w' :=
  (l1In_any n lo hi w).mono fun _ _ h => ⟨h.1, h.2 ▸ Below.refl _ _⟩
/-- Whether place i of the list has a distance of at most q. -/
def nearB (L : List Int) (q : Int) (i : Nat) : Bool := inB (L.getD i (-1)) 0 q
theorem near_in {L : List Int} {q x : Int} {i : Nat} (h : L[i]? = some x) : nearB L q i = inB x 0 q := by rw [nearB, List.getD_eq_getElem?_getD, h]; rfl
theorem getD_pad (L : List Int) (m i : Nat) : (L ++ List.replicate m (-1)).getD i (-1) = L.getD i (-1) := by
  rw [List.getD_eq_getElem?_getD, List.getD_eq_getElem?_getD]
  rcases Nat.lt_or_ge i L.length with h | h
  · rw [List.getElem?_append_left h]
  · rw [List.getElem?_append_right h, List.getElem?_eq_none h, List.getElem?_replicate]
    split <;> rfl
def okWithin (W H : Int) (xs : List Int) (a b p q : Int) : Bool := onB W H xs a b [p] && inB q 0 12
def withinV (W H : Int) (xs : List Int) (a b p q : Int) : List Int := if okWithin W H xs a b p q = true then selTo (nearB (distL W H xs a b p) q) (W * H).toNat else []

end Go.Proofs.Ytholjdllbhnldaa
