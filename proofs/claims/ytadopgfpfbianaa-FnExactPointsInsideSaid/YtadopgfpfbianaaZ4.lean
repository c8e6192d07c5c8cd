/-
  Contracts: tails turned, and where they can be turned.
-/
import Derived.Test.YtadopgfpfbianaaZ3
import Derived.Test.YtadopgfpfbianaaK9a
import Derived.Test.YtadopgfpfbianaaShelf
namespace Go.Proofs.Ytadopgfpfbianaa
open Go.RowKit

theorem setAllZ {E : TypeId} {lo g n c : Nat} : ∀ (ys : List Int) (o : Nat) {w : World} {xs : List Int}, OwnI E w lo (some ⟨g, 0, none⟩) n c xs → o + ys.length ≤ n →
    OwnI E (w.setCells g o (ys.map (Value.int .i64))) lo (some ⟨g, 0, none⟩) n c (xs.take o ++ ys ++ xs.drop (o + ys.length)) ∧ w.grownBy (w.setCells g o (ys.map (Value.int .i64))) (some g)
  | [], o, w, xs, h, _ => ⟨by simpa [World.setCells] using h, grown_refl _ _⟩
  | y :: ys, o, w, xs, h, ho => by
    have hl := h.len
    simp only [List.length_cons] at ho
    obtain ⟨h1, g1⟩ := h.stored o y
    obtain ⟨h2, g2⟩ := setAllZ ys (o + 1) h1 (by omega)
    refine ⟨?_, grown_next g1 g2⟩
    have e : (xs.set o y).take (o + 1) ++ ys ++ (xs.set o y).drop (o + 1 + ys.length) = xs.take o ++ (y :: ys) ++ xs.drop (o + (ys.length + 1)) := by
      rw [List.take_add_one, List.getElem?_set_self (by omega), List.take_set_of_le (Nat.le_refl _), List.drop_set_of_lt (by omega)]
      simp [show o + 1 + ys.length = o + (ys.length + 1) by omega]
    rw [e] at h2
    exact h2
/-- A list whose tail from k on is in the other order. -/
def turnL (ps : List Int) (k : Nat) : List Int := ps.take k ++ (ps.drop k).reverse
theorem turnL_len (ps : List Int) (k : Nat) : (turnL ps k).length = ps.length := by simp [turnL]; omega
theorem turnL_mem {ps : List Int} {k : Nat} {x : Int} : x ∈ turnL ps k ↔ x ∈ ps := by
  rw [turnL, List.mem_append, List.mem_reverse, ← List.mem_append, List.take_append_drop]
/-- Where a tail can be turned: from 1 to the last but one. -/
def tailsTo (W a b : Int) (ps : List Int) (n : Nat) : List Int := ((List.range' 1 n).filter (canB W a b ps)).map fun k : Nat => (k : Int)
def tailsL (W a b : Int) (ps : List Int) : List Int := tailsTo W a b ps (ps.length - 2)
theorem tails_yes {W a b : Int} {ps : List Int} {n : Nat} (h : canB W a b ps (n + 1) = true) : tailsTo W a b ps (n + 1) = tailsTo W a b ps n ++ [((n + 1 : Nat) : Int)] := by
  rw [tailsTo, List.range'_concat, List.filter_append, List.map_append, show 1 + 1 * n = n + 1 by omega]; simp [h, tailsTo]
theorem tails_no {W a b : Int} {ps : List Int} {n : Nat} (h : canB W a b ps (n + 1) = false) : tailsTo W a b ps (n + 1) = tailsTo W a b ps n := by
  rw [tailsTo, List.range'_concat, List.filter_append, List.map_append, show 1 + 1 * n = n + 1 by omega]; simp [h, tailsTo]
theorem tailsTo_len (W a b : Int) (ps : List Int) (n : Nat) : (tailsTo W a b ps n).length ≤ n := by
  rw [tailsTo, List.length_map]
  have := List.length_filter_le (canB W a b ps) (List.range' 1 n)
  rwa [List.length_range'] at this

end Go.Proofs.Ytadopgfpfbianaa
