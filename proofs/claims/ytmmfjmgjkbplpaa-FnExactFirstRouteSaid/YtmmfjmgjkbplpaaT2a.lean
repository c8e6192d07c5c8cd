/-
  Memory words: leaps onward, as a map from cells.
-/
import Derived.Test.YtmmfjmgjkbplpaaMap1
import Derived.Test.YtmmfjmgjkbplpaaHelp
namespace Go.Proofs.Ytmmfjmgjkbplpaa
open Go.RowKit

/-- The slice value v reads as l, in a block of its own from lo on that is not mb. -/
def RowAt (w : World) (lo mb : Nat) (v : Value) (l : List Int) : Prop := ∃ A n c, v = .slice A n c ∧ Rd w A n l ∧ n ≤ 64 ∧ ∀ y, A = some y → lo ≤ y.block ∧ y.block < w.heap.size ∧ y.block ≠ mb
theorem RowAt.keep {w w' : World} {lo mb : Nat} {v : Value} {l : List Int} (h : RowAt w lo mb v l) (hb : Below w.heap.size w w') : RowAt w' lo mb v l := by
  obtain ⟨A, n, c, rfl, h1, h2, h3⟩ := h
  exact ⟨A, n, c, rfl, h1.keep hb, h2, fun y hy => ⟨(h3 y hy).1, Nat.lt_of_lt_of_le (h3 y hy).2.1 hb.size, (h3 y hy).2.2⟩⟩
theorem RowAt.other {w w' : World} {lo mb : Nat} {v : Value} {l : List Int} (h : RowAt w lo mb v l) (hg : w.grownBy w' (some mb)) : RowAt w' lo mb v l := by
  obtain ⟨A, n, c, rfl, h1, h2, h3⟩ := h
  exact ⟨A, n, c, rfl, h1.other hg (fun y hy => by have := (h3 y hy).2.2; simpa using this), h2, fun y hy => ⟨(h3 y hy).1, Nat.lt_of_lt_of_le (h3 y hy).2.1 hg.size, (h3 y hy).2.2⟩⟩
/-- Block mb is a map that has for each of the cells the row adj gives. -/
def OnMap (w : World) (lo mb : Nat) (cells : List Int) (adj : Int → List Int) : Prop :=
  lo ≤ mb ∧ ∃ (n : Nat) (f : Int → Value), n ≤ 144 ∧ MapI Try.prog 3 w mb n (.slice none 0 0) f ∧ ∀ x ∈ cells, RowAt w lo mb (f x) (adj x)
theorem OnMap.keep {w w' : World} {lo mb : Nat} {cells : List Int} {adj : Int → List Int} (h : OnMap w lo mb cells adj) (hb : Below w.heap.size w w') : OnMap w' lo mb cells adj := by
  obtain ⟨h0, n, f, h1, h2, h3⟩ := h
  exact ⟨h0, n, f, h1, h2.keep hb, fun x hx => (h3 x hx).keep hb⟩
theorem OnMap.lt {w : World} {lo mb : Nat} {cells : List Int} {adj : Int → List Int} (h : OnMap w lo mb cells adj) : mb < w.heap.size := by
  obtain ⟨_, n, f, _, h2, _⟩ := h; exact h2.lt
theorem wf_small {x : Int} (h : 0 ≤ x ∧ x ≤ 144) : (Lit.int .i64 x).wf = true := by
  have := Go.RowKit.wrap64_wf x
  rwa [show wrap64 x = x by unfold wrap64; omega] at this
theorem zero_ints : ∀ w, (zeroValue 22).run Try.prog w = .ok (.slice none 0 0) w := fun _ => by kernel_rfl
theorem OnMap.lookup {w : World} {lo mb : Nat} {cells : List Int} {adj : Int → List Int} (h : OnMap w lo mb cells adj) {x : Int} (hx : x ∈ cells) (hr : 0 ≤ x ∧ x ≤ 144) :
    ∃ A n c, (Instr.lookup 50 (.map (some mb)) (.int .i64 x) false).run Try.prog w = .ok (.slice A n c) w ∧ Rd w A n (adj x) ∧ n ≤ 64 := by
  obtain ⟨_, m, f, _, h2, h3⟩ := h
  obtain ⟨A, n, c, hv, h4, h5, _⟩ := h3 x hx
  exact ⟨A, n, c, by rw [h2.lookup Try.underlying3 Try.underlying50 (zero_ints w) (wf_small hr), hv], h4, h5⟩


end Go.Proofs.Ytmmfjmgjkbplpaa
