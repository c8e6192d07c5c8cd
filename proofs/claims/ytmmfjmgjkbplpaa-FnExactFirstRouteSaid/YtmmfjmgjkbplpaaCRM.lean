/-
  Memory words: a map of leaps with any number of entries; numbers that wrap.
-/
import Derived.Test.YtmmfjmgjkbplpaaCP0
import Derived.Test.YtmmfjmgjkbplpaaT2a
namespace Go.Proofs.Ytmmfjmgjkbplpaa
open Go.RowKit

/-- As OnMap; how often it was put is another bound. -/
def OnMapW (w : World) (lo mb : Nat) (cells : List Int) (adj : Int → List Int) : Prop :=
  lo ≤ mb ∧ ∃ (n : Nat) (f : Int → Value), n ≤ 100000 ∧ MapI Try.prog 3 w mb n (.slice none 0 0) f ∧ ∀ x ∈ cells, RowAt w lo mb (f x) (adj x)
theorem OnMap.wide {w : World} {lo mb : Nat} {cells : List Int} {adj : Int → List Int} (h : OnMap w lo mb cells adj) : OnMapW w lo mb cells adj := by
  obtain ⟨h0, n, f, h1, h2, h3⟩ := h
  exact ⟨h0, n, f, by omega, h2, h3⟩
theorem OnMapW.keep {w w' : World} {lo mb : Nat} {cells : List Int} {adj : Int → List Int} (h : OnMapW w lo mb cells adj) (hb : Below w.heap.size w w') : OnMapW w' lo mb cells adj := by
  obtain ⟨h0, n, f, h1, h2, h3⟩ := h
  exact ⟨h0, n, f, h1, h2.keep hb, fun x hx => (h3 x hx).keep hb⟩
theorem OnMapW.lt {w : World} {lo mb : Nat} {cells : List Int} {adj : Int → List Int} (h : OnMapW w lo mb cells adj) : mb < w.heap.size := by
  obtain ⟨_, n, f, _, h2, _⟩ := h; exact h2.lt
theorem OnMapW.lookup {w : World} {lo mb : Nat} {cells : List Int} {adj : Int → List Int} (h : OnMapW w lo mb cells adj) {x : Int} (hx : x ∈ cells) (hr : 0 ≤ x ∧ x ≤ 144) :
    ∃ A n c, (Instr.lookup 50 (.map (some mb)) (.int .i64 x) false).run Try.prog w = .ok (.slice A n c) w ∧ Rd w A n (adj x) ∧ n ≤ 64 := by
  obtain ⟨_, m, f, _, h2, h3⟩ := h
  obtain ⟨A, n, c, hv, h4, h5, _⟩ := h3 x hx
  exact ⟨A, n, c, by rw [h2.lookup Try.underlying3 Try.underlying50 (zero_ints w) (wf_small hr), hv], h4, h5⟩
theorem wrap_0 : wrap64 0 = 0 := by unfold wrap64; omega
theorem wrap_1 : wrap64 1 = 1 := by unfold wrap64; omega
theorem wrap_add (a b : Int) : wrap64 (wrap64 a + wrap64 b) = wrap64 (a + b) := by unfold wrap64; omega
theorem wrap_add_r {a b : Int} (h : wrap64 b = 0) : wrap64 (a + b) = wrap64 a := by unfold wrap64 at *; omega
theorem wrap_congr {a b c : Int} (h : wrap64 a = wrap64 b) : wrap64 (c + a) = wrap64 (c + b) := by unfold wrap64 at *; omega
/-- Cells that bring nothing may be left out. -/
theorem partW_all_w {adj : Int → List Int} {P : Int → Bool} {F : Int → Int} {y : Int} : ∀ {cells : List Int}, (∀ c ∈ cells, P c = false → wrap64 (F c) = 0) → wrap64 (stepW cells adj F y) = wrap64 (partW cells adj P F y)
  | [], _ => rfl
  | c :: t, h => by
    have ih := partW_all_w (adj := adj) (P := P) (F := F) (y := y) (cells := t) (fun d hd => h d (List.mem_cons_of_mem _ hd))
    rw [stepW] at ih
    rw [stepW, partW_cons, partW_cons, wrap_congr ih]
    cases hP : P c with
    | true => rfl
    | false =>
      have h0 := h c List.mem_cons_self hP
      simp only [Bool.true_and, Bool.false_and]
      rw [if_neg (show ¬ false = true by simp), Int.zero_add]
      split
      · rw [Int.add_comm]; exact wrap_add_r h0
      · rw [Int.zero_add]

end Go.Proofs.Ytmmfjmgjkbplpaa
