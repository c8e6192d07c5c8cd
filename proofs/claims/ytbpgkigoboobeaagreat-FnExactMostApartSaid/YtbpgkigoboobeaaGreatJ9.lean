/-
  Contracts: lines around, crossings counted, spots inside: in the program.
-/
import Derived.Test.YtbpgkigoboobeaaGreatJ8
namespace Go.Proofs.YtbpgkigoboobeaaGreat
open Go.RowKit

/-- A line's numbers are those of columns and rows. -/
def CoL (l : Ln) : Prop := (Co l.1.1 ∧ Co l.1.2) ∧ (Co l.2.1 ∧ Co l.2.2)
theorem co_line {W p q : Int} (hW : 1 ≤ W ∧ W ≤ 8) (hp : 0 ≤ p ∧ p ≤ 64) (hq : 0 ≤ q ∧ q ≤ 64) : CoL (lnL W p q) :=
  ⟨spot_bd hW (show 0 ≤ min p q ∧ min p q ≤ 64 by omega), spot_bd hW (show 0 ≤ max p q ∧ max p q ≤ 64 by omega)⟩
theorem co_lines {W : Int} {ps : List Int} (hW : 1 ≤ W ∧ W ≤ 8) (h64 : ∀ x ∈ ps, 0 ≤ x ∧ x < 64) : ∀ l ∈ linesL W ps, CoL l := fun l hl => by
  obtain ⟨i, _, rfl⟩ := List.mem_map.1 hl
  exact co_line hW (getD_64 h64 i) (getD_64 h64 (i + 1))
theorem round_64 {ps : List Int} (h64 : ∀ x ∈ ps, 0 ≤ x ∧ x < 64) (hn : 1 ≤ ps.length) : ∀ x ∈ roundP ps, 0 ≤ x ∧ x < 64 := fun x hx => by
  rcases List.mem_append.1 hx with h | h
  · exact h64 x h
  · have e : x = ps.getD 0 0 := by simpa using h
    rw [e, List.getD_eq_getElem?_getD, List.getElem?_eq_getElem (by omega)]
    exact h64 _ (List.getElem_mem _)
theorem line_at {w : World} {lo g n c : Nat} {L : List Ln} (h : OwnN w lo (some ⟨g, 0, none⟩) n c L) {i : Nat} {l : Ln} (hx : L[i]? = some l) :
    w.cell? ⟨g, i * 4, none⟩ = some (.int .i64 l.1.1) ∧ w.cell? ⟨g, i * 4 + 1, none⟩ = some (.int .i64 l.1.2) ∧ w.cell? ⟨g, i * 4 + 2, none⟩ = some (.int .i64 l.2.1) ∧ w.cell? ⟨g, i * 4 + 3, none⟩ = some (.int .i64 l.2.2) :=
  ⟨OwnK.cell (j := 0) encN_len h hx rfl, OwnK.cell (j := 1) encN_len h hx rfl, OwnK.cell (j := 2) encN_len h hx rfl, OwnK.cell (j := 3) encN_len h hx rfl⟩

end Go.Proofs.YtbpgkigoboobeaaGreat
