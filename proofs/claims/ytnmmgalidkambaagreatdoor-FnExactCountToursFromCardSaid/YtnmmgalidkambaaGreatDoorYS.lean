/-
  Memory words: a spot's own block.
-/
import Derived.Test.YtnmmgalidkambaaGreatDoorB8
namespace Go.Proofs.YtnmmgalidkambaaGreatDoor
open Go.RowKit

theorem grownSet (w : World) (a : Addr) (u : Value) : w.grownBy (w.setCell a u) (some a.block) :=
  ⟨rfl, rfl, rfl, by simp, fun k _ hk => Below.heap_setCell _ _ _ k (fun e => hk (by rw [e]))⟩
/-- A spot's own block. -/
def SpotBox (w : World) (g : Nat) (x y : Int) : Prop := w.heap[g]? = some (.cells #[.int .i64 x, .int .i64 y] 90 (0, 0))
theorem SpotBox.c0 {w : World} {g : Nat} {x y : Int} (h : SpotBox w g x y) : w.cell? ⟨g, 0, none⟩ = some (.int .i64 x) := by rw [cell_of_row w g 0 _ _ _ h]; rfl
theorem SpotBox.c1 {w : World} {g : Nat} {x y : Int} (h : SpotBox w g x y) : w.cell? ⟨g, 1, none⟩ = some (.int .i64 y) := by rw [cell_of_row w g 1 _ _ _ h]; rfl
theorem SpotBox.lt {w : World} {g : Nat} {x y : Int} (h : SpotBox w g x y) : g < w.heap.size := (Array.getElem?_eq_some_iff.1 h).1
theorem SpotBox.grown {w w' : World} {g : Nat} {x y : Int} {row : Option Nat} (h : SpotBox w g x y) (hg : w.grownBy w' row) (hne : some g ≠ row) : SpotBox w' g x y := (hg.block g h.lt hne).trans h
theorem SpotBox.keep {w w' : World} {g : Nat} {x y : Int} (h : SpotBox w g x y) (hb : Below w.heap.size w w') : SpotBox w' g x y := (hb.block g h.lt).trans h
theorem SpotBox.set {w : World} {g : Nat} {x y : Int} (h : SpotBox w g x y) (u v : Int) : SpotBox ((w.setCell ⟨g, 0, none⟩ (.int .i64 u)).setCell ⟨g, 1, none⟩ (.int .i64 v)) g u v :=
  (heap_setCell_same _ _ _ _ _ _ (heap_setCell_same _ _ _ _ _ _ h)).trans rfl
theorem SpotBox.apart {w : World} {g lo n c : Nat} {x y : Int} {A : Option Addr} {P : List Int} (h : SpotBox w g x y) (ho : OwnI 3 w lo A n c P) : ∀ a, A = some a → a.block ≠ g := fun a ha e => by
  subst ha
  rcases ho.2 with ⟨hv, _⟩ | ⟨g', cap, cur, hv, _, hg, _⟩
  · cases hv
  · injection hv with h1
    injection h1 with h1
    subst h1
    rw [show g' = g from e] at hg
    rw [SpotBox, hg] at h
    injection h with h
    injection h with h1 h2 h3
    exact absurd h2 (by decide)

end Go.Proofs.YtnmmgalidkambaaGreatDoor
