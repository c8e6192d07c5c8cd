/-
  What the laws' walks need beside the helpers' contracts.
-/
import Derived.Test.YtnmmgalidkambaaGreatDoorHelp
import Derived.Test.YtnmmgalidkambaaGreatDoorApp
import Derived.Deep.RegionHeld3
namespace Go.Proofs.YtnmmgalidkambaaGreatDoor
open Go.RowKit

theorem OwnI.span {E : TypeId} {w : World} {lo : Nat} {A : Option Addr} {n c : Nat} {xs : List Int} (h : OwnI E w lo A n c xs) : ∀ a, A = some a → lo ≤ a.block ∧ a.block < w.heap.size := by
  intro a ha
  rcases h.form with ⟨h0, _⟩ | ⟨g, h1, h2, h3, _⟩
  · rw [h0] at ha; cases ha
  · rw [h1] at ha; injection ha with ha; subst ha; exact ⟨h2, h3⟩
theorem row_ne {A : Option Addr} {β : Nat} (h : ∀ a, A = some a → β ≠ a.block) : some β ≠ rowOf A := by
  cases A with
  | none => simp [rowOf]
  | some a => have := h a rfl; simp [rowOf]; exact this
theorem cell_mark {w w' : World} {b i : Nat} {v : Value} {row : Option Nat} (h : w.cell? ⟨b, i, none⟩ = some v) (hg : w.grownBy w' row) (hne : some b ≠ row) : w'.cell? ⟨b, i, none⟩ = some v := hg.cell h hne
theorem row_ge {A : Option Addr} {β : Nat} (h : ∀ a, A = some a → β ≤ a.block) : ∀ k, rowOf A = some k → β ≤ k := by
  intro k hk
  cases A with
  | none => simp [rowOf] at hk
  | some a => have := h a rfl; simp [rowOf] at hk; omega
theorem World.lt_alloc (w : World) (o : Obj) : w.heap.size + 1 ≤ (w.alloc o).heap.size := by simp
theorem World.le_alloc (w : World) (o : Obj) : w.heap.size ≤ (w.alloc o).heap.size := by simp

end Go.Proofs.YtnmmgalidkambaaGreatDoor
