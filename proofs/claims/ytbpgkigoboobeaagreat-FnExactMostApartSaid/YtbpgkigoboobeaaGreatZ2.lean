/-
  Contracts: areWalks: walks that have no cell in common.
-/
import Derived.Test.YtbpgkigoboobeaaGreatK2
import Derived.Test.YtbpgkigoboobeaaGreatZ0
import Derived.Laws.Bits128
namespace Go.Proofs.YtbpgkigoboobeaaGreat
open Go.RowKit

/-- A row of slices: each of them reads as its list. -/
def WalksAt (w : World) (g : Nat) (pss : List (List Int)) : Prop := g < w.heap.size ∧ ∀ i ps, pss[i]? = some ps → ∃ A n c, w.cell? ⟨g, i, none⟩ = some (.slice A n c) ∧ Rd w A n ps
theorem WalksAt.keep {w w' : World} {g : Nat} {pss : List (List Int)} (h : WalksAt w g pss) (hb : Below w.heap.size w w') : WalksAt w' g pss :=
  ⟨lt_keep h.1 hb, fun i ps hi => by obtain ⟨A, n, c, h1, h2⟩ := h.2 i ps hi; exact ⟨A, n, c, cell_keep h1 h.1 hb, h2.keep hb⟩⟩
def wkAt (W H : Int) (hs : List Int) (a b : Int) (pss : List (List Int)) (i : Nat) : Bool := walkB W H hs a b (pss.getD i []) && apartB (pss.take i).flatten (pss.getD i [])
def wksB (W H : Int) (hs : List Int) (a b : Int) (pss : List (List Int)) : Bool := (List.range pss.length).all (wkAt W H hs a b pss)
theorem wks_one (W H : Int) (hs : List Int) (a b : Int) (ps : List Int) : wksB W H hs a b [ps] = walkB W H hs a b ps := by
  simp [wksB, wkAt, List.range_succ, apart_nil]
theorem wks_two (W H : Int) (hs : List Int) (a b : Int) (ps qs : List Int) : wksB W H hs a b [ps, qs] = (walkB W H hs a b ps && walkB W H hs a b qs && apartB ps qs) := by
  simp [wksB, wkAt, List.range_succ, apart_nil, Bool.and_assoc]
theorem walk_path2 {W H a b : Int} {hs ps : List Int} (h : walkB W H hs a b ps = true) : pathB W H hs a b ps = true := by
  simp only [walkB, Bool.and_eq_true] at h; exact h.1

end Go.Proofs.YtbpgkigoboobeaaGreat
