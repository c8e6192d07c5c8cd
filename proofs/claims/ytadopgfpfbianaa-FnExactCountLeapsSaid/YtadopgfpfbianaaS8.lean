/-
  Contracts: the cells to which a leaper leaps, in the program, in order.
-/
import Derived.Test.YtadopgfpfbianaaS7
namespace Go.Proofs.Ytadopgfpfbianaa
open Go.RowKit

theorem leap_at {E : TypeId} {x y : Int} {w : World} {lo g n c : Nat} {xs : List (Int × Int)} (h : OwnK (encL x y) 4 E w lo (some ⟨g, 0, none⟩) n c xs) {i : Nat} {p : Int × Int} (hx : xs[i]? = some p) :
    w.cell? ⟨g, i * 4, none⟩ = some (.int .i64 x) ∧ w.cell? ⟨g, i * 4 + 1, none⟩ = some (.int .i64 y) ∧ w.cell? ⟨g, i * 4 + 2, none⟩ = some (.int .i64 p.1) ∧ w.cell? ⟨g, i * 4 + 3, none⟩ = some (.int .i64 p.2) :=
  ⟨OwnK.cell (j := 0) (encL_len x y) h hx rfl, OwnK.cell (j := 1) (encL_len x y) h hx rfl, OwnK.cell (j := 2) (encL_len x y) h hx rfl, OwnK.cell (j := 3) (encL_len x y) h hx rfl⟩
theorem goesL_len8 {W H a b q : Int} {xs : List Int} (hl : leaperB a b = true) : (goesL W H xs a b q).length ≤ 8 :=
  Nat.le_trans (List.length_filter_le _ _) (stepsL_len hl)
theorem goesL_bd {W H a b q : Int} {xs : List Int} {p : Int × Int} (hl : leaperB a b = true) (hp : p ∈ goesL W H xs a b q) : -5 ≤ p.1 ∧ p.1 ≤ 5 ∧ -5 ≤ p.2 ∧ p.2 ≤ 5 :=
  stepsL_bd hl (List.mem_filter.1 hp).1

theorem keepL {w w' : World} {β γ : Nat} {u0 u1 u2 u3 u4 : Value} (h0 : w.cell? ⟨β, 0, none⟩ = some u0) (h1 : w.cell? ⟨γ, 0, none⟩ = some u1) (h2 : w.cell? ⟨γ, 1, none⟩ = some u2) (h3 : w.cell? ⟨γ, 2, none⟩ = some u3) (h4 : w.cell? ⟨γ, 3, none⟩ = some u4) (hl : β < w.heap.size) (hm : γ < w.heap.size) (hb : Below w.heap.size w w') :
    w'.cell? ⟨β, 0, none⟩ = some u0 ∧ w'.cell? ⟨γ, 0, none⟩ = some u1 ∧ w'.cell? ⟨γ, 1, none⟩ = some u2 ∧ w'.cell? ⟨γ, 2, none⟩ = some u3 ∧ w'.cell? ⟨γ, 3, none⟩ = some u4 := ⟨cell_keep h0 hl hb, cell_keep h1 hm hb, cell_keep h2 hm hb, cell_keep h3 hm hb, cell_keep h4 hm hb⟩

end Go.Proofs.Ytadopgfpfbianaa
