/-
  Paintings by a colouring: plain facts; loads and stores of a painting in a drawn region.
-/
import Derived.Test.YtbpgkigoboobeaaF6
import Derived.Deep.RegionWith
namespace Go.Proofs.Ytbpgkigoboobeaa
open Go.RowKit Go.Shelf
attribute [local go_sem] Oper.semAt_some

/-- The painting of some cells by a colouring. -/
def paintF (f : Int → Nat) (ys : List Int) : List Nat := (List.range 9).map fun c => setBits ((ys.filter fun y => f y == c).map Int.toNat)
theorem paintF_len (f : Int → Nat) (ys : List Int) : (paintF f ys).length = 9 := by simp [paintF]
theorem paintF_at {f : Int → Nat} {ys : List Int} {c : Nat} (hc : c < 9) : (paintF f ys)[c]? = some (setBits ((ys.filter fun y => f y == c).map Int.toNat)) := by simp [paintF, hc]
theorem paintF_snoc {f : Int → Nat} {ys : List Int} {y : Int} : (paintF f ys).set (f y) (setBits ((ys.filter fun z => f z == f y).map Int.toNat) ||| 2 ^ y.toNat) = paintF f (ys ++ [y]) := by
  apply List.ext_getElem?
  intro j
  rw [List.getElem?_set]
  by_cases hj : j < 9
  · rw [paintF_at hj, paintF_at hj]
    by_cases e : f y = j
    · subst e
      rw [if_pos rfl, if_pos (by rw [paintF_len]; omega), List.filter_append, List.map_append]
      simp [setBits_snoc]
    · rw [if_neg e, List.filter_append, List.map_append]
      have : (f y == j) = false := by simpa using e
      simp [this]
  · have e1 : (paintF f (ys ++ [y]))[j]? = none := List.getElem?_eq_none (by rw [paintF_len]; omega)
    have e2 : (paintF f ys)[j]? = none := List.getElem?_eq_none (by rw [paintF_len]; omega)
    rw [e1, e2]
    split
    · rw [if_neg (by rw [paintF_len]; omega)]
    · rfl
theorem paintF_nil (f : Int → Nat) : paintF f [] = none9 := by rfl
theorem paintF_lt {f : Int → Nat} {ys : List Int} (h : ∀ y ∈ ys, 0 ≤ y ∧ y < 64) : ∀ s ∈ paintF f ys, s < 18446744073709551616 := by
  intro s hs
  obtain ⟨c, _, rfl⟩ := List.mem_map.1 hs
  refine setBits_lt _ (fun i hi => ?_)
  obtain ⟨y, hy, rfl⟩ := List.mem_map.1 hi
  have := h y (List.mem_filter.1 hy).1
  omega
/-- The painting in the midst of its making. -/
def MidP (W3 : World) (g : Nat) (L : List Nat) (W' : World) : Prop :=
  W3.grownBy W' (some g) ∧ W'.heap[g]? = some (.cells (words L).toArray 55 (0, 0))
theorem midP_below {W3 W W' : World} {g : Nat} {L : List Nat} (h : MidP W3 g L W) (hb : Below W.heap.size W W') : MidP W3 g L W' :=
  ⟨grown_next h.1 (grown_of_below hb _), (hb.block g (Array.getElem?_eq_some_iff.1 h.2).1).trans h.2⟩
theorem midP_set {W3 W : World} {g : Nat} {L : List Nat} (L' : List Nat) (h : MidP W3 g L W) : MidP W3 g L' (W.setRow g (words L').toArray) :=
  ⟨grown_next h.1 (grown_setRow _ _ _), heap_setRow h.2⟩

theorem cell_setRow_ne {W : World} {b o g : Nat} {v : Value} {cs : Array Value} (h : W.cell? ⟨b, o, none⟩ = some v) (hne : b ≠ g) : (W.setRow g cs).cell? ⟨b, o, none⟩ = some v := by
  rw [← h]
  simp [World.cell?, World.setRow, Array.getElem?_modify, show ¬ g = b from fun e => hne e.symm]

theorem range_of_row {w : World} {g : Nat} {L : List Value} {T : TypeId} (h : w.heap[g]? = some (.cells L.toArray T (0, 0))) : w.rangeAt g 0 L := fun j v hv => by
  rw [Nat.zero_add, cell_of_row _ _ _ _ _ _ h]; simpa using hv
theorem there_of_row {w : World} {g n : Nat} {L : List Value} {T : TypeId} (h : w.heap[g]? = some (.cells L.toArray T (0, 0))) (hn : L.length = n) : w.there g 0 n := fun j hj => by
  refine ⟨?_, frozen_of_row _ _ _ _ _ h⟩
  rw [Nat.zero_add, cell_of_row _ _ _ _ _ _ h, List.getElem?_toArray, List.getElem?_eq_getElem (by omega)]; rfl
theorem step_load_paint {ops : Array Oper} {o : Oper} {a : Act} {w : World} {K : Act → World → Prop} {Q : Exit → Act → World → Prop} {E0 : Prop} (hgd : o.guard = none) (x : Operand) (ho : o.op = .load 55 x)
    (g : Nat) (hx : a.eval x = .pointer (some ⟨g, 0, none⟩)) (L : List Nat) (h : w.heap[g]? = some (.cells (words L).toArray 55 (0, 0))) (hL : L.length = 9)
    (hK : K (a.put o.dst (.agg (words L).toArray)) w) : if Region.wanted o (yielded ops a.tmps) = true then Oper.wp Try.prog o a w K Q else E0 := by
  have hw : Region.wanted o (yielded ops a.tmps) = true := by simp [Region.wanted, hgd]
  rw [if_pos hw]
  unfold Oper.wp execOp
  simp only [ho, hx, Sem.run_bind, paint_load h hL, Sem.run_pure, Result.andThen_ok]
  exact hK
theorem step_store_paint {ops : Array Oper} {o : Oper} {a : Act} {w : World} {K : Act → World → Prop} {Q : Exit → Act → World → Prop} {E0 : Prop} (hgd : o.guard = none) (x y : Operand) (ho : o.op = .store 55 x y)
    (g : Nat) (hx : a.eval x = .pointer (some ⟨g, 0, none⟩)) (L L0 : List Nat) (hy : a.eval y = .agg (words L).toArray) (h : w.heap[g]? = some (.cells (words L0).toArray 55 (0, 0))) (hL0 : L0.length = 9) (hL : L.length = 9)
    (hK : K (a.put o.dst undef) (w.setRow g (words L).toArray)) : if Region.wanted o (yielded ops a.tmps) = true then Oper.wp Try.prog o a w K Q else E0 := by
  have hw : Region.wanted o (yielded ops a.tmps) = true := by simp [Region.wanted, hgd]
  rw [if_pos hw]
  unfold Oper.wp execOp
  simp only [ho, hx, hy, Sem.run_bind, paint_store h (by simp [words, hL0]) hL, Sem.run_pure, Result.andThen_ok]
  exact hK
theorem nine_of_len {P : List Nat} (h : P.length = 9) : ∃ y0 y1 y2 y3 y4 y5 y6 y7 y8 : Nat, P = [y0, y1, y2, y3, y4, y5, y6, y7, y8] := by
  match P, h with
  | [y0, y1, y2, y3, y4, y5, y6, y7, y8], _ => exact ⟨y0, y1, y2, y3, y4, y5, y6, y7, y8, rfl⟩
theorem nine_cells {W : World} {g : Nat} {T : TypeId} {y0 y1 y2 y3 y4 y5 y6 y7 y8 : Nat} (h : W.heap[g]? = some (.cells (words [y0, y1, y2, y3, y4, y5, y6, y7, y8]).toArray T (0, 0))) :
    W.cell? ⟨g, 0, none⟩ = some (.int .u64 ((y0 : Nat) : Int)) ∧ W.cell? ⟨g, 1, none⟩ = some (.int .u64 ((y1 : Nat) : Int)) ∧ W.cell? ⟨g, 2, none⟩ = some (.int .u64 ((y2 : Nat) : Int)) ∧ W.cell? ⟨g, 3, none⟩ = some (.int .u64 ((y3 : Nat) : Int)) ∧ W.cell? ⟨g, 4, none⟩ = some (.int .u64 ((y4 : Nat) : Int)) ∧ W.cell? ⟨g, 5, none⟩ = some (.int .u64 ((y5 : Nat) : Int)) ∧ W.cell? ⟨g, 6, none⟩ = some (.int .u64 ((y6 : Nat) : Int)) ∧ W.cell? ⟨g, 7, none⟩ = some (.int .u64 ((y7 : Nat) : Int)) ∧ W.cell? ⟨g, 8, none⟩ = some (.int .u64 ((y8 : Nat) : Int)) :=
  ⟨by rw [cell_of_row _ _ _ _ _ _ h]; rfl, by rw [cell_of_row _ _ _ _ _ _ h]; rfl, by rw [cell_of_row _ _ _ _ _ _ h]; rfl, by rw [cell_of_row _ _ _ _ _ _ h]; rfl, by rw [cell_of_row _ _ _ _ _ _ h]; rfl, by rw [cell_of_row _ _ _ _ _ _ h]; rfl, by rw [cell_of_row _ _ _ _ _ _ h]; rfl, by rw [cell_of_row _ _ _ _ _ _ h]; rfl, by rw [cell_of_row _ _ _ _ _ _ h]; rfl⟩
end Go.Proofs.Ytbpgkigoboobeaa
