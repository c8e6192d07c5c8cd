/-
  Memory words: a map from ints that the call owns, read value by value.
-/
import Derived.Test.YtmmfjmgjkbplpaaMem2
import Derived.Maps.Views
import Derived.Maps.OwnOps
namespace Go.Proofs.Ytmmfjmgjkbplpaa
open Go.RowKit Go.Maps

/-- An element reads as itself. -/
def rawR (v : Value) : Option (DataW Value × List MemPlace) := some (.held v, [])
/-- Block b of w is a map from ints with at most n entries; under x it gives f x (z: what it gives where there is no entry). -/
def MapI (P : Program) (k : TypeId) (w : World) (b n : Nat) (z : Value) (f : Int → Value) : Prop :=
  ∃ D : DataW Value, w.ownsMap P k rawR b n D ∧ IsMap D ∧ ∀ x, D.atKey (.int .i64 x) (.held z) = .held (f x)

section
variable {P : Program} {k e t : TypeId} {w w' : World} {b n : Nat} {z : Value} {f : Int → Value}
theorem MapI.made (P : Program) (k : TypeId) (w : World) (z : Value) : MapI P k (w.alloc (.map #[] 0)) w.heap.size 0 z (fun _ => z) :=
  ⟨_, World.ownsMap_made _ _ _ _, isMap_empty, fun _ => rfl⟩
theorem MapI.lt (h : MapI P k w b n z f) : b < w.heap.size := by obtain ⟨D, h, _⟩ := h; exact h.lt
theorem MapI.other {row : Option Nat} (h : MapI P k w b n z f) (hg : w.grownBy w' row) (hne : some b ≠ row) : MapI P k w' b n z f := by
  obtain ⟨D, h1, h2, h3⟩ := h
  exact ⟨D, h1.kept hg hne, h2, h3⟩
theorem MapI.keep (h : MapI P k w b n z f) (hb : Below w.heap.size w w') : MapI P k w' b n z f := h.other (grown_of_below hb none) (by simp)
theorem MapI.lookup (h : MapI P k w b n z f) (hk : P.underlying k = some (.int .i64)) (ht : P.underlying t = some (.map k e)) (hz : (zeroValue e).run P w = .ok z w) {x : Int} (hx : (Lit.int .i64 x).wf = true) :
    (Instr.lookup t (.map (some b)) (.int .i64 x) false).run P w = .ok (f x) w := by
  obtain ⟨D, h1, h2, h3⟩ := h
  obtain ⟨v, ps, hr, hv⟩ := h1.lookup (int_keyed hk) ht hz (show rawR z = some (.held z, []) from rfl) (keyOf_int_mk hk hx)
  rw [h3 x] at hv
  injection hv with hv
  injection hv with hv _
  injection hv with hv
  rw [hr, hv]
theorem wpList_update {ops : Array Oper} {rest : List Oper} {o : Oper} {a : Act} {Q : Exit → Act → World → Prop}
    (hg : o.guard = none) (m x v : Operand) (hop : o.op = Op.mapUpdate t m x v) (hk : P.underlying k = some (.int .i64)) (ht : P.underlying t = some (.map k e))
    (hm : a.eval m = .map (some b)) (hown : MapI P k w b n z f) (hn : n < 1000000) (q : Int) (val : Value) (hx : a.eval x = .int .i64 q) (hv : a.eval v = val) (hq : (Lit.int .i64 q).wf = true)
    (hK : ∀ w', MapI P k w' b (n + 1) z (fun y => if y = q then val else f y) → w.grownBy w' (some b) → wpList P ops Q rest (a.put o.dst undef) w') :
    wpList P ops Q (o :: rest) a w := by
  obtain ⟨D, h1, h2, h3⟩ := hown
  refine wpList_mapUpdate_own w hg m x v t hop k e (int_keyed hk) ht rawR b n D hm h1 (by unfold maxLen; omega) _ _ (.int .i64 q) hx hv (keyOf_int_mk hk hq) (.held val) [] rfl ?_
  intro w' hw hgr
  refine hK w' ⟨_, hw, h2.put _ _, fun y => ?_⟩ hgr
  show _ = DataW.held (if y = q then val else f y)
  by_cases e : y = q
  · subst e
    rw [if_pos rfl]
    exact atKey_put_same h2 (by trivial) _ _
  · rw [if_neg e, atKey_put_other (fun h => e (by injection h)) _ _]
    exact h3 y
end

end Go.Proofs.Ytmmfjmgjkbplpaa
