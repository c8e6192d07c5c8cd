/-
  A map from ints whose keys are known.
-/
import Derived.Test.YtmmfjmgjkbplpaaMap1
import Derived.Maps.OwnSet
namespace Go.Proofs.Ytmmfjmgjkbplpaa
open Go.RowKit Go.Maps

/-- As MapI; ks tells which keys there are. -/
def MapK (P : Program) (k : TypeId) (w : World) (b n : Nat) (z : Value) (f : Int → Value) (ks : Int → Bool) : Prop :=
  ∃ D : DataW Value, w.ownsMap P k rawR b n D ∧ IsMap D ∧ (∀ x, D.atKey (.int .i64 x) (.held z) = .held (f x)) ∧ ∀ x, has D (.int .i64 x) = ks x

section
variable {P : Program} {k e t : TypeId} {w w' : World} {b n : Nat} {z : Value} {f : Int → Value} {ks : Int → Bool}
theorem MapK.map (h : MapK P k w b n z f ks) : MapI P k w b n z f := by obtain ⟨D, h1, h2, h3, _⟩ := h; exact ⟨D, h1, h2, h3⟩
theorem MapK.made (P : Program) (k : TypeId) (w : World) (z : Value) : MapK P k (w.alloc (.map #[] 0)) w.heap.size 0 z (fun _ => z) (fun _ => false) :=
  ⟨_, World.ownsMap_made _ _ _ _, isMap_empty, fun _ => rfl, fun _ => rfl⟩
theorem MapK.lt (h : MapK P k w b n z f ks) : b < w.heap.size := h.map.lt
theorem MapK.other {row : Option Nat} (h : MapK P k w b n z f ks) (hg : w.grownBy w' row) (hne : some b ≠ row) : MapK P k w' b n z f ks := by
  obtain ⟨D, h1, h2, h3⟩ := h
  exact ⟨D, h1.kept hg hne, h2, h3⟩
theorem MapK.keep (h : MapK P k w b n z f ks) (hb : Below w.heap.size w w') : MapK P k w' b n z f ks := h.other (grown_of_below hb none) (by simp)
theorem wpList_updateK {ops : Array Oper} {rest : List Oper} {o : Oper} {a : Act} {Q : Exit → Act → World → Prop}
    (hg : o.guard = none) (m x v : Operand) (hop : o.op = Op.mapUpdate t m x v) (hk : P.underlying k = some (.int .i64)) (ht : P.underlying t = some (.map k e))
    (hm : a.eval m = .map (some b)) (hown : MapK P k w b n z f ks) (hn : n < 1000000) (q : Int) (val : Value) (hx : a.eval x = .int .i64 q) (hv : a.eval v = val) (hq : (Lit.int .i64 q).wf = true)
    (hK : ∀ w', MapK P k w' b (n + 1) z (fun y => if y = q then val else f y) (fun y => if y = q then true else ks y) → w.grownBy w' (some b) → wpList P ops Q rest (a.put o.dst undef) w') :
    wpList P ops Q (o :: rest) a w := by
  obtain ⟨D, h1, h2, h3, h4⟩ := hown
  refine wpList_mapUpdate_own w hg m x v t hop k e (int_keyed hk) ht rawR b n D hm h1 (by unfold maxLen; omega) _ _ (.int .i64 q) hx hv (keyOf_int_mk hk hq) (.held val) [] rfl ?_
  intro w' hw hgr
  refine hK w' ⟨_, hw, h2.put _ _, fun y => ?_, fun y => ?_⟩ hgr
  · show _ = DataW.held (if y = q then val else f y)
    by_cases e : y = q
    · subst e
      rw [if_pos rfl]
      exact atKey_put_same h2 (by trivial) _ _
    · rw [if_neg e, atKey_put_other (fun h => e (by injection h)) _ _]
      exact h3 y
  · show _ = (if y = q then true else ks y)
    by_cases e : y = q
    · subst e
      rw [if_pos rfl]
      exact has_put_same h2 (by trivial) _
    · rw [if_neg e, has_put_other (fun h => e (by injection h)) _]
      exact h4 y
end

end Go.Proofs.Ytmmfjmgjkbplpaa
