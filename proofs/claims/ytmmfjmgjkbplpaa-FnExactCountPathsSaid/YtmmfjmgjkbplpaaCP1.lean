/-
  Memory words: a range over a map from ints, read value by value.
-/
import Derived.Test.YtmmfjmgjkbplpaaMapK
import Derived.Maps.RangeWalk
namespace Go.Proofs.Ytmmfjmgjkbplpaa
open Go.RowKit Go.Maps

/-- Block r is an iterator over the map in block b, which gives f x under x; left x: the entry of x is still to come. -/
def RangesI (P : Program) (k : TypeId) (w : World) (b r n : Nat) (z : Value) (f : Int → Value) (left : Int → Bool) (cnt : Nat) : Prop :=
  ∃ (D : DataW Value) (L : Lit → Bool), w.ranges P k rawR b r n D L cnt ∧ (∀ x, D.atKey (.int .i64 x) (.held z) = .held (f x)) ∧ ∀ x, L (.int .i64 x) = left x

section
variable {P : Program} {k e t : TypeId} {w w' : World} {b r n cnt : Nat} {z : Value} {f : Int → Value} {left : Int → Bool}
theorem RangesI.left_eq (h : RangesI P k w b r n z f left cnt) : w.rangeLeft b r = cnt := by obtain ⟨D, L, h1, _⟩ := h; exact h1.left_eq
theorem RangesI.lt (h : RangesI P k w b r n z f left cnt) : r < w.heap.size := by obtain ⟨D, L, h1, _⟩ := h; exact h1.lt
theorem RangesI.ltB (h : RangesI P k w b r n z f left cnt) : b < w.heap.size := by obtain ⟨D, L, h1, _⟩ := h; exact h1.owns.lt
theorem RangesI.ne (h : RangesI P k w b r n z f left cnt) : r ≠ b := by obtain ⟨D, L, h1, _⟩ := h; exact h1.ne
theorem RangesI.kept {row : Option Nat} (h : RangesI P k w b r n z f left cnt) (hg : w.grownBy w' row) (hb : some b ≠ row) (hr : some r ≠ row) : RangesI P k w' b r n z f left cnt := by
  obtain ⟨D, L, h1, h2, h3⟩ := h
  exact ⟨D, L, h1.kept hg hb hr, h2, h3⟩
theorem RangesI.keep (h : RangesI P k w b r n z f left cnt) (hb : Below w.heap.size w w') : RangesI P k w' b r n z f left cnt := h.kept (grown_of_below hb none) (by simp) (by simp)
theorem wpList_rangeI {ks : Int → Bool} {ops : Array Oper} {rest : List Oper} {o : Oper} {a : Act} {Q : Exit → Act → World → Prop} (hg : o.guard = none) (m : Operand) (hop : o.op = Op.range t m) (hk : P.underlying k = some (.int .i64)) (ht : P.underlying t = some (.map k e))
    (hm : a.eval m = .map (some b)) (hown : MapK P k w b n z f ks)
    (hK : ∀ w' cnt, RangesI P k w' b w.heap.size n z f ks cnt → (∀ x, ks x = false → f x = z) → w.grownBy w' none → w'.heap.size = w.heap.size + 1 → wpList P ops Q rest (a.put o.dst (.pointer (some ⟨w.heap.size, 0, none⟩))) w') :
    wpList P ops Q (o :: rest) a w := by
  obtain ⟨D, h1, h2, h3, h4⟩ := hown
  refine wpList_range_own w hg m t hop k e (int_keyed hk) ht rawR b n D hm h1 (fun w' hr hgr hs => ?_)
  refine hK w' (Maps.size D) ⟨D, _, hr, h3, h4⟩ (fun x hx => ?_) hgr hs
  have h9 := h3 x
  rw [atKey_of_not_has (by rw [h4]; exact hx)] at h9
  injection h9 with h9
  exact h9.symm
theorem wpList_insertK {ks : Int → Bool} {ops : Array Oper} {rest : List Oper} {o : Oper} {a : Act} {Q : Exit → Act → World → Prop}
    (hg : o.guard = none) (m x v : Operand) (hop : o.op = Op.insert t m x v) (hk : P.underlying k = some (.int .i64)) (ht : P.underlying t = some (.map k e))
    (hm : a.eval m = .map (some b)) (hown : MapK P k w b n z f ks) (hn : n < 1000000) (q : Int) (val : Value) (hx : a.eval x = .int .i64 q) (hv : a.eval v = val) (hq : (Lit.int .i64 q).wf = true)
    (hK : ∀ w', MapK P k w' b (n + 1) z (fun y => if y = q then val else f y) (fun y => if y = q then true else ks y) → w.grownBy w' (some b) → wpList P ops Q rest (a.put o.dst undef) w') :
    wpList P ops Q (o :: rest) a w := by
  obtain ⟨D, h1, h2, h3, h4⟩ := hown
  refine wpList_plain hg fun K' hK' => ?_
  obtain ⟨w', hrun, r1, r2⟩ := h1.update (int_keyed hk) ht (by unfold maxLen; omega) (keyOf_int_mk hk hq) (show rawR val = some (.held val, []) from rfl)
  unfold Oper.wp
  simp [execOp, hop, hm, hx, hv, hrun, Result.andThen]
  refine hK' _ _ (hK w' ⟨_, r1, h2.put _ _, fun y => ?_, fun y => ?_⟩ r2)
  · show _ = DataW.held (if y = q then val else f y)
    by_cases e : y = q
    · subst e
      rw [if_pos rfl]
      exact atKey_put_same h2 (by trivial) _ _
    · rw [if_neg e, atKey_put_other (fun h => e (by injection h)) _ _]
      exact h3 y
  · show _ = (if y = q then true else ks y)
    by_cases e : y = q
    · subst e
      rw [if_pos rfl]
      exact has_put_same h2 (by trivial) _
    · rw [if_neg e, has_put_other (fun h => e (by injection h)) _]
      exact h4 y
theorem same_int (x y : Int) : (Lit.int .i64 y).sameKey (.int .i64 x) = (y == x) := by
  by_cases e : y = x
  · subst e
    rw [WideAt.sameKey_self (by trivial)]; simp
  · rw [sameKey_ne (fun h => e (by injection h))]
    symm; simpa using e
theorem wpList_nextI {ops : Array Oper} {rest : List Oper} {o : Oper} {a : Act} {Q : Exit → Act → World → Prop} (hg : o.guard = none) (it : Operand) (hop : o.op = Op.next it false) (hk : P.underlying k = some (.int .i64))
    (hit : a.eval it = .pointer (some ⟨r, 0, none⟩)) (h : RangesI P k w b r n z f left cnt)
    (hDone : (∀ x, left x = false) → wpList P ops Q rest (a.put o.dst (.tuple #[.bool false])) w)
    (hMore : ∀ (x : Int) (w' : World) (cnt' : Nat), (Lit.int .i64 x).wf = true → left x = true → RangesI P k w' b r n z f (fun y => left y && !(y == x)) cnt' → cnt' < cnt → w.grownBy w' (some r) → w'.heap.size = w.heap.size →
      (Instr.entry (.pointer (some ⟨r, 0, none⟩))).run P w' = .ok (.tuple #[.int .i64 x, f x]) w' → wpList P ops Q rest (a.put o.dst (.tuple #[.bool true, .int .i64 x, f x])) w') :
    wpList P ops Q (o :: rest) a w := by
  obtain ⟨D, L, h1, h2, h3⟩ := h
  refine wpList_next_ranges w hg it hop k (int_keyed hk) rawR (fun x : Int => Value.int .i64 x) (fun v : Value => v) (fun key kl hkey => ?_) (fun v y _ => ⟨v, rfl⟩) b r n D L cnt hit h1 (fun _ hl => hDone (fun x => by rw [← h3 x]; exact hl _)) ?_
  · obtain ⟨x, hx, _⟩ := keyOf_int_inv hk hkey
    exact ⟨x, hx⟩
  · intro x c kl y w' cnt' hkey hl hR hat hr hlt hgr hs hen
    obtain ⟨x', hx', hkl, hwf⟩ := keyOf_int_inv hk hkey
    injection hx' with _ hx'
    subst hx'
    subst hkl
    have hy : y = (.held c, []) := (Option.some.inj hR).symm
    subst hy
    have hc : c = f x := by
      have h9 := hat (.held z)
      rw [h2 x] at h9
      injection h9 with h9
      exact h9.symm
    subst hc
    refine hMore x w' cnt' hwf (by rw [← h3 x]; exact hl) ⟨D, _, hr, h2, fun y => ?_⟩ hlt hgr hs hen
    show (L _ && !(Lit.sameKey _ _)) = _
    rw [h3 y, same_int]
end

end Go.Proofs.Ytmmfjmgjkbplpaa
