/-
  A map from ints whose keys are known.
  Memory words: a range over a map from ints, read value by value.
  A map of leaps whose keys are just the cells.
  Contracts: arrays of distances: the greatest one, how many cells have each of them.
  The store of an array of 144 ints into a block just laid.
  Contracts: the leaps that lead nearer to a cell, as a map.
  Contracts: the first route, in the program.
-/
import Derived.Test.YtmmfjmgjkbplpaaMap1
import Derived.Maps.OwnSet
import Derived.Maps.RangeWalk
import Derived.Test.YtmmfjmgjkbplpaaT2a
import Derived.Test.YtmmfjmgjkbplpaaT3
import Derived.Test.YtmmfjmgjkbplpaaQ4
import Derived.Test.YtmmfjmgjkbplpaaShelf
import Derived.Test.YtmmfjmgjkbplpaaApp
import Derived.Deep.MidRow
import Derived.Deep.WholeRow
import Derived.Test.YtmmfjmgjkbplpaaBunHFirstRoute1
import Derived.Great.BuildSlice
import Derived.Test.YtmmfjmgjkbplpaaCR0
import Derived.Test.YtmmfjmgjkbplpaaCRM
import Derived.Deep.QuietTactic
import Derived.BigQuiet
namespace Go.Proofs.Ytmmfjmgjkbplpaa
open Go.RowKit Go.Maps

/-- As MapI; ks tells which keys there are. -/
def MapK (P : Program) (k : TypeId) (w : World) (b n : Nat) (z : Value) (f : Int → Value) (ks : Int → Bool) : Prop :=
  ∃ D : DataW Value, w.ownsMap P k rawR b n D ∧ IsMap D ∧ (∀ x, D.atKey (.int .i64 x) (.held z) = .held (f x)) ∧ ∀ x, has D (.int .i64 x) = ks x

section
variable {P : Program} {k e t : TypeId} {w w' : World} {b n : Nat} {z : Value} {f : Int → Value} {ks : Int → Bool}
theorem MapK.map (h : MapK P k w b n z f ks) : MapI P k w b n z f := by obtain ⟨D, h1, h2, h3, _⟩ := h; exact ⟨D, h1, h2, h3⟩
theorem MapK.made (P : Program) (k : TypeId) (w : World) (z : Value) : MapK P k (w.alloc (.map #[] 0)) w.heap.size 0 z (fun _ => z) (fun _ => false) :=
  ⟨_, World.ownsMap_made _ _ _ _, isMap_empty, fun _ => rfl, fun _ => rfl⟩
theorem MapK.lt (h : MapK P k w b n z f ks) : b < w.heap.size := h.map.lt
theorem MapK.other {row : Option Nat} (h : MapK P k w b n z f ks) (hg : w.grownBy w' row) (hne : some b ≠ row) : MapK P k w' b n z f ks := by
  obtain ⟨D, h1, h2, h3⟩ := h
  exact ⟨D, h1.kept hg hne, h2, h3⟩
theorem MapK.keep (h : MapK P k w b n z f ks) (hb : Below w.heap.size w w') : MapK P k w' b n z f ks := h.other (grown_of_below hb none) (by simp)
theorem wpList_updateK {ops : Array Oper} {rest : List Oper} {o : Oper} {a : Act} {Q : Exit → Act → World → Prop}
    (hg : o.guard = none) (m x v : Operand) (hop : o.op = Op.mapUpdate t m x v) (hk : P.underlying k = some (.int .i64)) (ht : P.underlying t = some (.map k e))
    (hm : a.eval m = .map (some b)) (hown : MapK P k w b n z f ks) (hn : n < 1000000) (q : Int) (val : Value) (hx : a.eval x = .int .i64 q) (hv : a.eval v = val) (hq : (Lit.int .i64 q).wf = true)
    (hK : ∀ w', MapK P k w' b (n + 1) z (fun y => if y = q then val else f y) (fun y => if y = q then true else ks y) → w.grownBy w' (some b) → wpList P ops Q rest (a.put o.dst undef) w') :
    wpList P ops Q (o :: rest) a w := by
  obtain ⟨D, h1, h2, h3, h4⟩ := hown
  refine wpList_mapUpdate_own w hg m x v t hop k e (int_keyed hk) ht rawR b n D hm h1 (by unfold maxLen; omega) _ _ (.int .i64 q) hx hv (keyOf_int_mk hk hq) (.held val) [] rfl ?_
  intro w' hw hgr
  refine hK w' ⟨_, hw, h2.put _ _, fun y => ?_, fun y => ?_⟩ hgr
  · show _ = DataW.held (if y = q then val else f y)
    by_cases e : y = q
    · subst e
      rw [if_pos rfl]
      exact atKey_put_same h2 (by trivial) _ _
    · rw [if_neg e, atKey_put_other (fun h => e (by injection h)) _ _]
      exact h3 y
  · show _ = (if y = q then true else ks y)
    by_cases e : y = q
    · subst e
      rw [if_pos rfl]
      exact has_put_same h2 (by trivial) _
    · rw [if_neg e, has_put_other (fun h => e (by injection h)) _]
      exact h4 y
end

end Go.Proofs.Ytmmfjmgjkbplpaa

namespace Go.Proofs.Ytmmfjmgjkbplpaa
open Go.RowKit Go.Maps

/-- Block r is an iterator over the map in block b, which gives f x under x; left x: the entry of x is still to come. -/
def RangesI (P : Program) (k : TypeId) (w : World) (b r n : Nat) (z : Value) (f : Int → Value) (left : Int → Bool) (cnt : Nat) : Prop :=
  ∃ (D : DataW Value) (L : Lit → Bool), w.ranges P k rawR b r n D L cnt ∧ (∀ x, D.atKey (.int .i64 x) (.held z) = .held (f x)) ∧ ∀ x, L (.int .i64 x) = left x

section
variable {P : Program} {k e t : TypeId} {w w' : World} {b r n cnt : Nat} {z : Value} {f : Int → Value} {left : Int → Bool}
theorem RangesI.left_eq (h : RangesI P k w b r n z f left cnt) : w.rangeLeft b r = cnt := by obtain ⟨D, L, h1, _⟩ := h; exact h1.left_eq
theorem RangesI.lt (h : RangesI P k w b r n z f left cnt) : r < w.heap.size := by obtain ⟨D, L, h1, _⟩ := h; exact h1.lt
theorem RangesI.ltB (h : RangesI P k w b r n z f left cnt) : b < w.heap.size := by obtain ⟨D, L, h1, _⟩ := h; exact h1.owns.lt
theorem RangesI.ne (h : RangesI P k w b r n z f left cnt) : r ≠ b := by obtain ⟨D, L, h1, _⟩ := h; exact h1.ne
theorem RangesI.kept {row : Option Nat} (h : RangesI P k w b r n z f left cnt) (hg : w.grownBy w' row) (hb : some b ≠ row) (hr : some r ≠ row) : RangesI P k w' b r n z f left cnt := by
  obtain ⟨D, L, h1, h2, h3⟩ := h
  exact ⟨D, L, h1.kept hg hb hr, h2, h3⟩
theorem RangesI.keep (h : RangesI P k w b r n z f left cnt) (hb : Below w.heap.size w w') : RangesI P k w' b r n z f left cnt := h.kept (grown_of_below hb none) (by simp) (by simp)
theorem wpList_rangeI {ks : Int → Bool} {ops : Array Oper} {rest : List Oper} {o : Oper} {a : Act} {Q : Exit → Act → World → Prop} (hg : o.guard = none) (m : Operand) (hop : o.op = Op.range t m) (hk : P.underlying k = some (.int .i64)) (ht : P.underlying t = some (.map k e))
    (hm : a.eval m = .map (some b)) (hown : MapK P k w b n z f ks)
    (hK : ∀ w' cnt, RangesI P k w' b w.heap.size n z f ks cnt → (∀ x, ks x = false → f x = z) → w.grownBy w' none → w'.heap.size = w.heap.size + 1 → wpList P ops Q rest (a.put o.dst (.pointer (some ⟨w.heap.size, 0, none⟩))) w') :
    wpList P ops Q (o :: rest) a w := by
  obtain ⟨D, h1, h2, h3, h4⟩ := hown
  refine wpList_range_own w hg m t hop k e (int_keyed hk) ht rawR b n D hm h1 (fun w' hr hgr hs => ?_)
  refine hK w' (Maps.size D) ⟨D, _, hr, h3, h4⟩ (fun x hx => ?_) hgr hs
  have h9 := h3 x
  rw [atKey_of_not_has (by rw [h4]; exact hx)] at h9
  injection h9 with h9
  exact h9.symm
theorem wpList_insertK {ks : Int → Bool} {ops : Array Oper} {rest : List Oper} {o : Oper} {a : Act} {Q : Exit → Act → World → Prop}
    (hg : o.guard = none) (m x v : Operand) (hop : o.op = Op.insert t m x v) (hk : P.underlying k = some (.int .i64)) (ht : P.underlying t = some (.map k e))
    (hm : a.eval m = .map (some b)) (hown : MapK P k w b n z f ks) (hn : n < 1000000) (q : Int) (val : Value) (hx : a.eval x = .int .i64 q) (hv : a.eval v = val) (hq : (Lit.int .i64 q).wf = true)
    (hK : ∀ w', MapK P k w' b (n + 1) z (fun y => if y = q then val else f y) (fun y => if y = q then true else ks y) → w.grownBy w' (some b) → wpList P ops Q rest (a.put o.dst undef) w') :
    wpList P ops Q (o :: rest) a w := by
  obtain ⟨D, h1, h2, h3, h4⟩ := hown
  refine wpList_plain hg fun K' hK' => ?_
  obtain ⟨w', hrun, r1, r2⟩ := h1.update (int_keyed hk) ht (by unfold maxLen; omega) (keyOf_int_mk hk hq) (show rawR val = some (.held val, []) from rfl)
  unfold Oper.wp
  simp [execOp, hop, hm, hx, hv, hrun, Result.andThen]
  refine hK' _ _ (hK w' ⟨_, r1, h2.put _ _, fun y => ?_, fun y => ?_⟩ r2)
  · show _ = DataW.held (if y = q then val else f y)
    by_cases e : y = q
    · subst e
      rw [if_pos rfl]
      exact atKey_put_same h2 (by trivial) _ _
    · rw [if_neg e, atKey_put_other (fun h => e (by injection h)) _ _]
      exact h3 y
  · show _ = (if y = q then true else ks y)
    by_cases e : y = q
    · subst e
      rw [if_pos rfl]
      exact has_put_same h2 (by trivial) _
    · rw [if_neg e, has_put_other (fun h => e (by injection h)) _]
      exact h4 y
theorem same_int (x y : Int) : (Lit.int .i64 y).sameKey (.int .i64 x) = (y == x) := by
  by_cases e : y = x
  · subst e
    rw [WideAt.sameKey_self (by trivial)]; simp
  · rw [sameKey_ne (fun h => e (by injection h))]
    symm; simpa using e
theorem wpList_nextI {ops : Array Oper} {rest : List Oper} {o : Oper} {a : Act} {Q : Exit → Act → World → Prop} (hg : o.guard = none) (it : Operand) (hop : o.op = Op.next it false) (hk : P.underlying k = some (.int .i64))
    (hit : a.eval it = .pointer (some ⟨r, 0, none⟩)) (h : RangesI P k w b r n z f left cnt)
    (hDone : (∀ x, left x = false) → wpList P ops Q rest (a.put o.dst (.tuple #[.bool false])) w)
    (hMore : ∀ (x : Int) (w' : World) (cnt' : Nat), (Lit.int .i64 x).wf = true → left x = true → RangesI P k w' b r n z f (fun y => left y && !(y == x)) cnt' → cnt' < cnt → w.grownBy w' (some r) → w'.heap.size = w.heap.size →
      (Instr.entry (.pointer (some ⟨r, 0, none⟩))).run P w' = .ok (.tuple #[.int .i64 x, f x]) w' → wpList P ops Q rest (a.put o.dst (.tuple #[.bool true, .int .i64 x, f x])) w') :
    wpList P ops Q (o :: rest) a w := by
  obtain ⟨D, L, h1, h2, h3⟩ := h
  refine wpList_next_ranges w hg it hop k (int_keyed hk) rawR (fun x : Int => Value.int .i64 x) (fun v : Value => v) (fun key kl hkey => ?_) (fun v y _ => ⟨v, rfl⟩) b r n D L cnt hit h1 (fun _ hl => hDone (fun x => by rw [← h3 x]; exact hl _)) ?_
  · obtain ⟨x, hx, _⟩ := keyOf_int_inv hk hkey
    exact ⟨x, hx⟩
  · intro x c kl y w' cnt' hkey hl hR hat hr hlt hgr hs hen
    obtain ⟨x', hx', hkl, hwf⟩ := keyOf_int_inv hk hkey
    injection hx' with _ hx'
    subst hx'
    subst hkl
    have hy : y = (.held c, []) := (Option.some.inj hR).symm
    subst hy
    have hc : c = f x := by
      have h9 := hat (.held z)
      rw [h2 x] at h9
      injection h9 with h9
      exact h9.symm
    subst hc
    refine hMore x w' cnt' hwf (by rw [← h3 x]; exact hl) ⟨D, _, hr, h2, fun y => ?_⟩ hlt hgr hs hen
    show (L _ && !(Lit.sameKey _ _)) = _
    rw [h3 y, same_int]
end

end Go.Proofs.Ytmmfjmgjkbplpaa

namespace Go.Proofs.Ytmmfjmgjkbplpaa
open Go.RowKit

/-- As OnMap; the map has just the cells. -/
def OnMapK (w : World) (lo mb : Nat) (cells : List Int) (adj : Int → List Int) : Prop :=
  lo ≤ mb ∧ ∃ (n : Nat) (f : Int → Value), n ≤ 144 ∧ MapK Try.prog 3 w mb n (.slice none 0 0) f (fun x => decide (x ∈ cells)) ∧ ∀ x ∈ cells, RowAt w lo mb (f x) (adj x)
theorem OnMapK.on {w : World} {lo mb : Nat} {cells : List Int} {adj : Int → List Int} (h : OnMapK w lo mb cells adj) : OnMap w lo mb cells adj := by
  obtain ⟨h0, n, f, h1, h2, h3⟩ := h
  exact ⟨h0, n, f, h1, h2.map, h3⟩
theorem OnMapK.keep {w w' : World} {lo mb : Nat} {cells : List Int} {adj : Int → List Int} (h : OnMapK w lo mb cells adj) (hb : Below w.heap.size w w') : OnMapK w' lo mb cells adj := by
  obtain ⟨h0, n, f, h1, h2, h3⟩ := h
  exact ⟨h0, n, f, h1, h2.keep hb, fun x hx => (h3 x hx).keep hb⟩

end Go.Proofs.Ytmmfjmgjkbplpaa

namespace Go.Proofs.Ytmmfjmgjkbplpaa
open Go.RowKit

theorem cell_laid (w : World) (L : List Int) (E : TypeId) : ∀ j, j < L.length → (w.alloc (.cells (L.map (Value.int .i64)).toArray E)).cell? ⟨w.heap.size, 0 + j, none⟩ = some (.int .i64 (L.getD j 0)) := by
  intro j hj
  have h := newbox (w := w) (w' := w.alloc (.cells (L.map (Value.int .i64)).toArray E)) (cs := (L.map (Value.int .i64)).toArray) (t := E) (Below.refl _ _) j
  rw [Nat.zero_add, h, ← Array.getElem?_toList, List.toList_toArray, List.getElem?_map, List.getElem?_eq_getElem hj, List.getD_eq_getElem?_getD, List.getElem?_eq_getElem hj]
  rfl
theorem range_laid (w : World) (L : List Int) (E : TypeId) : (w.alloc (.cells (L.map (Value.int .i64)).toArray E)).rangeAt w.heap.size 0 (L.map (Value.int .i64)) := fun j v hv => by
  have h := newbox (w := w) (w' := w.alloc (.cells (L.map (Value.int .i64)).toArray E)) (cs := (L.map (Value.int .i64)).toArray) (t := E) (Below.refl _ _) j
  rw [Nat.zero_add, h, ← Array.getElem?_toList, List.toList_toArray]; exact hv
theorem range_keep {w w' : World} {g o : Nat} {cs : List Value} (h : w.rangeAt g o cs) (hg : g < w.heap.size) (hb : Below w.heap.size w w') : w'.rangeAt g o cs := fun j v hv => cell_keep (h j v hv) hg hb
theorem range_cells {w : World} {g : Nat} {L : List Int} (h : ∀ j, j < L.length → w.cell? ⟨g, 0 + j, none⟩ = some (.int .i64 (L.getD j 0))) : w.rangeAt g 0 (L.map (Value.int .i64)) := fun j v hv => by
  rw [List.getElem?_map] at hv
  cases hj : L[j]? with
  | none => rw [hj] at hv; cases hv
  | some y =>
    rw [hj] at hv
    injection hv with hv
    have hjl : j < L.length := (List.getElem?_eq_some_iff.1 hj).1
    rw [← hv, h j hjl, List.getD_eq_getElem?_getD, hj]; rfl
theorem bump_bd (D : List Int) (m : Nat) : ∀ (k : Nat) (v : Int), v ∈ (D.take k).foldl bumpStep (List.replicate m 0) → 0 ≤ v ∧ v ≤ (k : Int)
  | 0, v, h => by
    rw [List.take_zero] at h
    have := (List.mem_replicate.1 h).2; omega
  | k + 1, v, h => by
    cases hx : D[k]? with
    | none =>
      rw [List.take_add_one, hx] at h
      have := bump_bd D m k v (by simpa using h); omega
    | some x =>
      rw [take_foldl bumpStep hx] at h
      have key : ∀ u, u ∈ (D.take k).foldl bumpStep (List.replicate m 0) → 0 ≤ u ∧ u ≤ (k : Int) := bump_bd D m k
      generalize (D.take k).foldl bumpStep (List.replicate m 0) = O0 at h key
      rw [bumpStep] at h
      split at h
      · have := key v h; omega
      · rw [bump] at h
        rcases List.mem_or_eq_of_mem_set h with h | h
        · have := key v h; omega
        · rw [List.getD_eq_getElem?_getD] at h
          cases he : O0[x.toNat]? with
          | none => rw [he] at h; simp at h; omega
          | some u => rw [he] at h; simp at h; have := key u (List.mem_of_getElem? he); omega

theorem run_whole (g : Nat) (w : World) :
    (Instr.sliceAt 64 (.pointer (some ⟨g, 0, none⟩)) none none none).run Try.prog w = .ok (.slice (some ⟨g, 0, none⟩) 144 144) w := by
  have hl : Try.prog.arrayLen 64 = 144 := by kernel_rfl
  have he : Try.prog.elem 64 = 3 := by kernel_rfl
  have hu : Try.prog.underlying 64 = some (.array (Try.prog.arrayLen 64) (Try.prog.elem 64)) := by rw [hl, he]; exact Try.underlying64
  rw [run_sliceAt_array_all w _ _ hu, he, Try.sizeOf3, hl]
  simp [slicedAt]
  rfl

theorem most_max {D L : List Int} {j m : Nat} (M : IsMost D j) (h : L = D ++ List.replicate m (-1)) : Go.Lib.maxOf L = D.getD j (-1) := by
  have hj := M.lt
  have e : D.getD j (-1) = D[j] := by rw [List.getD_eq_getElem?_getD, List.getElem?_eq_getElem hj]; rfl
  refine max_of ?_ ?_ ?_
  · intro h0; rw [h0] at h; have := congrArg List.length h; simp at this; omega
  · rw [h, e]; exact List.mem_append_left _ (List.getElem_mem hj)
  · intro x hx
    rw [h] at hx
    rcases List.mem_append.1 hx with hx | hx
    · obtain ⟨i, hi, rfl⟩ := List.getElem_of_mem hx
      have := M.le i
      rwa [List.getD_eq_getElem?_getD, List.getElem?_eq_getElem hi] at this
    · have := (List.mem_replicate.1 hx).2; have := M.nn; omega
theorem run_farK (L : List Int) (_hl : L.length = 144) (q : Nat) (hq : q < 144) (v : Int) (hv : L[q]? = some v) (w : World) :
    (Instr.index 64 (.agg (L.map (Value.int .i64)).toArray) (.int .i64 (q : Int))).run Try.prog w = .ok (.int .i64 v) w := by
  have hu := Try.underlying64
  have hz := Try.sizeOf3
  have ha := Try.isAgg3
  simp [Instr.index, run_underlying hu, asIntOf, go_sem]
  rw [if_pos hq, hv]
  rfl

end Go.Proofs.Ytmmfjmgjkbplpaa

namespace Go.Proofs.Ytmmfjmgjkbplpaa
open Go.RowKit

theorem infoDs : (Try.prog.info? 64).map (·.size) = some 144 := by kernel_rfl
theorem wpList_store64 {ops : Array Oper} {rest : List Oper} {o : Oper} {a : Act} {w0 : World} {Q : Exit → Act → World → Prop} (L : List Int) (hL : L.length = 144) (hg : o.guard = none) (x y : Operand)
    (ho : o.op = .store 64 x y) (hd : o.dst = none) (hx : a.eval x = .pointer (some ⟨w0.heap.size, 0, none⟩)) (hy : a.eval y = .agg (L.map (Value.int .i64)).toArray)
    (E : TypeId) (old : Array Value) (hold : old.size = 144) (h : wpList Try.prog ops Q rest a (w0.alloc (.cells (L.map (Value.int .i64)).toArray E))) :
    wpList Try.prog ops Q (o :: rest) a (w0.alloc (.cells old E)) := by
  refine wpList_store_rowTo hg _ x y ho hd w0.heap.size (L.map (Value.int .i64)).toArray hx hy E old (show (w0.heap.push _)[w0.heap.size]? = _ by rw [Array.getElem?_push_size]) (by rw [infoDs]; simp [hL]) (by rw [hold]; simp [hL]) ?_ ?_
  · refine Array.all_eq_true_iff_forall_mem.2 (fun v hv => ?_)
    simp only [List.mem_toArray, List.mem_map] at hv
    obtain ⟨i, _, rfl⟩ := hv
    rfl
  · rw [World.setRow_alloc_new]; exact h
theorem run_cut (g N : Nat) (hN : N ≤ 144) (w : World) :
    (Instr.sliceAt 64 (.pointer (some ⟨g, 0, none⟩)) none (some (.int .i64 (N : Int))) none).run Try.prog w = .ok (.slice (some ⟨g, 0, none⟩) N 144) w := by
  have hl : Try.prog.arrayLen 64 = 144 := by kernel_rfl
  have he : Try.prog.elem 64 = 3 := by kernel_rfl
  have hu : Try.prog.underlying 64 = some (.array (Try.prog.arrayLen 64) (Try.prog.elem 64)) := by rw [hl, he]; exact Try.underlying64
  rw [run_sliceAt_array_h w _ _ hu .i64 (N : Int) (by omega) (by rw [hl]; omega), he, Try.sizeOf3, hl]
  simp [slicedAt]
  rfl
theorem own_slice {E : TypeId} {w : World} {lo n : Nat} {v : Value} {xs : List Int} (h : w.ownsRow lo E 1 v n (xs.map (Value.int .i64))) : ∃ A c, v = .slice A n c ∧ OwnI E w lo A n c xs := by
  have h0 := h
  rcases h.2 with ⟨hv, hn⟩ | ⟨g, cap, cur, hv, _⟩
  · subst hn; subst hv; exact ⟨_, _, rfl, h0⟩
  · subst hv; exact ⟨_, _, rfl, h0⟩

end Go.Proofs.Ytmmfjmgjkbplpaa

namespace Go.Proofs.Ytmmfjmgjkbplpaa
open Go.RowKit Go.Maps

theorem span_J {E : TypeId} {w : World} {lo : Nat} {A : Option Addr} {n c : Nat} {xs : List Int} (h : OwnI E w lo A n c xs) : ∀ a, A = some a → lo ≤ a.block ∧ a.block < w.heap.size := by
  intro a ha
  rcases h.form with ⟨h0, _⟩ | ⟨g, h1, h2, h3, _⟩
  · rw [h0] at ha; cases ha
  · rw [h1] at ha; injection ha with ha; subst ha; exact ⟨h2, h3⟩
theorem row_apart {w w' : World} {lo mb r : Nat} {v : Value} {l : List Int} (h : RowAt w lo mb v l) (hg : w.grownBy w' (some r)) (hr : r < lo) : RowAt w' lo mb v l := by
  obtain ⟨A, n, c, rfl, h1, h2, h3⟩ := h
  exact ⟨A, n, c, rfl, h1.other hg (fun y hy => by have := (h3 y hy).1; simp; omega), h2, fun y hy => ⟨(h3 y hy).1, Nat.lt_of_lt_of_le (h3 y hy).2.1 hg.size, (h3 y hy).2.2⟩⟩
theorem row_lower {w : World} {lo lo' mb : Nat} {v : Value} {l : List Int} (h : RowAt w lo mb v l) (hl : lo' ≤ lo) : RowAt w lo' mb v l := by
  obtain ⟨A, n, c, rfl, h1, h2, h3⟩ := h
  exact ⟨A, n, c, rfl, h1, h2, fun y hy => ⟨Nat.le_trans hl (h3 y hy).1, (h3 y hy).2⟩⟩
/-- append of one number onto a row of the call's own, and what it leaves as it was. -/
theorem wpList_app1g {P : Program} {w : World} {ops : Array Oper} {rest : List Oper} {o : Oper} {a : Act} {Q : Exit → Act → World → Prop} (hgd : o.guard = none) (s x : Operand) (T E : TypeId)
    (ho : o.op = .call { callee := .builtin .append, args := #[s, x], argTypes := #[T, T] }) (i0 : TypeInfo)
    (hT : P.underlying T = some (.slice E)) (hi : P.info? E = some i0) (hz0 : i0.zero = some (.int .i64 0)) (hz1 : i0.size = 1) (hz2 : i0.bytes = 8)
    (lo : Nat) (A : Option Addr) (n c : Nat) (xs : List Int) (q : Int) (hs : a.eval s = .slice A n c) (hown : OwnI E w lo A n c xs) (hx : a.eval x = .slice (some ⟨w.heap.size, 0, none⟩) 1 1)
    (hn : n ≤ 1000000) (hlo : lo ≤ w.heap.size)
    (h : ∀ A' c' w' row, OwnI E w' lo A' (n + 1) c' (xs ++ [q]) → w.grownBy w' row → (∀ k, row = some k → lo ≤ k) → wpList P ops Q rest (a.put o.dst (.slice A' (n + 1) c')) w') :
    wpList P ops Q (o :: rest) a (w.alloc (.cells #[.int .i64 q] E)) := by
  refine wpList_append_own (w.alloc (.cells #[.int .i64 q] E)) hgd s x T ho lo E i0 (.int .i64 0) 1 8 hT hi hz0 hz1 hz2 rfl (by decide) (.slice A n c) n (xs.map (Value.int .i64)) hs (World.ownsRow.alloc hown _)
    ⟨w.heap.size, 0, none⟩ 1 1 [.int .i64 q] hx rfl ?_ ?_ (by unfold maxLen; omega) (by omega) (by simp; omega) ?_
  · intro j u hj
    match j, hj with
    | 0, hj =>
      simp at hj; subst hj
      exact cell_of_row (w.alloc (.cells #[.int .i64 q] E)) w.heap.size 0 #[.int .i64 q] E (0, 0) (heap_alloc_new w _)
  · intro u hu; simp at hu; subst hu; rfl
  · intro v' w' hown' hgrow _
    have e : xs.map (Value.int .i64) ++ [.int .i64 q] = (xs ++ [q]).map (Value.int .i64) := by simp
    rw [e] at hown'
    obtain ⟨A', c', rfl, hO⟩ := own_form hown'
    exact h A' c' w' _ hO (grown_next (grown_of_below (below_new (Below.refl _ _) _) _) hgrow) (fun k hk => (World.ownsRow.lt hown k hk).1)

set_option maxRecDepth 100000 in
set_option maxHeartbeats 4000000 in
theorem nearerTo_any (lo0 mb : Nat) (cells : List Int) (adj : Int → List Int) (t : Nat) (w : World) (hm : OnMapK w lo0 mb cells adj) (ht : t < 144) (htc : (t : Int) ∈ cells) (hcl : ∀ x ∈ cells, 0 ≤ x ∧ x < 144) (hadj : ∀ x, ∀ y ∈ adj x, y ∈ cells) :
    Calls Try.prog 32 #[.map (some mb), .int .i64 (t : Int)] w fun e w' => ∃ nb, e = .returned (.map (some nb)) ∧ OnMapW w' w.heap.size nb cells (nearA adj (farL adj 144 (t : Int))) ∧ Below w.heap.size w w' := by
  have hmm := @run_makeMap Try.prog
  have hlen0 : (farL adj 144 (t : Int)).length = 144 := far_len (start := (t : Int)) (by omega) (fun c _ x hx => hcl x (hadj c x hx))
  have HDF := Lib.hid (fun w' (hm' : OnMap w' lo0 mb cells adj) => distancesFrom_any lo0 mb cells adj t w' hm' ht htc hcl hadj)
  obtain ⟨D, hD⟩ : ∃ D, D = farL adj 144 (t : Int) := ⟨_, rfl⟩
  rw [← hD] at hlen0 HDF ⊢
  have HM := Lib.hid hm; have HCL := Lib.hid hcl; have HADJ := Lib.hid hadj
  obtain ⟨i0, hi, hy0, hy1, hy2⟩ := info_parts infoI
  have HI := Lib.hid hi; have HZ0 := Lib.hid hy0; have HZ1 := Lib.hid hy1; have HZ2 := Lib.hid hy2
  clear hm htc hcl hadj hD hi hy0 hy1 hy2
  go_enter Try.func32, Try.ntmps32
  go_wp2_with fail
  refine (HDF.out _ HM.out.on).mono ?_
  rintro e wv ⟨rfl, hb⟩
  have HDC := Lib.hid (cell_laid wv D 64)
  have HBX := Lib.hid (show Below w.heap.size w (wv.alloc (.cells (D.map (Value.int .i64)).toArray 64)) from hb.alloc hb.size _)
  have HMX := Lib.hid (HM.out.keep HBX.out)
  have hbs := hb.size
  clear hb HDF HM
  go_upto_region 2 with (refine wpList_store64 D hlen0 rfl _ _ rfl rfl rfl rfl _ _ rfl ?_)
  obtain ⟨wd, hwd⟩ : ∃ wd, wd = wv.heap.size := ⟨_, rfl⟩
  obtain ⟨W6, hW6⟩ : ∃ W6, W6 = wv.alloc (.cells (D.map (Value.int .i64)).toArray 64) := ⟨_, rfl⟩
  have hs6 : W6.heap.size = wd + 1 := by rw [hW6, hwd]; simp
  rw [← hW6] at HBX HMX HDC ⊢
  rw [← hwd] at HDC ⊢
  have HFAR := Lib.hid (show ∀ j, j < 144 → W6.cell? ⟨wd, j, none⟩ = some (.int .i64 (fv D (j : Int))) from fun j hj => by
    have h := HDC.out j (by omega)
    rw [Nat.zero_add] at h
    rw [h, fv, Int.toNat_natCast, getD_lt (by omega) (-1) 0])
  have HFL := Lib.hid (show wd < W6.heap.size by omega)
  obtain ⟨_, n, f, hn144, hmk, hrows⟩ := HMX.out
  have HROWS := Lib.hid hrows
  have hmlt := hmk.lt
  have HKA := Lib.hid (show MapK Try.prog 3 (W6.alloc (.map #[] 0)) mb n (.slice none 0 0) f (fun x => decide (x ∈ cells)) from hmk.keep (below_new (Below.refl _ _) _))
  have HLOW := Lib.hid (show w.heap.size ≤ W6.heap.size by omega)
  clear hW6 hwd hrows hmk HMX HDC hs6 hbs
  go_wp2_with (at_range; refine wpList_rangeI rfl (.tmp 15) rfl Try.underlying3 Try.underlying50 rfl HKA.out ?_; intro w0 cnt0 hr0 hf0 hg0 hs0)
  obtain ⟨nb, hnb⟩ : ∃ nb, nb = W6.heap.size := ⟨_, rfl⟩
  obtain ⟨rr, hrr⟩ : ∃ rr, rr = nb + 1 := ⟨_, rfl⟩
  obtain ⟨lo2, hlo2⟩ : ∃ lo2, lo2 = rr + 1 := ⟨_, rfl⟩
  have HR0 := Lib.hid (show RangesI Try.prog 3 w0 mb rr n (.slice none 0 0) f (fun x => decide (x ∈ cells)) cnt0 by rw [hrr, hnb]; have h := hr0; rw [World.size_alloc] at h; exact h)
  have HA0 := Lib.hid (show MapI Try.prog 3 w0 nb 0 (.slice none 0 0) (fun _ => .slice none 0 0) by rw [hnb]; exact (MapI.made _ _ _ _).other hg0 (by simp))
  have HB0 := Lib.hid (show Below W6.heap.size W6 w0 from ((Below.refl _ _).alloc (Nat.le_refl _) _).grown hg0 (by simp) (fun g h => by cases h))
  have HNB := Lib.hid (show W6.heap.size ≤ nb ∧ nb < rr ∧ lo2 = rr + 1 from ⟨by omega, by omega, hlo2⟩)
  have HNE := Lib.hid (show mb ≠ nb ∧ rr ≠ nb from ⟨by omega, by omega⟩)
  have hsz9 : W6.heap.size = nb := hnb.symm
  have hrr2 : (W6.alloc (.map #[] 0)).heap.size = rr := by rw [World.size_alloc]; omega
  rw [hrr2]
  (try rw [hsz9])
  clear hr0 hf0 hg0 hs0 HKA hnb hrr hlo2 hsz9 hrr2 hmlt
  go_frame
  go_loopw [7, 8] (fun _ _ w5 => ∃ (cnt : Nat) (left : Int → Bool) (vis : List Int) (m : Nat) (g : Int → Value), RangesI Try.prog 3 w5 mb rr n (.slice none 0 0) f left cnt ∧ (∀ x, left x = true → x ∈ cells) ∧ (∀ x ∈ cells, left x = false → x ∈ vis) ∧ vis.Nodup ∧ (∀ x ∈ vis, x ∈ cells ∧ left x = false) ∧ MapI Try.prog 3 w5 nb m (.slice none 0 0) g ∧ m ≤ 64 * vis.length ∧ (∀ x ∈ vis, RowAt w5 lo2 nb (g x) (nearA adj D x)) ∧ (∀ x, x ∉ vis → g x = .slice none 0 0) ∧ Below W6.heap.size W6 w5) (fun _ _ w5 => w5.rangeLeft mb rr)
  case atStart => exact ⟨cnt0, _, [], 0, _, HR0.out, fun x h => by simpa using h, fun x h h2 => by simp at h2; exact absurd h h2, List.nodup_nil, fun x h => absurd h (by simp), HA0.out, Nat.zero_le _, fun x h => absurd h (by simp), fun _ _ => rfl, HB0.out⟩
  case round =>
    clear HR0 HA0 HB0
    obtain ⟨cnt, left, vis, m, g, hr5, hlk, hlv, hvn, hvi, hmb, hm5, hvr, hgn, hb5⟩ := hrel
    have HR5 := Lib.hid hr5; have HLK := Lib.hid hlk; have HLV := Lib.hid hlv; have HVN := Lib.hid hvn; have HVI := Lib.hid hvi; have HMB5 := Lib.hid hmb; have HM5 := Lib.hid hm5; have HVR5 := Lib.hid hvr; have HGN := Lib.hid hgn; have HB5 := Lib.hid hb5
    have HV5 := Lib.hid (show vis.length ≤ 144 from nodup_len hvn (fun z hz => HCL.out z (HVI.out z hz).1))
    clear hr5 hlk hlv hvn hvi hmb hm5 hvr hgn hb5
    go_wp2_with (at_next; refine wpList_nextI rfl (.tmp 16) rfl Try.underlying3 rfl HR5.out ?_ ?_)
    · intro hdone
      have HD := Lib.hid hdone
      clear hdone
      go_wp2
      go_ret
      exact ⟨nb, rfl, ⟨by have := HLOW.out; have := HNB.out; omega, m, g, by have := HM5.out; have := HV5.out; omega, HMB5.out, fun x hx => row_lower (HVR5.out x (HLV.out x hx (HD.out x))) (by have := HLOW.out; have := HNB.out; omega)⟩, HBX.out.trans (HB5.out.mono HLOW.out)⟩
    · intro x w6 cnt6 hwx hlx hr6 hlt hg6 hs6 hen
      have HXC := Lib.hid (HLK.out x hlx)
      have HLX := Lib.hid hlx; have HR6 := Lib.hid hr6; have HLT6 := Lib.hid hlt; have HWF := Lib.hid hwx
      have HB6 := Lib.hid (HB5.out.grown hg6 HB5.out.size (fun k h => by injection h with h; have := HNB.out; omega))
      have HMB6 := Lib.hid (HMB5.out.other hg6 (by have := HNE.out.2; simp; omega))
      have HVR := Lib.hid (show ∀ z ∈ vis, RowAt w6 lo2 nb (g z) (nearA adj D z) from fun z hz => row_apart (HVR5.out z hz) hg6 (by have := HNB.out; omega))
      have hxr := HCL.out x HXC.out
      obtain ⟨A3, n3, c3, hfx, hrd0, hn3, hoff⟩ := HROWS.out x HXC.out
      have hrd := hrd0.keep HB6.out
      rw [hfx] at hen
      obtain ⟨xn, rfl⟩ : ∃ xn : Nat, x = (xn : Int) := ⟨x.toNat, by omega⟩
      have hxn : xn < 144 := by omega
      have HRD := Lib.hid hrd; have HN3 := Lib.hid hn3
      have HAB := Lib.hid (show ∀ a, A3 = some a → some a.block ≠ some nb from fun a ha e => by injection e with e; have := (hoff a ha).2.1; have := HNB.out; omega)
      have HXV := Lib.hid (show (xn : Int) ∉ vis from fun h => by have h9 := (HVI.out _ h).2; rw [HLX.out] at h9; exact absurd h9 (by simp))
      have HGX := Lib.hid (show (fun y : Int => if y = (xn : Int) then Value.slice none 0 0 else g y) = g by
        funext y
        by_cases e : y = (xn : Int)
        · rw [if_pos e, e]; exact (HGN.out _ HXV.out).symm
        · rw [if_neg e])
      obtain ⟨top, htop⟩ : ∃ top, top = w6.heap.size := ⟨_, rfl⟩
      have HTL := Lib.hid (show lo2 ≤ top by have := HR6.out.lt; have := HNB.out; omega)
      have HTOP := Lib.hid htop
      have x00 : (0 : Int) ≤ (xn : Int) := by omega
      have x144 : (xn : Int) < 144 := by omega
      clear hlx hr6 hlt hg6 hs6 hrd hrd0 hfx hoff hxr hwx HMB5 HB5 HVR5 htop
      go_wp2
      go_loopw [24] (fun i w7 => ∃ (j n' c' m' : Nat) (A' : Option Addr), j ≤ n3 ∧ i = .int .i64 j ∧ m' ≤ m + j ∧ n' ≤ j ∧ MapI Try.prog 3 w7 nb m' (.slice none 0 0) (fun y => if y = (xn : Int) then .slice A' n' c' else g y) ∧ OwnI 3 w7 top A' n' c' (((adj (xn : Int)).take j).filter fun y => decide (fv D y < fv D (xn : Int))) ∧ w6.grownBy w7 (some nb)) (fun i _ => n3 - (intOf i).toNat)
      case atStart => exact ⟨0, 0, 0, m, none, Nat.zero_le _, rfl, by omega, Nat.le_refl _, by rw [HGX.out]; exact HMB6.out, by rw [List.take_zero]; exact OwnI.none_ _ _ _, grown_refl _ _⟩
      case round =>
        obtain ⟨j, n', c', m', A', hj, rfl, hm', hn', hma, hoa, hg7⟩ := hrel
        have HMA := Lib.hid hma; have HOA := Lib.hid hoa; have HG7 := Lib.hid hg7
        have hsz7 := hg7.size
        have HB7 := Lib.hid (HB6.out.grown hg7 HB6.out.size (fun k h => by injection h with h; have := HNB.out; omega))
        have HMAD := Lib.hid (fun n => HMA.out.other (grown_drewN (grown_refl _ none) n) (by simp))
        have HOAD := Lib.hid (fun n => HOA.out.other (grown_drewN (grown_refl _ none) n) (fun a _ e => by cases e))
        have HG7D := Lib.hid (fun n => grown_drewN hg7 n)
        clear hma hoa
        by_cases hjl : j < n3
        · obtain ⟨b3, o3, y, he3, hg3, hy, y0⟩ := (HRD.out.other hg7 HAB.out).at_ hjl
          have HY := Lib.hid hy
          have hyr := HCL.out y (HADJ.out (xn : Int) y (List.mem_of_getElem? hy))
          obtain ⟨yn, rfl⟩ : ∃ yn : Nat, y = (yn : Int) := ⟨y.toNat, by omega⟩
          have hyn : yn < 144 := by omega
          have hlk2 : ∀ q, (Instr.lookup 50 (.map (some nb)) (.int .i64 (xn : Int)) false).run Try.prog (wr.drewN q) = .ok (.slice A' n' c') (wr.drewN q) := fun q => by
            have h := (HMAD.out q).lookup (t := 50) (e := 22) Try.underlying3 Try.underlying50 (zero_ints (wr.drewN q)) (x := (xn : Int)) HWF.out
            rw [if_pos rfl] at h; exact h
          have cx := cell_keep (HFAR.out xn hxn) HFL.out HB7.out
          have cy := cell_keep (HFAR.out yn hyn) HFL.out HB7.out
          have y00 : (0 : Int) ≤ (yn : Int) := by omega
          have y144 : (yn : Int) < 144 := by omega
          obtain ⟨dx, hdx⟩ : ∃ dx, dx = fv D (xn : Int) := ⟨_, rfl⟩
          obtain ⟨dy, hdy⟩ : ∃ dy, dy = fv D (yn : Int) := ⟨_, rfl⟩
          rw [← hdx] at cx
          rw [← hdy] at cy
          have HDX := Lib.hid hdx; have HDY := Lib.hid hdy
          subst he3
          have j0 : (0 : Int) ≤ (j : Int) := by omega
          have jn : (j : Int) < (n3 : Int) := by omega
          have hn9 : n' ≤ 1000000 := by omega
          have hm99 : m' < 1000000 := by have := HM5.out; have := HV5.out; omega
          have HTP := Lib.hid (show ∀ q, top ≤ (wr.drewN q).heap.size from fun q => by have := HTOP.out; have := (HG7D.out q).size; omega)
          clear hy hyr hg7 hdx hdy
          by_cases hlt : dy < dx
          · have HLT := Lib.hid (show decide (fv D (yn : Int) < fv D (xn : Int)) = true by rw [← HDX.out, ← HDY.out]; exact decide_eq_true hlt)
            go_wp2
            go_quiet (fail)
            go_wp2_with (first | (at_builtin; refine wpList_app1g rfl (.tmp 39) (.tmp 41) 22 3 rfl i0 Try.underlying22 HI.out HZ0.out HZ1.out HZ2.out top A' n' c' _ (yn : Int) rfl (HOAD.out _) rfl hn9 (HTP.out _) ?_; intro A2 c2 w8 row8 hown2 hg8 hr8; have HM8 := Lib.hid ((HMAD.out _).other hg8 (fun e => by have := hr8 nb e.symm; have := HNB.out; have := HTL.out; omega))) | (at_mapUpdate; refine wpList_update rfl (.tmp 35) (.tmp 36) (.tmp 42) rfl Try.underlying3 Try.underlying50 rfl HM8.out hm99 (xn : Int) (.slice A2 (n' + 1) c2) rfl rfl HWF.out ?_; intro w9 hm9 hg9))
            have HM9 := Lib.hid hm9; have HG9 := Lib.hid hg9; have HO8 := Lib.hid hown2; have HG8 := Lib.hid hg8; have HR8 := Lib.hid hr8
            clear hm9 hg9 hown2 hg8 hr8 hlk2 HM8
            go_wp2
            go_roundw
            case rel =>
              refine ⟨j + 1, n' + 1, c2, m' + 1, A2, by omega, by go_num, by omega, by omega, ?_, ?_, ?_⟩
              · have e : (fun y9 : Int => if y9 = (xn : Int) then Value.slice A2 (n' + 1) c2 else g y9) = fun y9 => if y9 = (xn : Int) then Value.slice A2 (n' + 1) c2 else if y9 = (xn : Int) then .slice A' n' c' else g y9 := by
                  funext y9
                  by_cases e : y9 = (xn : Int)
                  · rw [if_pos e, if_pos e]
                  · rw [if_neg e, if_neg e, if_neg e]
                rw [e]; exact HM9.out
              · rw [List.take_add_one, HY.out, List.filter_append]
                simp only [Option.toList, List.filter_cons, HLT.out, if_true, List.filter_nil]
                exact HO8.out.other HG9.out (fun a ha e => by have := (span_J HO8.out a ha).1; have := HNB.out; have := HTL.out; injection e with e; omega)
              · exact grown_next ((HG7D.out _).andThen HG8.out (fun k hk => .inl (by have := HR8.out k hk; have := HTOP.out; omega))) HG9.out
            case measure => simp [intOf]; omega
          · have HLT := Lib.hid (show decide (fv D (yn : Int) < fv D (xn : Int)) = false by rw [← HDX.out, ← HDY.out]; exact decide_eq_false hlt)
            go_wp2
            go_quiet (fail)
            go_wp2
            go_roundw
            case rel =>
              refine ⟨j + 1, n', c', m', A', by omega, by go_num, by omega, by omega, HMAD.out _, ?_, HG7D.out _⟩
              rw [List.take_add_one, HY.out, List.filter_append]
              simp only [Option.toList, List.filter_cons, HLT.out, List.filter_nil, Bool.false_eq_true, if_false, List.append_nil]
              exact HOAD.out _
            case measure => simp [intOf]; omega
        · have HJ := Lib.hid (show j = n3 by omega)
          have jn : ¬ (j : Int) < (n3 : Int) := by omega
          have HRG := Lib.hid (HR6.out.kept hg7 (by have := HNE.out.1; simp; omega) (by have := HNE.out.2; simp; omega))
          have HROW := Lib.hid (show ∀ z ∈ (xn : Int) :: vis, RowAt wr lo2 nb (if z = (xn : Int) then .slice A' n' c' else g z) (nearA adj D z) from fun z hz => by
            by_cases e : z = (xn : Int)
            · subst e
              rw [if_pos rfl]
              refine ⟨A', n', c', rfl, ?_, by have := HN3.out; omega, fun y hy => ?_⟩
              · have h := HOA.out.rd
                rw [HJ.out, List.take_of_length_le (by have := HRD.out.1; omega)] at h
                exact h
              · have h := span_J HOA.out y hy
                have := HNB.out; have := HTL.out
                exact ⟨by omega, h.2, by omega⟩
            · rw [if_neg e]
              exact (HVR.out z (by rcases List.mem_cons.1 hz with h | h; exact absurd h e; exact h)).other hg7)
          clear hg7
          go_wp2
          go_roundw
          case rel =>
            refine ⟨cnt6, fun y => left y && !(y == (xn : Int)), (xn : Int) :: vis, m', _, HRG.out, fun z hz => ?_, fun z hz hl => ?_, ?_, fun z hz => ?_, HMA.out, ?_, HROW.out, fun z hz => ?_, HB7.out⟩
            · rw [Bool.and_eq_true] at hz; exact HLK.out z hz.1
            · rw [Bool.and_eq_false_iff] at hl
              rcases hl with hl | hl
              · exact List.mem_cons_of_mem _ (HLV.out z hz hl)
              · simp at hl; rw [hl]; exact List.mem_cons_self
            · rw [List.nodup_cons]; exact ⟨HXV.out, HVN.out⟩
            · rcases List.mem_cons.1 hz with rfl | hz
              · exact ⟨HXC.out, by simp⟩
              · exact ⟨(HVI.out z hz).1, by show (left z && !(z == (xn : Int))) = false; rw [(HVI.out z hz).2]; rfl⟩
            · have := HM5.out; have := HN3.out; have := HJ.out; rw [List.length_cons]; omega
            · rw [List.mem_cons, not_or] at hz
              show (if z = (xn : Int) then _ else g z) = _
              rw [if_neg hz.1]; exact HGN.out z hz.2
          case measure => rw [HRG.out.left_eq, HR5.out.left_eq]; have := HLT6.out; omega

end Go.Proofs.Ytmmfjmgjkbplpaa

namespace Go.Proofs.Ytmmfjmgjkbplpaa
open Go.RowKit Go.Maps

set_option maxRecDepth 100000 in
set_option maxHeartbeats 2000000 in
theorem firstRoute_some (lo0 mb : Nat) (cells : List Int) (adj : Int → List Int) (s t : Nat) (w : World) (hm : OnMapK w lo0 mb cells adj) (g : Gr cells adj 144) (hs : (s : Int) ∈ cells) (ht : (t : Int) ∈ cells) (hf : 0 ≤ fv (farL adj 144 (t : Int)) (s : Int)) :
    Calls Try.prog 30 #[.map (some mb), .int .i64 (s : Int), .int .i64 (t : Int)] w fun e w' => ∃ a n' c', e = .returned (.slice (some a) n' c') ∧ OwnI 3 w' w.heap.size (some a) n' c' (rtL adj (farL adj 144 (t : Int)) (s : Int) (fv (farL adj 144 (t : Int)) (s : Int)).toNat) ∧ Below w.heap.size w w' := by
  have hbd : ∀ x ∈ cells, 0 ≤ x ∧ x < 144 := fun x hx => by have := g.bd x hx; omega
  have htr := hbd _ ht
  have HNT := Lib.hid (fun w' (h : OnMapK w' lo0 mb cells adj) => nearerTo_any lo0 mb cells adj t w' h (by omega) ht hbd g.cl)
  have HBD := Lib.hid hbd; have HM := Lib.hid hm
  have HT0 := Lib.hid (g.zero ht)
  obtain ⟨i0, hi, hy0, hy1, hy2⟩ := info_parts infoI
  have HI := Lib.hid hi; have HZ0 := Lib.hid hy0; have HZ1 := Lib.hid hy1; have HZ2 := Lib.hid hy2
  clear hi hy0 hy1 hy2
  obtain ⟨L, hL⟩ : ∃ L : Nat, fv (farL adj 144 (t : Int)) (s : Int) = (L : Int) := ⟨_, (Int.toNat_of_nonneg hf).symm⟩
  have HAT := Lib.hid (fun (k : Nat) (hk : k ≤ L) => g.at_ hs ht k (by omega))
  have HRW := Lib.hid (fun (k : Nat) (hk : k < L) => g.at_row hs ht (k := k) (by omega))
  have HZO := Lib.hid (fun c hc h0 => g.zero_only ht (c := c) hc h0)
  have hL144 : L ≤ 144 := by have := (g.lo ht (s : Int)).2; omega
  obtain ⟨D, hD⟩ : ∃ D, D = farL adj 144 (t : Int) := ⟨_, rfl⟩
  rw [← hD] at HNT HT0 HAT HRW HZO hL ⊢
  have HLE := Lib.hid hL
  clear g hm hs ht hf hbd htr hD hL
  go_enter Try.func30, Try.ntmps30
  go_wp2_with fail
  refine (HNT.out _ HM.out).mono ?_
  rintro e wz ⟨nb, rfl, hnm, hb⟩
  have HB := Lib.hid hb; have HNM := Lib.hid hnm
  have hbs := hb.size
  clear hb hnm HNT HM
  go_wp2
  have hr0 : OwnI 3 (wz.alloc (.cells #[.int .i64 (s : Int)] 3)) wz.heap.size (some ⟨wz.heap.size, 0, none⟩) 1 1 [(s : Int)] :=
    World.ownsRow_lit (base := wz.heap.size) (e := 3) wz (#[.int .i64 (s : Int)] : Array Value) 1 (size := 1) (Nat.le_refl _) (by decide) rfl
  have hb0 : Below wz.heap.size wz (wz.alloc (.cells #[.int .i64 (s : Int)] 3)) := below_new (Below.refl _ _) _
  have HR0 := Lib.hid hr0; have HB0 := Lib.hid hb0
  clear hr0 hb0
  generalize wz.alloc (.cells #[.int .i64 (s : Int)] 3) = W4 at *
  go_loopw [8, 9] (fun v cc wr => ∃ (k n' c' : Nat) (a : Addr), k ≤ L ∧ v = .slice (some a) n' c' ∧ cc = .int .i64 (atR adj D (s : Int) k) ∧ OwnI 3 wr wz.heap.size (some a) n' c' (rtL adj D (s : Int) k) ∧ Below wz.heap.size wz wr) (fun _ cc _ => (fv D (intOf cc)).toNat)
  case atStart => exact ⟨0, 1, 1, _, Nat.zero_le _, rfl, rfl, HR0.out, HB0.out⟩
  case round =>
    clear HR0 HB0
    obtain ⟨k, n', c', a, hk, rfl, rfl, hown, hbw⟩ := hrel
    have HO := Lib.hid hown; have HBW := Lib.hid hbw
    have HNK := Lib.hid (show n' = k + 1 by have := hown.len; rw [rtL_len] at this; omega)
    obtain ⟨hac, hfx⟩ := HAT.out k hk
    rw [HLE.out] at hfx
    have hxr := HBD.out _ hac
    obtain ⟨x, hx⟩ : ∃ x, x = atR adj D (s : Int) k := ⟨_, rfl⟩
    rw [← hx] at hac hfx hxr ⊢
    have HX := Lib.hid hx; have HFX := Lib.hid hfx
    by_cases hkl : k < L
    · obtain ⟨r, hrow⟩ := HRW.out k hkl
      have hnext := HAT.out (k + 1) (by omega)
      rw [HLE.out] at hnext
      obtain ⟨y, hy⟩ : ∃ y, y = atR adj D (s : Int) (k + 1) := ⟨_, rfl⟩
      rw [← hy, ← hx] at hrow
      rw [← hy] at hnext
      have HY := Lib.hid hy; have HNX := Lib.hid hnext
      obtain ⟨A3, n3, c3, hlk, hrd, hn3⟩ := (HNM.out.keep hbw).lookup hac (by omega)
      rw [hrow] at hrd
      have hn1 : 0 < n3 := by have := hrd.1; rw [List.length_cons] at this; omega
      obtain ⟨b3, o3, z, he3, hg3, hz, z0⟩ := hrd.at_ hn1
      have hzy : y = z := by simpa using hz
      subst hzy
      subst he3
      have hne : x ≠ (t : Int) := fun e => by have h9 := HT0.out; rw [← e] at h9; omega
      have hne1 : (x == (t : Int)) = false := by simpa using hne
      have hne2 : (x != (t : Int)) = true := by simp [bne, hne1]
      have hn0 : ((n3 : Int) == 0) = false := by simp; omega
      have n30 : (0 : Int) < (n3 : Int) := by omega
      have hn9 : n' ≤ 1000000 := by have := HNK.out; omega
      have HSZ := Lib.hid hbw.size
      have HBK := Lib.hid hk
      clear hown hbw hx hy hfx hrow hnext hac hxr hrd hz hne
      rw [Nat.add_zero] at z0
      go_wp2_with (at_builtin; refine wpList_app1 rfl (.tmp 29) (.tmp 31) 22 3 rfl i0 Try.underlying22 HI.out HZ0.out HZ1.out HZ2.out wz.heap.size (some a) n' c' _ y rfl HO.out rfl hn9 HSZ.out ?_; intro A2 c2 w2 hown2 hb2)
      obtain ⟨g9, rfl, _, _⟩ := hown2.some_ (k := 0) (by omega)
      have HO2 := Lib.hid hown2; have HB2 := Lib.hid (HBW.out.trans hb2)
      clear hown2 hb2
      go_wp2
      go_roundw
      case rel => exact ⟨k + 1, n' + 1, c2, _, by omega, rfl, by rw [← HY.out], by rw [rtL_next, ← HY.out]; exact HO2.out, HB2.out⟩
      case measure => simp only [intOf]; have := HFX.out; have := HNX.out.2; omega
    · have hkL : k = L := by omega
      have hxt : x = (t : Int) := by have h9 := HZO.out x hac (by omega); exact h9
      have hne1 : (x == (t : Int)) = true := by simpa using hxt
      have hne2 : (x != (t : Int)) = false := by simp [bne, hne1]
      have HKL := Lib.hid hkL
      clear hown hbw hx hfx hac hxr hxt hkL
      go_wp2
      go_ret
      exact ⟨a, n', c', rfl, by rw [HLE.out, Int.toNat_natCast, ← HKL.out]; exact HO.out.lower hbs, HB.out.trans (HBW.out.mono hbs)⟩

set_option maxRecDepth 100000 in
set_option maxHeartbeats 2000000 in
theorem firstRoute_none (lo0 mb : Nat) (cells : List Int) (adj : Int → List Int) (s t : Nat) (w : World) (hm : OnMapK w lo0 mb cells adj) (g : Gr cells adj 144) (hs : (s : Int) ∈ cells) (ht : (t : Int) ∈ cells) (hf : ¬ 0 ≤ fv (farL adj 144 (t : Int)) (s : Int)) :
    Calls Try.prog 30 #[.map (some mb), .int .i64 (s : Int), .int .i64 (t : Int)] w fun e w' => e = .returned (.slice none 0 0) ∧ Below w.heap.size w w' := by
  have hbd : ∀ x ∈ cells, 0 ≤ x ∧ x < 144 := fun x hx => by have := g.bd x hx; omega
  have htr := hbd _ ht
  have HNT := Lib.hid (fun w' (h : OnMapK w' lo0 mb cells adj) => nearerTo_any lo0 mb cells adj t w' h (by omega) ht hbd g.cl)
  have HBD := Lib.hid hbd; have HM := Lib.hid hm
  have HT0 := Lib.hid (g.zero ht)
  obtain ⟨i0, hi, hy0, hy1, hy2⟩ := info_parts infoI
  have HI := Lib.hid hi; have HZ0 := Lib.hid hy0; have HZ1 := Lib.hid hy1; have HZ2 := Lib.hid hy2
  clear hi hy0 hy1 hy2
  have hrow := g.near_none ht hf
  have hne : (s : Int) ≠ (t : Int) := fun e => hf (by rw [e, g.zero ht]; omega)
  have hsr := hbd _ hs
  have HS := Lib.hid hs
  obtain ⟨D, hD⟩ : ∃ D, D = farL adj 144 (t : Int) := ⟨_, rfl⟩
  rw [← hD] at HNT HT0 hrow
  have HRW := Lib.hid hrow
  have hne1 : ((s : Int) == (t : Int)) = false := by simpa using hne
  have hne2 : ((s : Int) != (t : Int)) = true := by simp [bne, hne1]
  clear g hm hs ht hf hbd htr hD hrow hne
  go_enter Try.func30, Try.ntmps30
  go_wp2_with fail
  refine (HNT.out _ HM.out).mono ?_
  rintro e wz ⟨nb, rfl, hnm, hb⟩
  have HB := Lib.hid hb; have HNM := Lib.hid hnm
  have hbs := hb.size
  clear hb hnm HNT HM
  go_wp2
  have hr0 : OwnI 3 (wz.alloc (.cells #[.int .i64 (s : Int)] 3)) wz.heap.size (some ⟨wz.heap.size, 0, none⟩) 1 1 [(s : Int)] :=
    World.ownsRow_lit (base := wz.heap.size) (e := 3) wz (#[.int .i64 (s : Int)] : Array Value) 1 (size := 1) (Nat.le_refl _) (by decide) rfl
  have hb0 : Below wz.heap.size wz (wz.alloc (.cells #[.int .i64 (s : Int)] 3)) := below_new (Below.refl _ _) _
  have HR0 := Lib.hid hr0; have HB0 := Lib.hid hb0
  clear hr0 hb0
  generalize wz.alloc (.cells #[.int .i64 (s : Int)] 3) = W4 at *
  go_loopw [8, 9] (fun v cc wr => ∃ (n' c' : Nat) (a : Addr), v = .slice (some a) n' c' ∧ cc = .int .i64 (s : Int) ∧ Below wz.heap.size wz wr) (fun _ _ _ => 0)
  case atStart => exact ⟨1, 1, _, rfl, rfl, HB0.out⟩
  case round =>
    clear HR0 HB0
    obtain ⟨n', c', a, rfl, rfl, hbw⟩ := hrel
    have HBW := Lib.hid hbw
    obtain ⟨A3, n3, c3, hlk, hrd, hn3⟩ := (HNM.out.keep hbw).lookup HS.out (by omega)
    rw [HRW.out] at hrd
    have hn1 : n3 = 0 := by have := hrd.1; simpa using this.symm
    subst hn1
    clear hbw hrd
    go_wp2
    go_ret
    exact ⟨rfl, HB.out.trans (HBW.out.mono hbs)⟩

end Go.Proofs.Ytmmfjmgjkbplpaa
