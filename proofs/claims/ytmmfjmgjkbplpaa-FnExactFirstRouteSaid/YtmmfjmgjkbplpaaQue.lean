/-
  Memory words: a queue of ints: a slice that is cut at its head and appended to.
-/
import Derived.Test.YtmmfjmgjkbplpaaApp
import Derived.Test.YtmmfjmgjkbplpaaMem2
import Derived.Deep.RegionLaw
import Derived.Deep.RegionLawGrows
namespace Go.Proofs.Ytmmfjmgjkbplpaa
open Go.RowKit

section
variable {E : TypeId} {w w' : World} {lo g k0 n c : Nat} {xs : List Int}
theorem ownI_block {N C : Nat} {ys : List Int} (h : OwnI E w lo (some ⟨g, 0, none⟩) N C ys) : ∃ cur, w.heap[g]? = some (.cells cur E (0, 0)) ∧ lo ≤ g ∧ N ≤ C ∧ C ≤ maxLen ∧ cur.size = C ∧ cur.toList.take N = ys.map (Value.int .i64) := by
  rcases h.2 with ⟨hv, _⟩ | ⟨g', cap, cur, hv, hb, hg, hnc, hm, hcs, ht⟩
  · injection hv with h1; cases h1
  · injection hv with h1 h2 h3
    injection h1 with h1
    injection h1 with h1
    subst h1 h3
    exact ⟨cur, hg, hb, hnc, hm, by simpa using hcs, by simpa using ht⟩
theorem OwnI.cut {N C M : Nat} {ys : List Int} (h : OwnI E w lo (some ⟨g, 0, none⟩) N C ys) (hM : M ≤ N) : OwnI E w lo (some ⟨g, 0, none⟩) M C (ys.take M) := by
  obtain ⟨cur, hg, hb, hnc, hm, hcs, ht⟩ := ownI_block h
  have hl := h.len
  refine ⟨by simp; omega, .inr ⟨g, C, cur, rfl, hb, hg, by omega, hm, by simpa using hcs, ?_⟩⟩
  rw [Nat.mul_one, List.map_take, ← ht, List.take_take, Nat.min_eq_left hM]
theorem OwnI.extend {N C : Nat} {ys : List Int} (h : OwnI E w lo (some ⟨g, 0, none⟩) N C ys) (hN : N < C) (q : Int) :
    OwnI E (w.setCell ⟨g, N, none⟩ (.int .i64 q)) lo (some ⟨g, 0, none⟩) (N + 1) C (ys ++ [q]) ∧ w.grownBy (w.setCell ⟨g, N, none⟩ (.int .i64 q)) (some g) := by
  obtain ⟨cur, hg, hb, hnc, hm, hcs, ht⟩ := ownI_block h
  have hl := h.len
  refine ⟨⟨by simp [hl], .inr ⟨g, C, _, rfl, hb, heap_setCell_same w g N cur E (.int .i64 q) hg, by omega, hm, by simpa using hcs, ?_⟩⟩, (World.ownsRow.stored h N (.int .i64 q)).2⟩
  rw [Nat.mul_one, List.map_append, ← ht]
  simp only [Array.toList_setIfInBounds]
  apply List.ext_getElem?
  intro j
  rw [List.getElem?_take]
  by_cases h1 : j < N
  · rw [if_pos (by omega), List.getElem?_set_ne (by omega), List.getElem?_append_left (by rw [List.length_take, Array.length_toList]; omega), List.getElem?_take, if_pos h1]
  · by_cases h2 : j = N
    · subst h2
      rw [if_pos (by omega), List.getElem?_set_self (by rw [Array.length_toList]; omega), List.getElem?_append_right (by rw [List.length_take]; omega)]
      simp [hcs, Nat.min_eq_left (Nat.le_of_lt hN)]
    · rw [if_neg (by omega), List.getElem?_eq_none (by simp [hcs]; omega)]

/-- The slice '.slice (some ⟨g, k0⟩) n c' is a queue that reads as xs. -/
def QAt (E : TypeId) (w : World) (lo g k0 n c : Nat) (xs : List Int) : Prop :=
  ∃ (C : Nat) (done : List Int), done.length = k0 ∧ OwnI E w lo (some ⟨g, 0, none⟩) (k0 + n) C (done ++ xs) ∧ k0 + c ≤ C ∧ n ≤ c
theorem QAt.len (h : QAt E w lo g k0 n c xs) : xs.length = n := by
  obtain ⟨C, done, h1, h2, _⟩ := h
  have := h2.len; rw [List.length_append] at this; omega
theorem QAt.le (h : QAt E w lo g k0 n c xs) : n ≤ c ∧ c ≤ 9223372036854775807 := by
  obtain ⟨C, done, h1, h2, h3, h4⟩ := h
  obtain ⟨_, _, _, _, h5, _⟩ := ownI_block h2
  unfold maxLen at h5; exact ⟨h4, by omega⟩
theorem QAt.lt (h : QAt E w lo g k0 n c xs) : lo ≤ g ∧ g < w.heap.size := by
  obtain ⟨C, done, h1, h2, _⟩ := h
  obtain ⟨cur, hg, hb, _⟩ := ownI_block h2
  exact ⟨hb, (Array.getElem?_eq_some_iff.1 hg).1⟩
theorem QAt.cell (h : QAt E w lo g k0 n c xs) {j : Nat} {x : Int} (hx : xs[j]? = some x) : w.cell? ⟨g, k0 + j, none⟩ = some (.int .i64 x) := by
  obtain ⟨C, done, h1, h2, _⟩ := h
  exact h2.cell (by rw [List.getElem?_append_right (by omega), h1, show k0 + j - k0 = j by omega, hx])
theorem QAt.other {row : Option Nat} (h : QAt E w lo g k0 n c xs) (hg : w.grownBy w' row) (hne : some g ≠ row) : QAt E w' lo g k0 n c xs := by
  obtain ⟨C, done, h1, h2, h3, h4⟩ := h
  exact ⟨C, done, h1, h2.other hg (fun a ha => by injection ha with ha; rw [← ha]; exact hne), h3, h4⟩
theorem QAt.keep (h : QAt E w lo g k0 n c xs) (hb : Below w.heap.size w w') : QAt E w' lo g k0 n c xs := by
  obtain ⟨C, done, h1, h2, h3, h4⟩ := h
  exact ⟨C, done, h1, h2.keep hb, h3, h4⟩
theorem QAt.start {C : Nat} (h : OwnI E w lo (some ⟨g, 0, none⟩) n C xs) : QAt E w lo g 0 n C xs :=
  ⟨C, [], rfl, by simpa using h, by omega, by obtain ⟨_, _, _, h5, _⟩ := ownI_block h; exact h5⟩
theorem QAt.pop_last {x : Int} (h : QAt E w lo g k0 1 1 [x]) : QAt E w lo g k0 0 0 [] := by
  obtain ⟨C, done, h1, h2, h3, h4⟩ := h
  refine ⟨C, done, h1, ?_, by omega, Nat.le_refl _⟩
  have := h2.cut (M := k0) (by omega)
  rw [List.take_append_of_le_length (by omega), List.take_of_length_le (by omega)] at this
  simpa using this
theorem QAt.pop {x : Int} {t : List Int} (h : QAt E w lo g k0 (n + 1) (c + 1) (x :: t)) : QAt E w lo g (k0 + 1) n c t := by
  obtain ⟨C, done, h1, h2, h3, h4⟩ := h
  refine ⟨C, done ++ [x], by simp [h1], ?_, by omega, by omega⟩
  rw [List.append_assoc, List.singleton_append, show k0 + 1 + n = k0 + (n + 1) by omega]
  exact h2

theorem wpList_appQ {P : Program} {ops : Array Oper} {rest : List Oper} {o : Oper} {a : Act} {Q : Exit → Act → World → Prop} (hgd : o.guard = none) (s x : Operand) (T : TypeId)
    (ho : o.op = .call { callee := .builtin .append, args := #[s, x], argTypes := #[T, T] }) (i0 : TypeInfo)
    (hT : P.underlying T = some (.slice E)) (hi : P.info? E = some i0) (hz0 : i0.zero = some (.int .i64 0)) (hz1 : i0.size = 1) (hz2 : i0.bytes = 8)
    (q : Int) (hs : a.eval s = .slice (some ⟨g, k0, none⟩) n c) (hq : QAt E w lo g k0 n c xs) (hx : a.eval x = .slice (some ⟨w.heap.size, 0, none⟩) 1 1) (hn : n ≤ 1000) (hlo : lo ≤ w.heap.size)
    (h : ∀ g' k0' c' w', QAt E w' lo g' k0' (n + 1) c' (xs ++ [q]) → w.grownBy w' (some g) → (g' = g ∨ w.heap.size ≤ g') → wpList P ops Q rest (a.put o.dst (.slice (some ⟨g', k0', none⟩) (n + 1) c')) w') :
    wpList P ops Q (o :: rest) a (w.alloc (.cells #[.int .i64 q] E)) := by
  have hgl := hq.lt
  have hxl := hq.len
  have hle := hq.le
  obtain ⟨C, done, hd, hown, hC, hnc⟩ := hq
  have hnews : ∀ j u, [Value.int .i64 q][j]? = some u → (w.alloc (.cells #[.int .i64 q] E)).cell? ((⟨w.heap.size, 0, none⟩ : Addr).add j) = some u := by
    intro j u hj
    match j, hj with
    | 0, hj =>
      simp at hj; subst hj
      exact cell_of_row (w.alloc (.cells #[.int .i64 q] E)) w.heap.size 0 #[.int .i64 q] E (0, 0) (heap_alloc_new w _)
  have hone : ∀ u ∈ [Value.int .i64 q], u.oneCell' = true := by intro u hu; simp at hu; subst hu; rfl
  have hw : Region.wanted o (yielded ops a.tmps) = true := by simp [Region.wanted, hgd]
  have hal : Below w.heap.size w (w.alloc (.cells #[.int .i64 q] E)) := (Below.refl _ _).alloc (Nat.le_refl _) _
  have hown1 := hown.keep hal
  refine wpList_plain hgd fun K hK => ?_
  by_cases hr : n < c
  · have hstep := step_append_room (P := P) (ops := ops) (K := K) (Q := Q) (E := True) hgd s x T ho E i0 1 hT hi hz1 g k0 n c hs ⟨w.heap.size, 0, none⟩ 1 1 [.int .i64 q] hx rfl hnews hone (by omega) (w := w.alloc (.cells #[.int .i64 q] E))
      (fun j hj => by
        obtain rfl : j = 0 := by simpa using hj
        obtain ⟨cur, hg, _, _, _, hcs, _⟩ := ownI_block hown1
        refine ⟨?_, frozen_of_row _ g _ cur E hg⟩
        rw [cell_of_row _ g _ cur E (0, 0) hg, Array.getElem?_eq_getElem (by omega)]; rfl)
      (by
        obtain ⟨e1, e2⟩ := hown1.extend (by omega) q
        rw [show k0 + n * 1 = k0 + n by omega]
        refine hK _ _ (h g k0 c _ ⟨C, done, hd, ?_, hC, by omega⟩ (grown_next (grown_of_below hal _) e2) (.inl rfl))
        rw [← List.append_assoc, show k0 + (n + 1) = k0 + n + 1 by omega]
        exact e1)
    rwa [if_pos hw] at hstep
  · have hstep := step_append_grows (P := P) (ops := ops) (K := K) (Q := Q) (E := True) hgd s x T ho E i0 (.int .i64 0) 1 8 hT hi hz0 hz1 hz2 rfl (by decide) (some ⟨g, k0, none⟩) n c (xs.map (Value.int .i64)) hs (fun h => by cases h) (by simp [hxl])
      (fun b hb j u hj => by
        injection hb with hb; subst hb
        rw [List.getElem?_map] at hj
        have e : (⟨g, k0, none⟩ : Addr).add j = ⟨g, k0 + j, none⟩ := by unfold Addr.add; split <;> simp_all
        rw [e]
        cases hxj : xs[j]? with
        | none => rw [hxj] at hj; cases hj
        | some y =>
          rw [hxj] at hj
          injection hj with hj; subst hj
          exact hown1.cell (by rw [List.getElem?_append_right (by omega), hd, show k0 + j - k0 = j by omega, hxj]))
      ⟨w.heap.size, 0, none⟩ 1 1 [.int .i64 q] hx rfl hnews hone (by omega) (by unfold maxLen; omega) (by omega) (w := w.alloc (.cells #[.int .i64 q] E))
      (fun v' w' hown' hgr => by
        have e : xs.map (Value.int .i64) ++ [.int .i64 q] = (xs ++ [q]).map (Value.int .i64) := by simp
        rw [e] at hown'
        obtain ⟨A', c', rfl, hO⟩ := own_form hown'
        obtain ⟨g', rfl, h1, h2⟩ := hO.some_ (k := 0) (by omega)
        simp at h1
        refine hK _ _ (h g' 0 c' w' (QAt.start (hO.lower (by simp; omega))) ?_ (.inr (by omega)))
        exact ⟨hgr.os.trans hal.os, hgr.tape.trans hal.tape, hgr.output.trans hal.output, Nat.le_trans hal.size hgr.size, fun i hi _ => (hgr.block i (Nat.lt_of_lt_of_le hi hal.size) (by simp)).trans (hal.block i hi)⟩)
    rwa [if_pos hw] at hstep
end

end Go.Proofs.Ytmmfjmgjkbplpaa
