/-
  Memory words: a row of elements of k cells that the call owns.
-/
import Derived.Test.YtdbfhcgifilhkaaMem
import Derived.Laws.OwnMore
namespace Go.Proofs.Ytdbfhcgifilhkaa
open Go.RowKit

/-! ### A row of elements of k cells that the call owns -/
/-- The slice '.slice A n c' owns, in a block from lo on, the list xs of elements, each of k cells. -/
def OwnK {α : Type} (enc : α → List Value) (k : Nat) (E : TypeId) (w : World) (lo : Nat) (A : Option Addr) (n c : Nat) (xs : List α) : Prop := xs.length = n ∧ w.ownsRow lo E k (.slice A n c) n (xs.flatMap enc)

theorem flat_len {α : Type} {enc : α → List Value} {k : Nat} (hk : ∀ x, (enc x).length = k) (xs : List α) : (xs.flatMap enc).length = xs.length * k := by
  induction xs with
  | nil => simp
  | cons x t ih => rw [List.flatMap_cons, List.length_append, ih, hk, List.length_cons, Nat.add_mul, Nat.one_mul]; omega
theorem flat_at {α : Type} {enc : α → List Value} {k : Nat} (hk : ∀ x, (enc x).length = k) : ∀ (xs : List α) {i j : Nat} {x : α}, xs[i]? = some x → j < k → (xs.flatMap enc)[i * k + j]? = (enc x)[j]?
  | [], i, j, x, h, _ => by simp at h
  | y :: t, 0, j, x, h, hj => by
    simp at h; subst h
    rw [List.flatMap_cons, Nat.zero_mul, Nat.zero_add, List.getElem?_append_left (by rw [hk]; exact hj)]
  | y :: t, i + 1, j, x, h, hj => by
    rw [List.flatMap_cons, List.getElem?_append_right (by rw [hk, Nat.add_mul]; omega), hk, show (i + 1) * k + j - k = i * k + j by rw [Nat.add_mul]; omega]
    exact flat_at hk t (by simpa using h) hj
section
variable {α : Type} {enc : α → List Value} {k : Nat} {E : TypeId} {w w' : World} {lo : Nat} {A : Option Addr} {n c : Nat} {xs : List α}
theorem OwnK.len (h : OwnK enc k E w lo A n c xs) : xs.length = n := h.1
theorem OwnK.form (h : OwnK enc k E w lo A n c xs) : (A = none ∧ n = 0 ∧ c = 0 ∧ xs = []) ∨ ∃ g, A = some ⟨g, 0, none⟩ ∧ lo ≤ g ∧ g < w.heap.size ∧ n ≤ c ∧ c ≤ maxLen := by
  have hl := h.1
  rcases h.2.2 with ⟨hv, hn⟩ | ⟨g, cap, cur, hv, hb, hg, hnc, hm, _⟩
  · injection hv with h1 h2 h3
    subst hn
    exact .inl ⟨h1, rfl, h3, List.eq_nil_of_length_eq_zero hl⟩
  · injection hv with h1 h2 h3
    subst h3
    exact .inr ⟨g, h1, hb, (Array.getElem?_eq_some_iff.1 hg).1, hnc, hm⟩
theorem OwnK.some_ {i : Nat} (h : OwnK enc k E w lo A n c xs) (hi : i < n) : ∃ g, A = some ⟨g, 0, none⟩ ∧ lo ≤ g ∧ g < w.heap.size := by
  rcases h.form with ⟨_, h0, _⟩ | ⟨g, h1, h2, h3, _⟩
  · omega
  · exact ⟨g, h1, h2, h3⟩
/-- Element i's cell j. -/
theorem OwnK.cell {g i j : Nat} {x : α} {u : Value} (hk : ∀ x, (enc x).length = k) (h : OwnK enc k E w lo (some ⟨g, 0, none⟩) n c xs) (hx : xs[i]? = some x) (hu : (enc x)[j]? = some u) : w.cell? ⟨g, i * k + j, none⟩ = some u := by
  have hl := h.1
  have hi : i < n := by
    rcases Nat.lt_or_ge i xs.length with h' | h'
    · omega
    · rw [List.getElem?_eq_none h'] at hx; cases hx
  have hj : j < k := by
    rcases Nat.lt_or_ge j (enc x).length with h' | h'
    · rwa [hk] at h'
    · rw [List.getElem?_eq_none h'] at hu; cases hu
  have hb : i * k + j < n * k := by
    have := Nat.mul_le_mul_right k (show i + 1 ≤ n from hi); rw [Nat.add_mul, Nat.one_mul] at this; omega
  rw [World.ownsRow.cellAt h.2 _ hb, flat_at hk xs hx hj, hu]
theorem OwnK.frozen {g : Nat} (h : OwnK enc k E w lo (some ⟨g, 0, none⟩) n c xs) (j : Nat) : w.frozen? ⟨g, j, none⟩ = false := World.ownsRow.frozenAt h.2 j
theorem OwnK.keep (h : OwnK enc k E w lo A n c xs) (hb : Below w.heap.size w w') : OwnK enc k E w' lo A n c xs := by
  refine ⟨h.1, h.2.1, ?_⟩
  rcases h.2.2 with hn | ⟨g, cap, cur, hv, hlo, hg, r⟩
  · exact .inl hn
  · exact .inr ⟨g, cap, cur, hv, hlo, (hb.block g (Array.getElem?_eq_some_iff.1 hg).1).trans hg, r⟩
theorem OwnK.lower {lo' : Nat} (h : OwnK enc k E w lo A n c xs) (hl : lo' ≤ lo) : OwnK enc k E w lo' A n c xs := by
  refine ⟨h.1, h.2.1, ?_⟩
  rcases h.2.2 with hn | ⟨g, cap, cur, hv, hlo, hg, r⟩
  · exact .inl hn
  · exact .inr ⟨g, cap, cur, hv, Nat.le_trans hl hlo, hg, r⟩
theorem OwnK.alloc (h : OwnK enc k E w lo A n c xs) (o : Obj) : OwnK enc k E (w.alloc o) lo A n c xs := h.keep ((Below.refl _ _).alloc (Nat.le_refl _) o)
theorem OwnK.drewN (h : OwnK enc k E w lo A n c xs) (m : Nat) : OwnK enc k E (w.drewN m) lo A n c xs := h
theorem OwnK.drew1 (h : OwnK enc k E w lo A n c xs) : OwnK enc k E w.drew lo A n c xs := h
theorem OwnK.none_ (enc : α → List Value) (k : Nat) (E : TypeId) (w : World) (lo : Nat) : OwnK enc k E w lo none 0 0 [] := ⟨rfl, World.ownsRow_nil w lo E k⟩
theorem OwnK.other {row : Option Nat} (h : OwnK enc k E w lo A n c xs) (hg : w.grownBy w' row) (hne : ∀ a, A = some a → some a.block ≠ row) : OwnK enc k E w' lo A n c xs := by
  refine ⟨h.1, h.2.1, ?_⟩
  rcases h.2.2 with hn | ⟨g, cap, cur, hv, hlo, hgg, r⟩
  · exact .inl hn
  · refine .inr ⟨g, cap, cur, hv, hlo, ?_, r⟩
    injection hv with h1
    rw [hg.block g (Array.getElem?_eq_some_iff.1 hgg).1 (hne _ h1)]
    exact hgg
theorem OwnK.of_row {v : Value} (hxs : xs.length = n) (h : w.ownsRow lo E k v n (xs.flatMap enc)) : ∃ A c, v = .slice A n c ∧ OwnK enc k E w lo A n c xs := by
  have h2 := h.2
  rcases h2 with ⟨rfl, rfl⟩ | ⟨g, cap, cur, rfl, _⟩
  · exact ⟨none, 0, rfl, hxs, h⟩
  · exact ⟨_, cap, rfl, hxs, h⟩

/-- append of some elements onto a row of the call's own. -/
theorem wpList_appK {P : Program} {w : World} {ops : Array Oper} {rest : List Oper} {o : Oper} {a : Act} {Q : Exit → Act → World → Prop} (hgd : o.guard = none) (s x : Operand) (T : TypeId)
    (ho : o.op = .call { callee := .builtin .append, args := #[s, x], argTypes := #[T, T] }) (i0 : TypeInfo) (z : Value) (bytes : Nat)
    (hT : P.underlying T = some (.slice E)) (hi : P.info? E = some i0) (hz0 : i0.zero = some z) (hz1 : i0.size = k) (hz2 : i0.bytes = bytes) (hzs : z.cells.size = k) (hk0 : 0 < k) (hby : bytes ≤ 64)
    (hk : ∀ x, (enc x).length = k) (h1 : ∀ x, ∀ u ∈ enc x, u.oneCell' = true)
    (ys : List α) (ad : Addr) (m cy : Nat) (hs : a.eval s = .slice A n c) (hown : OwnK enc k E w lo A n c xs) (hx : a.eval x = .slice (some ad) m cy) (hm : ys.length = m)
    (hy : ∀ j u, (ys.flatMap enc)[j]? = some u → w.cell? (ad.add j) = some u)
    (hn : n + m ≤ 1000000) (hlo : lo ≤ w.heap.size)
    (h : ∀ A' c' w', OwnK enc k E w' lo A' (n + m) c' (xs ++ ys) → w.grownBy w' (match A with | some b => some b.block | none => none) → Below lo w w' → wpList P ops Q rest (a.put o.dst (.slice A' (n + m) c')) w') :
    wpList P ops Q (o :: rest) a w := by
  refine wpList_append_own w hgd s x T ho lo E i0 z k bytes hT hi hz0 hz1 hz2 hzs hk0 (.slice A n c) n (xs.flatMap enc) hs hown.2 ad m cy (ys.flatMap enc) hx (by rw [flat_len hk, hm]) hy ?_ (by unfold maxLen; omega) ?_ hlo ?_
  · intro u hu
    obtain ⟨y, _, hu⟩ := List.mem_flatMap.1 hu
    exact h1 y u hu
  · have := Nat.mul_le_mul hn hby; omega
  · intro v' w' hown' hgrow _
    rw [← List.flatMap_append] at hown'
    obtain ⟨A', c', rfl, hO⟩ := OwnK.of_row (by rw [List.length_append, hown.1, hm]) hown'
    refine h A' c' w' hO ?_ ((Below.refl _ _).grown hgrow hlo (fun k hk => (World.ownsRow.lt hown.2 k hk).1))
    rcases A with _ | b
    · exact hgrow
    · exact hgrow
end

end Go.Proofs.Ytdbfhcgifilhkaa
