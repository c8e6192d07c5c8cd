/-
  Memory words: a row of elements of k cells that the call owns.
  Memory words: a row of the call's own in the library's sort's words.
  Memory words: rows of pairs that the call owns: a store, a cut, cells cleared.
-/
import Derived.Test.YtnmmgalidkambaaGreatDoorMem
import Derived.Laws.OwnMore
import Derived.Shelf.GgSortFunc.InsertionK
import Derived.Lib.SliceRun
namespace Go.Proofs.YtnmmgalidkambaaGreatDoor
open Go.RowKit

/-! ### A row of elements of k cells that the call owns -/
/-- The slice '.slice A n c' owns, in a block from lo on, the list xs of elements, each of k cells. -/
def OwnK {α : Type} (enc : α → List Value) (k : Nat) (E : TypeId) (w : World) (lo : Nat) (A : Option Addr) (n c : Nat) (xs : List α) : Prop := xs.length = n ∧ w.ownsRow lo E k (.slice A n c) n (xs.flatMap enc)

theorem flat_len {α : Type} {enc : α → List Value} {k : Nat} (hk : ∀ x, (enc x).length = k) (xs : List α) : (xs.flatMap enc).length = xs.length * k := by
  induction xs with
  | nil => simp
  | cons x t ih => rw [List.flatMap_cons, List.length_append, ih, hk, List.length_cons, Nat.add_mul, Nat.one_mul]; omega
theorem flat_at {α : Type} {enc : α → List Value} {k : Nat} (hk : ∀ x, (enc x).length = k) : ∀ (xs : List α) {i j : Nat} {x : α}, xs[i]? = some x → j < k → (xs.flatMap enc)[i * k + j]? = (enc x)[j]?
  | [], i, j, x, h, _ => by simp at h
  | y :: t, 0, j, x, h, hj => by
    simp at h; subst h
    rw [List.flatMap_cons, Nat.zero_mul, Nat.zero_add, List.getElem?_append_left (by rw [hk]; exact hj)]
  | y :: t, i + 1, j, x, h, hj => by
    rw [List.flatMap_cons, List.getElem?_append_right (by rw [hk, Nat.add_mul]; omega), hk, show (i + 1) * k + j - k = i * k + j by rw [Nat.add_mul]; omega]
    exact flat_at hk t (by simpa using h) hj
section
variable {α : Type} {enc : α → List Value} {k : Nat} {E : TypeId} {w w' : World} {lo : Nat} {A : Option Addr} {n c : Nat} {xs : List α}
theorem OwnK.len (h : OwnK enc k E w lo A n c xs) : xs.length = n := h.1
theorem OwnK.form (h : OwnK enc k E w lo A n c xs) : (A = none ∧ n = 0 ∧ c = 0 ∧ xs = []) ∨ ∃ g, A = some ⟨g, 0, none⟩ ∧ lo ≤ g ∧ g < w.heap.size ∧ n ≤ c ∧ c ≤ maxLen := by
  have hl := h.1
  rcases h.2.2 with ⟨hv, hn⟩ | ⟨g, cap, cur, hv, hb, hg, hnc, hm, _⟩
  · injection hv with h1 h2 h3
    subst hn
    exact .inl ⟨h1, rfl, h3, List.eq_nil_of_length_eq_zero hl⟩
  · injection hv with h1 h2 h3
    subst h3
    exact .inr ⟨g, h1, hb, (Array.getElem?_eq_some_iff.1 hg).1, hnc, hm⟩
theorem OwnK.some_ {i : Nat} (h : OwnK enc k E w lo A n c xs) (hi : i < n) : ∃ g, A = some ⟨g, 0, none⟩ ∧ lo ≤ g ∧ g < w.heap.size := by
  rcases h.form with ⟨_, h0, _⟩ | ⟨g, h1, h2, h3, _⟩
  · omega
  · exact ⟨g, h1, h2, h3⟩
/-- Element i's cell j. -/
theorem OwnK.cell {g i j : Nat} {x : α} {u : Value} (hk : ∀ x, (enc x).length = k) (h : OwnK enc k E w lo (some ⟨g, 0, none⟩) n c xs) (hx : xs[i]? = some x) (hu : (enc x)[j]? = some u) : w.cell? ⟨g, i * k + j, none⟩ = some u := by
  have hl := h.1
  have hi : i < n := by
    rcases Nat.lt_or_ge i xs.length with h' | h'
    · omega
    · rw [List.getElem?_eq_none h'] at hx; cases hx
  have hj : j < k := by
    rcases Nat.lt_or_ge j (enc x).length with h' | h'
    · rwa [hk] at h'
    · rw [List.getElem?_eq_none h'] at hu; cases hu
  have hb : i * k + j < n * k := by
    have := Nat.mul_le_mul_right k (show i + 1 ≤ n from hi); rw [Nat.add_mul, Nat.one_mul] at this; omega
  rw [World.ownsRow.cellAt h.2 _ hb, flat_at hk xs hx hj, hu]
theorem OwnK.frozen {g : Nat} (h : OwnK enc k E w lo (some ⟨g, 0, none⟩) n c xs) (j : Nat) : w.frozen? ⟨g, j, none⟩ = false := World.ownsRow.frozenAt h.2 j
theorem OwnK.keep (h : OwnK enc k E w lo A n c xs) (hb : Below w.heap.size w w') : OwnK enc k E w' lo A n c xs := by
  refine ⟨h.1, h.2.1, ?_⟩
  rcases h.2.2 with hn | ⟨g, cap, cur, hv, hlo, hg, r⟩
  · exact .inl hn
  · exact .inr ⟨g, cap, cur, hv, hlo, (hb.block g (Array.getElem?_eq_some_iff.1 hg).1).trans hg, r⟩
theorem OwnK.lower {lo' : Nat} (h : OwnK enc k E w lo A n c xs) (hl : lo' ≤ lo) : OwnK enc k E w lo' A n c xs := by
  refine ⟨h.1, h.2.1, ?_⟩
  rcases h.2.2 with hn | ⟨g, cap, cur, hv, hlo, hg, r⟩
  · exact .inl hn
  · exact .inr ⟨g, cap, cur, hv, Nat.le_trans hl hlo, hg, r⟩
theorem OwnK.alloc (h : OwnK enc k E w lo A n c xs) (o : Obj) : OwnK enc k E (w.alloc o) lo A n c xs := h.keep ((Below.refl _ _).alloc (Nat.le_refl _) o)
theorem OwnK.drewN (h : OwnK enc k E w lo A n c xs) (m : Nat) : OwnK enc k E (w.drewN m) lo A n c xs := h
theorem OwnK.drew1 (h : OwnK enc k E w lo A n c xs) : OwnK enc k E w.drew lo A n c xs := h
theorem OwnK.none_ (enc : α → List Value) (k : Nat) (E : TypeId) (w : World) (lo : Nat) : OwnK enc k E w lo none 0 0 [] := ⟨rfl, World.ownsRow_nil w lo E k⟩
theorem OwnK.other {row : Option Nat} (h : OwnK enc k E w lo A n c xs) (hg : w.grownBy w' row) (hne : ∀ a, A = some a → some a.block ≠ row) : OwnK enc k E w' lo A n c xs := by
  refine ⟨h.1, h.2.1, ?_⟩
  rcases h.2.2 with hn | ⟨g, cap, cur, hv, hlo, hgg, r⟩
  · exact .inl hn
  · refine .inr ⟨g, cap, cur, hv, hlo, ?_, r⟩
    injection hv with h1
    rw [hg.block g (Array.getElem?_eq_some_iff.1 hgg).1 (hne _ h1)]
    exact hgg
theorem OwnK.of_row {v : Value} (hxs : xs.length = n) (h : w.ownsRow lo E k v n (xs.flatMap enc)) : ∃ A c, v = .slice A n c ∧ OwnK enc k E w lo A n c xs := by
  have h2 := h.2
  rcases h2 with ⟨rfl, rfl⟩ | ⟨g, cap, cur, rfl, _⟩
  · exact ⟨none, 0, rfl, hxs, h⟩
  · exact ⟨_, cap, rfl, hxs, h⟩

/-- append of some elements onto a row of the call's own. -/
theorem wpList_appK {P : Program} {w : World} {ops : Array Oper} {rest : List Oper} {o : Oper} {a : Act} {Q : Exit → Act → World → Prop} (hgd : o.guard = none) (s x : Operand) (T : TypeId)
    (ho : o.op = .call { callee := .builtin .append, args := #[s, x], argTypes := #[T, T] }) (i0 : TypeInfo) (z : Value) (bytes : Nat)
    (hT : P.underlying T = some (.slice E)) (hi : P.info? E = some i0) (hz0 : i0.zero = some z) (hz1 : i0.size = k) (hz2 : i0.bytes = bytes) (hzs : z.cells.size = k) (hk0 : 0 < k) (hby : bytes ≤ 64)
    (hk : ∀ x, (enc x).length = k) (h1 : ∀ x, ∀ u ∈ enc x, u.oneCell' = true)
    (ys : List α) (ad : Addr) (m cy : Nat) (hs : a.eval s = .slice A n c) (hown : OwnK enc k E w lo A n c xs) (hx : a.eval x = .slice (some ad) m cy) (hm : ys.length = m)
    (hy : ∀ j u, (ys.flatMap enc)[j]? = some u → w.cell? (ad.add j) = some u)
    (hn : n + m ≤ 1000000) (hlo : lo ≤ w.heap.size)
    (h : ∀ A' c' w', OwnK enc k E w' lo A' (n + m) c' (xs ++ ys) → w.grownBy w' (match A with | some b => some b.block | none => none) → Below lo w w' → wpList P ops Q rest (a.put o.dst (.slice A' (n + m) c')) w') :
    wpList P ops Q (o :: rest) a w := by
  refine wpList_append_own w hgd s x T ho lo E i0 z k bytes hT hi hz0 hz1 hz2 hzs hk0 (.slice A n c) n (xs.flatMap enc) hs hown.2 ad m cy (ys.flatMap enc) hx (by rw [flat_len hk, hm]) hy ?_ (by unfold maxLen; omega) ?_ hlo ?_
  · intro u hu
    obtain ⟨y, _, hu⟩ := List.mem_flatMap.1 hu
    exact h1 y u hu
  · have := Nat.mul_le_mul hn hby; omega
  · intro v' w' hown' hgrow _
    rw [← List.flatMap_append] at hown'
    obtain ⟨A', c', rfl, hO⟩ := OwnK.of_row (by rw [List.length_append, hown.1, hm]) hown'
    refine h A' c' w' hO ?_ ((Below.refl _ _).grown hgrow hlo (fun k hk => (World.ownsRow.lt hown.2 k hk).1))
    rcases A with _ | b
    · exact hgrow
    · exact hgrow
end

end Go.Proofs.YtnmmgalidkambaaGreatDoor

namespace Go.Proofs.YtnmmgalidkambaaGreatDoor
open Go.RowKit Go.Lib Go.Sort Go.Shelf

/-! ### A row of the call's own in the sort's words -/
section
variable {α : Type} [Inhabited α] {enc : α → List Value} {k : Nat} {E : TypeId} {w : World} {lo g n c : Nat} {xs : List α}
theorem flat_flatK (hk : ∀ x, (enc x).length = k) (xs : List α) {t : Nat} (h : t < xs.length * k) : (xs.flatMap enc)[t]? = some ((flatK enc k xs.toArray)[t]!) := by
  have k0 : 0 < k := by
    rcases Nat.eq_zero_or_pos k with e | e
    · subst e; simp at h
    · exact e
  have hi : t / k < xs.length := Nat.div_lt_of_lt_mul (by rw [Nat.mul_comm]; exact h)
  have hj : t % k < k := Nat.mod_lt _ k0
  have hx : xs[t / k]? = some xs[t / k] := List.getElem?_eq_getElem hi
  have h1 := flat_at hk xs hx hj
  rw [show t / k * k + t % k = t by rw [Nat.mul_comm]; exact Nat.div_add_mod t k] at h1
  rw [h1, get_flatK enc k xs.toArray t (by simpa using h)]
  have e : xs.toArray[t / k]! = xs[t / k] := by rw [getElem!_pos xs.toArray (t / k) (by simpa using hi)]; simp
  rw [e, List.getElem?_eq_getElem (by rw [hk]; exact hj), getElem!_pos (enc xs[t / k]) (t % k) (by rw [hk]; exact hj)]
theorem OwnK.holds (hk : ∀ x, (enc x).length = k) (h : OwnK enc k E w lo (some ⟨g, 0, none⟩) n c xs) : HoldsK enc k w g 0 xs.toArray := by
  intro t ht
  rw [size_flatK] at ht
  have ht' : t < xs.length * k := by simpa using ht
  rw [Nat.zero_add]
  refine ⟨?_, h.frozen t⟩
  rw [World.ownsRow.cellAt h.2 t (by rw [← h.1]; exact ht'), flat_flatK hk xs ht']
  rfl
theorem OwnK.sorted (hk : ∀ x, (enc x).length = k) (h : OwnK enc k E w lo (some ⟨g, 0, none⟩) n c xs) (d : Array α) (hd : d.size = n) (m : Nat) (os : Array Obj) :
    OwnK enc k E (sortWorldK enc k w g 0 m d os) lo (some ⟨g, 0, none⟩) n c d.toList ∧ w.grownBy (sortWorldK enc k w g 0 m d os) (some g) := by
  obtain ⟨hl, hx, hr⟩ := h
  rcases hr with ⟨hv, _⟩ | ⟨g', cap, cur, hv, hlo, hg, hnc, hm, hcs, htake⟩
  · injection hv with h1; cases h1
  · injection hv with h1 h2 h3
    injection h1 with h1
    injection h1 with h1
    subst h1 h3
    have hglt := (Array.getElem?_eq_some_iff.1 hg).1
    have hheap : (sortWorldK enc k w g 0 m d os).heap = w.heap.modify g (onCells (putCells id 0 (flatK enc k d))) ++ os := rfl
    have hg' : (sortWorldK enc k w g 0 m d os).heap[g]? = some (.cells (putCells id 0 (flatK enc k d) cur) E (0, 0)) := by
      rw [hheap, Array.getElem?_append_left (by simpa using hglt), Array.getElem?_modify, if_pos rfl, hg]
      rfl
    refine ⟨⟨by simp [hd], by rw [flat_len hk]; simp [hd], .inr ⟨g, c, _, rfl, hlo, hg', hnc, hm, by simp [putCells, hcs], ?_⟩⟩, ⟨rfl, rfl, rfl, by rw [hheap]; simp, fun i hi hne => ?_⟩⟩
    · apply List.ext_getElem?
      intro t
      rw [List.getElem?_take]
      by_cases ht : t < n * k
      · have hdk : t < d.toList.length * k := by simpa [hd] using ht
        rw [if_pos ht, flat_flatK hk d.toList hdk]
        have hc : t < cur.size := by rw [hcs]; exact Nat.lt_of_lt_of_le ht (Nat.mul_le_mul_right k hnc)
        simp only [putCells, Array.getElem?_toList, Array.getElem?_mapIdx, Array.getElem?_eq_getElem hc, Option.map_some, size_flatK, hd]
        rw [if_pos ⟨by omega, by omega⟩]
        simp
      · rw [if_neg ht, List.getElem?_eq_none (by rw [flat_len hk]; simp [hd]; omega)]
    · rw [hheap, Array.getElem?_append_left (by simpa using hi), Array.getElem?_modify, if_neg (fun e => hne (by rw [e]))]
end

end Go.Proofs.YtnmmgalidkambaaGreatDoor

namespace Go.Proofs.YtnmmgalidkambaaGreatDoor
open Go.RowKit

def encP (p : Int × Int) : List Value := [.int .i64 p.1, .int .i64 p.2]
theorem encP_len (p : Int × Int) : (encP p).length = 2 := rfl
theorem encP_one (p : Int × Int) : ∀ u ∈ encP p, u.oneCell' = true := fun u hu => by simp [encP] at hu; rcases hu with rfl | rfl <;> rfl
abbrev OwnP (E : TypeId) (w : World) (lo : Nat) (A : Option Addr) (n c : Nat) (xs : List (Int × Int)) : Prop := OwnK encP 2 E w lo A n c xs

theorem flatP_set : ∀ (xs : List (Int × Int)) (i : Nat) (p : Int × Int), i < xs.length → ((xs.flatMap encP).set (i * 2) (.int .i64 p.1)).set (i * 2 + 1) (.int .i64 p.2) = (xs.set i p).flatMap encP
  | [], _, _, h => by simp at h
  | q :: t, 0, p, _ => by simp [encP]
  | q :: t, i + 1, p, h => by
    have ih := flatP_set t i p (by simpa using h)
    rw [List.set_cons_succ, List.flatMap_cons, List.flatMap_cons, ← ih]
    rw [List.set_append_right _ _ (by simp [encP]; omega), List.set_append_right _ _ (by simp [encP]; omega)]
    congr 3
    all_goals simp [encP]; omega
section
variable {E : TypeId} {w : World} {lo g n c : Nat} {xs : List (Int × Int)}
theorem OwnP.stored (h : OwnP E w lo (some ⟨g, 0, none⟩) n c xs) {i : Nat} (hi : i < n) (p : Int × Int) :
    OwnP E ((w.setCell ⟨g, i * 2, none⟩ (.int .i64 p.1)).setCell ⟨g, i * 2 + 1, none⟩ (.int .i64 p.2)) lo (some ⟨g, 0, none⟩) n c (xs.set i p) ∧ w.grownBy ((w.setCell ⟨g, i * 2, none⟩ (.int .i64 p.1)).setCell ⟨g, i * 2 + 1, none⟩ (.int .i64 p.2)) (some g) := by
  obtain ⟨h1, g1⟩ := World.ownsRow.stored h.2 (i * 2) (.int .i64 p.1)
  obtain ⟨h2, g2⟩ := World.ownsRow.stored h1 (i * 2 + 1) (.int .i64 p.2)
  rw [flatP_set xs i p (by rw [h.1]; exact hi)] at h2
  exact ⟨⟨by rw [List.length_set]; exact h.1, h2⟩, grown_next g1 g2⟩
theorem OwnK.cut {α : Type} {enc : α → List Value} {k : Nat} (hk : ∀ x, (enc x).length = k) {xs : List α} (h : OwnK enc k E w lo (some ⟨g, 0, none⟩) n c xs) {m : Nat} (hm : m ≤ n) : OwnK enc k E w lo (some ⟨g, 0, none⟩) m c (xs.take m) := by
  obtain ⟨hl, hx, hr⟩ := h
  have hlm : (xs.take m).length = m := by rw [List.length_take]; omega
  refine ⟨hlm, by rw [flat_len hk, hlm], ?_⟩
  rcases hr with ⟨hv, _⟩ | ⟨g', cap, cur, hv, hlo, hg, hnc, hcm, hcs, htake⟩
  · injection hv with h1; cases h1
  · injection hv with h1 h2 h3
    subst h3
    refine .inr ⟨g', c, cur, by rw [h1], hlo, hg, by omega, hcm, hcs, ?_⟩
    have e : (xs.take m).flatMap enc = (xs.flatMap enc).take (m * k) := by
      have e1 : xs.flatMap enc = (xs.take m).flatMap enc ++ (xs.drop m).flatMap enc := by rw [← List.flatMap_append, List.take_append_drop]
      have e2 : ((xs.take m).flatMap enc).length = m * k := by rw [flat_len hk, hlm]
      rw [e1, ← e2, List.take_left']
      rfl
    rw [e, ← htake, List.take_take, Nat.min_eq_left (Nat.mul_le_mul_right k hm)]
theorem OwnK.cells_behind {α : Type} {enc : α → List Value} {k : Nat} : ∀ (vs : List Value) (o : Nat) {w : World} {xs : List α}, (∀ x, (enc x).length = k) → OwnK enc k E w lo (some ⟨g, 0, none⟩) n c xs → n * k ≤ o →
    OwnK enc k E (w.setCells g o vs) lo (some ⟨g, 0, none⟩) n c xs ∧ w.grownBy (w.setCells g o vs) (some g)
  | [], _, _, _, _, h, _ => ⟨h, grown_refl _ _⟩
  | v :: vs, o, w, xs, hk, h, ho => by
    obtain ⟨h1, g1⟩ := World.ownsRow.stored h.2 o v
    rw [List.set_eq_of_length_le (by rw [flat_len hk, h.1]; exact ho)] at h1
    obtain ⟨h2, g2⟩ := OwnK.cells_behind vs (o + 1) hk ⟨h.1, h1⟩ (by omega)
    exact ⟨h2, grown_next g1 g2⟩
end

/-- 'clear(s)', s a slice of n > 0 pairs. -/
theorem run_clear_pairs {P : Program} (w : World) (t e ty : TypeId) (ht : P.underlying t = some (.slice e)) (hv : ∀ w, (zeroValue e).run P w = .ok (.agg #[.int .i64 0, .int .i64 0]) w) (b o n c : Nat) (hn : 0 < n)
    (hc : ∀ j, j < n * 2 → (w.cell? ⟨b, o + j, none⟩).isSome = true) (hf : ∀ j, j < n * 2 → w.frozen? ⟨b, o + j, none⟩ = false) :
    (Builtin.clear_ #[t] ty #[.slice (some ⟨b, o, none⟩) n c]).run P w = .ok (.tuple #[]) (w.setCells b o (List.replicate (n * 2) (.int .i64 0))) := by
  have hzc : (Builtin.zeroCells (Value.agg #[.int .i64 0, .int .i64 0]).cells n).toList = List.replicate (n * 2) (.int .i64 0) := by
    simp [Builtin.zeroCells, Value.cells]
    apply List.ext_getElem
    · simp
    · intro i h1 h2
      have : i % 2 = 0 ∨ i % 2 = 1 := by omega
      rcases this with h | h <;> simp [h]
  have hst := run_storeCells_cells (P := P) b o (List.replicate (n * 2) (.int .i64 0)) 0 w (by simpa using hc) (by simpa using hf) (by intro v hv'; rw [List.eq_of_mem_replicate hv']; rfl)
  simp only [Nat.add_zero] at hst
  obtain ⟨m, rfl⟩ : ∃ m, n = m + 1 := ⟨n - 1, by omega⟩
  simp [Builtin.clear_, run_underlying ht, hv, hzc, hst]

end Go.Proofs.YtnmmgalidkambaaGreatDoor
