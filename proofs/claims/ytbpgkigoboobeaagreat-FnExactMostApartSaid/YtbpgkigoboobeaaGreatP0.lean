/-
  Rows of booleans, rows of slices: memory words of no law (split from P1: imports no chapter 2).
-/
import Derived.Test.YtbpgkigoboobeaaGreatMap1
import Derived.Test.YtbpgkigoboobeaaGreatApp
import Derived.Test.YtbpgkigoboobeaaGreatB4
namespace Go.Proofs.YtbpgkigoboobeaaGreat
open Go.RowKit

/-! ### A row of booleans that the call owns -/
def OwnB (E : TypeId) (w : World) (lo : Nat) (A : Option Addr) (n c : Nat) (xs : List Bool) : Prop := w.ownsRow lo E 1 (.slice A n c) n (xs.map Value.bool)
section
variable {E : TypeId} {w w' : World} {lo : Nat} {A : Option Addr} {n c : Nat} {xs : List Bool}
theorem OwnB.len (h : OwnB E w lo A n c xs) : xs.length = n := by simpa [OwnB] using h.1
theorem OwnB.cell {g k : Nat} {x : Bool} (h : OwnB E w lo (some ⟨g, 0, none⟩) n c xs) (hx : xs[k]? = some x) : w.cell? ⟨g, k, none⟩ = some (.bool x) := by
  have hl := h.len
  have hk : k < n := by
    rcases Nat.lt_or_ge k xs.length with h' | h'
    · omega
    · rw [List.getElem?_eq_none h'] at hx; cases hx
  rw [World.ownsRow.cellAt h k (by omega), List.getElem?_map, hx]; rfl
theorem OwnB.frozen {g : Nat} (h : OwnB E w lo (some ⟨g, 0, none⟩) n c xs) (k : Nat) : w.frozen? ⟨g, k, none⟩ = false := World.ownsRow.frozenAt h k
theorem OwnB.stored {g : Nat} (h : OwnB E w lo (some ⟨g, 0, none⟩) n c xs) (k : Nat) (x : Bool) :
    OwnB E (w.setCell ⟨g, k, none⟩ (.bool x)) lo (some ⟨g, 0, none⟩) n c (xs.set k x) ∧ w.grownBy (w.setCell ⟨g, k, none⟩ (.bool x)) (some g) := by
  have := World.ownsRow.stored h k (.bool x)
  rw [← List.map_set] at this
  exact this
theorem OwnB.keep (h : OwnB E w lo A n c xs) (hb : Below w.heap.size w w') : OwnB E w' lo A n c xs := by
  refine ⟨h.1, ?_⟩
  rcases h.2 with hn | ⟨g, cap, cur, hv, hlo, hg, r⟩
  · exact .inl hn
  · exact .inr ⟨g, cap, cur, hv, hlo, (hb.block g (Array.getElem?_eq_some_iff.1 hg).1).trans hg, r⟩
theorem OwnB.other {row : Option Nat} (h : OwnB E w lo A n c xs) (hg : w.grownBy w' row) (hne : ∀ a, A = some a → some a.block ≠ row) : OwnB E w' lo A n c xs := by
  refine ⟨h.1, ?_⟩
  rcases h.2 with hn | ⟨g, cap, cur, hv, hlo, hgg, r⟩
  · exact .inl hn
  · refine .inr ⟨g, cap, cur, hv, hlo, ?_, r⟩
    injection hv with h1
    rw [hg.block g (Array.getElem?_eq_some_iff.1 hgg).1 (hne _ h1)]
    exact hgg
end
theorem infoBl : (Tryz.prog.info? 4).map (fun i => (i.zero, i.size, i.bytes)) = some (some (.bool false), 1, 1) := by kernel_rfl
/-- f 0, f 1, .. : N of them. -/
def boolRow (f : Nat → Bool) (N : Nat) : List Bool := (List.range N).map f
theorem boolRow_at {f : Nat → Bool} {N i : Nat} (h : i < N) : (boolRow f N)[i]? = some (f i) := by simp [boolRow, h]
theorem boolRow_congr {f g : Nat → Bool} {N : Nat} (h : ∀ i, i < N → f i = g i) : boolRow f N = boolRow g N := by
  apply List.map_congr_left; intro i hi; exact h i (List.mem_range.1 hi)
theorem boolRow_set (f : Nat → Bool) (N k : Nat) (b : Bool) : (boolRow f N).set k b = boolRow (fun i => if i = k then b else f i) N := by
  apply List.ext_getElem?
  intro i
  rw [List.getElem?_set]
  by_cases hi : i < N
  · by_cases e : k = i
    · subst e; rw [if_pos rfl, if_pos (by simpa [boolRow] using hi), boolRow_at hi, if_pos rfl]
    · rw [if_neg e, boolRow_at hi, boolRow_at hi, if_neg (fun h => e h.symm)]
  · rw [List.getElem?_eq_none (by simpa [boolRow] using hi), List.getElem?_eq_none (by simpa [boolRow] using hi)]
    split
    · rw [if_neg (by simp [boolRow]; omega)]
    · rfl

/-! ### Blocks that are told apart by what they hold -/
theorem row_block {w : World} {lo : Nat} {E : TypeId} {k : Nat} {a : Addr} {n c : Nat} {xs : List Value} (h : w.ownsRow lo E k (.slice (some a) n c) n xs) : ∃ cur, w.heap[a.block]? = some (.cells cur E (0, 0)) := by
  rcases h.2 with ⟨hv, _⟩ | ⟨g, cap, cur, hv, _, hg, _⟩
  · cases hv
  · injection hv with h1
    injection h1 with h1
    subst h1
    exact ⟨cur, hg⟩
theorem rows_apart {w : World} {lo lo' : Nat} {E E' : TypeId} {k k' : Nat} {a a' : Addr} {n c n' c' : Nat} {xs ys : List Value} (hne : E ≠ E') (h : w.ownsRow lo E k (.slice (some a) n c) n xs) (h' : w.ownsRow lo' E' k' (.slice (some a') n' c') n' ys) : a.block ≠ a'.block := by
  obtain ⟨c1, h1⟩ := row_block h
  obtain ⟨c2, h2⟩ := row_block h'
  intro e
  rw [e, h2] at h1
  injection h1 with h1
  injection h1 with _ h1 _
  exact hne h1.symm
theorem map_apart {w : World} {lo : Nat} {E : TypeId} {k : Nat} {a : Addr} {n c : Nat} {xs : List Value} {P : Program} {kt : TypeId} {mb m : Nat} {z : Value} {f : Int → Value} (h : w.ownsRow lo E k (.slice (some a) n c) n xs) (hm : MapI P kt w mb m z f) : a.block ≠ mb := by
  obtain ⟨c1, h1⟩ := row_block h
  obtain ⟨D, ⟨es, cl, h2, _⟩, _⟩ := hm
  intro e
  rw [e, h2] at h1
  cases h1

/-! ### A row of slices, each a row of its own -/
abbrev SlV := Option Addr × Nat × Nat
def encS (v : SlV) : List Value := [.slice v.1 v.2.1 v.2.2]
/-- The slice '.slice A n c' holds slices that read as the lists ps, each in a block of the call's own. -/
def PartsAt (w : World) (lo top : Nat) (A : Option Addr) (n c : Nat) (ps : List (List Int)) : Prop :=
  ∃ vs : List SlV, OwnK encS 1 22 w lo A n c vs ∧ ps.length = n ∧ (∀ (i : Nat) (v : SlV) (p : List Int), vs[i]? = some v → ps[i]? = some p → OwnI 3 w lo v.1 v.2.1 v.2.2 p) ∧
    (∀ (i j : Nat) (v u : SlV), i < j → vs[i]? = some v → vs[j]? = some u → ∀ x y, v.1 = some x → u.1 = some y → x.block < y.block) ∧
    ∀ (i : Nat) (v : SlV), vs[i]? = some v → ∀ x, v.1 = some x → x.block < top
theorem PartsAt.none_ (w : World) (lo top : Nat) : PartsAt w lo top none 0 0 [] := ⟨[], OwnK.none_ _ _ _ _ _, rfl, fun i v p h => by simp at h, fun i j v u _ h => by simp at h, fun i v h => by simp at h⟩
theorem PartsAt.other {w w' : World} {lo top : Nat} {A : Option Addr} {n c : Nat} {ps : List (List Int)} {row : Option Nat} (h : PartsAt w lo top A n c ps) (hg : w.grownBy w' row)
    (hA : ∀ a, A = some a → some a.block ≠ row) (hI : ∀ (a : Addr) (m k : Nat) (p : List Int), OwnI 3 w lo (some a) m k p → some a.block ≠ row) : PartsAt w' lo top A n c ps := by
  obtain ⟨vs, h1, h2, h3, h4, h5⟩ := h
  refine ⟨vs, h1.other hg hA, h2, fun i v p hv hp => (h3 i v p hv hp).other hg (fun a ha => ?_), h4, h5⟩
  have h5 := h3 i v p hv hp
  rw [ha] at h5
  exact hI a _ _ _ h5
theorem PartsAt.keep {w w' : World} {lo top : Nat} {A : Option Addr} {n c : Nat} {ps : List (List Int)} (h : PartsAt w lo top A n c ps) (hb : Below w.heap.size w w') : PartsAt w' lo top A n c ps :=
  h.other (grown_of_below hb none) (fun _ _ => by simp) (fun _ _ _ _ _ => by simp)
theorem PartsAt.lower {w : World} {lo lo' top : Nat} {A : Option Addr} {n c : Nat} {ps : List (List Int)} (h : PartsAt w lo top A n c ps) (hl : lo' ≤ lo) : PartsAt w lo' top A n c ps := by
  obtain ⟨vs, h1, h2, h3, h4, h5⟩ := h
  exact ⟨vs, h1.lower hl, h2, fun i v p hv hp => (h3 i v p hv hp).lower hl, h4, h5⟩
theorem PartsAt.len {w : World} {lo top : Nat} {A : Option Addr} {n c : Nat} {ps : List (List Int)} (h : PartsAt w lo top A n c ps) : ps.length = n := by obtain ⟨_, _, h, _⟩ := h; exact h
/-- A write into a row of booleans leaves it alone. -/
theorem PartsAt.bools {w w' : World} {lo lo' top : Nat} {A : Option Addr} {n c : Nat} {ps : List (List Int)} {gb m k : Nat} {bs : List Bool} (h : PartsAt w lo top A n c ps) (hB : OwnB 4 w lo' (some ⟨gb, 0, none⟩) m k bs) (hg : w.grownBy w' (some gb)) : PartsAt w' lo top A n c ps := by
  have h0 := h
  obtain ⟨vs, h1, _⟩ := h0
  refine h.other hg (fun a ha => ?_) (fun a m' k' p hp => ?_)
  · subst ha
    have := rows_apart (by decide : 22 ≠ 4) h1.2 hB
    simpa using this
  · have := rows_apart (by decide : 3 ≠ 4) hp hB
    simpa using this
/-- An update of a map leaves it alone. -/
theorem PartsAt.maps {w w' : World} {lo top : Nat} {A : Option Addr} {n c : Nat} {ps : List (List Int)} {P : Program} {kt : TypeId} {mb m : Nat} {z : Value} {f : Int → Value} (h : PartsAt w lo top A n c ps) (hM : MapI P kt w mb m z f) (hg : w.grownBy w' (some mb)) : PartsAt w' lo top A n c ps := by
  have h0 := h
  obtain ⟨vs, h1, _⟩ := h0
  refine h.other hg (fun a ha => ?_) (fun a m' k' p hp => ?_)
  · subst ha
    have := map_apart h1.2 hM
    simpa using this
  · have := map_apart hp hM
    simpa using this
theorem own_keepLo {E : TypeId} {k : Nat} {w w' : World} {lo L : Nat} {v : Value} {n : Nat} {xs : List Value} (h : w.ownsRow lo E k v n xs) (hb : Below L w w') (hL : ∀ b, v.ownBlock = some b → b < L) : w'.ownsRow lo E k v n xs := by
  refine ⟨h.1, ?_⟩
  rcases h.2 with hn | ⟨g, cap, cur, hv, hlo, hg, r⟩
  · exact .inl hn
  · exact .inr ⟨g, cap, cur, hv, hlo, (hb.block g (hL g (by rw [hv]; rfl))).trans hg, r⟩
theorem OwnB.keepLo {E : TypeId} {w w' : World} {lo L g n c : Nat} {xs : List Bool} (h : OwnB E w lo (some ⟨g, 0, none⟩) n c xs) (hb : Below L w w') (hL : g < L) : OwnB E w' lo (some ⟨g, 0, none⟩) n c xs :=
  own_keepLo h hb (fun b hb => by simp [Value.ownBlock] at hb; omega)
theorem PartsAt.keepLo {w w' : World} {lo top L : Nat} {A : Option Addr} {n c : Nat} {ps : List (List Int)} (h : PartsAt w lo top A n c ps) (hb : Below L w w') (hA : ∀ a, A = some a → a.block < L) (ht : top ≤ L) : PartsAt w' lo top A n c ps := by
  obtain ⟨vs, h1, h2, h3, h4, h5⟩ := h
  refine ⟨vs, ⟨h1.1, own_keepLo h1.2 hb (fun b hb => ?_)⟩, h2, fun i v p hv hp => own_keepLo (h3 i v p hv hp) hb (fun b hb => ?_), h4, h5⟩
  · rcases A with _ | a
    · simp [Value.ownBlock] at hb
    · simp [Value.ownBlock] at hb; rw [← hb]; exact hA a rfl
  · obtain ⟨v1, v2, v3⟩ := v
    rcases v1 with _ | a
    · simp [Value.ownBlock] at hb
    · simp [Value.ownBlock] at hb; have := h5 i _ hv a rfl; omega
theorem PartsAt.lt {w : World} {lo top : Nat} {A : Option Addr} {n c : Nat} {ps : List (List Int)} (h : PartsAt w lo top A n c ps) : ∀ a, A = some a → a.block < w.heap.size := fun a ha => by
  obtain ⟨vs, h1, _⟩ := h
  subst ha
  obtain ⟨cur, h⟩ := row_block h1.2
  exact (Array.getElem?_eq_some_iff.1 h).1
theorem grown_below {a b c : World} {row : Option Nat} (h : a.grownBy b row) (k : Below a.heap.size b c) : a.grownBy c row :=
  ⟨k.os.trans h.os, k.tape.trans h.tape, k.output.trans h.output, Nat.le_trans h.size k.size, fun i hi hne => (k.block i hi).trans (h.block i hi hne)⟩
/-- append of one slice, whose row lies behind all the others. -/
theorem wpList_appS {ops : Array Oper} {rest : List Oper} {o : Oper} {a : Act} {Q : Exit → Act → World → Prop} {w : World} (hgd : o.guard = none) (s x : Operand)
    (ho : o.op = .call { callee := .builtin .append, args := #[s, x], argTypes := #[28, 28] }) (lo top : Nat) (A : Option Addr) (n c : Nat) (ps : List (List Int)) (A3 : Option Addr) (n3 c3 : Nat) (p : List Int)
    (hs : a.eval s = .slice A n c) (hown : PartsAt w lo top A n c ps) (hp : OwnI 3 w lo A3 n3 c3 p) (hpn : ∀ y, A3 = some y → top ≤ y.block) (htop : top ≤ w.heap.size)
    (hx : a.eval x = .slice (some ⟨w.heap.size, 0, none⟩) 1 1)
    (hn : n ≤ 100000) (hlo : lo ≤ w.heap.size)
    (h : ∀ A' c' w', PartsAt w' lo w.heap.size A' (n + 1) c' (ps ++ [p]) → Below lo w w' → (∀ (gb lo' m k : Nat) (bs : List Bool), OwnB 4 w lo' (some ⟨gb, 0, none⟩) m k bs → OwnB 4 w' lo' (some ⟨gb, 0, none⟩) m k bs) →
      (∀ (P : Program) (kt : TypeId) (mb m : Nat) (z : Value) (f : Int → Value), MapI P kt w mb m z f → MapI P kt w' mb m z f) → (∀ (lo' : Nat) (a' : Addr) (m k : Nat) (q : List Int), OwnI 3 w lo' (some a') m k q → OwnI 3 w' lo' (some a') m k q) →
      wpList Tryz.prog ops Q rest (a.put o.dst (.slice A' (n + 1) c')) w') :
    wpList Tryz.prog ops Q (o :: rest) a (w.alloc (.cells #[.slice A3 n3 c3] 22)) := by
  obtain ⟨vs, h1, h2, h3, h4, h5⟩ := hown
  have hal : Below w.heap.size w (w.alloc (.cells #[.slice A3 n3 c3] 22)) := below_new (Below.refl _ _) _
  have hz : (Tryz.prog.info? 22).map (fun i => (i.zero, i.size, i.bytes)) = some (some (.slice none 0 0), 1, 24) := by kernel_rfl
  obtain ⟨i0, hi, hz0, hz1, hz2⟩ := info_parts hz
  refine wpList_appK (enc := encS) (k := 1) (E := 22) hgd s x 28 ho i0 (.slice none 0 0) 24 Tryz.underlying28 hi hz0 hz1 hz2 rfl (by decide) (by decide) (fun _ => rfl) (fun v u hu => ?_) [(A3, n3, c3)] ⟨w.heap.size, 0, none⟩ 1 1 hs (h1.keep hal) hx rfl (fun j u hj => ?_) (by omega) (by simp; omega) ?_
  · simp [encS] at hu; subst hu; rfl
  · match j, hj with
    | 0, hj =>
      simp [encS] at hj; subst hj
      exact cell_of_row (w.alloc (.cells #[.slice A3 n3 c3] 22)) w.heap.size 0 #[.slice A3 n3 c3] 22 (0, 0) (heap_alloc_new w _)
    | j + 1, hj => simp [encS] at hj
  · intro A' c' w' hK hgr hbl
    have hgw : w.grownBy w' (rowOf A) := grown_next (grown_of_below hal _) (by rcases A with _ | b <;> exact hgr)
    have keepI : ∀ (lo' : Nat) (a' : Addr) (m k : Nat) (q : List Int), OwnI 3 w lo' (some a') m k q → OwnI 3 w' lo' (some a') m k q := fun lo' a' m k q hq => hq.other hgw (fun a ha => by
      injection ha with ha
      subst ha
      rcases A with _ | b
      · simp [rowOf]
      · have := rows_apart (by decide : 3 ≠ 22) hq h1.2
        simpa [rowOf] using this)
    have keepN : ∀ (lo' : Nat) (v : Option Addr) (m k : Nat) (q : List Int), OwnI 3 w lo' v m k q → OwnI 3 w' lo' v m k q := fun lo' v m k q hq => by
      rcases v with _ | v
      · exact hq.other hgw (fun a ha => by cases ha)
      · exact keepI lo' v m k q hq
    refine h A' c' w' ⟨vs ++ [(A3, n3, c3)], hK, by rw [List.length_append, h2]; rfl, fun i v q hv hq => ?_, fun i j v u hij hv hu y z hy hz => ?_, fun i v hv y hy => ?_⟩ ((Below.refl _ _).alloc hlo _ |>.trans hbl) (fun gb lo' m k bs hB => hB.other hgw (fun a ha => ?_)) (fun P kt mb m z f hM => hM.other hgw ?_) keepI
    · have hvl : vs.length = n := h1.len
      by_cases e : i < n
      · rw [List.getElem?_append_left (by omega)] at hv
        rw [List.getElem?_append_left (by omega)] at hq
        exact keepN _ _ _ _ _ (h3 i v q hv hq)
      · rw [List.getElem?_append_right (by omega)] at hv
        rw [List.getElem?_append_right (by omega)] at hq
        have e0 : i - n = 0 := by
          rcases Nat.eq_zero_or_pos (i - n) with h | h
          · exact h
          · rw [hvl, List.getElem?_eq_none (by simp; omega)] at hv; cases hv
        rw [hvl, e0] at hv
        rw [h2, e0] at hq
        simp at hv hq
        subst hv; subst hq
        exact keepN _ _ _ _ _ hp
    · have hvl : vs.length = n := h1.len
      have hj : j < (vs ++ [(A3, n3, c3)]).length := (List.getElem?_eq_some_iff.1 hu).1
      rw [List.length_append, hvl] at hj
      simp only [List.length_cons, List.length_nil] at hj
      rw [List.getElem?_append_left (by omega)] at hv
      by_cases e : j < n
      · rw [List.getElem?_append_left (by omega)] at hu
        exact h4 i j v u hij hv hu y z hy hz
      · rw [List.getElem?_append_right (by omega), hvl, show j - n = 0 by omega] at hu
        simp at hu; subst hu
        have := h5 i v hv y hy
        have := hpn z hz
        omega
    · have hvl : vs.length = n := h1.len
      by_cases e : i < n
      · rw [List.getElem?_append_left (by omega)] at hv
        have := h5 i v hv y hy
        omega
      · have hj : i < (vs ++ [(A3, n3, c3)]).length := (List.getElem?_eq_some_iff.1 hv).1
        rw [List.length_append, hvl] at hj
        simp only [List.length_cons, List.length_nil] at hj
        rw [List.getElem?_append_right (by omega), hvl, show i - n = 0 by omega] at hv
        simp at hv; subst hv
        rcases hp.form with ⟨h, _⟩ | ⟨g, h, _, h2, _⟩
        · rw [h] at hy; cases hy
        · rw [h] at hy; injection hy with hy; rw [← hy]; exact h2
    · injection ha with ha
      subst ha
      rcases A with _ | b
      · simp [rowOf]
      · have := rows_apart (by decide : 4 ≠ 22) hB h1.2
        simpa [rowOf] using this
    · rcases A with _ | b
      · simp [rowOf]
      · have := map_apart h1.2 hM
        intro e; injection e with e; exact this e.symm

end Go.Proofs.YtbpgkigoboobeaaGreat
