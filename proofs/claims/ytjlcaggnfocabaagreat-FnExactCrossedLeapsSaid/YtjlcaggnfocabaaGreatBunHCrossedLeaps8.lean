/-
  Rows of booleans, rows of slices: memory words of no law (split from P1: imports no chapter 2).
  A row of slices as an answer: what keeps it, how it is compared, marked, held.
  Contracts: rows of slices compared, marked, held.
  DERIVED: THE SHELF's CONTRACTS AT THIS DUMP, IN PLAIN WORDS (tools/lay-plain.mjs out of 'TryzSortfShelf.lean', which tools/lay-shelf.mjs wrote): THE SAME DECLARATIONS UNDER THE SAME NAMES: 'import', 'namespace', 'open', 'def', 'theorem' AND NOTHING ELSE: no command of the shelf's: FOR A HAND-IN. Each laying: the table of numbers ('.._ren') and one theorem, a field a fact of the dump's own or the kernel's comparison; each contract: ONE APPLICATION.
  Contracts: spots compared.
  Contracts: slices.Compact at spots.
-/
import Derived.Test.YtjlcaggnfocabaaGreatBunHCrossedLeaps7
import Derived.Test.YtjlcaggnfocabaaGreatBunHCrossedLeaps1
import Derived.Test.YtjlcaggnfocabaaGreatBunHCrossedLeaps2
import Derived.Deep.RegionHeld3
import Derived.Shelf.SlSortCmp.WholeK
import Derived.Ground.SlsfProg
import Derived.Test.YtjlcaggnfocabaaGreatProg
import Derived.Test.YtjlcaggnfocabaaGreatBunHCrossedLeaps5
import Derived.Outline
import Derived.Lib.SlicesCompact
import Derived.Laws.StructEq
namespace Go.Proofs.YtjlcaggnfocabaaGreat
open Go.RowKit

/-! ### A row of booleans that the call owns -/
def OwnB (E : TypeId) (w : World) (lo : Nat) (A : Option Addr) (n c : Nat) (xs : List Bool) : Prop := w.ownsRow lo E 1 (.slice A n c) n (xs.map Value.bool)
section
variable {E : TypeId} {w w' : World} {lo : Nat} {A : Option Addr} {n c : Nat} {xs : List Bool}
theorem OwnB.len (h : OwnB E w lo A n c xs) : xs.length = n := by simpa [OwnB] using h.1
theorem OwnB.cell {g k : Nat} {x : Bool} (h : OwnB E w lo (some ⟨g, 0, none⟩) n c xs) (hx : xs[k]? = some x) : w.cell? ⟨g, k, none⟩ = some (.bool x) := by
  have hl := h.len
  have hk : k < n := by
    rcases Nat.lt_or_ge k xs.length with h' | h'
    · omega
    · rw [List.getElem?_eq_none h'] at hx; cases hx
  rw [World.ownsRow.cellAt h k (by omega), List.getElem?_map, hx]; rfl
theorem OwnB.frozen {g : Nat} (h : OwnB E w lo (some ⟨g, 0, none⟩) n c xs) (k : Nat) : w.frozen? ⟨g, k, none⟩ = false := World.ownsRow.frozenAt h k
theorem OwnB.stored {g : Nat} (h : OwnB E w lo (some ⟨g, 0, none⟩) n c xs) (k : Nat) (x : Bool) :
    OwnB E (w.setCell ⟨g, k, none⟩ (.bool x)) lo (some ⟨g, 0, none⟩) n c (xs.set k x) ∧ w.grownBy (w.setCell ⟨g, k, none⟩ (.bool x)) (some g) := by
  have := World.ownsRow.stored h k (.bool x)
  rw [← List.map_set] at this
  exact this
theorem OwnB.keep (h : OwnB E w lo A n c xs) (hb : Below w.heap.size w w') : OwnB E w' lo A n c xs := by
  refine ⟨h.1, ?_⟩
  rcases h.2 with hn | ⟨g, cap, cur, hv, hlo, hg, r⟩
  · exact .inl hn
  · exact .inr ⟨g, cap, cur, hv, hlo, (hb.block g (Array.getElem?_eq_some_iff.1 hg).1).trans hg, r⟩
theorem OwnB.other {row : Option Nat} (h : OwnB E w lo A n c xs) (hg : w.grownBy w' row) (hne : ∀ a, A = some a → some a.block ≠ row) : OwnB E w' lo A n c xs := by
  refine ⟨h.1, ?_⟩
  rcases h.2 with hn | ⟨g, cap, cur, hv, hlo, hgg, r⟩
  · exact .inl hn
  · refine .inr ⟨g, cap, cur, hv, hlo, ?_, r⟩
    injection hv with h1
    rw [hg.block g (Array.getElem?_eq_some_iff.1 hgg).1 (hne _ h1)]
    exact hgg
end
theorem infoBl : (Tryz.prog.info? 4).map (fun i => (i.zero, i.size, i.bytes)) = some (some (.bool false), 1, 1) := by kernel_rfl
/-- f 0, f 1, .. : N of them. -/
def boolRow (f : Nat → Bool) (N : Nat) : List Bool := (List.range N).map f
theorem boolRow_at {f : Nat → Bool} {N i : Nat} (h : i < N) : (boolRow f N)[i]? = some (f i) := by simp [boolRow, h]
theorem boolRow_congr {f g : Nat → Bool} {N : Nat} (h : ∀ i, i < N → f i = g i) : boolRow f N = boolRow g N := by
  apply List.map_congr_left; intro i hi; exact h i (List.mem_range.1 hi)
theorem boolRow_set (f : Nat → Bool) (N k : Nat) (b : Bool) : (boolRow f N).set k b = boolRow (fun i => if i = k then b else f i) N := by
  apply List.ext_getElem?
  intro i
  rw [List.getElem?_set]
  by_cases hi : i < N
  · by_cases e : k = i
    · subst e; rw [if_pos rfl, if_pos (by simpa [boolRow] using hi), boolRow_at hi, if_pos rfl]
    · rw [if_neg e, boolRow_at hi, boolRow_at hi, if_neg (fun h => e h.symm)]
  · rw [List.getElem?_eq_none (by simpa [boolRow] using hi), List.getElem?_eq_none (by simpa [boolRow] using hi)]
    split
    · rw [if_neg (by simp [boolRow]; omega)]
    · rfl

/-! ### Blocks that are told apart by what they hold -/
theorem row_block {w : World} {lo : Nat} {E : TypeId} {k : Nat} {a : Addr} {n c : Nat} {xs : List Value} (h : w.ownsRow lo E k (.slice (some a) n c) n xs) : ∃ cur, w.heap[a.block]? = some (.cells cur E (0, 0)) := by
  rcases h.2 with ⟨hv, _⟩ | ⟨g, cap, cur, hv, _, hg, _⟩
  · cases hv
  · injection hv with h1
    injection h1 with h1
    subst h1
    exact ⟨cur, hg⟩
theorem rows_apart {w : World} {lo lo' : Nat} {E E' : TypeId} {k k' : Nat} {a a' : Addr} {n c n' c' : Nat} {xs ys : List Value} (hne : E ≠ E') (h : w.ownsRow lo E k (.slice (some a) n c) n xs) (h' : w.ownsRow lo' E' k' (.slice (some a') n' c') n' ys) : a.block ≠ a'.block := by
  obtain ⟨c1, h1⟩ := row_block h
  obtain ⟨c2, h2⟩ := row_block h'
  intro e
  rw [e, h2] at h1
  injection h1 with h1
  injection h1 with _ h1 _
  exact hne h1.symm
theorem map_apart {w : World} {lo : Nat} {E : TypeId} {k : Nat} {a : Addr} {n c : Nat} {xs : List Value} {P : Program} {kt : TypeId} {mb m : Nat} {z : Value} {f : Int → Value} (h : w.ownsRow lo E k (.slice (some a) n c) n xs) (hm : MapI P kt w mb m z f) : a.block ≠ mb := by
  obtain ⟨c1, h1⟩ := row_block h
  obtain ⟨D, ⟨es, cl, h2, _⟩, _⟩ := hm
  intro e
  rw [e, h2] at h1
  cases h1

/-! ### A row of slices, each a row of its own -/
abbrev SlV := Option Addr × Nat × Nat
def encS (v : SlV) : List Value := [.slice v.1 v.2.1 v.2.2]
/-- The slice '.slice A n c' holds slices that read as the lists ps, each in a block of the call's own. -/
def PartsAt (w : World) (lo top : Nat) (A : Option Addr) (n c : Nat) (ps : List (List Int)) : Prop :=
  ∃ vs : List SlV, OwnK encS 1 22 w lo A n c vs ∧ ps.length = n ∧ (∀ (i : Nat) (v : SlV) (p : List Int), vs[i]? = some v → ps[i]? = some p → OwnI 3 w lo v.1 v.2.1 v.2.2 p) ∧
    (∀ (i j : Nat) (v u : SlV), i < j → vs[i]? = some v → vs[j]? = some u → ∀ x y, v.1 = some x → u.1 = some y → x.block < y.block) ∧
    ∀ (i : Nat) (v : SlV), vs[i]? = some v → ∀ x, v.1 = some x → x.block < top
theorem PartsAt.none_ (w : World) (lo top : Nat) : PartsAt w lo top none 0 0 [] := ⟨[], OwnK.none_ _ _ _ _ _, rfl, fun i v p h => by simp at h, fun i j v u _ h => by simp at h, fun i v h => by simp at h⟩
theorem PartsAt.other {w w' : World} {lo top : Nat} {A : Option Addr} {n c : Nat} {ps : List (List Int)} {row : Option Nat} (h : PartsAt w lo top A n c ps) (hg : w.grownBy w' row)
    (hA : ∀ a, A = some a → some a.block ≠ row) (hI : ∀ (a : Addr) (m k : Nat) (p : List Int), OwnI 3 w lo (some a) m k p → some a.block ≠ row) : PartsAt w' lo top A n c ps := by
  obtain ⟨vs, h1, h2, h3, h4, h5⟩ := h
  refine ⟨vs, h1.other hg hA, h2, fun i v p hv hp => (h3 i v p hv hp).other hg (fun a ha => ?_), h4, h5⟩
  have h5 := h3 i v p hv hp
  rw [ha] at h5
  exact hI a _ _ _ h5
theorem PartsAt.keep {w w' : World} {lo top : Nat} {A : Option Addr} {n c : Nat} {ps : List (List Int)} (h : PartsAt w lo top A n c ps) (hb : Below w.heap.size w w') : PartsAt w' lo top A n c ps :=
  h.other (grown_of_below hb none) (fun _ _ => by simp) (fun _ _ _ _ _ => by simp)
theorem PartsAt.lower {w : World} {lo lo' top : Nat} {A : Option Addr} {n c : Nat} {ps : List (List Int)} (h : PartsAt w lo top A n c ps) (hl : lo' ≤ lo) : PartsAt w lo' top A n c ps := by
  obtain ⟨vs, h1, h2, h3, h4, h5⟩ := h
  exact ⟨vs, h1.lower hl, h2, fun i v p hv hp => (h3 i v p hv hp).lower hl, h4, h5⟩
theorem PartsAt.len {w : World} {lo top : Nat} {A : Option Addr} {n c : Nat} {ps : List (List Int)} (h : PartsAt w lo top A n c ps) : ps.length = n := by obtain ⟨_, _, h, _⟩ := h; exact h
/-- A write into a row of booleans leaves it alone. -/
theorem PartsAt.bools {w w' : World} {lo lo' top : Nat} {A : Option Addr} {n c : Nat} {ps : List (List Int)} {gb m k : Nat} {bs : List Bool} (h : PartsAt w lo top A n c ps) (hB : OwnB 4 w lo' (some ⟨gb, 0, none⟩) m k bs) (hg : w.grownBy w' (some gb)) : PartsAt w' lo top A n c ps := by
  have h0 := h
  obtain ⟨vs, h1, _⟩ := h0
  refine h.other hg (fun a ha => ?_) (fun a m' k' p hp => ?_)
  · subst ha
    have := rows_apart (by decide : 22 ≠ 4) h1.2 hB
    simpa using this
  · have := rows_apart (by decide : 3 ≠ 4) hp hB
    simpa using this
/-- An update of a map leaves it alone. -/
theorem PartsAt.maps {w w' : World} {lo top : Nat} {A : Option Addr} {n c : Nat} {ps : List (List Int)} {P : Program} {kt : TypeId} {mb m : Nat} {z : Value} {f : Int → Value} (h : PartsAt w lo top A n c ps) (hM : MapI P kt w mb m z f) (hg : w.grownBy w' (some mb)) : PartsAt w' lo top A n c ps := by
  have h0 := h
  obtain ⟨vs, h1, _⟩ := h0
  refine h.other hg (fun a ha => ?_) (fun a m' k' p hp => ?_)
  · subst ha
    have := map_apart h1.2 hM
    simpa using this
  · have := map_apart hp hM
    simpa using this
theorem own_keepLo {E : TypeId} {k : Nat} {w w' : World} {lo L : Nat} {v : Value} {n : Nat} {xs : List Value} (h : w.ownsRow lo E k v n xs) (hb : Below L w w') (hL : ∀ b, v.ownBlock = some b → b < L) : w'.ownsRow lo E k v n xs := by
  refine ⟨h.1, ?_⟩
  rcases h.2 with hn | ⟨g, cap, cur, hv, hlo, hg, r⟩
  · exact .inl hn
  · exact .inr ⟨g, cap, cur, hv, hlo, (hb.block g (hL g (by rw [hv]; rfl))).trans hg, r⟩
theorem OwnB.keepLo {E : TypeId} {w w' : World} {lo L g n c : Nat} {xs : List Bool} (h : OwnB E w lo (some ⟨g, 0, none⟩) n c xs) (hb : Below L w w') (hL : g < L) : OwnB E w' lo (some ⟨g, 0, none⟩) n c xs :=
  own_keepLo h hb (fun b hb => by simp [Value.ownBlock] at hb; omega)
theorem PartsAt.keepLo {w w' : World} {lo top L : Nat} {A : Option Addr} {n c : Nat} {ps : List (List Int)} (h : PartsAt w lo top A n c ps) (hb : Below L w w') (hA : ∀ a, A = some a → a.block < L) (ht : top ≤ L) : PartsAt w' lo top A n c ps := by
  obtain ⟨vs, h1, h2, h3, h4, h5⟩ := h
  refine ⟨vs, ⟨h1.1, own_keepLo h1.2 hb (fun b hb => ?_)⟩, h2, fun i v p hv hp => own_keepLo (h3 i v p hv hp) hb (fun b hb => ?_), h4, h5⟩
  · rcases A with _ | a
    · simp [Value.ownBlock] at hb
    · simp [Value.ownBlock] at hb; rw [← hb]; exact hA a rfl
  · obtain ⟨v1, v2, v3⟩ := v
    rcases v1 with _ | a
    · simp [Value.ownBlock] at hb
    · simp [Value.ownBlock] at hb; have := h5 i _ hv a rfl; omega
theorem PartsAt.lt {w : World} {lo top : Nat} {A : Option Addr} {n c : Nat} {ps : List (List Int)} (h : PartsAt w lo top A n c ps) : ∀ a, A = some a → a.block < w.heap.size := fun a ha => by
  obtain ⟨vs, h1, _⟩ := h
  subst ha
  obtain ⟨cur, h⟩ := row_block h1.2
  exact (Array.getElem?_eq_some_iff.1 h).1
theorem grown_below {a b c : World} {row : Option Nat} (h : a.grownBy b row) (k : Below a.heap.size b c) : a.grownBy c row :=
  ⟨k.os.trans h.os, k.tape.trans h.tape, k.output.trans h.output, Nat.le_trans h.size k.size, fun i hi hne => (k.block i hi).trans (h.block i hi hne)⟩
/-- append of one slice, whose row lies behind all the others. -/
theorem wpList_appS {ops : Array Oper} {rest : List Oper} {o : Oper} {a : Act} {Q : Exit → Act → World → Prop} {w : World} (hgd : o.guard = none) (s x : Operand)
    (ho : o.op = .call { callee := .builtin .append, args := #[s, x], argTypes := #[28, 28] }) (lo top : Nat) (A : Option Addr) (n c : Nat) (ps : List (List Int)) (A3 : Option Addr) (n3 c3 : Nat) (p : List Int)
    (hs : a.eval s = .slice A n c) (hown : PartsAt w lo top A n c ps) (hp : OwnI 3 w lo A3 n3 c3 p) (hpn : ∀ y, A3 = some y → top ≤ y.block) (htop : top ≤ w.heap.size)
    (hx : a.eval x = .slice (some ⟨w.heap.size, 0, none⟩) 1 1)
    (hn : n ≤ 100000) (hlo : lo ≤ w.heap.size)
    (h : ∀ A' c' w', PartsAt w' lo w.heap.size A' (n + 1) c' (ps ++ [p]) → Below lo w w' → (∀ (gb lo' m k : Nat) (bs : List Bool), OwnB 4 w lo' (some ⟨gb, 0, none⟩) m k bs → OwnB 4 w' lo' (some ⟨gb, 0, none⟩) m k bs) →
      (∀ (P : Program) (kt : TypeId) (mb m : Nat) (z : Value) (f : Int → Value), MapI P kt w mb m z f → MapI P kt w' mb m z f) → (∀ (lo' : Nat) (a' : Addr) (m k : Nat) (q : List Int), OwnI 3 w lo' (some a') m k q → OwnI 3 w' lo' (some a') m k q) →
      wpList Tryz.prog ops Q rest (a.put o.dst (.slice A' (n + 1) c')) w') :
    wpList Tryz.prog ops Q (o :: rest) a (w.alloc (.cells #[.slice A3 n3 c3] 22)) := by
  obtain ⟨vs, h1, h2, h3, h4, h5⟩ := hown
  have hal : Below w.heap.size w (w.alloc (.cells #[.slice A3 n3 c3] 22)) := below_new (Below.refl _ _) _
  have hz : (Tryz.prog.info? 22).map (fun i => (i.zero, i.size, i.bytes)) = some (some (.slice none 0 0), 1, 24) := by kernel_rfl
  obtain ⟨i0, hi, hz0, hz1, hz2⟩ := info_parts hz
  refine wpList_appK (enc := encS) (k := 1) (E := 22) hgd s x 28 ho i0 (.slice none 0 0) 24 Tryz.underlying28 hi hz0 hz1 hz2 rfl (by decide) (by decide) (fun _ => rfl) (fun v u hu => ?_) [(A3, n3, c3)] ⟨w.heap.size, 0, none⟩ 1 1 hs (h1.keep hal) hx rfl (fun j u hj => ?_) (by omega) (by simp; omega) ?_
  · simp [encS] at hu; subst hu; rfl
  · match j, hj with
    | 0, hj =>
      simp [encS] at hj; subst hj
      exact cell_of_row (w.alloc (.cells #[.slice A3 n3 c3] 22)) w.heap.size 0 #[.slice A3 n3 c3] 22 (0, 0) (heap_alloc_new w _)
    | j + 1, hj => simp [encS] at hj
  · intro A' c' w' hK hgr hbl
    have hgw : w.grownBy w' (rowOf A) := grown_next (grown_of_below hal _) (by rcases A with _ | b <;> exact hgr)
    have keepI : ∀ (lo' : Nat) (a' : Addr) (m k : Nat) (q : List Int), OwnI 3 w lo' (some a') m k q → OwnI 3 w' lo' (some a') m k q := fun lo' a' m k q hq => hq.other hgw (fun a ha => by
      injection ha with ha
      subst ha
      rcases A with _ | b
      · simp [rowOf]
      · have := rows_apart (by decide : 3 ≠ 22) hq h1.2
        simpa [rowOf] using this)
    have keepN : ∀ (lo' : Nat) (v : Option Addr) (m k : Nat) (q : List Int), OwnI 3 w lo' v m k q → OwnI 3 w' lo' v m k q := fun lo' v m k q hq => by
      rcases v with _ | v
      · exact hq.other hgw (fun a ha => by cases ha)
      · exact keepI lo' v m k q hq
    refine h A' c' w' ⟨vs ++ [(A3, n3, c3)], hK, by rw [List.length_append, h2]; rfl, fun i v q hv hq => ?_, fun i j v u hij hv hu y z hy hz => ?_, fun i v hv y hy => ?_⟩ ((Below.refl _ _).alloc hlo _ |>.trans hbl) (fun gb lo' m k bs hB => hB.other hgw (fun a ha => ?_)) (fun P kt mb m z f hM => hM.other hgw ?_) keepI
    · have hvl : vs.length = n := h1.len
      by_cases e : i < n
      · rw [List.getElem?_append_left (by omega)] at hv
        rw [List.getElem?_append_left (by omega)] at hq
        exact keepN _ _ _ _ _ (h3 i v q hv hq)
      · rw [List.getElem?_append_right (by omega)] at hv
        rw [List.getElem?_append_right (by omega)] at hq
        have e0 : i - n = 0 := by
          rcases Nat.eq_zero_or_pos (i - n) with h | h
          · exact h
          · rw [hvl, List.getElem?_eq_none (by simp; omega)] at hv; cases hv
        rw [hvl, e0] at hv
        rw [h2, e0] at hq
        simp at hv hq
        subst hv; subst hq
        exact keepN _ _ _ _ _ hp
    · have hvl : vs.length = n := h1.len
      have hj : j < (vs ++ [(A3, n3, c3)]).length := (List.getElem?_eq_some_iff.1 hu).1
      rw [List.length_append, hvl] at hj
      simp only [List.length_cons, List.length_nil] at hj
      rw [List.getElem?_append_left (by omega)] at hv
      by_cases e : j < n
      · rw [List.getElem?_append_left (by omega)] at hu
        exact h4 i j v u hij hv hu y z hy hz
      · rw [List.getElem?_append_right (by omega), hvl, show j - n = 0 by omega] at hu
        simp at hu; subst hu
        have := h5 i v hv y hy
        have := hpn z hz
        omega
    · have hvl : vs.length = n := h1.len
      by_cases e : i < n
      · rw [List.getElem?_append_left (by omega)] at hv
        have := h5 i v hv y hy
        omega
      · have hj : i < (vs ++ [(A3, n3, c3)]).length := (List.getElem?_eq_some_iff.1 hv).1
        rw [List.length_append, hvl] at hj
        simp only [List.length_cons, List.length_nil] at hj
        rw [List.getElem?_append_right (by omega), hvl, show i - n = 0 by omega] at hv
        simp at hv; subst hv
        rcases hp.form with ⟨h, _⟩ | ⟨g, h, _, h2, _⟩
        · rw [h] at hy; cases hy
        · rw [h] at hy; injection hy with hy; rw [← hy]; exact h2
    · injection ha with ha
      subst ha
      rcases A with _ | b
      · simp [rowOf]
      · have := rows_apart (by decide : 4 ≠ 22) hB h1.2
        simpa [rowOf] using this
    · rcases A with _ | b
      · simp [rowOf]
      · have := map_apart h1.2 hM
        intro e; injection e with e; exact this e.symm

end Go.Proofs.YtjlcaggnfocabaaGreat

namespace Go.Proofs.YtjlcaggnfocabaaGreat
open Go.RowKit

/-- A row of slices, all of it in the blocks from lo to hi. -/
def OwnSS (w : World) (lo hi : Nat) (A : Option Addr) (n c : Nat) (ps : List (List Int)) : Prop := PartsAt w lo hi A n c ps ∧ ∀ a, A = some a → a.block < hi
theorem own_lo {w : World} {lo : Nat} {E : TypeId} {k : Nat} {a : Addr} {n c : Nat} {xs : List Value} (h : w.ownsRow lo E k (.slice (some a) n c) n xs) : lo ≤ a.block ∧ a.block < w.heap.size := by
  have := World.ownsRow.lt h a.block rfl; exact this
theorem OwnSS.of {w : World} {lo top : Nat} {A : Option Addr} {n c : Nat} {ps : List (List Int)} (h : PartsAt w lo top A n c ps) : OwnSS w lo w.heap.size A n c ps := by
  refine ⟨?_, h.lt⟩
  obtain ⟨vs, h1, h2, h3, h4, _⟩ := h
  refine ⟨vs, h1, h2, h3, h4, fun i v hv x hx => ?_⟩
  obtain ⟨p, hp⟩ : ∃ p, ps[i]? = some p := ⟨_, List.getElem?_eq_getElem (by have := (List.getElem?_eq_some_iff.1 hv).1; have := h1.len; omega)⟩
  have h5 := h3 i v p hv hp
  rw [hx] at h5
  exact (own_lo h5).2
theorem OwnSS.keep {w w' : World} {lo hi : Nat} {A : Option Addr} {n c : Nat} {ps : List (List Int)} (h : OwnSS w lo hi A n c ps) (hb : Below w.heap.size w w') : OwnSS w' lo hi A n c ps := ⟨h.1.keep hb, h.2⟩
theorem OwnSS.drew1 {w : World} {lo hi : Nat} {A : Option Addr} {n c : Nat} {ps : List (List Int)} (h : OwnSS w lo hi A n c ps) : OwnSS w.drew lo hi A n c ps := h
theorem OwnSS.len {w : World} {lo hi : Nat} {A : Option Addr} {n c : Nat} {ps : List (List Int)} (h : OwnSS w lo hi A n c ps) : ps.length = n := h.1.len
/-- Kept as long as no block from lo to hi is written. -/
theorem OwnSS.blocks {w w' : World} {lo hi : Nat} {A : Option Addr} {n c : Nat} {ps : List (List Int)} (h : OwnSS w lo hi A n c ps) (hk : ∀ i, i < w.heap.size → lo ≤ i → i < hi → w'.heap[i]? = w.heap[i]?) : OwnSS w' lo hi A n c ps := by
  obtain ⟨⟨vs, h1, h2, h3, h4, h5⟩, h6⟩ := h
  have key : ∀ {E : TypeId} {k : Nat} {v : Option Addr} {n c : Nat} {xs : List Value}, w.ownsRow lo E k (.slice v n c) n xs → (∀ x, v = some x → x.block < hi) → w'.ownsRow lo E k (.slice v n c) n xs := by
    intro E k v n c xs h hv
    refine ⟨h.1, ?_⟩
    rcases h.2 with hn | ⟨g, cap, cur, he, hlo, hg, r⟩
    · exact .inl hn
    · have hgv : g < hi := by
        injection he with he
        exact hv _ he
      exact .inr ⟨g, cap, cur, he, hlo, (hk g (Array.getElem?_eq_some_iff.1 hg).1 hlo hgv).trans hg, r⟩
  exact ⟨⟨vs, ⟨h1.1, key h1.2 h6⟩, h2, fun i v p hv hp => key (h3 i v p hv hp) (h5 i v hv), h4, h5⟩, h6⟩
theorem OwnSS.other {w w' : World} {lo hi : Nat} {A : Option Addr} {n c : Nat} {ps : List (List Int)} {row : Option Nat} (h : OwnSS w lo hi A n c ps) (hg : w.grownBy w' row) (hne : ∀ g, lo ≤ g → g < hi → some g ≠ row) : OwnSS w' lo hi A n c ps :=
  h.blocks (fun i hi1 h1 h2 => hg.block i hi1 (hne i h1 h2))
/-- Whatever was written lies in the blocks from lo to hi. -/
structure Within (lo hi : Nat) (w w' : World) : Prop where
  os : w'.os = w.os
  tape : w'.tape = w.tape
  output : w'.output = w.output
  size : w.heap.size ≤ w'.heap.size
  block : ∀ i, i < w.heap.size → (i < lo ∨ hi ≤ i) → w'.heap[i]? = w.heap[i]?
theorem cell_of_block {w w' : World} {b i : Nat} (h : w'.heap[b]? = w.heap[b]?) : w'.cell? ⟨b, i, none⟩ = w.cell? ⟨b, i, none⟩ := by
  unfold World.cell?
  simp only [h]
theorem cell_in {w w' : World} {lo hi b i : Nat} {v : Value} (h : w.cell? ⟨b, i, none⟩ = some v) (hg : Within lo hi w w') (hl : b < w.heap.size) (ho : b < lo ∨ hi ≤ b) : w'.cell? ⟨b, i, none⟩ = some v := (cell_of_block (hg.block b hl ho)).trans h
theorem OwnI.within {E : TypeId} {w w' : World} {lo0 lo hi : Nat} {A : Option Addr} {n c : Nat} {xs : List Int} (h : OwnI E w lo0 A n c xs) (hg : Within lo hi w w') (ho : ∀ a, A = some a → a.block < lo ∨ hi ≤ a.block) : OwnI E w' lo0 A n c xs := by
  refine ⟨h.1, ?_⟩
  rcases h.2 with hn | ⟨g, cap, cur, hv, hlo, hgg, r⟩
  · exact .inl hn
  · refine .inr ⟨g, cap, cur, hv, hlo, ?_, r⟩
    injection hv with h1
    exact (hg.block g (Array.getElem?_eq_some_iff.1 hgg).1 (ho _ h1)).trans hgg
theorem OwnSS.within {w w' : World} {lo0 hi0 lo hi : Nat} {A : Option Addr} {n c : Nat} {ps : List (List Int)} (h : OwnSS w lo0 hi0 A n c ps) (hg : Within lo hi w w') (ho : hi0 ≤ lo ∨ hi ≤ lo0) : OwnSS w' lo0 hi0 A n c ps :=
  h.blocks (fun i hi1 h1 h2 => hg.block i hi1 (by omega))
theorem below_within {a w w' : World} {lo hi : Nat} (h : Below a.heap.size a w) (hg : Within lo hi w w') (hl : a.heap.size ≤ lo) : Below a.heap.size a w' :=
  ⟨hg.os.trans h.os, hg.tape.trans h.tape, hg.output.trans h.output, Nat.le_trans h.size hg.size, fun i hi => (hg.block i (Nat.lt_of_lt_of_le hi h.size) (by omega)).trans (h.block i hi)⟩
theorem within_refl (lo hi : Nat) (w : World) : Within lo hi w w := ⟨rfl, rfl, rfl, Nat.le_refl _, fun _ _ _ => rfl⟩
theorem within_drew {lo hi : Nat} {w w' : World} (h : Within lo hi w w') : Within lo hi w w'.drew := ⟨h.os, h.tape, h.output, h.size, h.block⟩
theorem within_grown {lo hi : Nat} {a b c : World} {A : Option Addr} (h : Within lo hi a b) (hg : b.grownBy c (rowOf A)) (hA : ∀ x, A = some x → lo ≤ x.block ∧ x.block < hi) : Within lo hi a c :=
  ⟨hg.os.trans h.os, hg.tape.trans h.tape, hg.output.trans h.output, Nat.le_trans h.size hg.size, fun i hi1 ho => (hg.block i (Nat.lt_of_lt_of_le hi1 h.size) (by
    rcases A with _ | x
    · simp [rowOf]
    · have := hA x rfl
      simp [rowOf]; omega)).trans (h.block i hi1 ho)⟩
/-- Part i of the row: its slice, its list; and the row when it is written over. -/
theorem OwnSS.at_ {w : World} {lo hi : Nat} {A : Option Addr} {n c : Nat} {ps : List (List Int)} (h : OwnSS w lo hi A n c ps) {i : Nat} (hi1 : i < n) :
    ∃ g V m k p, A = some ⟨g, 0, none⟩ ∧ g < w.heap.size ∧ w.cell? ⟨g, i, none⟩ = some (.slice V m k) ∧ ps[i]? = some p ∧ OwnI 3 w lo V m k p ∧ (∀ x, V = some x → lo ≤ x.block ∧ x.block < hi) ∧
      ∀ w' p', OwnI 3 w' lo V m k p' → w.grownBy w' (rowOf V) → OwnSS w' lo hi A n c (ps.set i p') := by
  obtain ⟨⟨vs, h1, h2, h3, h4, h5⟩, h6⟩ := h
  obtain ⟨g, rfl, hg1, hg2⟩ := h1.some_ hi1
  have hvl := h1.len
  obtain ⟨⟨V, m, k⟩, hv⟩ : ∃ v, vs[i]? = some v := ⟨_, List.getElem?_eq_getElem (by omega)⟩
  have hp : ps[i]? = some ps[i] := List.getElem?_eq_getElem (by omega)
  have ho := h3 i _ _ hv hp
  have hc := OwnK.cell (enc := encS) (k := 1) (j := 0) (fun _ => rfl) h1 hv (show (encS (V, m, k))[0]? = some (.slice V m k) from rfl)
  rw [show i * 1 + 0 = i by omega] at hc
  have hb : ∀ x, V = some x → lo ≤ x.block ∧ x.block < hi := fun x hx => by
    refine ⟨?_, h5 i _ hv x hx⟩
    have ho' := ho
    rw [show (V, m, k).1 = some x from hx] at ho'
    exact (own_lo ho').1
  refine ⟨g, V, m, k, ps[i], rfl, hg2, hc, hp, ho, hb, fun w' p' hw hgr => ⟨⟨vs, h1.other hgr (fun a ha => ?_), by rw [List.length_set]; exact h2, fun j v q hv' hq => ?_, h4, h5⟩, h6⟩⟩
  · injection ha with ha
    subst ha
    rcases V with _ | x
    · simp [rowOf]
    · have := rows_apart (by decide : 3 ≠ 22) ho h1.2
      simp [rowOf]; exact fun h => this h.symm
  · rw [List.getElem?_set] at hq
    by_cases e : i = j
    · subst e
      rw [if_pos rfl, if_pos (by omega)] at hq
      injection hq with hq
      rw [hv] at hv'
      injection hv' with hv'
      rw [← hv', ← hq]
      exact hw
    · rw [if_neg e] at hq
      have h7 := h3 j v q hv' hq
      refine h7.other hgr (fun a ha => ?_)
      rcases V with _ | x
      · simp [rowOf]
      · have : a.block ≠ x.block := by
          rcases Nat.lt_or_gt_of_ne e with h8 | h8
          · have := h4 i j _ _ h8 hv hv' x a rfl ha; omega
          · have := h4 j i _ _ h8 hv' hv a x ha rfl; omega
        simpa [rowOf] using this

end Go.Proofs.YtjlcaggnfocabaaGreat

namespace Go.Proofs.YtjlcaggnfocabaaGreat
open Go.RowKit

set_option maxRecDepth 100000 in
set_option maxHeartbeats 2000000 in
theorem eqIntSS_any (lo hi lo2 hi2 : Nat) (A1 A2 : Option Addr) (n1 n2 cc1 cc2 : Nat) (ps : List (List Int)) (w : World) (h1 : OwnSS w lo hi A1 n1 cc1 ps) (h2 : OwnSS w lo2 hi2 A2 n2 cc2 ps) (hn : n1 ≤ 5000) :
    Calls Tryz.prog 10 #[.slice A1 n1 cc1, .slice A2 n2 cc2] w fun e w' => e = .returned (.bool true) ∧ Below w.heap.size w w' := by
  obtain rfl : n2 = n1 := by rw [← h1.len, ← h2.len]
  have H1 := Lib.hid h1; have H2 := Lib.hid h2
  clear h1 h2
  go_enter Tryz.func10, Tryz.ntmps10
  go_wp2
  go_loopw [5] (fun i wr => ∃ k : Nat, k ≤ n2 ∧ i = .int .i64 k ∧ Below w.heap.size w wr) (fun i _ => n2 - (intOf i).toNat)
  case atStart => exact ⟨0, by omega, rfl, Below.refl _ _⟩
  case round =>
    obtain ⟨k, hk, rfl, hbw⟩ := hrel
    by_cases hlt : k < n2
    · obtain ⟨g1, V1, m1, k1, p, rfl, hl1, c1, hp1, ho1, _, _⟩ := (H1.out.keep hbw).at_ hlt
      obtain ⟨g2, V2, m2, k2, p2, rfl, hl2, c2, hp2, ho2, _, _⟩ := (H2.out.keep hbw).at_ hlt
      obtain rfl : p2 = p := by rw [hp1] at hp2; injection hp2 with hp2; exact hp2.symm
      have R1 := Lib.hid ho1.rd; have R2 := Lib.hid ho2.rd
      have HB := Lib.hid hbw
      have k0 : (0 : Int) ≤ (k : Int) := by omega
      have k9 : (k : Int) < (n2 : Int) := by omega
      clear hp1 hp2 ho1 ho2 hbw
      go_wp2_with fail
      refine wp_region_held_drew (S := fun w' => w'.cell? ⟨g1, k, none⟩ = some (.slice V1 m1 k1) ∧ w'.cell? ⟨g2, k, none⟩ = some (.slice V2 m2 k2)) (by kernel_rfl) ?_ (fun hHeld => ?_)
      · (try dsimp only)
        exact ⟨c1, c2⟩
      refine wpAnyH_take (i := 0) (oi := ⟨_, _, _, _, _, _⟩) (v := ?_) rfl (by kernel_rfl) (by kernel_rfl) (by kernel_rfl) (fun _ _ _ h => h) (Or.inl ⟨by rfl, ?_⟩) (by assumption) ?_
      rotate_left
      · intro w hSw
        (try dsimp only at hSw)
        go_simp
        (try with_reducible rfl)
      (try simp only [Act.put, List.setIfInBounds_toArray, List.set_cons_zero, List.set_cons_succ])
      refine wpAnyH_take (i := 1) (oi := ⟨_, _, _, _, _, _⟩) (v := ?_) rfl (by kernel_rfl) (by kernel_rfl) (by kernel_rfl) (fun _ _ _ h => h) (Or.inl ⟨by rfl, ?_⟩) (by assumption) ?_
      rotate_left
      · intro w hSw
        (try dsimp only at hSw)
        go_simp
        (try with_reducible rfl)
      (try simp only [Act.put, List.setIfInBounds_toArray, List.set_cons_zero, List.set_cons_succ])
      refine wpAnyH_take (i := 2) (oi := ⟨_, _, _, _, _, _⟩) (v := ?_) rfl (by kernel_rfl) (by kernel_rfl) (by kernel_rfl) (fun _ _ _ h => h) (Or.inl ⟨by rfl, ?_⟩) (by assumption) ?_
      rotate_left
      · intro w hSw
        (try dsimp only at hSw)
        go_simp
        (try with_reducible rfl)
      (try simp only [Act.put, List.setIfInBounds_toArray, List.set_cons_zero, List.set_cons_succ])
      refine wpAnyH_take (i := 3) (oi := ⟨_, _, _, _, _, _⟩) (v := ?_) rfl (by kernel_rfl) (by kernel_rfl) (by kernel_rfl) (fun _ _ _ h => h) (Or.inl ⟨by rfl, ?_⟩) (by assumption) ?_
      rotate_left
      · intro w hSw
        (try dsimp only at hSw)
        go_simp
        (try with_reducible rfl)
      (try simp only [Act.put, List.setIfInBounds_toArray, List.set_cons_zero, List.set_cons_succ])
      refine wpAnyH_take (i := 4) (oi := ⟨_, _, _, _, _, _⟩) (v := ?_) rfl (by kernel_rfl) (by kernel_rfl) (by kernel_rfl) (fun _ _ _ h => h) (Or.inl ⟨by rfl, ?_⟩) (by assumption) ?_
      rotate_left
      · intro w hSw
        (try dsimp only at hSw)
        go_simp
        (try with_reducible rfl)
      (try simp only [Act.put, List.setIfInBounds_toArray, List.set_cons_zero, List.set_cons_succ])
      refine wpAnyH_take (i := 5) (oi := ⟨_, _, _, _, _, _⟩) (v := ?_) rfl (by kernel_rfl) (by kernel_rfl) (by kernel_rfl) (fun _ _ _ h => h) (Or.inl ⟨by rfl, ?_⟩) (by assumption) ?_
      rotate_left
      · intro w hSw
        (try dsimp only at hSw)
        go_simp
        (try with_reducible rfl)
      (try simp only [Act.put, List.setIfInBounds_toArray, List.set_cons_zero, List.set_cons_succ])
      refine wpAnyH_take (i := 6) (oi := ⟨_, _, _, _, _, _⟩) (v := ?_) rfl (by kernel_rfl) (by kernel_rfl) (by kernel_rfl) (fun _ _ _ h => h) (Or.inl ⟨by rfl, ?_⟩) (by assumption) ?_
      rotate_left
      · intro w hSw
        (try dsimp only at hSw)
        go_simp
        (try with_reducible rfl)
      (try simp only [Act.put, List.setIfInBounds_toArray, List.set_cons_zero, List.set_cons_succ])
      refine wpAnyH_take (i := 7) (oi := ⟨_, _, _, _, _, _⟩) (v := ?_) rfl (by kernel_rfl) (by kernel_rfl) (by kernel_rfl) (fun _ _ _ h => h) (Or.inl ⟨by rfl, ?_⟩) (by assumption) ?_
      rotate_left
      · intro w hSw
        (try dsimp only at hSw)
        go_simp
        (try with_reducible rfl)
      (try simp only [Act.put, List.setIfInBounds_toArray, List.set_cons_zero, List.set_cons_succ])
      refine wpAnyH_ready (rs := [8]) (by kernel_rfl) (by simp) ?_
      refine AllReadyH.cons (o := ⟨_, _, _, _, _, _⟩) rfl (fun K hK => ?_) AllReadyH.nil
      go_simp
      (go_at_call 28; refine (eqIntS_any V1 V2 m1 m2 k1 k2 p2 p2 _ ?_ ?_).mono ?_; (exact R1.out); (exact R2.out); simp only [decide_true]; rintro e wv ⟨rfl, hb⟩; (repeat (first | replace hb := below_undrew hb | replace hb := below_undrewN hb)); replace c1 := cell_keep c1 hl1 hb; replace c2 := cell_keep c2 hl2 hb; replace HB := Lib.hid (below_next HB.out hb); clear hb)
      (try go_wp2_with fail)
      refine hK.out _ _ ?_ (fun hHeld => ?_)
      · (try dsimp only)
        exact ⟨c1, c2⟩
      clear hK K
      (try simp only [Act.put, List.setIfInBounds_toArray, List.set_cons_zero, List.set_cons_succ])
      refine wpAnyH_take (i := 9) (oi := ⟨_, _, _, _, _, _⟩) (v := ?_) rfl (by kernel_rfl) (by kernel_rfl) (by kernel_rfl) (fun _ _ _ h => h) (Or.inl ⟨by rfl, ?_⟩) (by assumption) ?_
      rotate_left
      · intro w hSw
        (try dsimp only at hSw)
        go_simp
        (try with_reducible rfl)
      (try simp only [Act.put, List.setIfInBounds_toArray, List.set_cons_zero, List.set_cons_succ])
      refine wpAnyH_done (by kernel_rfl) ?_ _
      obtain ⟨wd, hwd⟩ : ∃ wd, wd = wv.drew := ⟨_, rfl⟩
      have HB2 := Lib.hid (show Below w.heap.size w wd by rw [hwd]; exact ⟨HB.out.os, HB.out.tape, HB.out.output, HB.out.size, HB.out.block⟩)
      (try rw [← hwd])
      clear hwd c1 c2
      go_wp2
      go_roundw
      case rel => first | exact ⟨k + 1, by omega, by go_num, HB2.out⟩ | exact ⟨k + 1, by omega, by go_num, HB.out⟩
      case measure => simp [intOf]; omega
    · obtain rfl : k = n2 := by omega
      go_wp2
      go_ret
      exact ⟨rfl, hbw⟩

/-- The lists behind i marks, and the next mark. -/
def markTo (ps : List (List Int)) (k0 : Int) : Nat → List (List Int) × Int
  | 0 => (ps, k0)
  | i + 1 => ((markTo ps k0 i).1.set i (marks (markTo ps k0 i).2 (ps.getD i []).length), (markTo ps k0 i).2 + (ps.getD i []).length)
theorem markTo_len (ps : List (List Int)) (k0 : Int) : ∀ i, (markTo ps k0 i).1.length = ps.length
  | 0 => rfl
  | i + 1 => by rw [markTo, List.length_set]; exact markTo_len ps k0 i
theorem markTo_later (ps : List (List Int)) (k0 : Int) : ∀ i j, i ≤ j → (markTo ps k0 i).1[j]? = ps[j]?
  | 0, _, _ => rfl
  | i + 1, j, h => by rw [markTo]; simp only; rw [List.getElem?_set_ne (by omega)]; exact markTo_later ps k0 i j (by omega)
theorem markTo_done (ps : List (List Int)) (k0 : Int) : ∀ i j, j < i → j < ps.length → (markTo ps k0 i).1[j]? = some (marks (markTo ps k0 j).2 (ps.getD j []).length)
  | 0, _, h, _ => absurd h (by omega)
  | i + 1, j, h, hj => by
    rw [markTo]
    simp only
    by_cases e : i = j
    · subst e; rw [List.getElem?_set, if_pos rfl, if_pos (by rw [markTo_len]; exact hj)]
    · rw [List.getElem?_set_ne e]; exact markTo_done ps k0 i j (by omega) hj
theorem markTo_bd {ps : List (List Int)} {k0 : Int} (hs : ∀ p ∈ ps, p.length ≤ 64) : ∀ i : Nat, k0 ≤ (markTo ps k0 i).2 ∧ (markTo ps k0 i).2 ≤ k0 + 64 * (i : Int)
  | 0 => by simp [markTo]
  | i + 1 => by
    have ih := markTo_bd (k0 := k0) hs i
    rw [markTo]
    simp only
    have hl : (ps.getD i []).length ≤ 64 := by
      rw [List.getD_eq_getElem?_getD]
      cases h : ps[i]? with
      | none => simp
      | some p => exact hs p (List.mem_of_getElem? h)
    push_cast
    omega
theorem getD_of {ps : List (List Int)} {i : Nat} {p : List Int} (h : ps[i]? = some p) : ps.getD i [] = p := by rw [List.getD_eq_getElem?_getD, h]; rfl

set_option maxRecDepth 100000 in
set_option maxHeartbeats 2000000 in
theorem markIntSS_any (lo hi : Nat) (A : Option Addr) (n c : Nat) (ps : List (List Int)) (k0 : Int) (w : World) (h : OwnSS w lo hi A n c ps) (hs : ∀ p ∈ ps, p.length ≤ 64) (hn : n ≤ 5000) (h0 : 0 ≤ k0 ∧ k0 ≤ 1000) :
    Calls Tryz.prog 13 #[.slice A n c, .int .i64 k0] w fun e w' => e = .returned (.int .i64 (markTo ps k0 n).2) ∧ OwnSS w' lo hi A n c (markTo ps k0 n).1 ∧ Within lo hi w w' := by
  have H := Lib.hid h; have HS := Lib.hid hs; have HLEN := Lib.hid h.len
  clear h hs
  go_enter Tryz.func13, Tryz.ntmps13
  go_wp2
  go_loopw [1, 5] (fun v i wr => ∃ k : Nat, k ≤ n ∧ i = .int .i64 k ∧ v = .int .i64 (markTo ps k0 k).2 ∧ OwnSS wr lo hi A n c (markTo ps k0 k).1 ∧ Within lo hi w wr) (fun _ i _ => n - (intOf i).toNat)
  case atStart => exact ⟨0, by omega, rfl, rfl, H.out, within_refl _ _ _⟩
  case round =>
    obtain ⟨k, hk, rfl, rfl, how, hwi⟩ := hrel
    have hbd := markTo_bd (k0 := k0) HS.out k
    have HW := Lib.hid hwi
    by_cases hlt : k < n
    · obtain ⟨g1, V, m, kk, p, rfl, hl1, c1, hp1, ho1, hv1, hup⟩ := how.at_ hlt
      have hpk : ps[k]? = some p := by rw [markTo_later ps k0 k k (Nat.le_refl _)] at hp1; exact hp1
      have hm : p.length = m := ho1.len
      have hm64 : m ≤ 64 := by rw [← hm]; exact HS.out p (List.mem_of_getElem? hpk)
      have e1 : markTo ps k0 (k + 1) = ((markTo ps k0 k).1.set k (marks (markTo ps k0 k).2 m), (markTo ps k0 k).2 + m) := by rw [markTo, getD_of hpk, hm]
      have E1 := Lib.hid e1; have HU := Lib.hid hup; have HV := Lib.hid hv1; have HO := Lib.hid ho1
      obtain ⟨mk, hmk⟩ : ∃ mk, mk = (markTo ps k0 k).2 := ⟨_, rfl⟩
      have HMK := Lib.hid hmk
      rw [← hmk] at hbd ⊢
      have k00 : (0 : Int) ≤ (k : Int) := by omega
      have k99 : (k : Int) < (n : Int) := by omega
      clear how hp1 ho1 hv1 hup hpk hm e1 hmk hwi
      go_wp2_with fail
      refine (markIntS_any V m kk lo mk p _ HO.out (by omega) (by omega)).mono ?_
      rintro e wv ⟨rfl, HO', hg⟩
      have HO2 := Lib.hid (HU.out _ _ HO' hg)
      have HW2 := Lib.hid (within_grown HW.out hg HV.out)
      clear HO' hg c1
      go_wp2
      go_roundw
      case rel => exact ⟨k + 1, by omega, by go_num, by rw [E1.out, HMK.out], by rw [E1.out, ← HMK.out]; exact HO2.out, HW2.out⟩
      case measure => simp [intOf]; omega
    · obtain rfl : k = n := by omega
      go_wp2
      go_ret
      exact ⟨rfl, how, HW.out⟩

set_option maxRecDepth 100000 in
set_option maxHeartbeats 2000000 in
theorem heldIntSS_any (lo hi : Nat) (A : Option Addr) (n c : Nat) (ps : List (List Int)) (k0 : Int) (w : World) (h : OwnSS w lo hi A n c (markTo ps k0 n).1) (hs : ∀ p ∈ ps, p.length ≤ 64) (hn : n ≤ 5000) (hpn : ps.length = n) (h0 : 0 ≤ k0 ∧ k0 ≤ 1000) :
    Calls Tryz.prog 14 #[.slice A n c, .int .i64 k0] w fun e w' => e = .returned (.int .i64 (markTo ps k0 n).2) ∧ Below w.heap.size w w' := by
  have H := Lib.hid h; have HS := Lib.hid hs; have HPN := Lib.hid hpn
  clear h hs hpn
  go_enter Tryz.func14, Tryz.ntmps14
  go_wp2
  go_loopw [1, 5] (fun v i wr => ∃ k : Nat, k ≤ n ∧ i = .int .i64 k ∧ v = .int .i64 (markTo ps k0 k).2 ∧ Below w.heap.size w wr) (fun _ i _ => n - (intOf i).toNat)
  case atStart => exact ⟨0, by omega, rfl, rfl, Below.refl _ _⟩
  case round =>
    obtain ⟨k, hk, rfl, rfl, hbw⟩ := hrel
    have hbd := markTo_bd (k0 := k0) HS.out k
    have HB := Lib.hid hbw
    by_cases hlt : k < n
    · obtain ⟨g1, V, m, kk, p, rfl, hl1, c1, hp1, ho1, _, _⟩ := (H.out.keep hbw).at_ hlt
      rw [markTo_done ps k0 n k hlt (by rw [HPN.out]; exact hlt)] at hp1
      injection hp1 with hp1
      have hm : (ps.getD k []).length = m := by rw [← ho1.len, ← hp1, marks_length]
      rw [hm] at hp1
      rw [← hp1] at ho1
      have hm64 : m ≤ 64 := by
        rw [← hm, List.getD_eq_getElem?_getD]
        cases h9 : ps[k]? with
        | none => simp
        | some p => exact HS.out p (List.mem_of_getElem? h9)
      have e1 : (markTo ps k0 (k + 1)).2 = (markTo ps k0 k).2 + m := by rw [markTo]; simp only; rw [hm]
      have E1 := Lib.hid e1; have HO := Lib.hid ho1.rd
      obtain ⟨mk, hmk⟩ : ∃ mk, mk = (markTo ps k0 k).2 := ⟨_, rfl⟩
      have HMK := Lib.hid hmk
      rw [← hmk] at hbd HO ⊢
      have k00 : (0 : Int) ≤ (k : Int) := by omega
      have k99 : (k : Int) < (n : Int) := by omega
      clear hp1 ho1 hm e1 hmk hbw
      go_wp2_with fail
      refine (heldIntS_any V m kk mk _ HO.out (by omega) (by omega)).mono ?_
      rintro e wv ⟨rfl, hb⟩
      replace HB := Lib.hid (below_next HB.out hb)
      have hnn : decide (mk + (m : Int) < 0) = false := by simp; omega
      clear hb c1
      go_wp2
      go_roundw
      case rel => exact ⟨k + 1, by omega, by go_num, by rw [E1.out, HMK.out], HB.out⟩
      case measure => simp [intOf]; omega
    · obtain rfl : k = n := by omega
      go_wp2
      go_ret
      exact ⟨rfl, HB.out⟩

end Go.Proofs.YtjlcaggnfocabaaGreat

namespace Go.Proofs
open Go.Shelf
def Tryz.sortSpot_ren : Go.Shelf.Ren := ⟨fun | 6 => 86 | 15 => 79 | 14 => 101 | 28 => 97 | 29 => 98 | 20 => 109 | 21 => 110 | 22 => 111 | 23 => 112 | 24 => 113 | 25 => 114 | 26 => 115 | 27 => 116 | 46 => 118 | 47 => 105 | 48 => 106 | 49 => 119 | 50 => 120 | 57 => 121 | n => n, fun | 22 => 90 | 24 => 50 | 25 => 99 | 3 => 3 | 39 => 95 | 0 => 0 | 53 => 109 | 55 => 111 | 4 => 4 | 46 => 104 | 45 => 103 | 50 => 40 | 5 => 5 | 9 => 9 | 66 => 115 | 70 => 119 | 76 => 126 | 77 => 127 | n => n, fun | n => n⟩
theorem Tryz.sortSpot : Go.Proofs.SlLaysF0.n6 Tryz.prog Tryz.sortSpot_ren := {
  mixed := by kernel_rfl
  f6 := ⟨Tryz.f86.name, by decide, Tryz.func86.trans (congrArg some (by kernel_rfl))⟩
  f14 := ⟨Tryz.f101.name, by decide, Tryz.func101.trans (congrArg some (by kernel_rfl))⟩
  f15 := Tryz.func79.trans (congrArg some (by kernel_rfl))
  f20 := ⟨Tryz.f109.name, by decide, Tryz.func109.trans (congrArg some (by kernel_rfl))⟩
  f21 := ⟨Tryz.f110.name, by decide, Tryz.func110.trans (congrArg some (by kernel_rfl))⟩
  f22 := ⟨Tryz.f111.name, by decide, Tryz.func111.trans (congrArg some (by kernel_rfl))⟩
  f23 := ⟨Tryz.f112.name, by decide, Tryz.func112.trans (congrArg some (by kernel_rfl))⟩
  f24 := ⟨Tryz.f113.name, by decide, Tryz.func113.trans (congrArg some (by kernel_rfl))⟩
  f25 := ⟨Tryz.f114.name, by decide, Tryz.func114.trans (congrArg some (by kernel_rfl))⟩
  f26 := ⟨Tryz.f115.name, by decide, Tryz.func115.trans (congrArg some (by kernel_rfl))⟩
  f27 := ⟨Tryz.f116.name, by decide, Tryz.func116.trans (congrArg some (by kernel_rfl))⟩
  f28 := Tryz.func97.trans (congrArg some (by kernel_rfl))
  f29 := Tryz.func98.trans (congrArg some (by kernel_rfl))
  f46 := ⟨Tryz.f118.name, by decide, Tryz.func118.trans (congrArg some (by kernel_rfl))⟩
  f47 := Tryz.func105.trans (congrArg some (by kernel_rfl))
  f48 := Tryz.func106.trans (congrArg some (by kernel_rfl))
  f49 := ⟨Tryz.f119.name, by decide, Tryz.func119.trans (congrArg some (by kernel_rfl))⟩
  f50 := ⟨Tryz.f120.name, by decide, Tryz.func120.trans (congrArg some (by kernel_rfl))⟩
  f57 := ⟨Tryz.f121.name, by decide, Tryz.func121.trans (congrArg some (by kernel_rfl))⟩
  t0 := Tryz.underlying0
  a0 := Tryz.isAgg0
  z0 := Tryz.sizeOf0
  v0 := Tryz.zeroValue0
  t3 := Tryz.underlying3
  a3 := Tryz.isAgg3
  z3 := Tryz.sizeOf3
  v3 := Tryz.zeroValue3
  t4 := Tryz.underlying4
  a4 := Tryz.isAgg4
  z4 := Tryz.sizeOf4
  v4 := Tryz.zeroValue4
  t5 := Tryz.underlying5
  a5 := Tryz.isAgg5
  z5 := Tryz.sizeOf5
  v5 := Tryz.zeroValue5
  t9 := Tryz.underlying9
  a9 := Tryz.isAgg9
  z9 := Tryz.sizeOf9
  v9 := Tryz.zeroValue9
  t22 := Tryz.underlying90
  a22 := Tryz.isAgg90
  z22 := Tryz.sizeOf90
  v22 := Tryz.zeroValue90
  t25 := Tryz.underlying99
  a25 := Tryz.isAgg99
  z25 := Tryz.sizeOf99
  v25 := Tryz.zeroValue99
  t39 := Tryz.underlying95
  a39 := Tryz.isAgg95
  z39 := Tryz.sizeOf95
  v39 := Tryz.zeroValue95
  t45 := Tryz.underlying103
  a45 := Tryz.isAgg103
  z45 := Tryz.sizeOf103
  v45 := Tryz.zeroValue103
  t46 := Tryz.underlying104
  a46 := Tryz.isAgg104
  z46 := Tryz.sizeOf104
  v46 := Tryz.zeroValue104
  t50 := Tryz.underlying40
  a50 := Tryz.isAgg40
  z50 := Tryz.sizeOf40
  v50 := Tryz.zeroValue40
  t53 := Tryz.underlying109
  a53 := Tryz.isAgg109
  z53 := Tryz.sizeOf109
  v53 := Tryz.zeroValue109
  t55 := Tryz.underlying111
  a55 := Tryz.isAgg111
  z55 := Tryz.sizeOf111
  v55 := Tryz.zeroValue111
  t66 := Tryz.underlying115
  a66 := Tryz.isAgg115
  z66 := Tryz.sizeOf115
  v66 := Tryz.zeroValue115
  t70 := Tryz.underlying119
  a70 := Tryz.isAgg119
  z70 := Tryz.sizeOf119
  v70 := Tryz.zeroValue119
  t76 := Tryz.underlying126
  a76 := Tryz.isAgg126
  z76 := Tryz.sizeOf126
  v76 := Tryz.zeroValue126
  t77 := Tryz.underlying127
  a77 := Tryz.isAgg127
  z77 := Tryz.sizeOf127
  v77 := Tryz.zeroValue127 }
end Go.Proofs

namespace Go.Proofs.YtjlcaggnfocabaaGreat
open Go.RowKit

/-- A world with draws and blocks more. -/
def Grown (W w : World) : Prop := ∃ q os, w = Go.Sort.grow (W.drewN q) os
theorem Grown.refl (W : World) : Grown W W := ⟨0, #[], by simp; rfl⟩
theorem Grown.alloc {W w : World} (h : Grown W w) (o : Obj) : Grown W (w.alloc o) := by
  obtain ⟨q, os, rfl⟩ := h
  exact ⟨q, os ++ #[o], by rw [Go.Sort.alloc_eq_grow, Go.Sort.grow_grow]⟩
theorem Grown.drewN {W w : World} (h : Grown W w) (k : Nat) : Grown W (w.drewN k) := by
  obtain ⟨q, os, rfl⟩ := h
  exact ⟨q + k, os, by rw [← World.drewN_drewN]; rfl⟩
theorem Grown.drew1 {W w : World} (h : Grown W w) : Grown W w.drew := h.drewN 1

def cmpP (p q : Int × Int) : Int := if Lib.compareInt p.1 q.1 = 0 then Lib.compareInt p.2 q.2 else Lib.compareInt p.1 q.1

set_option maxHeartbeats 400000 in
theorem or2_any (g : Nat) (u v : Int) (w : World) (h0 : w.cell? ⟨g, 0, none⟩ = some (.int .i64 u)) (h1 : w.cell? ⟨g, 1, none⟩ = some (.int .i64 v)) :
    Calls Tryz.prog 102 #[.slice (some ⟨g, 0, none⟩) 2 2] w fun e w' => e = .returned (.int .i64 (if u = 0 then v else u)) ∧ w = w' := by
  by_cases hu : u = 0
  · subst hu
    by_cases hv : v = 0
    · subst hv
      go_enter Tryz.func102, Tryz.ntmps102
      go_wp2
      go_loop [8] (fun i => ∃ k : Nat, k ≤ 2 ∧ i = .int .i64 k) (fun i => 2 - (intOf i).toNat)
      case atStart => exact ⟨0, by omega, rfl⟩
      case round =>
        obtain ⟨k, hk, rfl⟩ := hrel
        have hk2 : k = 0 ∨ k = 1 ∨ k = 2 := by omega
        rcases hk2 with rfl | rfl | rfl
        · go_wp2
          go_round
          case rel => exact ⟨1, by omega, rfl⟩
          case measure => simp [intOf]
        · go_wp2
          go_round
          case rel => exact ⟨2, by omega, rfl⟩
          case measure => simp [intOf]
        · go_wp2
          go_ret
          exact ⟨rfl, rfl⟩
    · have hv' : (v == 0) = false := by simpa using hv
      have hv2 : (v != 0) = true := by simpa using hv
      go_enter Tryz.func102, Tryz.ntmps102
      go_wp2
      go_loop [8] (fun i => ∃ k : Nat, k ≤ 1 ∧ i = .int .i64 k) (fun i => 2 - (intOf i).toNat)
      case atStart => exact ⟨0, by omega, rfl⟩
      case round =>
        obtain ⟨k, hk, rfl⟩ := hrel
        have hk2 : k = 0 ∨ k = 1 := by omega
        rcases hk2 with rfl | rfl
        · go_wp2
          go_round
          case rel => exact ⟨1, by omega, rfl⟩
          case measure => simp [intOf]
        · go_wp2
          go_ret
          exact ⟨ret_int (by first | rfl | simp), rfl⟩
  · have hu' : (u == 0) = false := by simpa using hu
    have hu2 : (u != 0) = true := by simpa using hu
    go_enter Tryz.func102, Tryz.ntmps102
    go_wp2
    go_loop [8] (fun i => i = .int .i64 ((0 : Nat) : Int)) (fun i => 2 - (intOf i).toNat)
    case atStart => rfl
    case round =>
      obtain rfl := hrel
      go_wp2
      go_ret
      exact ⟨ret_int (by first | rfl | simp [hu]), rfl⟩

def cI (x y : Int) : Int := Lib.compareInt x y
def orI (u v : Int) : Int := if u = 0 then v else u
theorem compI_any (x y : Int) (w : World) : Calls Tryz.prog 103 #[.int .i64 x, .int .i64 y] w fun e w' => e = .returned (.int .i64 (cI x y)) ∧ w = w' :=
  (Tryz.cmp_Compare_int x y w).mono fun _ _ ⟨he, hw⟩ => ⟨he, hw.symm⟩
theorem orI_any (g : Nat) (u v : Int) (w : World) (h0 : w.cell? ⟨g, 0, none⟩ = some (.int .i64 u)) (h1 : w.cell? ⟨g, 1, none⟩ = some (.int .i64 v)) :
    Calls Tryz.prog 102 #[.slice (some ⟨g, 0, none⟩) 2 2] w fun e w' => e = .returned (.int .i64 (orI u v)) ∧ w = w' := or2_any g u v w h0 h1

set_option maxRecDepth 100000 in
set_option maxHeartbeats 1000000 in
theorem compare_any (p q : Int × Int) (W : World) :
    Calls Tryz.prog 87 #[.agg #[.int .i64 p.1, .int .i64 p.2], .agg #[.int .i64 q.1, .int .i64 q.2]] W fun e w' => e = .returned (.int .i64 (cmpP p q)) ∧ Grown W w' := by
  obtain ⟨x, y⟩ := p
  obtain ⟨x2, y2⟩ := q
  have G : Hid (Grown W ((W.alloc (.cells #[.int .i64 x, .int .i64 y] 50)).alloc (.cells #[.int .i64 x2, .int .i64 y2] 50))) := Lib.hid (((Grown.refl W).alloc _).alloc _)
  rw [show cmpP (x, y) (x2, y2) = orI (cI x x2) (cI y y2) from rfl]
  obtain ⟨W2, hW2⟩ : ∃ W2, W2 = (W.alloc (.cells #[.int .i64 x, .int .i64 y] 50)).alloc (.cells #[.int .i64 x2, .int .i64 y2] 50) := ⟨_, rfl⟩
  have a0 : W2.cell? ⟨W.heap.size, 0, none⟩ = some (.int .i64 x) := by rw [hW2]; go_simp
  have a1 : W2.cell? ⟨W.heap.size, 1, none⟩ = some (.int .i64 y) := by rw [hW2]; go_simp
  have b0 : W2.cell? ⟨W.heap.size + 1, 0, none⟩ = some (.int .i64 x2) := by rw [hW2]; go_simp
  have b1 : W2.cell? ⟨W.heap.size + 1, 1, none⟩ = some (.int .i64 y2) := by rw [hW2]; go_simp
  rw [← hW2] at G
  go_enter Tryz.func87, Tryz.ntmps87
  go_wp2
  rw [← hW2]
  have hsz : (W.heap.size + 2) ≤ W2.heap.size := by rw [hW2]; simp
  clear hW2
  have ga : W.heap.size < W2.heap.size := by omega
  have gb : W.heap.size + 1 < W2.heap.size := by omega
  go_region_held3 (fun w' => w'.cell? ⟨W.heap.size, 0, none⟩ = some (.int .i64 x) ∧ w'.cell? ⟨W.heap.size, 1, none⟩ = some (.int .i64 y) ∧ w'.cell? ⟨W.heap.size + 1, 0, none⟩ = some (.int .i64 x2) ∧ w'.cell? ⟨W.heap.size + 1, 1, none⟩ = some (.int .i64 y2)) (first | exact ⟨a0, a1, b0, b1⟩ | (refine ⟨?_, ?_, ?_, ?_⟩ <;> (first | assumption | go_simp)))
    (first
      | (go_at_call 103; (with_reducible refine (compI_any _ _ _).mono ?_); rintro e wv ⟨rfl, rfl⟩)
      | (go_at_call 102; (with_reducible refine (orI_any W2.heap.size (cI x x2) (cI y y2) _ ?_ ?_).mono ?_); (go_simp); (go_simp); rintro e wv ⟨rfl, rfl⟩))
  all_goals go_wp2
  all_goals go_ret
  all_goals (refine ⟨rfl, ?_⟩)
  all_goals (repeat (first | exact G.out | refine Grown.alloc ?_ _ | refine Grown.drewN ?_ _ | refine Grown.drew1 ?_))

end Go.Proofs.YtjlcaggnfocabaaGreat

namespace Go.Proofs.YtjlcaggnfocabaaGreat
open Go.RowKit

theorem pair_at {E : TypeId} {w : World} {lo g n c : Nat} {xs : List (Int × Int)} (h : OwnP E w lo (some ⟨g, 0, none⟩) n c xs) {i : Nat} {p : Int × Int} (hx : xs[i]? = some p) :
    w.cell? ⟨g, i * 2, none⟩ = some (.int .i64 p.1) ∧ w.cell? ⟨g, i * 2 + 1, none⟩ = some (.int .i64 p.2) :=
  ⟨OwnK.cell (j := 0) encP_len h hx rfl, OwnK.cell (j := 1) encP_len h hx rfl⟩
theorem arr_at {d : Array (Int × Int)} {i : Nat} (h : i < d.size) : d.toList[i]? = some d[i]! := by
  rw [Array.getElem?_toList, Array.getElem?_eq_getElem h, getElem!_pos d i h]

theorem eq_spot (x y a b : Int) (w : World) : Sem.run Tryz.prog (binOp .eql 50 (.agg #[.int .i64 x, .int .i64 y]) (.agg #[.int .i64 a, .int .i64 b])) w = .ok (.bool (x == a && y == b)) w := by
  have u3 := Tryz.underlying3
  have a3 := Tryz.isAgg3
  have z3 := Tryz.sizeOf3
  have hS : Tryz.prog.underlying 50 = some (.struct (Tryz.prog.fieldsOf 50)) := by kernel_rfl
  have hp : Tryz.prog.stoodInHeld 50 = false := by kernel_rfl
  rw [run_eql_struct, show (10000 : Nat) = 9999 + 1 from rfl, run_equalIn_agg w 9999 50 _ _ hS hp]
  simp only [Program.fieldsOf, Tryz.underlying50]
  go_simp
  by_cases h1 : x = a <;> by_cases h2 : y = b <;> simp [h1, h2]
theorem neq_spot (x y a b : Int) (w : World) : Sem.run Tryz.prog (binOp .neq 50 (.agg #[.int .i64 x, .int .i64 y]) (.agg #[.int .i64 a, .int .i64 b])) w = .ok (.bool (!(x == a && y == b))) w := by
  have u3 := Tryz.underlying3
  have a3 := Tryz.isAgg3
  have z3 := Tryz.sizeOf3
  have hS : Tryz.prog.underlying 50 = some (.struct (Tryz.prog.fieldsOf 50)) := by kernel_rfl
  have hp : Tryz.prog.stoodInHeld 50 = false := by kernel_rfl
  rw [run_neq_struct, show (10000 : Nat) = 9999 + 1 from rfl, run_equalIn_agg w 9999 50 _ _ hS hp]
  simp only [Program.fieldsOf, Tryz.underlying50]
  go_simp
  by_cases h1 : x = a <;> by_cases h2 : y = b <;> simp [h1, h2]
theorem guard_spot (op : BinOp) (u v : Operand) (xs ys : Array Value) (w : World) : Sem.run Tryz.prog (eqGuard op 50 u v (.agg xs) (.agg ys)) w = .ok () w := run_eqGuard_agg w op _ u v xs ys (by kernel_rfl)

set_option maxRecDepth 100000 in
set_option maxHeartbeats 1000000 in
theorem compact_any (lo g c N : Nat) (d : Array (Int × Int)) (w : World) (hown : OwnP 50 w lo (some ⟨g, 0, none⟩) N c d.toList) (hN : d.size = N) (h2 : 2 ≤ N) (hsz : N ≤ 1000) (hc : N ≤ c) :
    Calls Tryz.prog 88 #[.slice (some ⟨g, 0, none⟩) N c] w fun e w' => ∃ n', e = .returned (.slice (some ⟨g, 0, none⟩) n' c) ∧ OwnP 50 w' lo (some ⟨g, 0, none⟩) n' c (Lib.compactUpTo d d.size) ∧ w.grownBy w' (some g) := by
  have HN := Lib.hid hN
  have HO := Lib.hid hown
  clear hN hown
  go_enter Tryz.func88, Tryz.ntmps88
  go_wp2
  go_loopw [3] (fun s3 wr => ∃ m : Nat, m + 1 ≤ N ∧ s3 = .int .i64 ((m : Int) + 1) ∧ OwnP 50 wr lo (some ⟨g, 0, none⟩) N c d.toList ∧ w.grownBy wr (some g) ∧ (∀ j, j < m + 1 → Lib.keeps d j = true)) (fun s3 _ => N - (intOf s3).toNat)
  case atStart => exact ⟨0, by omega, rfl, HO.out, grown_refl _ _, Lib.keeps_lt_one d⟩
  case round =>
    obtain ⟨m, hm, rfl, hown, hg, hall⟩ := hrel
    have HA := Lib.hid hall; have HG := Lib.hid hg
    clear hall hg HO
    by_cases hlt : m + 1 < N
    · obtain ⟨x0, x1⟩ := pair_at hown (arr_at (d := d) (i := m + 1) (by have := HN.out; omega))
      obtain ⟨y0, y1⟩ := pair_at hown (arr_at (d := d) (i := m) (by have := HN.out; omega))
      have HO := Lib.hid hown
      clear hown
      obtain ⟨⟨xa, xb⟩, hx⟩ : ∃ x, d[m + 1]! = x := ⟨_, rfl⟩
      obtain ⟨⟨ya, yb⟩, hy⟩ : ∃ x, d[m]! = x := ⟨_, rfl⟩
      rw [hx] at x0 x1; rw [hy] at y0 y1
      simp only at x0 x1 y0 y1
      have HX := Lib.hid hx; have HY := Lib.hid hy
      clear hx hy
      have hi1 : (m : Int) + 1 < (N : Int) := by omega
      have hi0 : (0 : Int) ≤ (m : Int) + 1 := by omega
      have hgd := fun (w' : World) (u v : Operand) => guard_spot .eql u v #[.int .i64 xa, .int .i64 xb] #[.int .i64 ya, .int .i64 yb] w'
      cases hdp : (xa == ya && xb == yb) with
      | true =>
        have he := fun w' : World => hdp ▸ eq_spot xa xb ya yb w'
        have HK : Hid (Lib.keeps d (m + 1) = false) := Lib.hid (Lib.keeps_neg (by omega) (by rw [HX.out, Nat.add_sub_cancel, HY.out]; simp at hdp; rw [hdp.1, hdp.2]))
        clear hdp
        go_wp2
        go_region
        go_wp2
        clear he hgd x0 x1 y0 y1
        go_loopw [3, 5] (fun s3 s5 wx => ∃ (kk k2 : Nat) (dk : Array (Int × Int)), s3 = .int .i64 kk ∧ s5 = .int .i64 ((k2 : Int) + 1) ∧ m + 1 + (k2 + 1) ≤ N ∧ OwnP 50 wx lo (some ⟨g, 0, none⟩) N c dk.toList ∧ w.grownBy wx (some g) ∧ Lib.CompInv d (m + 1 + (k2 + 1)) kk dk) (fun _ s5 _ => N - (intOf s5).toNat)
        case atStart => exact ⟨m + 1, 0, d, by go_num, rfl, by omega, HO.out.drew1, grown_drewN HG.out 1, Lib.CompInv.start HA.out HK.out⟩
        case round =>
          obtain ⟨kk, k2, dk, rfl, rfl, hle, hown, hg, hI⟩ := hrel
          have hkk := hI.lt
          have HDS := Lib.hid hI.size
          clear HO
          by_cases hlt2 : m + 1 + (k2 + 1) < N
          · have HI := Lib.hid hI; have HG2 := Lib.hid hg
            obtain ⟨u0, u1⟩ := pair_at hown (arr_at (d := dk) (i := m + 1 + (k2 + 1)) (by have := HN.out; have := HDS.out; omega))
            obtain ⟨v0, v1⟩ := pair_at hown (arr_at (d := dk) (i := m + 1 + k2) (by have := HN.out; have := HDS.out; omega))
            obtain ⟨t0, t1⟩ := pair_at hown (arr_at (d := dk) (i := kk) (by have := HN.out; have := HDS.out; omega))
            have f0 := hown.frozen (kk * 2); have f1 := hown.frozen (kk * 2 + 1)
            rw [hI.high _ (by omega), show (m + 1 + (k2 + 1)) * 2 = (m + 1) * 2 + (k2 + 1) * 2 by omega] at u0 u1
            rw [hI.high _ (by omega), show (m + 1 + k2) * 2 = (m + 1) * 2 + k2 * 2 by omega] at v0 v1
            have HO := Lib.hid hown
            clear hown hI hg
            obtain ⟨⟨ua, ub⟩, hu⟩ : ∃ x, d[m + 1 + (k2 + 1)]! = x := ⟨_, rfl⟩
            obtain ⟨⟨va, vb⟩, hv⟩ : ∃ x, d[m + 1 + k2]! = x := ⟨_, rfl⟩
            obtain ⟨⟨ta, tb⟩, ht⟩ : ∃ x, dk[kk]! = x := ⟨_, rfl⟩
            rw [hu] at u0 u1; rw [hv] at v0 v1; rw [ht] at t0 t1
            simp only at u0 u1 v0 v1 t0 t1
            have HU := Lib.hid hu; have HV := Lib.hid hv
            clear hu hv ht
            have hj0 : (0 : Int) ≤ (k2 : Int) + 1 := by omega
            have hj1 : (k2 : Int) + 1 < ((N - (m + 1) : Nat) : Int) := by omega
            have hk1 : (kk : Int) < (N : Int) := by omega
            have hgd2 := fun (w' : World) (u v : Operand) => guard_spot .neq u v #[.int .i64 ua, .int .i64 ub] #[.int .i64 va, .int .i64 vb] w'
            cases hdp2 : (ua == va && ub == vb) with
            | true =>
              have he2 : ∀ w' : World, _ := fun w' => hdp2 ▸ neq_spot ua ub va vb w'
              have HK2 : Hid (Lib.keeps d (m + 1 + (k2 + 1)) = false) := Lib.hid (Lib.keeps_neg (by omega) (by rw [HU.out, show m + 1 + (k2 + 1) - 1 = m + 1 + k2 by omega, HV.out]; simp at hdp2; rw [hdp2.1, hdp2.2]))
              clear hdp2
              go_wp2
              go_region
              go_wp2
              go_roundw
              case rel => exact ⟨kk, k2 + 1, dk, rfl, by go_num, by omega, HO.out.drew1, grown_drewN HG2.out 1, HI.out.skip HK2.out⟩
              case measure => simp [intOf]; omega
            | false =>
              have he2 : ∀ w' : World, _ := fun w' => hdp2 ▸ neq_spot ua ub va vb w'
              have HK2 : Hid (Lib.keeps d (m + 1 + (k2 + 1)) = true) := Lib.hid (Lib.keeps_pos (by rw [HU.out, show m + 1 + (k2 + 1) - 1 = m + 1 + k2 by omega, HV.out]; intro h; injection h with h1 h2; rw [h1, h2] at hdp2; simp at hdp2))
              clear hdp2
              go_wp2
              go_region
              go_wp2
              go_roundw
              case rel =>
                have hs := HO.out.stored (i := kk) (by omega) (ua, ub)
                have hk := HI.out.keep (by have := HN.out; omega) HK2.out
                rw [HU.out] at hk
                exact ⟨kk + 1, k2 + 1, dk.setIfInBounds kk (ua, ub), by go_num, by go_num, by omega, by rw [Array.toList_setIfInBounds]; exact hs.1.drew1, grown_drewN (grown_next HG2.out hs.2) 1, hk⟩
              case measure => simp [intOf]; omega
          · have hend : m + 1 + (k2 + 1) = N := by omega
            have hnlt : ¬ (k2 : Int) + 1 < ((N - (m + 1) : Nat) : Int) := by omega
            have hz : ∀ w', (zeroValue 50).run Tryz.prog w' = .ok (.agg #[.int .i64 0, .int .i64 0]) w' := fun _ => by kernel_rfl
            have hcl : ∀ ty, (Builtin.clear_ #[90] ty #[.slice (some ⟨g, kk * 2, none⟩) (N - kk) (c - kk)]).run Tryz.prog wr = .ok (.tuple #[]) (wr.setCells g (kk * 2) (List.replicate ((N - kk) * 2) (.int .i64 0))) := fun ty =>
              run_clear_pairs wr _ _ ty Tryz.underlying90 hz g (kk * 2) (N - kk) (c - kk) (by omega)
                (fun j hj => by
                  have hi : kk + j / 2 < dk.size := by have := HN.out; have := HDS.out; omega
                  obtain ⟨p0, p1⟩ := pair_at hown (arr_at hi)
                  have : j % 2 = 0 ∨ j % 2 = 1 := by omega
                  rcases this with e | e
                  · rw [show kk * 2 + j = (kk + j / 2) * 2 by omega, p0]; rfl
                  · rw [show kk * 2 + j = (kk + j / 2) * 2 + 1 by omega, p1]; rfl)
                (fun j hj => hown.frozen _)
            have HI := Lib.hid hI; have HG2 := Lib.hid hg; have HO := Lib.hid hown
            clear hI hg hown hz
            go_wp2
            go_ret
            have hI := HI.out
            rw [hend] at hI
            have hcut := HO.out.cut encP_len (m := kk) (by omega)
            have hcb := OwnK.cells_behind (List.replicate ((N - kk) * 2) (.int .i64 0)) (kk * 2) encP_len hcut (Nat.le_refl _)
            have e : dk.toList.take kk = Lib.compactUpTo d d.size := by
              apply List.ext_getElem?
              intro j
              rw [HN.out]
              by_cases hj : j < kk
              · rw [List.getElem?_take_of_lt hj, hI.low j hj, arr_at (by have := HN.out; have := HDS.out; omega)]
              · rw [List.getElem?_eq_none (by rw [List.length_take]; omega), List.getElem?_eq_none (by rw [hI.len]; omega)]
            exact ⟨kk, rfl, by rw [← e]; exact hcb.1, grown_next HG2.out hcb.2⟩
      | false =>
        have he := fun w' : World => hdp ▸ eq_spot xa xb ya yb w'
        have HK : Hid (Lib.keeps d (m + 1) = true) := Lib.hid (Lib.keeps_pos (by rw [HX.out, Nat.add_sub_cancel, HY.out]; intro h; injection h with h1 h2; rw [h1, h2] at hdp; simp at hdp))
        clear hdp
        go_wp2
        go_region
        go_wp2
        go_roundw
        case rel => exact ⟨m + 1, by omega, by go_num, HO.out.drew1, grown_drewN HG.out 1, fun j hj => by
          by_cases e : j = m + 1
          · subst e; exact HK.out
          · exact HA.out j (by omega)⟩
        case measure => simp [intOf]; omega
    · go_wp2
      go_ret
      exact ⟨N, rfl, by rw [HN.out, Lib.compactUpTo_all d N (fun j hj => HA.out j (by omega)), ← HN.out, Lib.range_map_get, HN.out]; exact hown, HG.out⟩

end Go.Proofs.YtjlcaggnfocabaaGreat
