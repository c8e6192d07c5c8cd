/-
  Rows of booleans, rows of slices: memory words of no law (split from P1: imports no chapter 2).
  Parts, in plain terms: the first cell that no part has begins the next one.
  Memory words and plain facts for parts of a board: rows of booleans, rows of slices.
  Cells on routes, in plain terms.
  Two colours by parts, in plain terms.
  Contracts: whether no leap joins two cells of one colour, in the model (no table is read).
  Contracts: the parts of a board, in the model.
  Contracts: two colours by parts, in the model.
  Paintings: for each colour the cells that have it; colours of a board.
  Paintings by a colouring: plain facts; loads and stores of a painting in a drawn region.
  A map from ints whose keys are known.
  A map from ints whose keys are known; slices.Sorted(maps.Keys(on)): the cells that are there.
  Contracts: leaps onward, as a map whose keys are the cells.
  Contracts: the parts, in the program.
  Contracts: the parts of a board, in the program.
  Contracts: two colours by parts, in the program.
  A row of slices as an answer: what keeps it, how it is compared, marked, held.
  Contracts: rows of slices compared, marked, held.
  Contracts: SidesOfParts, the model.
  Contracts: SidesOfParts, the program.
  The walk of the exact law on SidesOfParts: it answers true, and what was there stays.
-/
import Derived.Test.YtbpgkigoboobeaaGreatMap1
import Derived.Test.YtbpgkigoboobeaaGreatApp
import Derived.Test.YtbpgkigoboobeaaGreatB4
import Derived.Test.YtbpgkigoboobeaaGreatBunHSidesOfParts1
import Derived.Test.YtbpgkigoboobeaaGreatS9
import Derived.Deep.RegionHeld3
import Derived.Test.YtbpgkigoboobeaaGreatE0
import Derived.Test.YtbpgkigoboobeaaGreatPop
import Derived.Test.YtbpgkigoboobeaaGreatK1
import Derived.Test.YtbpgkigoboobeaaGreatB3
import Derived.RangeFuncLeaves
import Derived.OwnWalkIn
import Derived.WalkKit
import Derived.BigRegionIn
import Derived.LoopIn
import Derived.Sort.QuietIn
import Derived.Deep.RegionWith
import Derived.Maps.OwnSet
import Derived.Test.YtbpgkigoboobeaaGreatT2a
import Derived.Test.YtbpgkigoboobeaaGreatIter
import Derived.Test.YtbpgkigoboobeaaGreatShelf
import Derived.TacticsInMore
import Derived.Test.YtbpgkigoboobeaaGreatS10
import Derived.Test.YtbpgkigoboobeaaGreatLaw0
namespace Go.Proofs.YtbpgkigoboobeaaGreat
open Go.RowKit

/-! ### A row of booleans that the call owns -/
def OwnB (E : TypeId) (w : World) (lo : Nat) (A : Option Addr) (n c : Nat) (xs : List Bool) : Prop := w.ownsRow lo E 1 (.slice A n c) n (xs.map Value.bool)
section
variable {E : TypeId} {w w' : World} {lo : Nat} {A : Option Addr} {n c : Nat} {xs : List Bool}
theorem OwnB.len (h : OwnB E w lo A n c xs) : xs.length = n := by simpa [OwnB] using h.1
theorem OwnB.cell {g k : Nat} {x : Bool} (h : OwnB E w lo (some ⟨g, 0, none⟩) n c xs) (hx : xs[k]? = some x) : w.cell? ⟨g, k, none⟩ = some (.bool x) := by
  have hl := h.len
  have hk : k < n := by
    rcases Nat.lt_or_ge k xs.length with h' | h'
    · omega
    · rw [List.getElem?_eq_none h'] at hx; cases hx
  rw [World.ownsRow.cellAt h k (by omega), List.getElem?_map, hx]; rfl
theorem OwnB.frozen {g : Nat} (h : OwnB E w lo (some ⟨g, 0, none⟩) n c xs) (k : Nat) : w.frozen? ⟨g, k, none⟩ = false := World.ownsRow.frozenAt h k
theorem OwnB.stored {g : Nat} (h : OwnB E w lo (some ⟨g, 0, none⟩) n c xs) (k : Nat) (x : Bool) :
    OwnB E (w.setCell ⟨g, k, none⟩ (.bool x)) lo (some ⟨g, 0, none⟩) n c (xs.set k x) ∧ w.grownBy (w.setCell ⟨g, k, none⟩ (.bool x)) (some g) := by
  have := World.ownsRow.stored h k (.bool x)
  rw [← List.map_set] at this
  exact this
theorem OwnB.keep (h : OwnB E w lo A n c xs) (hb : Below w.heap.size w w') : OwnB E w' lo A n c xs := by
  refine ⟨h.1, ?_⟩
  rcases h.2 with hn | ⟨g, cap, cur, hv, hlo, hg, r⟩
  · exact .inl hn
  · exact .inr ⟨g, cap, cur, hv, hlo, (hb.block g (Array.getElem?_eq_some_iff.1 hg).1).trans hg, r⟩
theorem OwnB.other {row : Option Nat} (h : OwnB E w lo A n c xs) (hg : w.grownBy w' row) (hne : ∀ a, A = some a → some a.block ≠ row) : OwnB E w' lo A n c xs := by
  refine ⟨h.1, ?_⟩
  rcases h.2 with hn | ⟨g, cap, cur, hv, hlo, hgg, r⟩
  · exact .inl hn
  · refine .inr ⟨g, cap, cur, hv, hlo, ?_, r⟩
    injection hv with h1
    rw [hg.block g (Array.getElem?_eq_some_iff.1 hgg).1 (hne _ h1)]
    exact hgg
end
theorem infoBl : (Tryz.prog.info? 4).map (fun i => (i.zero, i.size, i.bytes)) = some (some (.bool false), 1, 1) := by kernel_rfl
/-- f 0, f 1, .. : N of them. -/
def boolRow (f : Nat → Bool) (N : Nat) : List Bool := (List.range N).map f
theorem boolRow_at {f : Nat → Bool} {N i : Nat} (h : i < N) : (boolRow f N)[i]? = some (f i) := by simp [boolRow, h]
theorem boolRow_congr {f g : Nat → Bool} {N : Nat} (h : ∀ i, i < N → f i = g i) : boolRow f N = boolRow g N := by
  apply List.map_congr_left; intro i hi; exact h i (List.mem_range.1 hi)
theorem boolRow_set (f : Nat → Bool) (N k : Nat) (b : Bool) : (boolRow f N).set k b = boolRow (fun i => if i = k then b else f i) N := by
  apply List.ext_getElem?
  intro i
  rw [List.getElem?_set]
  by_cases hi : i < N
  · by_cases e : k = i
    · subst e; rw [if_pos rfl, if_pos (by simpa [boolRow] using hi), boolRow_at hi, if_pos rfl]
    · rw [if_neg e, boolRow_at hi, boolRow_at hi, if_neg (fun h => e h.symm)]
  · rw [List.getElem?_eq_none (by simpa [boolRow] using hi), List.getElem?_eq_none (by simpa [boolRow] using hi)]
    split
    · rw [if_neg (by simp [boolRow]; omega)]
    · rfl

/-! ### Blocks that are told apart by what they hold -/
theorem row_block {w : World} {lo : Nat} {E : TypeId} {k : Nat} {a : Addr} {n c : Nat} {xs : List Value} (h : w.ownsRow lo E k (.slice (some a) n c) n xs) : ∃ cur, w.heap[a.block]? = some (.cells cur E (0, 0)) := by
  rcases h.2 with ⟨hv, _⟩ | ⟨g, cap, cur, hv, _, hg, _⟩
  · cases hv
  · injection hv with h1
    injection h1 with h1
    subst h1
    exact ⟨cur, hg⟩
theorem rows_apart {w : World} {lo lo' : Nat} {E E' : TypeId} {k k' : Nat} {a a' : Addr} {n c n' c' : Nat} {xs ys : List Value} (hne : E ≠ E') (h : w.ownsRow lo E k (.slice (some a) n c) n xs) (h' : w.ownsRow lo' E' k' (.slice (some a') n' c') n' ys) : a.block ≠ a'.block := by
  obtain ⟨c1, h1⟩ := row_block h
  obtain ⟨c2, h2⟩ := row_block h'
  intro e
  rw [e, h2] at h1
  injection h1 with h1
  injection h1 with _ h1 _
  exact hne h1.symm
theorem map_apart {w : World} {lo : Nat} {E : TypeId} {k : Nat} {a : Addr} {n c : Nat} {xs : List Value} {P : Program} {kt : TypeId} {mb m : Nat} {z : Value} {f : Int → Value} (h : w.ownsRow lo E k (.slice (some a) n c) n xs) (hm : MapI P kt w mb m z f) : a.block ≠ mb := by
  obtain ⟨c1, h1⟩ := row_block h
  obtain ⟨D, ⟨es, cl, h2, _⟩, _⟩ := hm
  intro e
  rw [e, h2] at h1
  cases h1

/-! ### A row of slices, each a row of its own -/
abbrev SlV := Option Addr × Nat × Nat
def encS (v : SlV) : List Value := [.slice v.1 v.2.1 v.2.2]
/-- The slice '.slice A n c' holds slices that read as the lists ps, each in a block of the call's own. -/
def PartsAt (w : World) (lo top : Nat) (A : Option Addr) (n c : Nat) (ps : List (List Int)) : Prop :=
  ∃ vs : List SlV, OwnK encS 1 22 w lo A n c vs ∧ ps.length = n ∧ (∀ (i : Nat) (v : SlV) (p : List Int), vs[i]? = some v → ps[i]? = some p → OwnI 3 w lo v.1 v.2.1 v.2.2 p) ∧
    (∀ (i j : Nat) (v u : SlV), i < j → vs[i]? = some v → vs[j]? = some u → ∀ x y, v.1 = some x → u.1 = some y → x.block < y.block) ∧
    ∀ (i : Nat) (v : SlV), vs[i]? = some v → ∀ x, v.1 = some x → x.block < top
theorem PartsAt.none_ (w : World) (lo top : Nat) : PartsAt w lo top none 0 0 [] := ⟨[], OwnK.none_ _ _ _ _ _, rfl, fun i v p h => by simp at h, fun i j v u _ h => by simp at h, fun i v h => by simp at h⟩
theorem PartsAt.other {w w' : World} {lo top : Nat} {A : Option Addr} {n c : Nat} {ps : List (List Int)} {row : Option Nat} (h : PartsAt w lo top A n c ps) (hg : w.grownBy w' row)
    (hA : ∀ a, A = some a → some a.block ≠ row) (hI : ∀ (a : Addr) (m k : Nat) (p : List Int), OwnI 3 w lo (some a) m k p → some a.block ≠ row) : PartsAt w' lo top A n c ps := by
  obtain ⟨vs, h1, h2, h3, h4, h5⟩ := h
  refine ⟨vs, h1.other hg hA, h2, fun i v p hv hp => (h3 i v p hv hp).other hg (fun a ha => ?_), h4, h5⟩
  have h5 := h3 i v p hv hp
  rw [ha] at h5
  exact hI a _ _ _ h5
theorem PartsAt.keep {w w' : World} {lo top : Nat} {A : Option Addr} {n c : Nat} {ps : List (List Int)} (h : PartsAt w lo top A n c ps) (hb : Below w.heap.size w w') : PartsAt w' lo top A n c ps :=
  h.other (grown_of_below hb none) (fun _ _ => by simp) (fun _ _ _ _ _ => by simp)
theorem PartsAt.lower {w : World} {lo lo' top : Nat} {A : Option Addr} {n c : Nat} {ps : List (List Int)} (h : PartsAt w lo top A n c ps) (hl : lo' ≤ lo) : PartsAt w lo' top A n c ps := by
  obtain ⟨vs, h1, h2, h3, h4, h5⟩ := h
  exact ⟨vs, h1.lower hl, h2, fun i v p hv hp => (h3 i v p hv hp).lower hl, h4, h5⟩
theorem PartsAt.len {w : World} {lo top : Nat} {A : Option Addr} {n c : Nat} {ps : List (List Int)} (h : PartsAt w lo top A n c ps) : ps.length = n := by obtain ⟨_, _, h, _⟩ := h; exact h
/-- A write into a row of booleans leaves it alone. -/
theorem PartsAt.bools {w w' : World} {lo lo' top : Nat} {A : Option Addr} {n c : Nat} {ps : List (List Int)} {gb m k : Nat} {bs : List Bool} (h : PartsAt w lo top A n c ps) (hB : OwnB 4 w lo' (some ⟨gb, 0, none⟩) m k bs) (hg : w.grownBy w' (some gb)) : PartsAt w' lo top A n c ps := by
  have h0 := h
  obtain ⟨vs, h1, _⟩ := h0
  refine h.other hg (fun a ha => ?_) (fun a m' k' p hp => ?_)
  · subst ha
    have := rows_apart (by decide : 22 ≠ 4) h1.2 hB
    simpa using this
  · have := rows_apart (by decide : 3 ≠ 4) hp hB
    simpa using this
/-- An update of a map leaves it alone. -/
theorem PartsAt.maps {w w' : World} {lo top : Nat} {A : Option Addr} {n c : Nat} {ps : List (List Int)} {P : Program} {kt : TypeId} {mb m : Nat} {z : Value} {f : Int → Value} (h : PartsAt w lo top A n c ps) (hM : MapI P kt w mb m z f) (hg : w.grownBy w' (some mb)) : PartsAt w' lo top A n c ps := by
  have h0 := h
  obtain ⟨vs, h1, _⟩ := h0
  refine h.other hg (fun a ha => ?_) (fun a m' k' p hp => ?_)
  · subst ha
    have := map_apart h1.2 hM
    simpa using this
  · have := map_apart hp hM
    simpa using this
theorem own_keepLo {E : TypeId} {k : Nat} {w w' : World} {lo L : Nat} {v : Value} {n : Nat} {xs : List Value} (h : w.ownsRow lo E k v n xs) (hb : Below L w w') (hL : ∀ b, v.ownBlock = some b → b < L) : w'.ownsRow lo E k v n xs := by
  refine ⟨h.1, ?_⟩
  rcases h.2 with hn | ⟨g, cap, cur, hv, hlo, hg, r⟩
  · exact .inl hn
  · exact .inr ⟨g, cap, cur, hv, hlo, (hb.block g (hL g (by rw [hv]; rfl))).trans hg, r⟩
theorem OwnB.keepLo {E : TypeId} {w w' : World} {lo L g n c : Nat} {xs : List Bool} (h : OwnB E w lo (some ⟨g, 0, none⟩) n c xs) (hb : Below L w w') (hL : g < L) : OwnB E w' lo (some ⟨g, 0, none⟩) n c xs :=
  own_keepLo h hb (fun b hb => by simp [Value.ownBlock] at hb; omega)
theorem PartsAt.keepLo {w w' : World} {lo top L : Nat} {A : Option Addr} {n c : Nat} {ps : List (List Int)} (h : PartsAt w lo top A n c ps) (hb : Below L w w') (hA : ∀ a, A = some a → a.block < L) (ht : top ≤ L) : PartsAt w' lo top A n c ps := by
  obtain ⟨vs, h1, h2, h3, h4, h5⟩ := h
  refine ⟨vs, ⟨h1.1, own_keepLo h1.2 hb (fun b hb => ?_)⟩, h2, fun i v p hv hp => own_keepLo (h3 i v p hv hp) hb (fun b hb => ?_), h4, h5⟩
  · rcases A with _ | a
    · simp [Value.ownBlock] at hb
    · simp [Value.ownBlock] at hb; rw [← hb]; exact hA a rfl
  · obtain ⟨v1, v2, v3⟩ := v
    rcases v1 with _ | a
    · simp [Value.ownBlock] at hb
    · simp [Value.ownBlock] at hb; have := h5 i _ hv a rfl; omega
theorem PartsAt.lt {w : World} {lo top : Nat} {A : Option Addr} {n c : Nat} {ps : List (List Int)} (h : PartsAt w lo top A n c ps) : ∀ a, A = some a → a.block < w.heap.size := fun a ha => by
  obtain ⟨vs, h1, _⟩ := h
  subst ha
  obtain ⟨cur, h⟩ := row_block h1.2
  exact (Array.getElem?_eq_some_iff.1 h).1
theorem grown_below {a b c : World} {row : Option Nat} (h : a.grownBy b row) (k : Below a.heap.size b c) : a.grownBy c row :=
  ⟨k.os.trans h.os, k.tape.trans h.tape, k.output.trans h.output, Nat.le_trans h.size k.size, fun i hi hne => (k.block i hi).trans (h.block i hi hne)⟩
/-- append of one slice, whose row lies behind all the others. -/
theorem wpList_appS {ops : Array Oper} {rest : List Oper} {o : Oper} {a : Act} {Q : Exit → Act → World → Prop} {w : World} (hgd : o.guard = none) (s x : Operand)
    (ho : o.op = .call { callee := .builtin .append, args := #[s, x], argTypes := #[28, 28] }) (lo top : Nat) (A : Option Addr) (n c : Nat) (ps : List (List Int)) (A3 : Option Addr) (n3 c3 : Nat) (p : List Int)
    (hs : a.eval s = .slice A n c) (hown : PartsAt w lo top A n c ps) (hp : OwnI 3 w lo A3 n3 c3 p) (hpn : ∀ y, A3 = some y → top ≤ y.block) (htop : top ≤ w.heap.size)
    (hx : a.eval x = .slice (some ⟨w.heap.size, 0, none⟩) 1 1)
    (hn : n ≤ 100000) (hlo : lo ≤ w.heap.size)
    (h : ∀ A' c' w', PartsAt w' lo w.heap.size A' (n + 1) c' (ps ++ [p]) → Below lo w w' → (∀ (gb lo' m k : Nat) (bs : List Bool), OwnB 4 w lo' (some ⟨gb, 0, none⟩) m k bs → OwnB 4 w' lo' (some ⟨gb, 0, none⟩) m k bs) →
      (∀ (P : Program) (kt : TypeId) (mb m : Nat) (z : Value) (f : Int → Value), MapI P kt w mb m z f → MapI P kt w' mb m z f) → (∀ (lo' : Nat) (a' : Addr) (m k : Nat) (q : List Int), OwnI 3 w lo' (some a') m k q → OwnI 3 w' lo' (some a') m k q) →
      wpList Tryz.prog ops Q rest (a.put o.dst (.slice A' (n + 1) c')) w') :
    wpList Tryz.prog ops Q (o :: rest) a (w.alloc (.cells #[.slice A3 n3 c3] 22)) := by
  obtain ⟨vs, h1, h2, h3, h4, h5⟩ := hown
  have hal : Below w.heap.size w (w.alloc (.cells #[.slice A3 n3 c3] 22)) := below_new (Below.refl _ _) _
  have hz : (Tryz.prog.info? 22).map (fun i => (i.zero, i.size, i.bytes)) = some (some (.slice none 0 0), 1, 24) := by kernel_rfl
  obtain ⟨i0, hi, hz0, hz1, hz2⟩ := info_parts hz
  refine wpList_appK (enc := encS) (k := 1) (E := 22) hgd s x 28 ho i0 (.slice none 0 0) 24 Tryz.underlying28 hi hz0 hz1 hz2 rfl (by decide) (by decide) (fun _ => rfl) (fun v u hu => ?_) [(A3, n3, c3)] ⟨w.heap.size, 0, none⟩ 1 1 hs (h1.keep hal) hx rfl (fun j u hj => ?_) (by omega) (by simp; omega) ?_
  · simp [encS] at hu; subst hu; rfl
  · match j, hj with
    | 0, hj =>
      simp [encS] at hj; subst hj
      exact cell_of_row (w.alloc (.cells #[.slice A3 n3 c3] 22)) w.heap.size 0 #[.slice A3 n3 c3] 22 (0, 0) (heap_alloc_new w _)
    | j + 1, hj => simp [encS] at hj
  · intro A' c' w' hK hgr hbl
    have hgw : w.grownBy w' (rowOf A) := grown_next (grown_of_below hal _) (by rcases A with _ | b <;> exact hgr)
    have keepI : ∀ (lo' : Nat) (a' : Addr) (m k : Nat) (q : List Int), OwnI 3 w lo' (some a') m k q → OwnI 3 w' lo' (some a') m k q := fun lo' a' m k q hq => hq.other hgw (fun a ha => by
      injection ha with ha
      subst ha
      rcases A with _ | b
      · simp [rowOf]
      · have := rows_apart (by decide : 3 ≠ 22) hq h1.2
        simpa [rowOf] using this)
    have keepN : ∀ (lo' : Nat) (v : Option Addr) (m k : Nat) (q : List Int), OwnI 3 w lo' v m k q → OwnI 3 w' lo' v m k q := fun lo' v m k q hq => by
      rcases v with _ | v
      · exact hq.other hgw (fun a ha => by cases ha)
      · exact keepI lo' v m k q hq
    refine h A' c' w' ⟨vs ++ [(A3, n3, c3)], hK, by rw [List.length_append, h2]; rfl, fun i v q hv hq => ?_, fun i j v u hij hv hu y z hy hz => ?_, fun i v hv y hy => ?_⟩ ((Below.refl _ _).alloc hlo _ |>.trans hbl) (fun gb lo' m k bs hB => hB.other hgw (fun a ha => ?_)) (fun P kt mb m z f hM => hM.other hgw ?_) keepI
    · have hvl : vs.length = n := h1.len
      by_cases e : i < n
      · rw [List.getElem?_append_left (by omega)] at hv
        rw [List.getElem?_append_left (by omega)] at hq
        exact keepN _ _ _ _ _ (h3 i v q hv hq)
      · rw [List.getElem?_append_right (by omega)] at hv
        rw [List.getElem?_append_right (by omega)] at hq
        have e0 : i - n = 0 := by
          rcases Nat.eq_zero_or_pos (i - n) with h | h
          · exact h
          · rw [hvl, List.getElem?_eq_none (by simp; omega)] at hv; cases hv
        rw [hvl, e0] at hv
        rw [h2, e0] at hq
        simp at hv hq
        subst hv; subst hq
        exact keepN _ _ _ _ _ hp
    · have hvl : vs.length = n := h1.len
      have hj : j < (vs ++ [(A3, n3, c3)]).length := (List.getElem?_eq_some_iff.1 hu).1
      rw [List.length_append, hvl] at hj
      simp only [List.length_cons, List.length_nil] at hj
      rw [List.getElem?_append_left (by omega)] at hv
      by_cases e : j < n
      · rw [List.getElem?_append_left (by omega)] at hu
        exact h4 i j v u hij hv hu y z hy hz
      · rw [List.getElem?_append_right (by omega), hvl, show j - n = 0 by omega] at hu
        simp at hu; subst hu
        have := h5 i v hv y hy
        have := hpn z hz
        omega
    · have hvl : vs.length = n := h1.len
      by_cases e : i < n
      · rw [List.getElem?_append_left (by omega)] at hv
        have := h5 i v hv y hy
        omega
      · have hj : i < (vs ++ [(A3, n3, c3)]).length := (List.getElem?_eq_some_iff.1 hv).1
        rw [List.length_append, hvl] at hj
        simp only [List.length_cons, List.length_nil] at hj
        rw [List.getElem?_append_right (by omega), hvl, show i - n = 0 by omega] at hv
        simp at hv; subst hv
        rcases hp.form with ⟨h, _⟩ | ⟨g, h, _, h2, _⟩
        · rw [h] at hy; cases hy
        · rw [h] at hy; injection hy with hy; rw [← hy]; exact h2
    · injection ha with ha
      subst ha
      rcases A with _ | b
      · simp [rowOf]
      · have := rows_apart (by decide : 4 ≠ 22) hB h1.2
        simpa [rowOf] using this
    · rcases A with _ | b
      · simp [rowOf]
      · have := map_apart h1.2 hM
        intro e; injection e with e; exact this e.symm

end Go.Proofs.YtbpgkigoboobeaaGreat

namespace Go.Proofs.YtbpgkigoboobeaaGreat
open Go.RowKit

def inParts (ps : List (List Int)) (x : Int) : Bool := ps.any fun p => p.contains x
def partStep (P : Int → List Int) (ps : List (List Int)) (c : Int) : List (List Int) := if inParts ps c = true then ps else ps ++ [P c]
def gTo (P : Int → List Int) (cells : List Int) (k : Nat) : List (List Int) := (cells.take k).foldl (partStep P) []
def gAll (P : Int → List Int) (cells : List Int) : List (List Int) := cells.foldl (partStep P) []
theorem inParts_app (ps : List (List Int)) (p : List Int) (x : Int) : inParts (ps ++ [p]) x = (inParts ps x || p.contains x) := by simp [inParts]
theorem gTo_yes {P : Int → List Int} {cells : List Int} {c : Int} {k : Nat} (hc : cells[k]? = some c) (h : inParts (gTo P cells k) c = true) : gTo P cells (k + 1) = gTo P cells k := by
  rw [gTo, take_foldl _ hc, partStep]; exact if_pos h
theorem gTo_no {P : Int → List Int} {cells : List Int} {c : Int} {k : Nat} (hc : cells[k]? = some c) (h : inParts (gTo P cells k) c = false) : gTo P cells (k + 1) = gTo P cells k ++ [P c] := by
  rw [gTo, take_foldl _ hc, partStep]; exact if_neg (by rw [show inParts ((cells.take k).foldl (partStep P) []) c = false from h]; simp)
theorem gTo_len (P : Int → List Int) (cells : List Int) : ∀ k, (gTo P cells k).length ≤ k
  | 0 => by simp [gTo]
  | k + 1 => by
    have ih := gTo_len P cells k
    cases hc : cells[k]? with
    | none =>
      have e : gTo P cells (k + 1) = gTo P cells k := by rw [gTo, gTo, List.take_add_one, hc]; simp
      rw [e]; omega
    | some c =>
      cases h : inParts (gTo P cells k) c with
      | true => rw [gTo_yes hc h]; omega
      | false => rw [gTo_no hc h, List.length_append]; simp; omega
theorem sel_contains {f : Nat → Bool} {N i : Nat} (h : i < N) : (selTo f N).contains (i : Int) = f i := by
  cases hf : f i with
  | true => rw [List.contains_iff_mem]; exact selTo_mem.2 ⟨i, h, hf, rfl⟩
  | false =>
    rw [← Bool.not_eq_true, List.contains_iff_mem]
    intro hm
    obtain ⟨j, _, hj, e⟩ := selTo_mem.1 hm
    rw [show j = i by omega, hf] at hj; cases hj
theorem take_contains {p : List Int} {j : Nat} {y x : Int} (hy : p[j]? = some y) : (p.take (j + 1)).contains x = (if x = y then true else (p.take j).contains x) := by
  rw [List.take_add_one, hy]
  by_cases e : x = y
  · subst e; simp
  · simp [e]

end Go.Proofs.YtbpgkigoboobeaaGreat

namespace Go.Proofs.YtbpgkigoboobeaaGreat
open Go.RowKit

/-! ### Parts, in plain terms -/
def partL (W H : Int) (xs : List Int) (a b c : Int) : List Int := selTo (nearB (distL W H xs a b c) 64) (W * H).toNat
def partsTo (W H : Int) (xs : List Int) (a b : Int) (k : Nat) : List (List Int) := ((cellsL W H xs).take k).foldl (partStep (partL W H xs a b)) []
def partsL (W H : Int) (xs : List Int) (a b : Int) : List (List Int) := (cellsL W H xs).foldl (partStep (partL W H xs a b)) []
theorem partsTo_yes {W H a b c : Int} {xs : List Int} {k : Nat} (hc : (cellsL W H xs)[k]? = some c) (h : inParts (partsTo W H xs a b k) c = true) : partsTo W H xs a b (k + 1) = partsTo W H xs a b k := by
  rw [partsTo, take_foldl _ hc, partStep]; exact if_pos h
theorem partsTo_no {W H a b c : Int} {xs : List Int} {k : Nat} (hc : (cellsL W H xs)[k]? = some c) (h : inParts (partsTo W H xs a b k) c = false) : partsTo W H xs a b (k + 1) = partsTo W H xs a b k ++ [partL W H xs a b c] := by
  rw [partsTo, take_foldl _ hc, partStep]; exact if_neg (by rw [show inParts (((cellsL W H xs).take k).foldl (partStep (partL W H xs a b)) []) c = false from h]; simp)
theorem partsTo_len (W H : Int) (xs : List Int) (a b : Int) : ∀ k, (partsTo W H xs a b k).length ≤ k
  | 0 => by simp [partsTo]
  | k + 1 => by
    have ih := partsTo_len W H xs a b k
    cases hc : (cellsL W H xs)[k]? with
    | none =>
      have e : partsTo W H xs a b (k + 1) = partsTo W H xs a b k := by rw [partsTo, partsTo, List.take_add_one, hc]; simp
      rw [e]; omega
    | some c =>
      cases h : inParts (partsTo W H xs a b k) c with
      | true => rw [partsTo_yes hc h]; omega
      | false => rw [partsTo_no hc h, List.length_append]; simp; omega
end Go.Proofs.YtbpgkigoboobeaaGreat

namespace Go.Proofs.YtbpgkigoboobeaaGreat
open Go.RowKit

def routeSel (D1 D2 : List Int) (d : Int) (i : Nat) : Bool := decide (0 ≤ D1.getD i (-1) ∧ 0 ≤ D2.getD i (-1) ∧ D1.getD i (-1) + D2.getD i (-1) = d)
def onRoutesV (W H : Int) (xs : List Int) (a b p q : Int) : List Int := if onB W H xs a b [p, q] = true then selTo (routeSel (distL W H xs a b p) (distL W H xs a b q) (distV W H xs a b p q)) (W * H).toNat else []
theorem sel_filter {W H : Int} {hs : List Int} (f : Int → Bool) : ∀ k : Nat, (cellsTo W H hs k).filter f = selTo (fun i => hasB W H hs (i : Int) && f (i : Int)) k
  | 0 => rfl
  | k + 1 => by
    have ih := sel_filter (W := W) (H := H) (hs := hs) f k
    cases hh : hasB W H hs (k : Int) with
    | false => rw [cellsTo_no hh, ih, selTo_no (by simp [hh])]
    | true =>
      rw [cellsTo_yes hh, List.filter_append, ih]
      cases hf : f (k : Int) with
      | false => rw [selTo_no (by simp [hf])]; simp [hf]
      | true => rw [selTo_yes (by simp [hh, hf])]; simp [hf]
theorem leaps_sym {W H a b : Int} {hs : List Int} (x y : Int) (hx : hasB W H hs x = true) (hy : y ∈ leapsL W H hs a b x) : hasB W H hs y = true ∧ x ∈ leapsL W H hs a b y := by
  rw [leapsL, List.mem_filter] at hy
  refine ⟨cellsL_mem.1 hy.1, ?_⟩
  rw [leapsL, List.mem_filter]
  exact ⟨cellsL_mem.2 hx, by rw [leapB_comm]; exact hy.2⟩
theorem dist_lo {W H a b p : Int} {xs : List Int} {N : Nat} (h : OnFacts W H xs a b N) (hp : hasB W H xs p = true) {i : Nat} (hi : i < N) : -1 ≤ (distL W H xs a b p).getD i (-1) ∧ (distL W H xs a b p).getD i (-1) ≤ 64 := by
  have hl := dist_len h hp
  rw [List.getD_eq_getElem?_getD, List.getElem?_eq_getElem (by omega)]
  have hm : (distL W H xs a b p)[i]'(by omega) ∈ farL (leapsL W H xs a b) 144 p := by rw [far64 h hp]; exact List.mem_append_left _ (List.getElem_mem _)
  exact far_bd h hp _ hm
theorem on_reach {W H a b p q : Int} {xs : List Int} {N : Nat} (h : OnFacts W H xs a b N) (hp : hasB W H xs p = true) (hq : hasB W H xs q = true) (hd : 0 ≤ (distL W H xs a b p).getD q.toNat (-1)) {i : Nat} (hi : i < N) {d : Int} (hd0 : 0 ≤ d) :
    (hasB W H xs (i : Int) && decide ((distL W H xs a b p).getD i (-1) + (distL W H xs a b q).getD i (-1) = d)) = routeSel (distL W H xs a b p) (distL W H xs a b q) d i := by
  have hN : (W * H).toNat = N := by have := h.wh; omega
  have rg : ∀ x, hasB W H xs x = true → 0 ≤ x ∧ x < (N : Int) := fun x hx => by have := (hasB_iff.1 hx).1; rw [h.wh] at this; exact this
  have had : ∀ c : Int, 0 ≤ c ∧ c < (N : Int) → ∀ x ∈ leapsL W H xs a b c, 0 ≤ x ∧ x < (N : Int) := fun c _ x hx => leaps_in h.wh hx
  have b1 := dist_lo h hp hi
  have b2 := dist_lo h hq hi
  have e1 : distL W H xs a b p = farL (leapsL W H xs a b) N p := by rw [distL, hN]
  have e2 : distL W H xs a b q = farL (leapsL W H xs a b) N q := by rw [distL, hN]
  have back : 0 ≤ (farL (leapsL W H xs a b) N q).getD p.toNat (-1) := by
    have := far_symm (C := fun x => hasB W H xs x = true) rg leaps_sym hp had (i := q.toNat) (by rw [← e1]; exact hd)
    have := this.2
    rwa [Int.toNat_of_nonneg (rg q hq).1] at this
  have iff1 : 0 ≤ (distL W H xs a b p).getD i (-1) → 0 ≤ (distL W H xs a b q).getD i (-1) := fun hA => by
    rw [e2]; rw [e1] at hA
    exact far_trans (rg q hq) (rg p hp) had back hA
  have iff2 : 0 ≤ (distL W H xs a b q).getD i (-1) → 0 ≤ (distL W H xs a b p).getD i (-1) := fun hB => by
    rw [e1]; rw [e2] at hB; rw [e1] at hd
    exact far_trans (rg p hp) (rg q hq) had hd hB
  by_cases hA : 0 ≤ (distL W H xs a b p).getD i (-1)
  · have hB := iff1 hA
    have hh : hasB W H xs (i : Int) = true := by
      have := far_symm (C := fun x => hasB W H xs x = true) rg leaps_sym hp had (i := i) (by rw [← e1]; exact hA)
      exact this.1
    rw [hh, routeSel]
    simp only [Bool.true_and, decide_eq_decide]
    exact ⟨fun h => ⟨hA, hB, h⟩, fun h => h.2.2⟩
  · have hB : ¬ 0 ≤ (distL W H xs a b q).getD i (-1) := fun h => hA (iff2 h)
    rw [routeSel, decide_eq_false (show ¬ (distL W H xs a b p).getD i (-1) + (distL W H xs a b q).getD i (-1) = d by omega), Bool.and_false, decide_eq_false (fun h => hA h.1)]

end Go.Proofs.YtbpgkigoboobeaaGreat

namespace Go.Proofs.YtbpgkigoboobeaaGreat
open Go.RowKit

/-- The colours of the cells before the k-th one with a distance. -/
def layK (D : List Int) (out : List Int) : Nat → List Int
  | 0 => out
  | k + 1 => if 0 ≤ D.getD k (-1) then (layK D out k).set k (D.getD k (-1) % 2) else layK D out k
theorem layK_yes {D out : List Int} {k : Nat} (h : 0 ≤ D.getD k (-1)) : layK D out (k + 1) = (layK D out k).set k (D.getD k (-1) % 2) := if_pos h
theorem layK_no {D out : List Int} {k : Nat} (h : ¬ 0 ≤ D.getD k (-1)) : layK D out (k + 1) = layK D out k := if_neg h
theorem layK_len (D out : List Int) : ∀ k, (layK D out k).length = out.length
  | 0 => rfl
  | k + 1 => by
    by_cases h : 0 ≤ D.getD k (-1)
    · rw [layK_yes h, List.length_set, layK_len D out k]
    · rw [layK_no h, layK_len D out k]
theorem layK_at (D out : List Int) (i : Nat) (hi : i < out.length) : ∀ k, (layK D out k).getD i (-1) = if i < k ∧ 0 ≤ D.getD i (-1) then D.getD i (-1) % 2 else out.getD i (-1)
  | 0 => by simp [layK]
  | k + 1 => by
    have ih := layK_at D out i hi k
    have hl := layK_len D out k
    by_cases h : 0 ≤ D.getD k (-1)
    · rw [layK_yes h, List.getD_eq_getElem?_getD, List.getElem?_set]
      by_cases e : k = i
      · subst e
        rw [if_pos rfl, if_pos (by omega), if_pos ⟨by omega, h⟩]; rfl
      · rw [if_neg e, ← List.getD_eq_getElem?_getD, ih]
        by_cases h2 : i < k ∧ 0 ≤ D.getD i (-1)
        · rw [if_pos h2, if_pos ⟨by omega, h2.2⟩]
        · rw [if_neg h2, if_neg (fun h3 => h2 ⟨by omega, h3.2⟩)]
    · rw [layK_no h, ih]
      by_cases h2 : i < k ∧ 0 ≤ D.getD i (-1)
      · rw [if_pos h2, if_pos ⟨by omega, h2.2⟩]
      · rw [if_neg h2, if_neg (fun h3 => h2 ⟨by
          rcases Nat.lt_or_ge i k with h4 | h4
          · exact h4
          · have : i = k := by omega
            subst this; exact absurd h3.2 h, h3.2⟩)]

/-- One cell painted by the distances D. -/
def putD (D out : List Int) (x : Int) : List Int := out.set x.toNat (D.getD x.toNat (-1) % 2)
theorem put_part {f : Nat → Bool} {D out : List Int} : ∀ k, (∀ i, i < k → f i = decide (0 ≤ D.getD i (-1))) → (selTo f k).foldl (putD D) out = layK D out k
  | 0, _ => rfl
  | k + 1, h => by
    have ih := put_part (f := f) (D := D) (out := out) k (fun i hi => h i (by omega))
    have hk := h k (by omega)
    by_cases h0 : 0 ≤ D.getD k (-1)
    · rw [selTo_yes (by rw [hk]; simpa using h0), List.foldl_append, ih, layK_yes h0, List.foldl_cons, List.foldl_nil, putD, Int.toNat_natCast]
    · rw [selTo_no (by rw [hk]; simpa using h0), ih, layK_no h0]
theorem sel_head {f : Nat → Bool} {c : Nat} (hc : f c = true) (hlt : ∀ i, i < c → f i = false) : ∀ k, c < k → (selTo f k).head? = some (c : Int)
  | 0, h => by omega
  | k + 1, h => by
    by_cases e : c = k
    · subst e
      rw [selTo_yes hc, selTo_none c hlt]; rfl
    · have ih := sel_head hc hlt k (by omega)
      cases hf : f k with
      | true => rw [selTo_yes hf, List.head?_append, ih]; rfl
      | false => rw [selTo_no hf, ih]

/-! ### The model: cell by cell -/
def twoStep (F : Int → List Int) (N : Nat) (out : List Int) (c : Int) : List Int := if 0 ≤ out.getD c.toNat (-1) then out else layK (F c) out N
def twoTo (W H : Int) (xs : List Int) (a b : Int) (k : Nat) : List Int := ((cellsL W H xs).take k).foldl (twoStep (distL W H xs a b) (W * H).toNat) (List.replicate (W * H).toNat (-1))
def twoL (W H : Int) (xs : List Int) (a b : Int) : List Int := (cellsL W H xs).foldl (twoStep (distL W H xs a b) (W * H).toNat) (List.replicate (W * H).toNat (-1))
theorem twoTo_next {W H a b c : Int} {xs : List Int} {k : Nat} (hc : (cellsL W H xs)[k]? = some c) : twoTo W H xs a b (k + 1) = twoStep (distL W H xs a b) (W * H).toNat (twoTo W H xs a b k) c := take_foldl _ hc _
theorem twoTo_stop {W H a b : Int} {xs : List Int} {k : Nat} (hc : (cellsL W H xs)[k]? = none) : twoTo W H xs a b (k + 1) = twoTo W H xs a b k := by
  rw [twoTo, twoTo, List.take_add_one, hc]; simp
theorem partsTo_stop {W H a b : Int} {xs : List Int} {k : Nat} (hc : (cellsL W H xs)[k]? = none) : partsTo W H xs a b (k + 1) = partsTo W H xs a b k := by
  rw [partsTo, partsTo, List.take_add_one, hc]; simp

/-! ### The program: part by part -/
def putPart (F : Int → List Int) (out p : List Int) : List Int := p.foldl (putD (F (p.headD 0))) out
def byParts (F : Int → List Int) (N : Nat) (ps : List (List Int)) : List Int := ps.foldl (putPart F) (List.replicate N (-1))
theorem byParts_snoc (F : Int → List Int) (N : Nat) (ps : List (List Int)) (p : List Int) : byParts F N (ps ++ [p]) = putPart F (byParts F N ps) p := by simp [byParts]

structure TwoOk (W H : Int) (xs : List Int) (a b : Int) (N k : Nat) : Prop where
  eq : twoTo W H xs a b k = byParts (distL W H xs a b) N (partsTo W H xs a b k)
  len : (twoTo W H xs a b k).length = N
  iff : ∀ i, i < N → (0 ≤ (twoTo W H xs a b k).getD i (-1) ↔ inParts (partsTo W H xs a b k) (i : Int) = true)
  rng : ∀ i, i < N → (twoTo W H xs a b k).getD i (-1) = -1 ∨ (twoTo W H xs a b k).getD i (-1) = 0 ∨ (twoTo W H xs a b k).getD i (-1) = 1
  all : ∀ j x, j < k → (cellsL W H xs)[j]? = some x → inParts (partsTo W H xs a b k) x = true
  parts : ∀ p ∈ partsTo W H xs a b k, ∃ c, hasB W H xs c = true ∧ p = partL W H xs a b c ∧ p.head? = some c ∧ ∀ i : Nat, i < N → p.contains (i : Int) = true → (distL W H xs a b c).getD i (-1) % 2 = (twoTo W H xs a b k).getD i (-1)

theorem partL_near {W H a b c : Int} {xs : List Int} {N : Nat} (h : OnFacts W H xs a b N) (hp : hasB W H xs c = true) {i : Nat} (hi : i < N) : nearB (distL W H xs a b c) 64 i = decide (0 ≤ (distL W H xs a b c).getD i (-1)) := by
  have := dist_lo h hp hi
  rw [nearB, inB]
  exact decide_eq_decide.2 ⟨fun h => h.1, fun h => ⟨h, this.2⟩⟩
theorem reach_sym {W H a b p : Int} {xs : List Int} {N i : Nat} (h : OnFacts W H xs a b N) (hp : hasB W H xs p = true) (hd : 0 ≤ (distL W H xs a b p).getD i (-1)) : hasB W H xs (i : Int) = true ∧ 0 ≤ (distL W H xs a b (i : Int)).getD p.toNat (-1) := by
  have hN : (W * H).toNat = N := by have := h.wh; omega
  have rg : ∀ x, hasB W H xs x = true → 0 ≤ x ∧ x < (N : Int) := fun x hx => by have := (hasB_iff.1 hx).1; rw [h.wh] at this; exact this
  have had : ∀ c : Int, 0 ≤ c ∧ c < (N : Int) → ∀ x ∈ leapsL W H xs a b c, 0 ≤ x ∧ x < (N : Int) := fun c _ x hx => leaps_in h.wh hx
  have e : ∀ q, distL W H xs a b q = farL (leapsL W H xs a b) N q := fun q => by rw [distL, hN]
  rw [e] at hd ⊢
  exact far_symm (C := fun x => hasB W H xs x = true) rg leaps_sym hp had hd
theorem reach_trans {W H a b p q : Int} {xs : List Int} {N i : Nat} (h : OnFacts W H xs a b N) (hp : hasB W H xs p = true) (hq : hasB W H xs q = true) (h1 : 0 ≤ (distL W H xs a b p).getD q.toNat (-1)) (h2 : 0 ≤ (distL W H xs a b q).getD i (-1)) : 0 ≤ (distL W H xs a b p).getD i (-1) := by
  have hN : (W * H).toNat = N := by have := h.wh; omega
  have rg : ∀ x, hasB W H xs x = true → 0 ≤ x ∧ x < (N : Int) := fun x hx => by have := (hasB_iff.1 hx).1; rw [h.wh] at this; exact this
  have had : ∀ c : Int, 0 ≤ c ∧ c < (N : Int) → ∀ x ∈ leapsL W H xs a b c, 0 ≤ x ∧ x < (N : Int) := fun c _ x hx => leaps_in h.wh hx
  have e : ∀ q, distL W H xs a b q = farL (leapsL W H xs a b) N q := fun q => by rw [distL, hN]
  rw [e] at h1 h2 ⊢
  exact far_trans (rg p hp) (rg q hq) had h1 h2

theorem two_ok {W H a b : Int} {xs : List Int} {N : Nat} (h : OnFacts W H xs a b N) : ∀ k, TwoOk W H xs a b N k
  | 0 => by
    have hN : (W * H).toNat = N := by have := h.wh; omega
    have e : twoTo W H xs a b 0 = List.replicate N (-1) := by rw [twoTo, hN]; rfl
    have hg : ∀ i, i < N → (List.replicate N (-1 : Int)).getD i (-1) = -1 := fun i hi => by
      rw [List.getD_eq_getElem?_getD, List.getElem?_replicate, if_pos hi]; rfl
    refine ⟨e, by rw [e, List.length_replicate], fun i hi => ?_, fun i hi => ?_, fun j x hj => by omega, fun p hp => by simp [partsTo] at hp⟩
    · rw [e, hg i hi]; simp [partsTo, inParts]
    · rw [e, hg i hi]; exact Or.inl rfl
  | k + 1 => by
    have ih := two_ok h k
    have hN : (W * H).toNat = N := by have := h.wh; omega
    cases hc : (cellsL W H xs)[k]? with
    | none =>
      rcases ih with ⟨h1, h2, h3, h4, h5, h6⟩
      refine ⟨by rw [twoTo_stop hc, partsTo_stop hc]; exact h1, by rw [twoTo_stop hc]; exact h2, by rw [twoTo_stop hc, partsTo_stop hc]; exact h3, by rw [twoTo_stop hc]; exact h4, fun j x hj hx => ?_, by rw [partsTo_stop hc, twoTo_stop hc]; exact h6⟩
      rw [partsTo_stop hc]
      rcases Nat.lt_or_ge j k with hjk | hjk
      · exact h5 j x hjk hx
      · have : j = k := by omega
        subst this; rw [hc] at hx; cases hx
    | some c =>
      have hh : hasB W H xs c = true := cellsL_mem.1 (List.mem_of_getElem? hc)
      have hr := (hasB_iff.1 hh).1
      have hcN : c.toNat < N := by have := h.wh; omega
      have ec : ((c.toNat : Nat) : Int) = c := Int.toNat_of_nonneg hr.1
      have hin := ih.iff c.toNat hcN
      rw [ec] at hin
      cases hP : inParts (partsTo W H xs a b k) c with
      | true =>
        have e1 := partsTo_yes hc hP
        have e2 : twoTo W H xs a b (k + 1) = twoTo W H xs a b k := by rw [twoTo_next hc, twoStep, if_pos (hin.2 hP)]
        rcases ih with ⟨h1, h2, h3, h4, h5, h6⟩
        refine ⟨by rw [e1, e2]; exact h1, by rw [e2]; exact h2, by rw [e1, e2]; exact h3, by rw [e2]; exact h4, fun j x hj hx => ?_, by rw [e1, e2]; exact h6⟩
        rw [e1]
        rcases Nat.lt_or_ge j k with hjk | hjk
        · exact h5 j x hjk hx
        · have : j = k := by omega
          subst this; rw [hc] at hx; cases hx; exact hP
      | false =>
        have e1 := partsTo_no hc hP
        have e2 : twoTo W H xs a b (k + 1) = layK (distL W H xs a b c) (twoTo W H xs a b k) N := by
          rw [twoTo_next hc, twoStep, if_neg (by rw [hin, hP]; simp), hN]
        have hnear : ∀ i, i < N → nearB (distL W H xs a b c) 64 i = decide (0 ≤ (distL W H xs a b c).getD i (-1)) := fun i hi => partL_near h hh hi
        have hself := dist_self h hh
        -- no cell before c is reached from c
        have hbefore : ∀ i, i < c.toNat → nearB (distL W H xs a b c) 64 i = false := fun i hi => by
          rw [hnear i (by omega), decide_eq_false_iff_not]
          intro hd
          obtain ⟨hhi, hback⟩ := reach_sym h hh hd
          obtain ⟨j, hj, hjx⟩ := List.getElem_of_mem (cellsL_mem.2 hhi)
          have hjk : j < k := by
            rcases Nat.lt_or_ge j k with h4 | h4
            · exact h4
            · exfalso
              have hkl := (List.getElem?_eq_some_iff.1 hc).1
              have hkc := (List.getElem?_eq_some_iff.1 hc).2
              rcases Nat.eq_or_lt_of_le h4 with h5 | h5
              · subst h5; omega
              · have := List.pairwise_iff_getElem.1 (cellsL_pairwise W H xs) k j hkl hj h5
                omega
          have hip := ih.all j (i : Int) hjk (by rw [List.getElem?_eq_getElem hj, hjx])
          rw [inParts, List.any_eq_true] at hip
          obtain ⟨p, hp, hpx⟩ := hip
          obtain ⟨c2, hc2, rfl, -, -⟩ := ih.parts p hp
          rw [partL, sel_contains (by omega), partL_near h hc2 (by omega), decide_eq_true_eq] at hpx
          have hcc := reach_trans h hc2 hhi (by rw [Int.toNat_natCast]; exact hpx) hback
          have : inParts (partsTo W H xs a b k) c = true := by
            rw [inParts, List.any_eq_true]
            refine ⟨_, hp, ?_⟩
            rw [← ec, partL, sel_contains (by omega), partL_near h hc2 hcN, decide_eq_true_eq]
            exact hcc
          rw [this] at hP; cases hP
        have hhead? : (partL W H xs a b c).head? = some c := by
          have := sel_head (f := nearB (distL W H xs a b c) 64) (c := c.toNat) (by rw [hnear _ hcN, decide_eq_true_eq]; omega) hbefore (W * H).toNat (by omega)
          rw [partL, this, ec]
        have hhead : (partL W H xs a b c).headD 0 = c := by rw [List.headD_eq_head?_getD, hhead?]; rfl
        -- no cell of an earlier part is reached from c
        have happart : ∀ p ∈ partsTo W H xs a b k, ∀ i, i < N → p.contains (i : Int) = true → ¬ 0 ≤ (distL W H xs a b c).getD i (-1) := fun p hp i hi hpx hd => by
          obtain ⟨hhi, hback⟩ := reach_sym h hh hd
          obtain ⟨c2, hc2, rfl, -, -⟩ := ih.parts p hp
          rw [partL, sel_contains (by omega), partL_near h hc2 (by omega), decide_eq_true_eq] at hpx
          have hcc := reach_trans h hc2 hhi (by rw [Int.toNat_natCast]; exact hpx) hback
          have : inParts (partsTo W H xs a b k) c = true := by
            rw [inParts, List.any_eq_true]
            refine ⟨_, hp, ?_⟩
            rw [← ec, partL, sel_contains (by omega), partL_near h hc2 hcN, decide_eq_true_eq]
            exact hcc
          rw [this] at hP; cases hP
        refine ⟨?_, by rw [e2, layK_len]; exact ih.len, fun i hi => ?_, fun i hi => ?_, fun j x hj hx => ?_, fun p hp => ?_⟩
        · rw [e1, byParts_snoc, ← ih.eq, putPart, hhead, e2, partL, hN]
          exact (put_part N hnear).symm
        · rw [e1, e2, inParts_app, partL, sel_contains (by omega), hnear i hi, layK_at _ _ _ (by rw [ih.len]; exact hi)]
          by_cases h0 : 0 ≤ (distL W H xs a b c).getD i (-1)
          · rw [if_pos ⟨hi, h0⟩]; simp only [h0, decide_true, Bool.or_true, iff_true]; omega
          · rw [if_neg (fun h => h0 h.2), ih.iff i hi, decide_eq_false h0, Bool.or_false]
        · rw [e2, layK_at _ _ _ (by rw [ih.len]; exact hi)]
          by_cases h0 : 0 ≤ (distL W H xs a b c).getD i (-1)
          · rw [if_pos ⟨hi, h0⟩]; omega
          · rw [if_neg (fun h => h0 h.2)]; exact ih.rng i hi
        · rw [e1, inParts_app]
          rcases Nat.lt_or_ge j k with hjk | hjk
          · rw [ih.all j x hjk hx]; rfl
          · have : j = k := by omega
            subst this
            rw [hc] at hx; cases hx
            have h7 := sel_contains (f := nearB (distL W H xs a b c) 64) (N := (W * H).toNat) (i := c.toNat) (by omega)
            rw [ec] at h7
            rw [partL, h7, hnear _ hcN, decide_eq_true (by omega), Bool.or_true]
        · rw [e1] at hp
          rcases List.mem_append.1 hp with hp | hp
          · obtain ⟨c2, hc2, hp2, hp3, hp4⟩ := ih.parts p hp
            refine ⟨c2, hc2, hp2, hp3, fun i hi hpx => ?_⟩
            rw [hp4 i hi hpx, e2, layK_at _ _ _ (by rw [ih.len]; exact hi), if_neg (fun h => happart p hp i hi hpx h.2)]
          · have hp2 : p = partL W H xs a b c := by simpa using hp
            subst hp2
            refine ⟨c, hh, rfl, hhead?, fun i hi hpx => ?_⟩
            rw [partL, sel_contains (by omega), hnear i hi, decide_eq_true_eq] at hpx
            rw [e2, layK_at _ _ _ (by rw [ih.len]; exact hi), if_pos ⟨hi, hpx⟩]

theorem two_parts {W H a b : Int} {xs : List Int} {N : Nat} (h : OnFacts W H xs a b N) : (twoL W H xs a b).length = N ∧
    ∀ p ∈ partsL W H xs a b, ∃ c, hasB W H xs c = true ∧ p = partL W H xs a b c ∧ p.head? = some c ∧ ∀ x ∈ p, (0 ≤ x ∧ x < N) ∧ ((twoL W H xs a b).getD x.toNat (-1) = 0 ∨ (twoL W H xs a b).getD x.toNat (-1) = 1) ∧ 0 ≤ (distL W H xs a b c).getD x.toNat (-1) ∧ (distL W H xs a b c).getD x.toNat (-1) % 2 = (twoL W H xs a b).getD x.toNat (-1) := by
  have K := two_ok h (cellsL W H xs).length
  have e1 : twoTo W H xs a b (cellsL W H xs).length = twoL W H xs a b := by rw [twoTo, List.take_length]; rfl
  have e2 : partsTo W H xs a b (cellsL W H xs).length = partsL W H xs a b := by rw [partsTo, List.take_length]; rfl
  rcases K with ⟨h1, h2, h3, h4, _, h6⟩
  rw [e1, e2] at *
  refine ⟨h2, fun p hp => ?_⟩
  obtain ⟨c, hc, rfl, hd, hcol⟩ := h6 p hp
  refine ⟨c, hc, rfl, hd, fun x hx => ?_⟩
  have hN : (W * H).toNat = N := by have := h.wh; omega
  obtain ⟨i, hi, hfi, rfl⟩ := selTo_mem.1 hx
  rw [hN] at hi
  rw [partL_near h hc hi, decide_eq_true_eq] at hfi
  have hin := (h3 i hi).2 (by rw [inParts, List.any_eq_true]; exact ⟨_, hp, List.contains_iff_mem.2 hx⟩)
  rw [Int.toNat_natCast]
  refine ⟨⟨by omega, by omega⟩, ?_, hfi, hcol i hi (List.contains_iff_mem.2 hx)⟩
  rcases h4 i hi with h | h
  · omega
  · exact h
end Go.Proofs.YtbpgkigoboobeaaGreat

namespace Go.Proofs.YtbpgkigoboobeaaGreat
open Go.RowKit

def cAt (cs : List Int) (x : Int) : Int := cs.getD x.toNat 0
/-- No leap joins two cells of one colour. -/
def paIsB (W H : Int) (xs : List Int) (a b : Int) (cs : List Int) : Bool := (cellsL W H xs).all fun c => (leapsL W H xs a b c).all fun d => !(cAt cs c == cAt cs d)
theorem cells_rng64 {W H : Int} {xs : List Int} (hg : goodB W H xs = true) : ∀ x ∈ cellsL W H xs, 0 ≤ x ∧ x < 64 := fun x hx => by
  have h1 := (hasB_iff.1 (cellsL_mem.1 hx)).1
  obtain ⟨hW, hH, _, _⟩ := goodB_iff.1 hg
  have := cells_le hW hH
  omega
theorem cAt_of {cs : List Int} {x : Int} (h1 : x.toNat < cs.length) : cs[x.toNat]? = some (cAt cs x) := by
  rw [cAt, List.getD_eq_getElem?_getD, List.getElem?_eq_getElem h1]; rfl

set_option maxRecDepth 100000 in
set_option maxHeartbeats 4000000 in
theorem paIs_any (W H : Int) (A : Option Addr) (n c : Nat) (xs : List Int) (a b : Int) (A2 : Option Addr) (m c2 : Nat) (cs : List Int) (w : World) (ha : Rd w A n xs) (hc : Rd w A2 m cs) (hg : goodB W H xs = true) (hlen : (cs.length : Int) = W * H) :
    Calls Tryz.prog 50 #[brd W H A n c, lpr a b, .slice A2 m c2] w fun e w' => e = .returned (.bool (paIsB W H xs a b cs)) ∧ Below w.heap.size w w' := by
  have HG := Lib.hid hg
  have HN := Lib.hid (cells_le (goodB_iff.1 hg).1 (goodB_iff.1 hg).2.1)
  have HML := Lib.hid hc.1
  have m9 := hc.2.1
  have HLEN := Lib.hid hlen
  obtain ⟨W2, hW2⟩ : ∃ W2, W2 = (w.alloc (.cells #[.int .i64 W, .int .i64 H, .slice A n c] 31)).alloc (.cells #[.int .i64 a, .int .i64 b] 33) := ⟨_, rfl⟩
  have a0 : W2.cell? ⟨w.heap.size, 0, none⟩ = some (.int .i64 W) := by rw [hW2]; go_simp
  have a1 : W2.cell? ⟨w.heap.size, 1, none⟩ = some (.int .i64 H) := by rw [hW2]; go_simp
  have a2 : W2.cell? ⟨w.heap.size, 2, none⟩ = some (.slice A n c) := by rw [hW2]; go_simp
  have l0 : W2.cell? ⟨w.heap.size + 1, 0, none⟩ = some (.int .i64 a) := by rw [hW2]; go_simp
  have l1 : W2.cell? ⟨w.heap.size + 1, 1, none⟩ = some (.int .i64 b) := by rw [hW2]; go_simp
  have hsz : w.heap.size + 2 ≤ W2.heap.size := by rw [hW2]; simp
  have B := Lib.hid (show Below w.heap.size w W2 by rw [hW2]; exact below_new (below_new (Below.refl _ _) _) _)
  have R := Lib.hid (ha.keep B.out); have RC := Lib.hid hc
  have ga : w.heap.size < W2.heap.size := by omega
  have gl : w.heap.size + 1 < W2.heap.size := by omega
  clear hg ha hc hlen
  go_enter Tryz.func50, Tryz.ntmps50
  go_wp2_with fail
  rw [← hW2]
  clear hW2
  refine (boCells_any W H A n c xs _ R.out HN.out).mono ?_
  rintro e ws ⟨A1, n1, c1, rfl, hst, hb⟩
  replace a0 := cell_keep a0 ga hb; replace a1 := cell_keep a1 ga hb; replace a2 := cell_keep a2 ga hb; replace l0 := cell_keep l0 gl hb; replace l1 := cell_keep l1 gl hb; replace ga := lt_keep ga hb; replace gl := lt_keep gl hb; replace R := Lib.hid (R.out.keep hb)
  replace B := Lib.hid (below_next B.out hb)
  have ST := Lib.hid hst.rd
  have SL := Lib.hid hst.len
  have n8 : n1 ≤ 64 := by have := cellsL_len64 (xs := xs) HN.out; have := hst.len; omega
  clear hst hb hsz
  go_wp2
  go_loopw [14] (fun i wr => ∃ k : Nat, k ≤ n1 ∧ i = .int .i64 k ∧ ((cellsL W H xs).take k).all (fun c => (leapsL W H xs a b c).all fun d => !(cAt cs c == cAt cs d)) = true ∧ Below ws.heap.size ws wr) (fun i _ => n1 - (intOf i).toNat)
  case atStart => exact ⟨0, Nat.zero_le _, rfl, by simp, Below.refl _ _⟩
  case round =>
    obtain ⟨k, hk, rfl, hall, hbw⟩ := hrel
    have HALL := Lib.hid hall
    have HB := Lib.hid hbw
    clear hall
    by_cases hlt : k < n1
    · obtain ⟨bb, oo, x, rfl, hg1, hx, x0⟩ := ST.out.at_ hlt
      have HX := Lib.hid hx
      have hxm := List.mem_of_getElem? hx
      obtain ⟨hx0, hx1⟩ := cells_rng64 HG.out x hxm
      have hxN : x.toNat < m := by have := (hasB_iff.1 (cellsL_mem.1 hxm)).1; have := HLEN.out; have := HML.out; omega
      obtain ⟨p, rfl⟩ : ∃ p : Nat, x = (p : Int) := ⟨x.toNat, by omega⟩
      rw [Int.toNat_natCast] at hxN
      have HXM := Lib.hid hxm
      replace x0 := cell_keep x0 hg1 hbw
      have b0 := cell_keep a0 ga hbw; have b1 := cell_keep a1 ga hbw; have b2 := cell_keep a2 ga hbw; have m0 := cell_keep l0 gl hbw; have m1 := cell_keep l1 gl hbw
      have gb := lt_keep ga hbw; have gm := lt_keep gl hbw
      have hL := boLeaps_any W H A n c xs a b (p : Int) wr (R.out.keep hbw) HG.out ⟨hx0, by omega⟩
      clear hx hbw hxm hg1
      go_wp2_with fail
      refine hL.mono ?_
      rintro e wv ⟨A3, n3, c3, rfl, hown, hb⟩
      replace b0 := cell_keep b0 gb hb; replace b1 := cell_keep b1 gb hb; replace b2 := cell_keep b2 gb hb; replace m0 := cell_keep m0 gm hb; replace m1 := cell_keep m1 gm hb
      have LT := Lib.hid hown.rd
      have LL := Lib.hid hown.len
      have n9 : n3 ≤ 64 := by have := leapsL_len64 (a := a) (b := b) (q := (p : Int)) (xs := xs) HN.out; have := hown.len; omega
      have HV := Lib.hid (HB.out.trans (hb.mono HB.out.size))
      clear hb hown hL x0
      go_wp2
      go_loopw [23] (fun i wr => ∃ j : Nat, j ≤ n3 ∧ i = .int .i64 j ∧ ((leapsL W H xs a b p).take j).all (fun d => !(cAt cs p == cAt cs d)) = true ∧ Below wv.heap.size wv wr) (fun i _ => n3 - (intOf i).toNat)
      case atStart => exact ⟨0, Nat.zero_le _, rfl, by simp, Below.refl _ _⟩
      case round =>
        obtain ⟨j, hj, rfl, hallj, hbj⟩ := hrel
        rename_i wz
        have HALJ := Lib.hid hallj
        have HBJ := Lib.hid hbj
        have HW0 := Lib.hid (B.out.trans ((HV.out.trans (hbj.mono HV.out.size)).mono B.out.size))
        clear hallj
        by_cases hltj : j < n3
        · obtain ⟨b3, o3, y, rfl, hg3, hy, y0⟩ := LT.out.at_ hltj
          have HY := Lib.hid hy
          have hym := (List.mem_filter.1 (List.mem_of_getElem? hy)).1
          obtain ⟨hy0, hy1⟩ := cells_rng64 HG.out y hym
          have hyN : y.toNat < m := by have := (hasB_iff.1 (cellsL_mem.1 hym)).1; have := HLEN.out; have := HML.out; omega
          obtain ⟨q, rfl⟩ : ∃ q : Nat, y = (q : Int) := ⟨y.toNat, by omega⟩
          rw [Int.toNat_natCast] at hyN
          replace y0 := cell_keep y0 hg3 hbj
          obtain ⟨b4, o4, u, rfl, hg4, hu, u0⟩ := RC.out.at_ hxN
          obtain ⟨b5, o5, v, e5, hg5, hv, v0⟩ := RC.out.at_ hyN
          obtain ⟨rfl, rfl⟩ : b4 = b5 ∧ o4 = o5 := by simp at e5; exact e5
          replace u0 := cell_keep u0 hg4 HW0.out
          replace v0 := cell_keep v0 hg5 HW0.out
          have HU := Lib.hid (show cAt cs (p : Int) = u by have := cAt_of (x := (p : Int)) (cs := cs) (by have := HML.out; omega); rw [Int.toNat_natCast, hu] at this; injection this with this; exact this.symm)
          have HV2 := Lib.hid (show cAt cs (q : Int) = v by have := cAt_of (x := (q : Int)) (cs := cs) (by have := HML.out; omega); rw [Int.toNat_natCast, hv] at this; injection this with this; exact this.symm)
          clear hy hym hu hv hbj e5 hg3 hg4 hg5
          cases huv : (u == v) with
          | true =>
            have HUV := Lib.hid huv
            go_wp2
            go_quiet (fail)
            go_wp2
            go_ret
            exact ⟨ret_bool (by
              symm; rw [paIsB, Bool.eq_false_iff]; intro h
              have h1 := List.all_eq_true.1 (List.all_eq_true.1 h (p : Int) HXM.out) (q : Int) (List.mem_of_getElem? HY.out)
              rw [HU.out, HV2.out, HUV.out] at h1; cases h1), below_drewN HW0.out _⟩
          | false =>
            have HUV := Lib.hid huv
            go_wp2
            go_quiet (fail)
            go_wp2
            go_roundw
            case rel => exact ⟨j + 1, by omega, by go_num, by rw [List.take_add_one, HY.out, List.all_append, HALJ.out]; simp [HU.out, HV2.out, HUV.out], below_drewN HBJ.out _⟩
            case measure => simp [intOf]; omega
        · have hjn : j = n3 := by omega
          subst hjn
          have HE := Lib.hid (show (leapsL W H xs a b p).all (fun d => !(cAt cs p == cAt cs d)) = true by have h := HALJ.out; rw [List.take_of_length_le (by have := LL.out; omega)] at h; exact h)
          clear hbj
          go_wp2
          go_roundw
          case rel => exact ⟨k + 1, by omega, by go_num, by rw [List.take_add_one, HX.out, List.all_append, HALL.out]; simpa using HE.out, HV.out.trans (HBJ.out.mono HV.out.size)⟩
          case measure => simp [intOf]; omega
    · have hkn : k = n1 := by omega
      subst hkn
      clear hbw
      go_wp2
      go_ret
      exact ⟨ret_bool (by have h := HALL.out; rw [List.take_of_length_le (by have := SL.out; omega)] at h; rw [paIsB, h]), B.out.trans (HB.out.mono B.out.size)⟩
end Go.Proofs.YtbpgkigoboobeaaGreat

namespace Go.Proofs.YtbpgkigoboobeaaGreat
open Go.RowKit

end Go.Proofs.YtbpgkigoboobeaaGreat

namespace Go.Proofs.YtbpgkigoboobeaaGreat
open Go.RowKit

theorem part_bd {W H a b c : Int} {xs : List Int} {N : Nat} (h : OnFacts W H xs a b N) (hp : hasB W H xs c = true) {x : Int} {i : Nat} (hx : (distL W H xs a b c)[i]? = some x) : nearB (distL W H xs a b c) 64 i = decide (0 ≤ x) := by
  have := dist_bd h hp x (List.mem_of_getElem? hx)
  rw [near_in hx, inB]
  by_cases h0 : 0 ≤ x
  · simp [h0]; omega
  · simp [h0]

set_option maxRecDepth 100000 in
set_option maxHeartbeats 4000000 in
theorem faParts_any (W H : Int) (A : Option Addr) (n c : Nat) (xs : List Int) (a b : Int) (N : Nat) (w : World) (ha : Rd w A n xs) (hF : OnFacts W H xs a b N) :
    Calls Tryz.prog 23 #[brd W H A n c, lpr a b] w fun e w' => ∃ A' n' c' top, e = .returned (.slice A' n' c') ∧ PartsAt w' w.heap.size top A' n' c' (partsL W H xs a b) ∧ Below w.heap.size w w' := by
  have hWH := hF.wh
  have HF := Lib.hid hF
  have n64 := hF.n.2
  have hN0 : (0 : Int) ≤ (N : Int) := by omega
  obtain ⟨hW, hH, _, _⟩ := goodB_iff.1 hF.g
  have HN := Lib.hid (cells_le hW hH)
  obtain ⟨i0, hi, hz0, hz1, hz2⟩ := info_parts infoI
  have HI := Lib.hid hi; have HZ0 := Lib.hid hz0; have HZ1 := Lib.hid hz1; have HZ2 := Lib.hid hz2
  obtain ⟨ib, hib, hy0, hy1, hy2⟩ := info_parts infoBl
  have HIB := Lib.hid hib; have HY0 := Lib.hid hy0; have HY1 := Lib.hid hy1; have HY2 := Lib.hid hy2
  clear hW hH hF hi hz0 hz1 hz2 hib hy0 hy1 hy2
  obtain ⟨W2, hW2⟩ : ∃ W2, W2 = (w.alloc (.cells #[.int .i64 W, .int .i64 H, .slice A n c] 31)).alloc (.cells #[.int .i64 a, .int .i64 b] 33) := ⟨_, rfl⟩
  have a0 : W2.cell? ⟨w.heap.size, 0, none⟩ = some (.int .i64 W) := by rw [hW2]; go_simp
  have a1 : W2.cell? ⟨w.heap.size, 1, none⟩ = some (.int .i64 H) := by rw [hW2]; go_simp
  have a2 : W2.cell? ⟨w.heap.size, 2, none⟩ = some (.slice A n c) := by rw [hW2]; go_simp
  have l0 : W2.cell? ⟨w.heap.size + 1, 0, none⟩ = some (.int .i64 a) := by rw [hW2]; go_simp
  have l1 : W2.cell? ⟨w.heap.size + 1, 1, none⟩ = some (.int .i64 b) := by rw [hW2]; go_simp
  have hsz : W2.heap.size = w.heap.size + 2 := by rw [hW2]; simp
  have B := Lib.hid (show Below w.heap.size w W2 by rw [hW2]; exact below_new (below_new (Below.refl _ _) _) _)
  have ga : w.heap.size < W2.heap.size := by omega
  have gl : w.heap.size + 1 < W2.heap.size := by omega
  go_enter Tryz.func23, Tryz.ntmps23
  go_wp2_with (at_make; refine wpList_make_full _ rfl _ _ 80 rfl w.heap.size 4 ib (.bool false) 1 Tryz.underlying80 HIB.out HY0.out HY1.out .i64 .i64 _ _ N rfl rfl rfl rfl (by rw [HY2.out]; omega) (by unfold maxLen; omega) (by simp; omega) ?_; intro w1 hown1 hg1; rw [← hW2] at hown1 hg1; have hb1 : Below W2.heap.size W2 w1 := below_of_grown hg1 (Nat.le_refl _) (by simp); replace a0 := cell_keep a0 ga hb1; replace a1 := cell_keep a1 ga hb1; replace a2 := cell_keep a2 ga hb1; replace l0 := cell_keep l0 gl hb1; replace l1 := cell_keep l1 gl hb1; replace ga := lt_keep ga hb1; replace gl := lt_keep gl hb1)
  have hO1 : OwnB 4 w1 w.heap.size (some ⟨w.heap.size + 1 + 1, 0, none⟩) N N (boolRow (fun _ => false) N) := by
    unfold OwnB
    rw [show N * 1 = N from by omega, hsz] at hown1
    have e : (madeCells (Value.cells (.bool false)) N).toList = List.replicate N (.bool false) := toList_madeCells_one (.bool false) N
    rw [e] at hown1
    have e2 : (boolRow (fun _ => false) N).map Value.bool = List.replicate N (.bool false) := by
      rw [boolRow, List.map_map, List.eq_replicate_iff]
      exact ⟨by simp, fun v hv => by obtain ⟨i, _, rfl⟩ := List.mem_map.1 hv; rfl⟩
    rw [e2]
    exact hown1
  obtain ⟨fb, hfb⟩ : ∃ fb, fb = w.heap.size + 1 + 1 := ⟨_, rfl⟩
  rw [← hfb] at hO1 ⊢
  replace B := Lib.hid (below_next B.out hb1)
  have SEEN := Lib.hid hO1
  have hfw : w.heap.size + 2 = fb := by omega
  have hfb2 : fb < w1.heap.size := by
    obtain ⟨cur, h⟩ := row_block hO1
    exact (Array.getElem?_eq_some_iff.1 h).1
  clear hfb hW2 hown1 hg1 hO1 hb1 hsz hWH
  refine (boCells_any W H A n c xs _ (ha.keep B.out) HN.out).mono ?_
  rintro e ws ⟨A1, n1, c1, rfl, hst, hb⟩
  replace a0 := cell_keep a0 ga hb; replace a1 := cell_keep a1 ga hb; replace a2 := cell_keep a2 ga hb; replace l0 := cell_keep l0 gl hb; replace l1 := cell_keep l1 gl hb; replace ga := lt_keep ga hb; replace gl := lt_keep gl hb
  replace SEEN := Lib.hid (SEEN.out.keep hb)
  have hs1 := hb.size
  have hfs : fb < ws.heap.size := lt_keep hfb2 hb
  replace B := Lib.hid (below_next B.out hb)
  have hBs := B.out.size
  have ST := Lib.hid hst.rd
  have SL := Lib.hid hst.len
  have n8 : n1 ≤ 64 := by have := cellsTo_len (W := W) (H := H) (hs := xs) (W * H).toNat; have := hst.len; have := HN.out; unfold cellsL at *; omega
  have hA1 : Hid (∀ y, A1 = some y → y.block ≠ fb) := Lib.hid (fun y hy => by
    subst hy
    exact rows_apart (by decide : 3 ≠ 4) hst SEEN.out)
  have n9 := hst.rd.2.1
  clear hst hb hfb2
  go_wp2
  go_loopw [6, 21] (fun v i wr => ∃ (k n' c' top : Nat) (A' : Option Addr), k ≤ n1 ∧ i = .int .i64 k ∧ v = .slice A' n' c' ∧ PartsAt wr ws.heap.size top A' n' c' (partsTo W H xs a b k) ∧ top ≤ wr.heap.size ∧ OwnB 4 wr w.heap.size (some ⟨fb, 0, none⟩) N N (boolRow (fun i => inParts (partsTo W H xs a b k) (i : Int)) N) ∧ ws.grownBy wr (some fb)) (fun _ i _ => n1 - (intOf i).toNat)
  case atStart => exact ⟨0, 0, 0, 0, none, by omega, rfl, rfl, PartsAt.none_ _ _ _, by omega, SEEN.out, grown_refl _ _⟩
  case round =>
    clear SEEN
    obtain ⟨k, n', c', top, A', hk, rfl, rfl, hpa, htop, hseen, hgw⟩ := hrel
    have hBw : Below w.heap.size w wr := B.out.trans (below_of_grown hgw hBs (fun g h => by injection h with h; omega))
    have hsw := hgw.size
    have hnp : n' ≤ 64 := by have := partsTo_len W H xs a b k; have := hpa.len; omega
    have PA := Lib.hid hpa; have SE := Lib.hid hseen
    by_cases hlt : k < n1
    · obtain ⟨bb, oo, x, rfl, hg1, hx, x0⟩ := ST.out.at_ hlt
      have hbm := hA1.out _ rfl
      simp only at hbm
      have hin := cellsL_mem.1 (List.mem_of_getElem? hx)
      have hxr := (hasB_iff.1 hin).1
      rw [HF.out.wh] at hxr
      obtain ⟨xn, rfl⟩ : ∃ xn : Nat, x = (xn : Int) := ⟨x.toNat, by omega⟩
      have hxn : xn < N := by omega
      have hx0 : (0 : Int) ≤ (xn : Int) := by omega
      have hx1 : (xn : Int) < (N : Int) := by omega
      have HX := Lib.hid hx; have HXI := Lib.hid hin
      replace x0 := hgw.cell x0 (by simp; omega)
      have b0 := hgw.cell a0 (by simp; omega); have b1 := hgw.cell a1 (by simp; omega); have b2 := hgw.cell a2 (by simp; omega); have m0 := hgw.cell l0 (by simp; omega); have m1 := hgw.cell l1 (by simp; omega)
      have HBW := Lib.hid hBw; have HGW := Lib.hid hgw
      have s0 : wr.cell? ⟨fb, xn, none⟩ = some (.bool (inParts (partsTo W H xs a b k) (xn : Int))) := hseen.cell (boolRow_at (f := fun i => inParts (partsTo W H xs a b k) (i : Int)) hxn)
      clear hx hin hxr hgw hBw hpa hseen
      cases hip : inParts (partsTo W H xs a b k) (xn : Int) with
      | true =>
        rw [hip] at s0
        have HIP := Lib.hid hip
        clear hip
        go_wp2
        go_roundw
        case rel =>
          have e := partsTo_yes HX.out HIP.out
          exact ⟨k + 1, n', c', top, A', by omega, by go_num, rfl, by rw [e]; exact PA.out, htop, by rw [e]; exact SE.out, HGW.out⟩
        case measure => simp [intOf]; omega
      | false =>
        rw [hip] at s0
        have HIP := Lib.hid hip
        clear hip
        go_wp2_with fail
        refine (faFrom_any W H A n c xs a b xn N _ (ha.keep HBW.out) HF.out.g HF.out.wh hxn).mono ?_
        rintro e wv ⟨g, rfl, own, hb⟩
        have eD : farL (leapsL W H xs a b) N (xn : Int) = distL W H xs a b (xn : Int) := by rw [distL, show (W * H).toNat = N by have := HF.out.wh; omega]
        rw [eD] at own
        have hbd : ∀ (i : Nat) (y : Int), (distL W H xs a b (xn : Int))[i]? = some y → nearB (distL W H xs a b (xn : Int)) 64 i = decide (0 ≤ y) := fun i y hy => part_bd HF.out HXI.out hy
        have hpl : selTo (nearB (distL W H xs a b (xn : Int)) 64) N = partL W H xs a b (xn : Int) := by rw [partL, show (W * H).toNat = N by have := HF.out.wh; omega]
        obtain ⟨D, hD⟩ : ∃ D, D = distL W H xs a b (xn : Int) := ⟨_, rfl⟩
        rw [← hD] at own hbd hpl
        have DLEN := Lib.hid own.len
        have hgf : g ≠ fb := rows_apart (by decide : 3 ≠ 4) own (SE.out.keep hb)
        have hgv : g < wv.heap.size := by obtain ⟨g9, h1, _, h2⟩ := own.some_ (k := 0) (by omega); injection h1 with h1; injection h1 with h1; omega
        have FAR := Lib.hid own; have HBD := Lib.hid hbd; have HPL := Lib.hid hpl
        replace PA := Lib.hid (PA.out.keep hb); replace SE := Lib.hid (SE.out.keep hb)
        have hvs := hb.size
        have hAv : Hid (∀ y, A' = some y → y.block < wv.heap.size) := Lib.hid PA.out.lt
        have htv : top ≤ wv.heap.size := by omega
        replace b0 := cell_keep b0 (by omega) hb; replace b1 := cell_keep b1 (by omega) hb; replace b2 := cell_keep b2 (by omega) hb; replace m0 := cell_keep m0 (by omega) hb; replace m1 := cell_keep m1 (by omega) hb
        have HGV := Lib.hid (grown_next HGW.out (grown_of_below hb (some fb)))
        clear hb own eD hbd hpl hD HGW x0 s0
        go_wp2
        go_loopw [9, 34] (fun v i wr => ∃ (j n9 c9 : Nat) (A9 : Option Addr), j ≤ N ∧ i = .int .i64 j ∧ v = .slice A9 n9 c9 ∧ OwnI 3 wr wv.heap.size A9 n9 c9 (selTo (nearB D 64) j) ∧ PartsAt wr ws.heap.size top A' n' c' (partsTo W H xs a b k) ∧ OwnB 4 wr w.heap.size (some ⟨fb, 0, none⟩) N N (boolRow (fun i => inParts (partsTo W H xs a b k) (i : Int) || (decide (i < j) && nearB D 64 i)) N) ∧ wv.grownBy wr (some fb)) (fun _ i _ => N - (intOf i).toNat)
        case atStart => exact ⟨0, 0, 0, none, by omega, rfl, rfl, OwnI.none_ _ _ _, PA.out, by rw [boolRow_congr (g := fun i => inParts (partsTo W H xs a b k) (i : Int)) (fun i _ => by simp)]; exact SE.out, grown_refl _ _⟩
        case round =>
          clear PA SE
          obtain ⟨j, n9, c9, A9, hj, rfl, rfl, hpt, hpa, hse, hgx⟩ := hrel
          have hsx := hgx.size
          by_cases hjl : j < N
          · obtain ⟨y, hy⟩ : ∃ y, D[j]? = some y := ⟨_, List.getElem?_eq_getElem (show j < D.length by have := DLEN.out; omega)⟩
            have y0 := hgx.cell (FAR.out.cell hy) (by simp; omega)
            have hnb := HBD.out j y hy
            have hn9 : n9 ≤ 64 := by have := selTo_len (nearB D 64) j; have := hpt.len; omega
            have hj0 : (0 : Int) ≤ (j : Int) := by omega
            have hj1 : (j : Int) < (N : Int) := by omega
            have PT := Lib.hid hpt; have HPA := Lib.hid hpa; have HSE := Lib.hid hse; have HGX := Lib.hid hgx
            clear hy hpt hpa hse hgx
            by_cases hy0 : 0 ≤ y
            · have hnb' : nearB D 64 j = true := by rw [hnb]; simpa using hy0
              have HNB := Lib.hid hnb'
              clear hnb hnb'
              have hlo : wv.heap.size ≤ wr.heap.size := hsx
              have hfw2 : fb < wv.heap.size := by omega
              obtain ⟨sv, hsv⟩ : ∃ sv, (boolRow (fun i : Nat => inParts (partsTo W H xs a b k) (i : Int) || (decide (i < j) && nearB D 64 i)) N)[j]? = some sv := ⟨_, boolRow_at hjl⟩
              have SV := Lib.hid hsv
              clear hsv
              go_wp2_with (at_builtin; refine wpList_app1 rfl (.tmp 41) (.tmp 43) 22 3 rfl i0 Tryz.underlying22 HI.out HZ0.out HZ1.out HZ2.out wv.heap.size A9 n9 c9 (selTo (nearB D 64) j) (j : Int) rfl PT.out rfl (by omega) hlo ?_; intro A5 c5 w5 hown5 hb5; have hse5 := HSE.out.keepLo hb5 hfw2; have s5 := hse5.cell SV.out; have f5 := hse5.frozen j)
              obtain ⟨o1, g1⟩ := hse5.stored j true
              rw [boolRow_set, boolRow_congr (g := fun i : Nat => inParts (partsTo W H xs a b k) (i : Int) || (decide (i < j + 1) && nearB D 64 i)) (fun i _ => by
                by_cases e : i = j
                · subst e; rw [if_pos rfl, HNB.out]; simp
                · rw [if_neg e, show decide (i < j + 1) = decide (i < j) by rw [decide_eq_decide]; omega])] at o1
              have SE6 := Lib.hid o1
              have PA6 := Lib.hid ((HPA.out.keepLo hb5 hAv.out htv).bools hse5 g1)
              have PT6 := Lib.hid (hown5.other g1 (fun a ha => by
                subst ha
                have := rows_apart (by decide : 3 ≠ 4) hown5 hse5
                simpa using this))
              have HG6 := Lib.hid (grown_next (grown_below HGX.out hb5) g1)
              clear hse5 o1 g1 hown5 hb5
              go_wp2
              go_roundw
              case rel => exact ⟨j + 1, n9 + 1, c5, A5, by omega, by go_num, rfl, by rw [selTo_yes HNB.out]; exact PT6.out, PA6.out, SE6.out, HG6.out⟩
              case measure => simp [intOf]; omega
            · have hnb' : nearB D 64 j = false := by rw [hnb]; simpa using hy0
              have HNB := Lib.hid hnb'
              clear hnb hnb'
              go_wp2
              go_roundw
              case rel => exact ⟨j + 1, n9, c9, A9, by omega, by go_num, rfl, by rw [selTo_no HNB.out]; exact PT.out, HPA.out, by
                rw [boolRow_congr (g := fun i => inParts (partsTo W H xs a b k) (i : Int) || (decide (i < j) && nearB D 64 i)) (fun i _ => by
                  by_cases e : i = j
                  · subst e; rw [HNB.out]; simp
                  · rw [show decide (i < j + 1) = decide (i < j) by rw [decide_eq_decide]; omega])]
                exact HSE.out, HGX.out⟩
              case measure => simp [intOf]; omega
          · obtain rfl : j = N := by omega
            have PT := Lib.hid (hpt.lower (show ws.heap.size ≤ wv.heap.size by omega)); have HPA := Lib.hid hpa; have HSE := Lib.hid hse; have HGX := Lib.hid hgx
            have hpn : Hid (∀ y, A9 = some y → top ≤ y.block) := Lib.hid (fun y hy => by
              rcases hpt.form with ⟨h, _⟩ | ⟨g9, h, h2, _⟩
              · rw [h] at hy; cases hy
              · rw [h] at hy; injection hy with hy; rw [← hy]; show top ≤ g9; omega)
            have htx : top ≤ wr.heap.size := by omega
            have hlo : ws.heap.size ≤ wr.heap.size := by omega
            clear hpt hpa hse hgx
            go_wp2_with (at_builtin; refine wpList_appS rfl (.tmp 49) (.tmp 51) rfl ws.heap.size top A' n' c' (partsTo W H xs a b k) A9 n9 c9 (selTo (nearB D 64) j) rfl HPA.out PT.out hpn.out htx rfl (by omega) hlo ?_; intro A7 c7 w7 hpa7 hb7 kB kM kI)
            have PA7 := Lib.hid hpa7
            have SE7 := Lib.hid (kB _ _ _ _ _ HSE.out)
            have HG7 := Lib.hid (grown_below (grown_next HGV.out HGX.out) hb7)
            have hs7 := hb7.size
            clear hpa7 hb7 kB kM kI
            go_wp2
            go_roundw
            case rel =>
              have e := partsTo_no HX.out HIP.out
              rw [HPL.out] at PA7
              refine ⟨k + 1, n' + 1, c7, wr.heap.size, A7, by omega, by go_num, rfl, by rw [e]; exact PA7.out, hs7, ?_, HG7.out⟩
              rw [e, boolRow_congr (g := fun i : Nat => inParts (partsTo W H xs a b k) (i : Int) || (decide (i < j) && nearB D 64 i)) (fun i hi => by rw [inParts_app, ← HPL.out, sel_contains hi, show decide (i < j) = true by simpa using hi]; simp)]
              exact SE7.out
            case measure => simp [intOf]; omega
    · obtain rfl : k = n1 := by omega
      have eP : partsTo W H xs a b k = partsL W H xs a b := by rw [partsTo, List.take_of_length_le (by have := SL.out; omega)]; rfl
      rw [eP] at PA
      have HBW := Lib.hid hBw
      clear hgw hBw hpa hseen SE
      go_wp2
      go_ret
      exact ⟨_, _, _, _, rfl, PA.out.lower (by omega), HBW.out⟩

end Go.Proofs.YtbpgkigoboobeaaGreat

namespace Go.Proofs.YtbpgkigoboobeaaGreat
open Go.RowKit

set_option maxRecDepth 100000 in
set_option maxHeartbeats 4000000 in
theorem paTwo_any (W H : Int) (A : Option Addr) (n c : Nat) (xs : List Int) (a b : Int) (N : Nat) (w : World) (ha : Rd w A n xs) (hF : OnFacts W H xs a b N) :
    Calls Tryz.prog 22 #[brd W H A n c, lpr a b] w fun e w' => ∃ g, e = .returned (.tuple #[.slice (some ⟨g, 0, none⟩) N N, .bool (paIsB W H xs a b (twoL W H xs a b))]) ∧ OwnI 3 w' w.heap.size (some ⟨g, 0, none⟩) N N (twoL W H xs a b) ∧ Below w.heap.size w w' := by
  have hWH := hF.wh
  have HWH := Lib.hid hWH
  have hg := hF.g
  have HF := Lib.hid hF
  clear hF
  have hN64 : N ≤ 64 := by obtain ⟨h1, h2, _, _⟩ := goodB_iff.1 hg; have := cells_le h1 h2; omega
  have hN0 : (0 : Int) ≤ (N : Int) := by omega
  obtain ⟨hW, hH, _, _⟩ := goodB_iff.1 hg
  have HW := Lib.hid hW; have HN := Lib.hid (cells_le hW hH)
  have HG := Lib.hid hg
  obtain ⟨i0, hi, hz0, hz1, hz2⟩ := info_parts infoI
  have HI := Lib.hid hi; have HZ0 := Lib.hid hz0; have HZ1 := Lib.hid hz1; have HZ2 := Lib.hid hz2
  clear hW hH hg hi hz0 hz1 hz2
  obtain ⟨W2, hW2⟩ : ∃ W2, W2 = (w.alloc (.cells #[.int .i64 W, .int .i64 H, .slice A n c] 31)).alloc (.cells #[.int .i64 a, .int .i64 b] 33) := ⟨_, rfl⟩
  have a0 : W2.cell? ⟨w.heap.size, 0, none⟩ = some (.int .i64 W) := by rw [hW2]; go_simp
  have a1 : W2.cell? ⟨w.heap.size, 1, none⟩ = some (.int .i64 H) := by rw [hW2]; go_simp
  have a2 : W2.cell? ⟨w.heap.size, 2, none⟩ = some (.slice A n c) := by rw [hW2]; go_simp
  have l0 : W2.cell? ⟨w.heap.size + 1, 0, none⟩ = some (.int .i64 a) := by rw [hW2]; go_simp
  have l1 : W2.cell? ⟨w.heap.size + 1, 1, none⟩ = some (.int .i64 b) := by rw [hW2]; go_simp
  have hsz : w.heap.size + 2 ≤ W2.heap.size := by rw [hW2]; simp
  have B := Lib.hid (show Below w.heap.size w W2 by rw [hW2]; exact below_new (below_new (Below.refl _ _) _) _)
  have R := Lib.hid (ha.keep B.out)
  have ga : w.heap.size < W2.heap.size := by omega
  have gl : w.heap.size + 1 < W2.heap.size := by omega
  go_enter Tryz.func22, Tryz.ntmps22
  go_wp2_with (at_make; refine wpList_make_full _ rfl _ _ 22 rfl w.heap.size 3 i0 (.int .i64 0) 1 Tryz.underlying22 HI.out HZ0.out HZ1.out .i64 .i64 _ _ N rfl rfl rfl rfl (by rw [HZ2.out]; omega) (by unfold maxLen; omega) (by simp; omega) ?_; intro w1 hown1 hg1)
  rw [← hW2] at hown1 hg1
  have hW2s : W2.heap.size = w.heap.size + 2 := by rw [hW2]; simp
  have hO1 : OwnI 3 w1 w.heap.size (some ⟨w.heap.size + 1 + 1, 0, none⟩) N N (List.replicate N 0) := by
    unfold OwnI
    rw [show N * 1 = N from by omega, hW2s] at hown1
    have e : (madeCells (Value.cells (.int .i64 0)) N).toList = List.replicate N (.int .i64 0) := toList_madeCells_one (.int .i64 0) N
    rw [e] at hown1
    simpa using hown1
  obtain ⟨fb, hfb⟩ : ∃ fb, fb = w.heap.size + 1 + 1 := ⟨_, rfl⟩
  rw [← hfb] at hO1 ⊢
  have hb1 : Below W2.heap.size W2 w1 := below_of_grown hg1 (Nat.le_refl _) (by simp)
  have hfb1 : W2.heap.size ≤ fb := by omega
  have hfb2 : fb < w1.heap.size := by rcases hO1.some_ (k := 0) (by omega) with ⟨g9, h9, _, h8⟩; injection h9 with h9; injection h9 with h9; omega
  have FAR := Lib.hid hO1; have B1 := Lib.hid hb1
  have hlow : w.heap.size + 2 ≤ W2.heap.size := by omega
  have hs1z := hb1.size
  clear hW2 hfb hown1 hg1 hO1 hb1 hsz hW2s hWH
  replace a0 := cell_keep a0 ga B1.out; replace a1 := cell_keep a1 ga B1.out; replace a2 := cell_keep a2 ga B1.out; replace l0 := cell_keep l0 gl B1.out; replace l1 := cell_keep l1 gl B1.out
  replace ga := lt_keep ga B1.out; replace gl := lt_keep gl B1.out
  go_loopw [20] (fun i wr => ∃ k : Nat, k ≤ N ∧ i = .int .i64 k ∧ OwnI 3 wr w.heap.size (some ⟨fb, 0, none⟩) N N (List.replicate k (-1) ++ List.replicate (N - k) 0) ∧ w1.grownBy wr (some fb)) (fun i _ => N - (intOf i).toNat)
  case atStart => exact ⟨0, by omega, rfl, by simpa using FAR.out, grown_refl _ _⟩
  case round =>
    obtain ⟨k, hk, rfl, hown, hgw⟩ := hrel
    by_cases hlt : k < N
    · have hx : (List.replicate k (-1 : Int) ++ List.replicate (N - k) 0)[k]? = some 0 := by
        rw [List.getElem?_append_right (by simp), List.length_replicate, Nat.sub_self, List.getElem?_replicate, if_pos (by omega)]
      have c0 := hown.cell hx
      have f0 := hown.frozen k
      have hi0 : (0 : Int) ≤ (k : Int) := by omega
      have hi1 : (k : Int) < (N : Int) := by omega
      obtain ⟨o1, g1⟩ := hown.stored k (-1)
      rw [minus_setN hlt] at o1
      have O1 := Lib.hid o1; have G1 := Lib.hid (grown_next hgw g1)
      clear o1 g1 hgw hown hx
      go_wp2
      go_roundw
      case rel => exact ⟨k + 1, by omega, by go_num, O1.out, G1.out⟩
      case measure => simp [intOf]; omega
    · obtain rfl : N = k := by omega
      have hown2 : OwnI 3 wr w.heap.size (some ⟨fb, 0, none⟩) N N (List.replicate N (-1)) := by simpa using hown
      have HBW := Lib.hid (B.out.trans ((B1.out.trans (below_of_grown hgw (by omega) (fun g h => by injection h with h; omega))).mono B.out.size))
      have hszw := hgw.size
      replace a0 := hgw.cell a0 (by simp; omega); replace a1 := hgw.cell a1 (by simp; omega); replace a2 := hgw.cell a2 (by simp; omega); replace l0 := hgw.cell l0 (by simp; omega); replace l1 := hgw.cell l1 (by simp; omega)
      have OW := Lib.hid hown2
      replace ga : w.heap.size < wr.heap.size := by omega
      replace gl : w.heap.size + 1 < wr.heap.size := by omega
      have hfbr : fb < wr.heap.size := by omega
      have hf2 : w.heap.size + 2 ≤ fb := by omega
      clear hgw hown hown2 FAR B1 B hk hlt hfb1 hfb2 hlow hs1z hszw R
      go_wp2_with fail
      refine (boCells_any W H A n c xs _ (ha.keep HBW.out) HN.out).mono ?_
      rintro e ws ⟨A1, n1, c1, rfl, hst, hb⟩
      replace a0 := cell_keep a0 ga hb; replace a1 := cell_keep a1 ga hb; replace a2 := cell_keep a2 ga hb; replace l0 := cell_keep l0 gl hb; replace l1 := cell_keep l1 gl hb; replace ga := lt_keep ga hb; replace gl := lt_keep gl hb
      replace OW := Lib.hid (OW.out.keep hb)
      have hfbs := lt_keep hfbr hb
      have hA1 : Hid (0 < n1 → ∃ g, A1 = some ⟨g, 0, none⟩ ∧ wr.heap.size ≤ g) := Lib.hid (fun h => by obtain ⟨g, h1, h2, _⟩ := hst.some_ h; exact ⟨g, h1, h2⟩)
      replace HBW := Lib.hid (below_next HBW.out hb)
      have hBs := HBW.out.size
      have ST := Lib.hid hst.rd
      have SL := Lib.hid hst.len
      have n8 : n1 ≤ 64 := by have := cellsL_len64 (xs := xs) HN.out; have := hst.len; omega
      clear hst hb
      go_wp2
      go_loopw [30] (fun i wq => ∃ k : Nat, k ≤ n1 ∧ i = .int .i64 k ∧ OwnI 3 wq w.heap.size (some ⟨fb, 0, none⟩) N N (twoTo W H xs a b k) ∧ ws.grownBy wq (some fb)) (fun i _ => n1 - (intOf i).toNat)
      case atStart => exact ⟨0, by omega, rfl, by rw [(two_ok HF.out 0).eq]; exact OW.out, grown_refl _ _⟩
      case round =>
        clear OW
        obtain ⟨k, hk, rfl, hown, hgw⟩ := hrel
        rename_i w0
        have hsq := hgw.size
        have hBQ : Below w.heap.size w wr := HBW.out.trans (below_of_grown hgw hBs (fun g h => by injection h with h; omega))
        have HBQ := Lib.hid hBQ
        by_cases hlt : k < n1
        · obtain ⟨g1, rfl, hg1l⟩ := hA1.out (by omega)
          obtain ⟨bb, oo, x, e1, hg1, hx, x0⟩ := ST.out.at_ hlt
          obtain ⟨rfl, rfl⟩ : bb = g1 ∧ oo = 0 := by simp at e1; exact ⟨e1.1.symm, e1.2.symm⟩
          rw [Nat.zero_add] at x0
          have hin := cellsL_mem.1 (List.mem_of_getElem? hx)
          have hxr := (hasB_iff.1 hin).1
          rw [HF.out.wh] at hxr
          obtain ⟨xn, rfl⟩ : ∃ xn : Nat, x = (xn : Int) := ⟨x.toNat, by omega⟩
          have hxn : xn < N := by omega
          have hx0 : (0 : Int) ≤ (xn : Int) := by omega
          have hx1 : (xn : Int) < (N : Int) := by omega
          have HX := Lib.hid hx; have HXI := Lib.hid hin
          replace x0 := hgw.cell x0 (by simp; omega)
          have b0 := hgw.cell a0 (by simp; omega); have b1 := hgw.cell a1 (by simp; omega); have b2 := hgw.cell a2 (by simp; omega); have m0 := hgw.cell l0 (by simp; omega); have m1 := hgw.cell l1 (by simp; omega)
          have hlen := (two_ok HF.out k).len
          obtain ⟨v, hv⟩ : ∃ v, (twoTo W H xs a b k)[xn]? = some v := ⟨_, List.getElem?_eq_getElem (by omega)⟩
          have v0 := hown.cell hv
          have hvd : (twoTo W H xs a b k).getD xn (-1) = v := by rw [List.getD_eq_getElem?_getD, hv]; rfl
          have HVD := Lib.hid hvd; have HOWN := Lib.hid hown; have HGW := Lib.hid hgw
          have HNEXT := Lib.hid (twoTo_next (a := a) (b := b) hx)
          clear hx hin hxr hgw hBQ hown hlen hv hvd e1
          by_cases hv0 : 0 ≤ v
          · have eN : Hid (twoTo W H xs a b (k + 1) = twoTo W H xs a b k) := Lib.hid (by rw [HNEXT.out, twoStep, Int.toNat_natCast, HVD.out, if_pos hv0])
            clear HNEXT
            go_wp2
            go_roundw
            case rel => exact ⟨k + 1, by omega, by go_num, by rw [eN.out]; exact HOWN.out, HGW.out⟩
            case measure => simp [intOf]; omega
          · have eN : Hid (twoTo W H xs a b (k + 1) = layK (distL W H xs a b (xn : Int)) (twoTo W H xs a b k) N) := Lib.hid (by rw [HNEXT.out, twoStep, Int.toNat_natCast, HVD.out, if_neg hv0, show (W * H).toNat = N by have := HF.out.wh; omega])
            clear HNEXT
            go_wp2_with fail
            refine (faFrom_any W H A n c xs a b xn N _ (ha.keep HBQ.out) HF.out.g HF.out.wh hxn).mono ?_
            rintro e wv ⟨g, rfl, own, hb⟩
            have eD : farL (leapsL W H xs a b) N (xn : Int) = distL W H xs a b (xn : Int) := by rw [distL, show (W * H).toNat = N by have := HF.out.wh; omega]
            rw [eD] at own
            have hbd := Lib.hid (dist_bd HF.out HXI.out)
            obtain ⟨D, hD⟩ : ∃ D, D = distL W H xs a b (xn : Int) := ⟨_, rfl⟩
            rw [← hD] at own hbd eN
            have DLEN := Lib.hid own.len
            have hgl : wr.heap.size ≤ g := by obtain ⟨g9, h1, h3, h2⟩ := own.some_ (k := 0) (by omega); injection h1 with h1; injection h1 with h1; omega
            have hgf : g ≠ fb := by omega
            have hgv : g < wv.heap.size := by obtain ⟨g9, h1, _, h2⟩ := own.some_ (k := 0) (by omega); injection h1 with h1; injection h1 with h1; omega
            have FAR := Lib.hid own
            have OW := Lib.hid (HOWN.out.keep hb)
            have HGV := Lib.hid (grown_next HGW.out (grown_of_below hb (some fb)))
            obtain ⟨out0, hout0⟩ : ∃ o, o = twoTo W H xs a b k := ⟨_, rfl⟩
            rw [← hout0] at OW eN
            have ho := Lib.hid OW.out.len
            clear hb own eD hD HGW HOWN HVD hout0 x0 v0
            go_wp2
            go_loopw [44] (fun i wx => ∃ j : Nat, j ≤ N ∧ i = .int .i64 j ∧ OwnI 3 wx w.heap.size (some ⟨fb, 0, none⟩) N N (layK D out0 j) ∧ wv.grownBy wx (some fb)) (fun i _ => N - (intOf i).toNat)
            case atStart => exact ⟨0, by omega, rfl, OW.out, grown_refl _ _⟩
            case round =>
              clear OW
              obtain ⟨j, hj, rfl, hown, hgx⟩ := hrel
              have hsx := hgx.size
              by_cases hjl : j < N
              · obtain ⟨y, hy⟩ : ∃ y, D[j]? = some y := ⟨_, List.getElem?_eq_getElem (show j < D.length by have := DLEN.out; omega)⟩
                have y0 := hgx.cell (FAR.out.cell hy) (by simp; omega)
                have hyb := hbd.out y (List.mem_of_getElem? hy)
                have hyd : D.getD j (-1) = y := by rw [List.getD_eq_getElem?_getD, hy]; rfl
                have hj0 : (0 : Int) ≤ (j : Int) := by omega
                have hj1 : (j : Int) < (N : Int) := by omega
                have HGX := Lib.hid hgx
                by_cases hy0 : 0 ≤ y
                · obtain ⟨r, hr⟩ : ∃ r, r = y % 2 := ⟨_, rfl⟩
                  have hrt : Int.tmod y 2 = r := by rw [hr, Int.tmod_eq_emod_of_nonneg hy0]
                  have hl := layK_yes (D := D) (out := out0) (k := j) (by rw [hyd]; exact hy0)
                  rw [hyd, ← hr] at hl
                  obtain ⟨z, hz⟩ : ∃ z, (layK D out0 j)[j]? = some z := ⟨_, List.getElem?_eq_getElem (by rw [layK_len]; have := ho.out; omega)⟩
                  have c0 := hown.cell hz
                  have f0 := hown.frozen j
                  obtain ⟨o1, g1⟩ := hown.stored j r
                  rw [← hl] at o1
                  have O1 := Lib.hid o1; have G1 := Lib.hid (grown_next hgx g1)
                  have hr0 : 0 ≤ r ∧ r ≤ 1 := by omega
                  have hy1 : y ≤ 64 := hyb.2
                  clear o1 g1 hgx hown hy hyb hyd hl hz hr
                  go_wp2
                  go_roundw
                  case rel => exact ⟨j + 1, by omega, by go_num, O1.out, G1.out⟩
                  case measure => simp [intOf]; omega
                · have hl := layK_no (D := D) (out := out0) (k := j) (by rw [hyd]; exact hy0)
                  have O1 := Lib.hid hown
                  have HL := Lib.hid hl
                  clear hgx hown hy hyb hyd hl
                  go_wp2
                  go_roundw
                  case rel => exact ⟨j + 1, by omega, by go_num, by rw [HL.out]; exact O1.out, HGX.out⟩
                  case measure => simp [intOf]; omega
              · obtain rfl : j = N := by omega
                rw [← eN.out] at hown
                have OW2 := Lib.hid hown
                have G2 := Lib.hid (grown_next HGV.out hgx)
                clear hown hgx
                go_wp2
                go_roundw
                case rel => exact ⟨k + 1, by omega, by go_num, OW2.out, G2.out⟩
                case measure => simp [intOf]; omega
        · obtain rfl : k = n1 := by omega
          have eT : Hid (twoTo W H xs a b k = twoL W H xs a b) := Lib.hid (by rw [twoTo, List.take_of_length_le (by have := SL.out; omega)]; rfl)
          have b0 := hgw.cell a0 (by simp; omega); have b1 := hgw.cell a1 (by simp; omega); have b2 := hgw.cell a2 (by simp; omega); have m0 := hgw.cell l0 (by simp; omega); have m1 := hgw.cell l1 (by simp; omega)
          rw [eT.out] at hown
          have OWN := Lib.hid hown
          have hTL : ((twoL W H xs a b).length : Int) = W * H := by have := (two_parts HF.out).1; have := HF.out.wh; omega
          clear hgw hBQ hown
          go_wp2_with fail
          refine (paIs_any W H A n c xs a b (some ⟨fb, 0, none⟩) N N (twoL W H xs a b) _ (ha.keep HBQ.out) OWN.out.rd HF.out.g hTL).mono ?_
          rintro e wz ⟨rfl, hb⟩
          have OWZ := Lib.hid (OWN.out.keep hb)
          have HBZ := Lib.hid (below_next HBQ.out hb)
          clear hb hTL
          go_wp2
          go_ret2
          exact ⟨fb, rfl, OWZ.out, HBZ.out⟩
end Go.Proofs.YtbpgkigoboobeaaGreat

namespace Go.Proofs.YtbpgkigoboobeaaGreat
open Go.RowKit Go.Shelf
attribute [local go_sem] Oper.semAt_some

def cellOk (W H : Int) (xs : List Int) (k x : Int) : Bool := if hasB W H xs k then inB x 0 8 else x == -1
def goodFrom (W H : Int) (xs : List Int) : Nat → List Int → Bool
  | _, [] => true
  | k, x :: t => cellOk W H xs k x && goodFrom W H xs (k + 1) t
/-- Whether a list are colours of a board. -/
def goodCols (W H : Int) (xs cs : List Int) : Bool := decide ((cs.length : Int) = W * H) && goodFrom W H xs 0 cs
theorem goodFrom_drop {W H x : Int} {xs cs : List Int} {k : Nat} (hx : cs[k]? = some x) : goodFrom W H xs k (cs.drop k) = (cellOk W H xs k x && goodFrom W H xs (k + 1) (cs.drop (k + 1))) := by
  rw [drop_cons_of hx]; rfl
theorem goodFrom_at {W H : Int} {xs : List Int} : ∀ (cs : List Int) (i : Nat), goodFrom W H xs i cs = true → ∀ k x, cs[k]? = some x → cellOk W H xs ((i + k : Nat) : Int) x = true
  | [], _, _, k, x, h => by simp at h
  | y :: t, i, hg, 0, x, h => by
    simp only [goodFrom, Bool.and_eq_true] at hg
    simp at h; subst h; exact hg.1
  | y :: t, i, hg, k + 1, x, h => by
    simp only [goodFrom, Bool.and_eq_true] at hg
    have := goodFrom_at t (i + 1) hg.2 k x (by simpa using h)
    rwa [show i + 1 + k = i + (k + 1) by omega] at this
theorem good_at {W H : Int} {xs cs : List Int} (h : goodCols W H xs cs = true) {k : Nat} {x : Int} (hx : cs[k]? = some x) : cellOk W H xs k x = true := by
  simp only [goodCols, Bool.and_eq_true] at h
  have := goodFrom_at cs 0 h.2 k x hx
  rwa [Nat.zero_add] at this
theorem good_len {W H : Int} {xs cs : List Int} (h : goodCols W H xs cs = true) : (cs.length : Int) = W * H := by
  simp only [goodCols, Bool.and_eq_true, decide_eq_true_eq] at h; exact h.1
theorem ok_rng {W H k x : Int} {xs : List Int} (h : cellOk W H xs k x = true) : -1 ≤ x ∧ x ≤ 8 := by
  unfold cellOk at h
  split at h
  · have := inB_iff.1 h; omega
  · simp at h; omega

/-- The cells before the k-th one that have a colour. -/
def paintN (cs : List Int) (k c : Nat) : Nat := setBits ((List.range k).filter fun i => cs[i]? == some (c : Int))
def paintL (cs : List Int) (k : Nat) : List Nat := (List.range 9).map (paintN cs k)
theorem paintL_len (cs : List Int) (k : Nat) : (paintL cs k).length = 9 := by simp [paintL]
theorem paintN_yes {cs : List Int} {k c : Nat} (h : cs[k]? = some (c : Int)) : paintN cs (k + 1) c = paintN cs k c ||| 2 ^ k := by
  rw [paintN, List.range_succ, List.filter_append, List.filter_cons, if_pos (by simp [h]), List.filter_nil, setBits_snoc]; rfl
theorem paintN_no {cs : List Int} {k c : Nat} (h : cs[k]? ≠ some (c : Int)) : paintN cs (k + 1) c = paintN cs k c := by
  rw [paintN, List.range_succ, List.filter_append, List.filter_cons, if_neg (by simpa using h), List.filter_nil, List.append_nil]; rfl
theorem paintN_test {cs : List Int} {k c i : Nat} : (paintN cs k c).testBit i = true ↔ i < k ∧ cs[i]? = some (c : Int) := by
  rw [paintN, setBits_test i _ _ rfl]; simp
theorem paintN_lt {cs : List Int} {k c : Nat} (hk : k ≤ 64) : paintN cs k c < 18446744073709551616 := setBits_lt _ (fun i hi => by simp at hi; omega)
theorem paintN_pop (cs : List Int) (c : Nat) : ∀ k, k ≤ 64 → k ≤ cs.length → popN 64 (paintN cs k c) = (cs.take k).count (c : Int)
  | 0, _, _ => by simp [paintN, setBits]; decide
  | k + 1, h, hl => by
    have ih := paintN_pop cs c k (by omega) (by omega)
    have hx : cs[k]? = some cs[k] := List.getElem?_eq_getElem (by omega)
    have hb : (paintN cs k c).testBit k = false := by
      cases hh : (paintN cs k c).testBit k
      · rfl
      · have := paintN_test.1 hh; omega
    rw [List.take_add_one, hx, List.count_append]
    by_cases he : cs[k] = (c : Int)
    · rw [paintN_yes (by rw [hx, he]), popN_or _ _ _ (by omega), hb, ih]; simp [he]
    · rw [paintN_no (by rw [hx]; simpa using he), ih]; simp [he]
theorem paintL_at {cs : List Int} {k c : Nat} (hc : c < 9) : (paintL cs k)[c]? = some (paintN cs k c) := by
  simp [paintL, hc]
theorem paintL_set {cs : List Int} {k c : Nat} (h : cs[k]? = some (c : Int)) : (paintL cs k).set c (paintN cs k c ||| 2 ^ k) = paintL cs (k + 1) := by
  apply List.ext_getElem?
  intro j
  rw [List.getElem?_set]
  by_cases hj : j < 9
  · by_cases e : c = j
    · subst e
      rw [if_pos rfl, if_pos (by rw [paintL_len]; omega), paintL_at hj, paintN_yes h]
    · rw [if_neg e, paintL_at hj, paintL_at hj, paintN_no (by rw [h]; simp; omega)]
  · have e1 : (paintL cs (k + 1))[j]? = none := List.getElem?_eq_none (by rw [paintL_len]; omega)
    have e2 : (paintL cs k)[j]? = none := List.getElem?_eq_none (by rw [paintL_len]; omega)
    rw [e1, e2]
    split
    · rw [if_neg (by rw [paintL_len]; omega)]
    · rfl
theorem paintL_skip {cs : List Int} {k : Nat} {x : Int} (h : cs[k]? = some x) (hx : x < 0) : paintL cs (k + 1) = paintL cs k := by
  unfold paintL
  refine List.map_congr_left fun c _ => paintN_no (by rw [h]; simp; omega)


theorem info_painting : (Tryz.prog.info? 57).map (·.size) = some 9 := by kernel_rfl
/-- Nine empty sets. -/
def nine0 : Array Value := #[.int .u64 0, .int .u64 0, .int .u64 0, .int .u64 0, .int .u64 0, .int .u64 0, .int .u64 0, .int .u64 0, .int .u64 0]
def none9 : List Nat := List.replicate 9 0
theorem paintL_zero (cs : List Int) : paintL cs 0 = none9 := by rfl
theorem none9_len : none9.length = 9 := by rfl
theorem nine0_size : nine0.size = 9 := by rfl
theorem nine_words : nine0 = (words none9).toArray := by rfl

set_option maxRecDepth 100000 in
theorem paint_load {W : World} {g : Nat} {P : List Nat} (h : W.heap[g]? = some (.cells (words P).toArray 57 (0, 0))) (hP : P.length = 9) :
    (Instr.loadAt 57 (.pointer (some ⟨g, 0, none⟩))).run Tryz.prog W = .ok (.agg (words P).toArray) W :=
  run_loadAt_mid (P := Tryz.prog) W g 0 57 (words P) (.array _ _) (fun j v hv => by rw [Nat.zero_add, cell_of_row _ _ _ _ _ _ h]; simpa using hv) rfl rfl (by rw [info_painting]; simp [words, hP])
set_option maxRecDepth 100000 in
theorem paint_store {W : World} {g : Nat} {c : Array Value} {P : List Nat} (h : W.heap[g]? = some (.cells c 57 (0, 0))) (hc : c.size = 9) (hP : P.length = 9) :
    (Instr.storeAt 57 (.pointer (some ⟨g, 0, none⟩)) (.agg (words P).toArray)).run Tryz.prog W = .ok () (W.setRow g (words P).toArray) := by
  simp only [Instr.storeAt, Instr.sureAddr, Sem.run_bind, Sem.run_pure, Result.andThen_ok]
  exact run_storeVar_row _ _ _ _ _ _ h (by rw [info_painting]; simp [words, hP]) (by simp [words, hP, hc]) (all_oneCell_toArray (words_one _))

theorem run_paint (L : List Nat) (k v : Nat) (hk : k < 9) (hv : L[k]? = some v) (w : World) :
    (Instr.index 57 (.agg (words L).toArray) (.int .i64 (k : Int))).run Tryz.prog w = .ok (.int .u64 (v : Int)) w := by
  have hu := Tryz.underlying57
  have hz := Tryz.sizeOf55
  have ha := Tryz.isAgg55
  simp [Instr.index, run_underlying hu, asIntOf, go_sem]
  rw [if_pos hk, words, List.getElem?_map, hv]
  rfl
set_option maxRecDepth 100000 in
theorem paint_lay (w : World) {P : List Nat} (hP : P.length = 9) :
    (storeCells ⟨w.heap.size, 0, none⟩ (words P)).run Tryz.prog (w.alloc (.cells nine0 57)) = .ok () (w.alloc (.cells (words P).toArray 57)) :=
  run_storeCells_new (P := Tryz.prog) w 57 nine0 (words P).toArray (by rw [info_painting]; simp [words, hP]) (by rw [nine0_size]; simp [words, hP]) (all_oneCell_toArray (words_one _))

set_option maxRecDepth 100000 in
set_option maxHeartbeats 1000000 in
theorem with_any (P : List Nat) (hP : P.length = 9) (cell colour x : Nat) (hc : cell < 64) (hk : colour < 9) (hx : P[colour]? = some x) (hx9 : x < 18446744073709551616) (w : World) :
    Calls Tryz.prog 57 #[.agg (words P).toArray, .int .i64 cell, .int .i64 colour] w fun e w' => e = .returned (.agg (words (P.set colour (x ||| 2 ^ cell))).toArray) ∧ Below w.heap.size w w' := by
  refine (callsIn_wide (n := 5)).1 ?_
  refine callsIn_of_wp_marks Tryz.func57 rfl trivial ?_ rfl
  simp only [Tryz.ntmps57, List.size_toArray, List.length_cons, List.length_nil, Nat.reduceAdd, Nat.reduceSub, Array.replicate_succ, Array.replicate_zero, List.push_toArray, List.append_toArray, List.nil_append, List.cons_append]
  obtain ⟨W2, hW2⟩ : ∃ W2, W2 = (w.alloc (.cells (words P).toArray 57)).alloc (.cells nine0 57) := ⟨_, rfl⟩
  have hh : W2.heap[w.heap.size]? = some (.cells (words P).toArray 57 (0, 0)) := by rw [hW2, Below.heap_alloc _ _ _ (by simp)]; exact World.alloc_heap_new _ _
  have hr : W2.heap[w.heap.size + 1]? = some (.cells nine0 57 (0, 0)) := by
    have h := World.alloc_heap_new (w.alloc (.cells (words P).toArray 57)) (.cells nine0 57)
    rw [hW2]; rw [World.size_alloc] at h; exact h
  have hcell : W2.cell? ⟨w.heap.size, colour, none⟩ = some (.int .u64 (x : Int)) := by
    rw [cell_of_row _ _ _ _ _ _ hh, List.getElem?_toArray, words, List.getElem?_map, hx]; rfl
  have hfro : W2.frozen? ⟨w.heap.size, colour, none⟩ = false := frozen_of_row _ _ _ _ _ hh
  have hb1 : Below w.heap.size w W2 := by rw [hW2]; exact ((Below.refl _ _).alloc (Nat.le_refl _) _).alloc (by simp) _
  have HWI := Lib.hid (fun V => withS_any x cell hx9 hc V)
  obtain ⟨y, hy⟩ : ∃ y, y = x ||| 2 ^ cell := ⟨_, rfl⟩
  rw [← hy] at HWI ⊢
  have hh3 := heap_set (j := colour) (.int .u64 (y : Int)) hh
  have hg3 := grown_set W2 w.heap.size colour (.int .u64 (y : Int))
  have hr3 := (hg3.block (w.heap.size + 1) (Array.getElem?_eq_some_iff.1 hr).1 (by simp)).trans hr
  have hb3 := hb1.grown hg3 hb1.size (fun k e => by cases e; omega)
  have hset : (words P).toArray.setIfInBounds colour (.int .u64 (y : Int)) = (words (P.set colour y)).toArray := by simp [words, List.map_set]
  rw [hset] at hh3
  have hL9 : (P.set colour y).length = 9 := by simp [hP]
  have hld := paint_load hh3 hL9
  have hst := paint_store hr3 (by rfl) hL9
  have hh4 := Lib.hid (heap_setRow (c' := (words (P.set colour y)).toArray) hr3)
  have hg4 := grown_setRow (W2.setCell ⟨w.heap.size, colour, none⟩ (.int .u64 (y : Int))) (w.heap.size + 1) (words (P.set colour y)).toArray
  have hb4 := Lib.hid (hb3.grown hg4 hb3.size (fun k e => by cases e; omega))
  clear hset hg3 hb1 hh hr hh3 hr3 hb3 hg4 hy
  unfold nine0 at hW2
  gi_wp2_with (rw [← hW2]; clear hW2)
  refine ⟨trivial, (callsIn_wide.2 (HWI.out _)).mono ?_⟩
  rintro e w' ⟨rfl, rfl⟩
  gi_wp2_with (first
    | refine wpIn_load_run 57 _ _ _ rfl rfl hld ?_
    | refine wpIn_store_run 57 _ _ _ _ rfl rfl rfl hst ?_)
  refine ⟨_, results_cell_row rfl _ _ _ _ (words (P.set colour y)).toArray _ _ rfl hh4.out rfl rfl (by rw [info_painting]; simp [words, hP]), rfl, hb4.out⟩
end Go.Proofs.YtbpgkigoboobeaaGreat

namespace Go.Proofs.YtbpgkigoboobeaaGreat
open Go.RowKit Go.Shelf
attribute [local go_sem] Oper.semAt_some

/-- The painting of some cells by a colouring. -/
def paintF (f : Int → Nat) (ys : List Int) : List Nat := (List.range 9).map fun c => setBits ((ys.filter fun y => f y == c).map Int.toNat)
theorem paintF_len (f : Int → Nat) (ys : List Int) : (paintF f ys).length = 9 := by simp [paintF]
theorem paintF_at {f : Int → Nat} {ys : List Int} {c : Nat} (hc : c < 9) : (paintF f ys)[c]? = some (setBits ((ys.filter fun y => f y == c).map Int.toNat)) := by simp [paintF, hc]
theorem paintF_snoc {f : Int → Nat} {ys : List Int} {y : Int} : (paintF f ys).set (f y) (setBits ((ys.filter fun z => f z == f y).map Int.toNat) ||| 2 ^ y.toNat) = paintF f (ys ++ [y]) := by
  apply List.ext_getElem?
  intro j
  rw [List.getElem?_set]
  by_cases hj : j < 9
  · rw [paintF_at hj, paintF_at hj]
    by_cases e : f y = j
    · subst e
      rw [if_pos rfl, if_pos (by rw [paintF_len]; omega), List.filter_append, List.map_append]
      simp [setBits_snoc]
    · rw [if_neg e, List.filter_append, List.map_append]
      have : (f y == j) = false := by simpa using e
      simp [this]
  · have e1 : (paintF f (ys ++ [y]))[j]? = none := List.getElem?_eq_none (by rw [paintF_len]; omega)
    have e2 : (paintF f ys)[j]? = none := List.getElem?_eq_none (by rw [paintF_len]; omega)
    rw [e1, e2]
    split
    · rw [if_neg (by rw [paintF_len]; omega)]
    · rfl
theorem paintF_nil (f : Int → Nat) : paintF f [] = none9 := by rfl
theorem paintF_lt {f : Int → Nat} {ys : List Int} (h : ∀ y ∈ ys, 0 ≤ y ∧ y < 64) : ∀ s ∈ paintF f ys, s < 18446744073709551616 := by
  intro s hs
  obtain ⟨c, _, rfl⟩ := List.mem_map.1 hs
  refine setBits_lt _ (fun i hi => ?_)
  obtain ⟨y, hy, rfl⟩ := List.mem_map.1 hi
  have := h y (List.mem_filter.1 hy).1
  omega
/-- The painting in the midst of its making. -/
def MidP (W3 : World) (g : Nat) (L : List Nat) (W' : World) : Prop :=
  W3.grownBy W' (some g) ∧ W'.heap[g]? = some (.cells (words L).toArray 57 (0, 0))
theorem midP_below {W3 W W' : World} {g : Nat} {L : List Nat} (h : MidP W3 g L W) (hb : Below W.heap.size W W') : MidP W3 g L W' :=
  ⟨grown_next h.1 (grown_of_below hb _), (hb.block g (Array.getElem?_eq_some_iff.1 h.2).1).trans h.2⟩
theorem midP_set {W3 W : World} {g : Nat} {L : List Nat} (L' : List Nat) (h : MidP W3 g L W) : MidP W3 g L' (W.setRow g (words L').toArray) :=
  ⟨grown_next h.1 (grown_setRow _ _ _), heap_setRow h.2⟩

theorem cell_setRow_ne {W : World} {b o g : Nat} {v : Value} {cs : Array Value} (h : W.cell? ⟨b, o, none⟩ = some v) (hne : b ≠ g) : (W.setRow g cs).cell? ⟨b, o, none⟩ = some v := by
  rw [← h]
  simp [World.cell?, World.setRow, Array.getElem?_modify, show ¬ g = b from fun e => hne e.symm]

theorem range_of_row {w : World} {g : Nat} {L : List Value} {T : TypeId} (h : w.heap[g]? = some (.cells L.toArray T (0, 0))) : w.rangeAt g 0 L := fun j v hv => by
  rw [Nat.zero_add, cell_of_row _ _ _ _ _ _ h]; simpa using hv
theorem there_of_row {w : World} {g n : Nat} {L : List Value} {T : TypeId} (h : w.heap[g]? = some (.cells L.toArray T (0, 0))) (hn : L.length = n) : w.there g 0 n := fun j hj => by
  refine ⟨?_, frozen_of_row _ _ _ _ _ h⟩
  rw [Nat.zero_add, cell_of_row _ _ _ _ _ _ h, List.getElem?_toArray, List.getElem?_eq_getElem (by omega)]; rfl
theorem step_load_paint {ops : Array Oper} {o : Oper} {a : Act} {w : World} {K : Act → World → Prop} {Q : Exit → Act → World → Prop} {E0 : Prop} (hgd : o.guard = none) (x : Operand) (ho : o.op = .load 57 x)
    (g : Nat) (hx : a.eval x = .pointer (some ⟨g, 0, none⟩)) (L : List Nat) (h : w.heap[g]? = some (.cells (words L).toArray 57 (0, 0))) (hL : L.length = 9)
    (hK : K (a.put o.dst (.agg (words L).toArray)) w) : if Region.wanted o (yielded ops a.tmps) = true then Oper.wp Tryz.prog o a w K Q else E0 := by
  have hw : Region.wanted o (yielded ops a.tmps) = true := by simp [Region.wanted, hgd]
  rw [if_pos hw]
  unfold Oper.wp execOp
  simp only [ho, hx, Sem.run_bind, paint_load h hL, Sem.run_pure, Result.andThen_ok]
  exact hK
theorem step_store_paint {ops : Array Oper} {o : Oper} {a : Act} {w : World} {K : Act → World → Prop} {Q : Exit → Act → World → Prop} {E0 : Prop} (hgd : o.guard = none) (x y : Operand) (ho : o.op = .store 57 x y)
    (g : Nat) (hx : a.eval x = .pointer (some ⟨g, 0, none⟩)) (L L0 : List Nat) (hy : a.eval y = .agg (words L).toArray) (h : w.heap[g]? = some (.cells (words L0).toArray 57 (0, 0))) (hL0 : L0.length = 9) (hL : L.length = 9)
    (hK : K (a.put o.dst undef) (w.setRow g (words L).toArray)) : if Region.wanted o (yielded ops a.tmps) = true then Oper.wp Tryz.prog o a w K Q else E0 := by
  have hw : Region.wanted o (yielded ops a.tmps) = true := by simp [Region.wanted, hgd]
  rw [if_pos hw]
  unfold Oper.wp execOp
  simp only [ho, hx, hy, Sem.run_bind, paint_store h (by simp [words, hL0]) hL, Sem.run_pure, Result.andThen_ok]
  exact hK
theorem nine_of_len {P : List Nat} (h : P.length = 9) : ∃ y0 y1 y2 y3 y4 y5 y6 y7 y8 : Nat, P = [y0, y1, y2, y3, y4, y5, y6, y7, y8] := by
  match P, h with
  | [y0, y1, y2, y3, y4, y5, y6, y7, y8], _ => exact ⟨y0, y1, y2, y3, y4, y5, y6, y7, y8, rfl⟩
theorem nine_cells {W : World} {g : Nat} {T : TypeId} {y0 y1 y2 y3 y4 y5 y6 y7 y8 : Nat} (h : W.heap[g]? = some (.cells (words [y0, y1, y2, y3, y4, y5, y6, y7, y8]).toArray T (0, 0))) :
    W.cell? ⟨g, 0, none⟩ = some (.int .u64 ((y0 : Nat) : Int)) ∧ W.cell? ⟨g, 1, none⟩ = some (.int .u64 ((y1 : Nat) : Int)) ∧ W.cell? ⟨g, 2, none⟩ = some (.int .u64 ((y2 : Nat) : Int)) ∧ W.cell? ⟨g, 3, none⟩ = some (.int .u64 ((y3 : Nat) : Int)) ∧ W.cell? ⟨g, 4, none⟩ = some (.int .u64 ((y4 : Nat) : Int)) ∧ W.cell? ⟨g, 5, none⟩ = some (.int .u64 ((y5 : Nat) : Int)) ∧ W.cell? ⟨g, 6, none⟩ = some (.int .u64 ((y6 : Nat) : Int)) ∧ W.cell? ⟨g, 7, none⟩ = some (.int .u64 ((y7 : Nat) : Int)) ∧ W.cell? ⟨g, 8, none⟩ = some (.int .u64 ((y8 : Nat) : Int)) :=
  ⟨by rw [cell_of_row _ _ _ _ _ _ h]; rfl, by rw [cell_of_row _ _ _ _ _ _ h]; rfl, by rw [cell_of_row _ _ _ _ _ _ h]; rfl, by rw [cell_of_row _ _ _ _ _ _ h]; rfl, by rw [cell_of_row _ _ _ _ _ _ h]; rfl, by rw [cell_of_row _ _ _ _ _ _ h]; rfl, by rw [cell_of_row _ _ _ _ _ _ h]; rfl, by rw [cell_of_row _ _ _ _ _ _ h]; rfl, by rw [cell_of_row _ _ _ _ _ _ h]; rfl⟩
end Go.Proofs.YtbpgkigoboobeaaGreat

namespace Go.Proofs.YtbpgkigoboobeaaGreat
open Go.RowKit Go.Maps

/-- As MapI; ks tells which keys there are. -/
def MapK (P : Program) (k : TypeId) (w : World) (b n : Nat) (z : Value) (f : Int → Value) (ks : Int → Bool) : Prop :=
  ∃ D : DataW Value, w.ownsMap P k rawR b n D ∧ IsMap D ∧ (∀ x, D.atKey (.int .i64 x) (.held z) = .held (f x)) ∧ ∀ x, has D (.int .i64 x) = ks x

section
variable {P : Program} {k e t : TypeId} {w w' : World} {b n : Nat} {z : Value} {f : Int → Value} {ks : Int → Bool}
theorem MapK.map (h : MapK P k w b n z f ks) : MapI P k w b n z f := by obtain ⟨D, h1, h2, h3, _⟩ := h; exact ⟨D, h1, h2, h3⟩
theorem MapK.made (P : Program) (k : TypeId) (w : World) (z : Value) : MapK P k (w.alloc (.map #[] 0)) w.heap.size 0 z (fun _ => z) (fun _ => false) :=
  ⟨_, World.ownsMap_made _ _ _ _, isMap_empty, fun _ => rfl, fun _ => rfl⟩
theorem MapK.lt (h : MapK P k w b n z f ks) : b < w.heap.size := h.map.lt
theorem MapK.other {row : Option Nat} (h : MapK P k w b n z f ks) (hg : w.grownBy w' row) (hne : some b ≠ row) : MapK P k w' b n z f ks := by
  obtain ⟨D, h1, h2, h3⟩ := h
  exact ⟨D, h1.kept hg hne, h2, h3⟩
theorem MapK.keep (h : MapK P k w b n z f ks) (hb : Below w.heap.size w w') : MapK P k w' b n z f ks := h.other (grown_of_below hb none) (by simp)
theorem wpList_updateK {ops : Array Oper} {rest : List Oper} {o : Oper} {a : Act} {Q : Exit → Act → World → Prop}
    (hg : o.guard = none) (m x v : Operand) (hop : o.op = Op.mapUpdate t m x v) (hk : P.underlying k = some (.int .i64)) (ht : P.underlying t = some (.map k e))
    (hm : a.eval m = .map (some b)) (hown : MapK P k w b n z f ks) (hn : n < 1000000) (q : Int) (val : Value) (hx : a.eval x = .int .i64 q) (hv : a.eval v = val) (hq : (Lit.int .i64 q).wf = true)
    (hK : ∀ w', MapK P k w' b (n + 1) z (fun y => if y = q then val else f y) (fun y => if y = q then true else ks y) → w.grownBy w' (some b) → wpList P ops Q rest (a.put o.dst undef) w') :
    wpList P ops Q (o :: rest) a w := by
  obtain ⟨D, h1, h2, h3, h4⟩ := hown
  refine wpList_mapUpdate_own w hg m x v t hop k e (int_keyed hk) ht rawR b n D hm h1 (by unfold maxLen; omega) _ _ (.int .i64 q) hx hv (keyOf_int_mk hk hq) (.held val) [] rfl ?_
  intro w' hw hgr
  refine hK w' ⟨_, hw, h2.put _ _, fun y => ?_, fun y => ?_⟩ hgr
  · show _ = DataW.held (if y = q then val else f y)
    by_cases e : y = q
    · subst e
      rw [if_pos rfl]
      exact atKey_put_same h2 (by trivial) _ _
    · rw [if_neg e, atKey_put_other (fun h => e (by injection h)) _ _]
      exact h3 y
  · show _ = (if y = q then true else ks y)
    by_cases e : y = q
    · subst e
      rw [if_pos rfl]
      exact has_put_same h2 (by trivial) _
    · rw [if_neg e, has_put_other (fun h => e (by injection h)) _]
      exact h4 y
end

end Go.Proofs.YtbpgkigoboobeaaGreat

namespace Go.Proofs.YtbpgkigoboobeaaGreat
open Go.RowKit Go.Maps Go.Sort Go.Shelf

section
variable {P : Program} {k e t : TypeId} {w w' : World} {b n : Nat} {z : Value} {f : Int → Value} {ks : Int → Bool}
/-- What sorted keys are. -/
theorem sorted_keys {D : DataW Value} {R : Value → Option (DataW Value × List MemPlace)} (hown : w.ownsMap P k R b n D) (hk : P.underlying k = some (.int .i64)) {cells : List Int} (hc : cells.Pairwise (· < ·)) (hm : ∀ x, has D (.int .i64 x) = decide (x ∈ cells)) {ss : List Int} (hp : ss.Perm (intKeys D)) :
    ss.mergeSort (fun x y => decide (x ≤ y)) = cells := by
  obtain ⟨es, hD, hpw, _⟩ := hown.entries (int_keyed hk)
  obtain ⟨es', hD', hko⟩ := hown.keysOf
  obtain rfl : es = es' := by rw [hD] at hD'; simpa using hD'
  subst hD
  have hq : cells.Perm (intKeys (.map es)) := perm_intKeys hpw (fun p hp => by obtain ⟨v, hv⟩ := hko p hp; obtain ⟨x, _, hx, _⟩ := Maps.keyOf_i64 hk hv; exact ⟨x, hx⟩) (hc.imp (fun h => by omega)) (fun x => by rw [hm]; simp)
  rw [show (ss.mergeSort fun x y => decide (x ≤ y)) = cells.mergeSort (fun x y => decide (x ≤ y)) from mergeSort_of_perm_i (hp.trans hq.symm)]
  exact List.mergeSort_of_pairwise (hc.imp (fun h => by simp; omega))
end

/-- As OnMap; the map has just the cells. -/
def OnMapK (w : World) (lo mb : Nat) (cells : List Int) (adj : Int → List Int) : Prop :=
  lo ≤ mb ∧ ∃ (n : Nat) (f : Int → Value), n ≤ 144 ∧ MapK Tryz.prog 3 w mb n (.slice none 0 0) f (fun x => decide (x ∈ cells)) ∧ ∀ x ∈ cells, RowAt w lo mb (f x) (adj x)
theorem OnMapK.on {w : World} {lo mb : Nat} {cells : List Int} {adj : Int → List Int} (h : OnMapK w lo mb cells adj) : OnMap w lo mb cells adj := by
  obtain ⟨h0, n, f, h1, h2, h3⟩ := h
  exact ⟨h0, n, f, h1, h2.map, h3⟩
theorem OnMapK.keep {w w' : World} {lo mb : Nat} {cells : List Int} {adj : Int → List Int} (h : OnMapK w lo mb cells adj) (hb : Below w.heap.size w w') : OnMapK w' lo mb cells adj := by
  obtain ⟨h0, n, f, h1, h2, h3⟩ := h
  exact ⟨h0, n, f, h1, h2.keep hb, fun x hx => (h3 x hx).keep hb⟩

theorem sortsInts (m : Nat) : AnyZI.SortsIn Tryz.prog Tryz.sortedA_ren Fence.wide m :=
  ⟨fun blk off cap ss W hH hblk hsz => callsIn_wide.2 (Tryz.slices_Sort_int blk off cap ss W hH hblk hsz),
   fun p cap W => callsIn_wide.2 (Tryz.slices_Sort_int_none p cap W)⟩

set_option maxRecDepth 100000 in
set_option maxHeartbeats 1000000 in
theorem cells_any (lo mb : Nat) (cells : List Int) (adj : Int → List Int) (w : World) (h : OnMapK w lo mb cells adj) (hc : cells.Pairwise (· < ·)) :
    Calls Tryz.prog 58 #[.map (some mb)] w fun e w' => ∃ A' n' c', e = .returned (.slice A' n' c') ∧ OwnI 3 w' w.heap.size A' n' c' cells ∧ Below w.heap.size w w' := by
  obtain ⟨_, nn, f, hn, ⟨D, hown, hD, _, hks⟩, _⟩ := h
  refine (callsIn_wide (n := 6)).1 ?_
  have hbl := hown.lt
  have hsz := hown.size_le
  have hmax : Maps.size D ≤ maxLen := by unfold maxLen; omega
  have hbytes : Maps.size D * 8 ≤ 140737488355328 := by omega
  have hseq : SeqGives Fence.wide 2 Tryz.prog 106 #[.pointer (some ⟨w.heap.size, 0, none⟩)] encZ (fun ss => ss.Perm (intKeys D)) (Maps.size D) (w.alloc (.cells #[.map (some mb)] 52)) :=
    AnyZI.keys_gives (ρ := Tryz.keysA_ren) { Tryz.keysA with } Fence.wide _ trivial rfl (by omega) w.heap.size mb nn D _ (by simp) (by simp) (by
      obtain ⟨es, clock, hb, Ft, hs, hD⟩ := hown
      exact ⟨es, clock, (Below.heap_alloc _ _ mb hbl).trans hb, Ft, hs, hD⟩)
  have cK : ∀ mb W, CallsIn Fence.wide 5 Tryz.prog 88 #[.map mb] W fun e w' => e = .returned (.func (.func 106) #[] #[.pointer (some ⟨W.heap.size, 0, none⟩)]) ∧ w' = W.alloc (.cells #[.map mb] 52) := fun mb W => AnyZI.keys_in Tryz.keysA Fence.wide 5 trivial rfl mb W
  have cS := AnyZI.sorted_in Tryz.sortedA Fence.wide 5 trivial trivial trivial trivial rfl (by omega) (sortsInts _) (enters_of Tryz.func86 (by kernel_rfl) rfl) 106 #[.pointer (some ⟨w.heap.size, 0, none⟩)] trivial (enters_of Tryz.func106 (by kernel_rfl) rfl) _ _ hmax hbytes _ hseq
  change CallsIn _ _ Tryz.prog 87 _ _ _ at cS
  have hfK : Fence.wide.fn 88 := trivial
  have hfS : Fence.wide.fn 87 := trivial
  refine callsIn_of_wp Tryz.func58 rfl trivial ?_ rfl
  simp only [Tryz.ntmps58, List.size_toArray, List.length_cons, List.length_nil, Nat.reduceAdd, Nat.reduceSub, Array.replicate_succ, Array.replicate_zero, List.push_toArray, List.append_toArray, List.nil_append, List.cons_append]
  gi_wp2_with (first
    | (gi_at_call 88; refine (cK _ _).mono ?_; rintro e w' ⟨rfl, rfl⟩)
    | (gi_at_call 87; refine cS.mono ?_; rintro e w' ⟨v, ss, rfl, hS, hrow, hnil, hb⟩))
  go_ret
  rw [sorted_keys hown Tryz.underlying3 hc hks hS] at hrow
  have hlen : ss.length = cells.length := by have := hrow.1; simpa using this.symm
  rw [hlen] at hrow
  have hB : Below w.heap.size w w' := ((Below.refl _ w).alloc (Nat.le_refl _) _).trans (hb.mono (by simp))
  rcases hrow.2 with ⟨rfl, hz⟩ | ⟨g, cap, cur, rfl, _⟩
  · exact ⟨none, 0, 0, rfl, by rw [hz] at hrow; exact ownsRow_base_a hrow (by simp), hB⟩
  · exact ⟨_, _, _, rfl, ownsRow_base_a hrow (by simp), hB⟩

end Go.Proofs.YtbpgkigoboobeaaGreat

namespace Go.Proofs.YtbpgkigoboobeaaGreat
open Go.RowKit

theorem take_key {l : List Int} {k : Nat} {x : Int} (h : l[k]? = some x) : (fun y : Int => if y = x then true else decide (y ∈ l.take k)) = fun y => decide (y ∈ l.take (k + 1)) := by
  funext y
  rw [List.take_add_one, h]
  by_cases e : y = x
  · subst e; rw [if_pos rfl]; simp
  · rw [if_neg e, Bool.eq_iff_iff, decide_eq_true_eq, decide_eq_true_eq, List.mem_append]; simp [e]
theorem take_none (l : List Int) : (fun _ : Int => false) = fun y => decide (y ∈ l.take 0) := by funext y; simp

set_option maxRecDepth 100000 in
set_option maxHeartbeats 2000000 in
theorem onwardOfK_any (W H : Int) (A : Option Addr) (n c : Nat) (xs : List Int) (a b : Int) (w : World) (ha : Rd w A n xs) (hg : goodB W H xs = true) (hl : leaperB a b = true) :
    Calls Tryz.prog 26 #[brd W H A n c, lpr a b] w fun e w' => ∃ mb, e = .returned (.map (some mb)) ∧ OnMapK w' w.heap.size mb (cellsL W H xs) (leapsL W H xs a b) ∧ Below w.heap.size w w' := by
  have HL := Lib.hid hl
  clear hl
  obtain ⟨hW, hH, _, _⟩ := goodB_iff.1 hg
  have HW := Lib.hid hW; have HN := Lib.hid (cells_le hW hH)
  have HG := Lib.hid hg
  obtain ⟨i0, hi, hz0, hz1, hz2⟩ := info_parts infoI
  have HI := Lib.hid hi; have HZ0 := Lib.hid hz0; have HZ1 := Lib.hid hz1; have HZ2 := Lib.hid hz2
  clear hW hH hg hi hz0 hz1 hz2
  obtain ⟨W2, hW2⟩ : ∃ W2, W2 = ((w.alloc (.cells #[.int .i64 W, .int .i64 H, .slice A n c] 31)).alloc (.cells #[.int .i64 a, .int .i64 b] 33)).alloc (.map #[] 0) := ⟨_, rfl⟩
  have a0 : W2.cell? ⟨w.heap.size, 0, none⟩ = some (.int .i64 W) := by rw [hW2]; go_simp
  have a1 : W2.cell? ⟨w.heap.size, 1, none⟩ = some (.int .i64 H) := by rw [hW2]; go_simp
  have a2 : W2.cell? ⟨w.heap.size, 2, none⟩ = some (.slice A n c) := by rw [hW2]; go_simp
  have l0 : W2.cell? ⟨w.heap.size + 1, 0, none⟩ = some (.int .i64 a) := by rw [hW2]; go_simp
  have l1 : W2.cell? ⟨w.heap.size + 1, 1, none⟩ = some (.int .i64 b) := by rw [hW2]; go_simp
  have hsz : w.heap.size + 3 ≤ W2.heap.size := by rw [hW2]; simp
  have B := Lib.hid (show Below w.heap.size w W2 by rw [hW2]; exact below_new (below_new (below_new (Below.refl _ _) _) _) _)
  have R := Lib.hid (ha.keep B.out)
  have ga : w.heap.size < W2.heap.size := by omega
  have gl : w.heap.size + 1 < W2.heap.size := by omega
  have hmp : MapK Tryz.prog 3 W2 (w.heap.size + 2) 0 (.slice none 0 0) (fun _ => .slice none 0 0) (fun y => decide (y ∈ (cellsL W H xs).take 0)) := by
    rw [hW2, ← take_none]
    have := MapK.made Tryz.prog 3 ((w.alloc (.cells #[.int .i64 W, .int .i64 H, .slice A n c] 31)).alloc (.cells #[.int .i64 a, .int .i64 b] 33)) (.slice none 0 0)
    simpa using this
  have MP := Lib.hid hmp
  clear hmp
  have hmm := @run_makeMap Tryz.prog
  go_enter Tryz.func26, Tryz.ntmps26
  go_wp2_with fail
  rw [← hW2]
  obtain ⟨mb, hmb⟩ : ∃ mb, mb = w.heap.size + 1 + 1 := ⟨_, rfl⟩
  rw [show w.heap.size + 2 = mb by omega] at MP
  rw [← hmb]
  have hmb1 : w.heap.size + 2 ≤ mb := by omega
  have hmb2 : mb < W2.heap.size := by omega
  clear hW2 hmm hmb
  refine (cellsThere_any W H A n c xs _ R.out HG.out).mono ?_
  rintro e ws ⟨A1, n1, c1, rfl, hst, hb⟩
  replace a0 := cell_keep a0 ga hb; replace a1 := cell_keep a1 ga hb; replace a2 := cell_keep a2 ga hb; replace l0 := cell_keep l0 gl hb; replace l1 := cell_keep l1 gl hb; replace ga := lt_keep ga hb; replace gl := lt_keep gl hb; replace R := Lib.hid (R.out.keep hb)
  have hB0 := B.out.size
  replace B := Lib.hid (below_next B.out hb)
  have hs1 := hb.size
  have ST := Lib.hid hst.rd
  have SL := Lib.hid hst.len
  have n8 : n1 ≤ 64 := by have := cellsTo_len (W := W) (H := H) (hs := xs) (W * H).toNat; have := hst.len; have := HN.out; unfold cellsL at *; omega
  have hA1 : Hid (∀ y, A1 = some y → mb < y.block) := Lib.hid (fun y hy => by
    rcases hst.form with ⟨h, _⟩ | ⟨g, h, h2, _⟩
    · rw [h] at hy; cases hy
    · rw [h] at hy; injection hy with hy; rw [← hy]; show mb < g; omega)
  have hmlt : mb < ws.heap.size := by omega
  have n9 := hst.rd.2.1
  replace MP := Lib.hid (MP.out.keep hb)
  clear hst hb
  go_wp2
  go_loopw [12] (fun i wr => ∃ (k : Nat) (f : Int → Value), k ≤ n1 ∧ i = .int .i64 k ∧ MapK Tryz.prog 3 wr mb k (.slice none 0 0) f (fun y => decide (y ∈ (cellsL W H xs).take k)) ∧ (∀ x ∈ (cellsL W H xs).take k, RowAt wr w.heap.size mb (f x) (leapsL W H xs a b x)) ∧ ws.grownBy wr (some mb)) (fun i _ => n1 - (intOf i).toNat)
  case atStart => exact ⟨0, _, by omega, rfl, MP.out, by simp, grown_refl _ _⟩
  case round =>
    obtain ⟨k, f, hk, rfl, hm, hrows, hgw⟩ := hrel
    have hBw : Below w.heap.size w wr := B.out.trans (below_of_grown hgw (by omega) (fun g h => by injection h with h; omega))
    have HM := Lib.hid hm; have HR := Lib.hid hrows
    have HGW := Lib.hid hgw
    have hsw := hgw.size
    clear hm hrows
    by_cases hlt : k < n1
    · obtain ⟨bb, oo, x, rfl, hg1, hx, x0⟩ := ST.out.at_ hlt
      have hbm := hA1.out _ rfl
      simp only at hbm
      have HX := Lib.hid hx
      have hin := cellsL_mem.1 (List.mem_of_getElem? hx)
      have HXQ := Lib.hid (hasB_iff.1 hin).1
      have HXR := Lib.hid (range_of HN.out hin)
      replace x0 := hgw.cell x0 (by simp; omega)
      have b0 := hgw.cell a0 (by simp; omega); have b1 := hgw.cell a1 (by simp; omega); have b2 := hgw.cell a2 (by simp; omega); have m0 := hgw.cell l0 (by simp; omega); have m1 := hgw.cell l1 (by simp; omega)
      have RR := Lib.hid (ha.keep hBw)
      have HBW := Lib.hid hBw
      clear hx hin hgw hBw
      go_wp2_with fail
      refine (leapCells_any W H A n c xs a b x _ RR.out HG.out HL.out HXQ.out).mono ?_
      rintro e wv ⟨A3, n3, c3, rfl, hl3, hb⟩
      have hn3 : n3 ≤ 64 := by have := leapsL_len64 (W := W) (H := H) (xs := xs) (a := a) (b := b) (q := x) HN.out; have := hl3.len; omega
      have HL3 := Lib.hid hl3
      replace HM := Lib.hid (HM.out.keep hb)
      replace HR := Lib.hid (fun y hy => (HR.out y hy).keep hb)
      replace HGW := Lib.hid (grown_next HGW.out (grown_of_below hb (some mb)))
      have hsv := hb.size
      clear hl3 hb
      go_wp2_with (at_mapUpdate; refine wpList_updateK rfl (.tmp 16) (.tmp 17) (.tmp 21) rfl Tryz.underlying3 Tryz.underlying52 rfl HM.out (by omega) x (.slice A3 n3 c3) rfl rfl (wf_small ⟨HXR.out.1, by have := HXR.out.2; omega⟩) ?_; intro w2 hm2 hg2)
      have HM2 := Lib.hid hm2; have HG2 := Lib.hid hg2
      clear hm2 hg2
      go_wp2
      go_roundw
      case rel =>
        refine ⟨k + 1, _, by omega, by go_num, by rw [← take_key HX.out]; exact HM2.out, fun y hy => ?_, grown_next HGW.out HG2.out⟩
        rw [List.take_add_one, HX.out] at hy
        rcases List.mem_append.1 hy with hy | hy
        · have hne : y ≠ x := by
            have hp := cellsL_pairwise W H xs
            have hlen : k < (cellsL W H xs).length := by have := SL.out; omega
            rw [← List.take_append_drop k (cellsL W H xs), List.pairwise_append] at hp
            have hxd : x ∈ (cellsL W H xs).drop k := by
              rw [drop_cons_of HX.out]; exact List.mem_cons_self
            have := hp.2.2 y hy x hxd
            omega
          rw [if_neg hne]
          exact (HR.out y hy).other HG2.out
        · simp at hy
          subst hy
          rw [if_pos rfl]
          have hrow : RowAt _ w.heap.size mb (.slice A3 n3 c3) (leapsL W H xs a b y) := ⟨A3, n3, c3, rfl, HL3.out.rd, hn3, fun z hz => by
            rcases HL3.out.form with ⟨h, _⟩ | ⟨g, h, h2, h3, _⟩
            · rw [h] at hz; cases hz
            · rw [h] at hz; injection hz with hz; rw [← hz]; exact ⟨by show w.heap.size ≤ g; omega, h3, by show g ≠ mb; omega⟩⟩
          exact hrow.other HG2.out
      case measure => simp [intOf]; omega
    · have e2 : (cellsL W H xs).take k = cellsL W H xs := List.take_of_length_le (by have := SL.out; omega)
      have HBW := Lib.hid hBw
      have hk64 : k ≤ 64 := by omega
      have HRR := Lib.hid (show OnMapK wr w.heap.size mb (cellsL W H xs) (leapsL W H xs a b) from ⟨by omega, k, f, by omega, by have h := HM.out; rw [e2] at h; exact h, by rw [← e2]; exact HR.out⟩)
      clear e2 hBw hgw
      go_wp2
      go_ret
      exact ⟨mb, rfl, HRR.out, HBW.out⟩


end Go.Proofs.YtbpgkigoboobeaaGreat

namespace Go.Proofs.YtbpgkigoboobeaaGreat
open Go.RowKit

theorem zero_bool : ∀ w, (zeroValue 4).run Tryz.prog w = .ok (.bool false) w := fun _ => by kernel_rfl
def partG (adj : Int → List Int) (c : Int) : List Int := reachL (farL adj 144 c)
theorem partG_len (adj : Int → List Int) (c : Int) : (partG adj c).length ≤ 144 := by unfold partG reachL; exact selTo_len _ _
theorem partG_in {adj : Int → List Int} {c y : Int} (h : y ∈ partG adj c) : 0 ≤ y ∧ y ≤ 144 := by
  unfold partG reachL at h
  obtain ⟨i, hi, _, e⟩ := selTo_mem.1 h
  omega
theorem farG_bd {cells : List Int} {adj : Int → List Int} {c : Int} (hcl : ∀ x ∈ cells, 0 ≤ x ∧ x < 144) (hadj : ∀ x, ∀ y ∈ adj x, y ∈ cells) (hc : c ∈ cells) : (farL adj 144 c).length = 144 ∧ ∀ x ∈ farL adj 144 c, -1 ≤ x ∧ x ≤ 144 := by
  have h := bfs_ok (adj := adj) (N := 144) (start := c) (by have := hcl c hc; omega) (fun c _ x hx => by have := hcl x (hadj c x hx); omega) 144
  refine ⟨h.len, fun x hx => ?_⟩
  obtain ⟨i, hi, rfl⟩ := List.getElem_of_mem hx
  have := h.lo i _ (List.getElem?_eq_getElem hi)
  omega

set_option maxRecDepth 100000 in
set_option maxHeartbeats 4000000 in
theorem parts_any (cells : List Int) (adj : Int → List Int) (lo0 mo : Nat) (w : World) (hom : OnMapK w lo0 mo cells adj) (hc : cells.Pairwise (· < ·)) (hcl : ∀ x ∈ cells, 0 ≤ x ∧ x < 144) (hadj : ∀ x, ∀ y ∈ adj x, y ∈ cells) (hn : cells.length ≤ 144) :
    Calls Tryz.prog 28 #[.map (some mo)] w fun e w' => ∃ A' n' c' top, e = .returned (.slice A' n' c') ∧ PartsAt w' w.heap.size top A' n' c' (gAll (partG adj) cells) ∧ Below w.heap.size w w' := by
  have HOM := Lib.hid hom; have HN := Lib.hid hn; have HC := Lib.hid hc; have HCL := Lib.hid hcl; have HADJ := Lib.hid hadj
  clear hom hc hcl hadj hn
  obtain ⟨W2, hW2⟩ : ∃ W2, W2 = w.alloc (.map #[] 0) := ⟨_, rfl⟩
  have hsz : W2.heap.size = w.heap.size + 1 := by rw [hW2]; simp
  have B := Lib.hid (show Below w.heap.size w W2 by rw [hW2]; exact below_new (Below.refl _ _) _)
  have MP := Lib.hid (show MapI Tryz.prog 3 W2 w.heap.size 0 (.bool false) (fun _ => .bool false) by rw [hW2]; exact MapI.made _ _ _ _)
  have hmm := @run_makeMap Tryz.prog
  go_enter Tryz.func28, Tryz.ntmps28
  go_wp2_with fail
  rw [← hW2]
  obtain ⟨mb, hmb⟩ : ∃ mb, mb = w.heap.size := ⟨_, rfl⟩
  rw [← hmb] at MP ⊢
  have hmb2 : mb < W2.heap.size := by omega
  have HMB := Lib.hid hmb
  clear hW2 hmm hmb hsz
  refine (cells_any lo0 mo cells adj _ (HOM.out.keep B.out) HC.out).mono ?_
  rintro e ws ⟨A1, n1, c1, rfl, hst, hb⟩
  replace MP := Lib.hid (MP.out.keep hb)
  have hs1 := hb.size
  have hms : mb < ws.heap.size := lt_keep hmb2 hb
  replace B := Lib.hid (below_next B.out hb)
  have hBs := B.out.size
  have ST := Lib.hid hst.rd
  have SL := Lib.hid hst.len
  have n8 : n1 ≤ 144 := by have := hst.len; have := HN.out; omega
  have hA1 : Hid (∀ y, A1 = some y → y.block ≠ mb) := Lib.hid (fun y hy => by
    subst hy
    exact map_apart hst MP.out)
  have n9 := hst.rd.2.1
  clear hst hb hmb2
  go_wp2
  go_loopw [3, 14] (fun v i wr => ∃ (k n' c' top m : Nat) (A' : Option Addr) (f : Int → Value), k ≤ n1 ∧ i = .int .i64 k ∧ v = .slice A' n' c' ∧ PartsAt wr ws.heap.size top A' n' c' (gTo (partG adj) cells k) ∧ top ≤ wr.heap.size ∧ m ≤ 144 * k ∧ MapI Tryz.prog 3 wr mb m (.bool false) f ∧ (∀ x, f x = .bool (inParts (gTo (partG adj) cells k) x)) ∧ ws.grownBy wr (some mb)) (fun _ i _ => n1 - (intOf i).toNat)
  case atStart => exact ⟨0, 0, 0, 0, 0, none, _, by omega, rfl, rfl, PartsAt.none_ _ _ _, by omega, by omega, MP.out, fun x => rfl, grown_refl _ _⟩
  case round =>
    clear MP
    obtain ⟨k, n', c', top, m, A', f, hk, rfl, rfl, hpa, htop, hm, hmap, hf, hgw⟩ := hrel
    have hBw : Below w.heap.size w wr := B.out.trans (below_of_grown hgw hBs (fun g h => by injection h with h; have := HMB.out; omega))
    have hsw := hgw.size
    have hnp : n' ≤ 144 := by have := gTo_len (partG adj) cells k; have := hpa.len; omega
    have PA := Lib.hid hpa; have MA := Lib.hid hmap; have FF := Lib.hid hf
    by_cases hlt : k < n1
    · obtain ⟨bb, oo, x, rfl, hg1, hx, x0⟩ := ST.out.at_ hlt
      have hbm := hA1.out _ rfl
      simp only at hbm
      have hin := List.mem_of_getElem? hx
      have hxr := HCL.out _ hin
      obtain ⟨xn, rfl⟩ : ∃ xn : Nat, x = (xn : Int) := ⟨x.toNat, by omega⟩
      have hxn : xn < 144 := by omega
      have HX := Lib.hid hx; have HXI := Lib.hid hin
      replace x0 := hgw.cell x0 (by simp; omega)
      have HBW := Lib.hid hBw; have HGW := Lib.hid hgw
      have hlk := fun w' (h : MapI Tryz.prog 3 w' mb m (.bool false) f) => MapI.lookup (t := 86) (e := 4) h Tryz.underlying3 Tryz.underlying86 (zero_bool w') (wf_small (x := (xn : Int)) (by omega))
      have hl0 := hlk wr hmap
      rw [hf] at hl0
      clear hx hin hxr hgw hBw hpa hmap hf hlk
      cases hip : inParts (gTo (partG adj) cells k) (xn : Int) with
      | true =>
        rw [hip] at hl0
        have HIP := Lib.hid hip
        clear hip
        go_wp2
        go_roundw
        case rel =>
          have e := gTo_yes HX.out HIP.out
          exact ⟨k + 1, n', c', top, m, A', f, by omega, by go_num, rfl, by rw [e]; exact PA.out, htop, by omega, MA.out, by rw [e]; exact FF.out, HGW.out⟩
        case measure => simp [intOf]; omega
      | false =>
        rw [hip] at hl0
        have HIP := Lib.hid hip
        clear hip
        go_wp2_with fail
        clear hl0
        refine (distancesFrom_any lo0 mo cells adj xn _ (HOM.out.keep HBW.out).on (by omega) HXI.out HCL.out HADJ.out).mono ?_
        rintro e wu ⟨rfl, hb⟩
        obtain ⟨h64, hbd⟩ := farG_bd HCL.out HADJ.out HXI.out
        replace PA := Lib.hid (PA.out.keep hb); replace MA := Lib.hid (MA.out.keep hb)
        have htu := hb.size
        replace HGW := Lib.hid (grown_next HGW.out (grown_of_below hb (some mb)))
        clear hb
        go_wp2_with fail
        refine (reached_any _ h64 hbd _).mono ?_
        rintro e wv ⟨A9, n9', c9, rfl, own, hb⟩
        rw [show reachL (farL adj 144 (xn : Int)) = partG adj (xn : Int) from rfl] at own
        have hpn : Hid (∀ y, A9 = some y → top ≤ y.block ∧ y.block < wv.heap.size) := Lib.hid (fun y hy => by
          rcases own.form with ⟨h, _⟩ | ⟨g9, h, h2, h3, _⟩
          · rw [h] at hy; cases hy
          · rw [h] at hy; injection hy with hy; rw [← hy]; exact ⟨by show top ≤ g9; omega, h3⟩)
        replace PA := Lib.hid (PA.out.keep hb); replace MA := Lib.hid (MA.out.keep hb)
        have htv := hb.size
        replace HGW := Lib.hid (grown_next HGW.out (grown_of_below hb (some mb)))
        have OWN := Lib.hid (own.lower (show ws.heap.size ≤ wu.heap.size by omega))
        have PRD := Lib.hid own.rd
        have hp64 : n9' ≤ 144 := by have := partG_len adj (xn : Int); have := own.len; omega
        have hp9 := own.rd.2.1
        have hAm : Hid (∀ y, A9 = some y → y.block ≠ mb) := Lib.hid (fun y hy => by subst hy; exact map_apart own MA.out)
        have hbig : top ≤ wv.heap.size := by omega
        obtain ⟨p, hp⟩ : ∃ p, p = partG adj (xn : Int) := ⟨_, rfl⟩
        rw [← hp] at OWN PRD
        have HP := Lib.hid hp
        clear hb own hbd h64 hp x0
        go_wp2
        go_loopw [27] (fun i wr => ∃ (j m2 : Nat) (f2 : Int → Value), j ≤ n9' ∧ i = .int .i64 j ∧ m2 ≤ 144 * k + j ∧ MapI Tryz.prog 3 wr mb m2 (.bool false) f2 ∧ (∀ x, f2 x = .bool (inParts (gTo (partG adj) cells k) x || (p.take j).contains x)) ∧ wv.grownBy wr (some mb)) (fun i _ => n9' - (intOf i).toNat)
        case atStart => exact ⟨0, m, f, by omega, rfl, by omega, MA.out, fun x => by rw [FF.out x]; simp, grown_refl _ _⟩
        case round =>
          obtain ⟨j, m2, f2, hj, rfl, hm2, hmap, hf, hgx⟩ := hrel
          have hsx := hgx.size
          by_cases hjl : j < n9'
          · obtain ⟨b9, o9, y, rfl, hg9, hy, y0⟩ := PRD.out.at_ hjl
            have hbm9 := hAm.out _ rfl
            simp only at hbm9
            replace y0 := hgx.cell y0 (by simp; omega)
            have hyr : 0 ≤ y ∧ y ≤ 144 := partG_in (by have hm := List.mem_of_getElem? hy; rwa [HP.out] at hm)
            have HY := Lib.hid hy; have MB := Lib.hid hmap; have F2 := Lib.hid hf; have HGX := Lib.hid hgx
            have HYR := Lib.hid hyr
            clear hy hmap hf hgx hyr
            go_wp2_with (at_mapUpdate; refine wpList_update rfl (.tmp 31) (.tmp 32) (.const (.bool true)) rfl Tryz.underlying3 Tryz.underlying86 rfl MB.out (by omega) y (.bool true) rfl rfl (wf_small HYR.out) ?_; intro w5 hm5 hg5)
            have M5 := Lib.hid hm5; have G5 := Lib.hid (grown_next HGX.out hg5)
            clear hm5 hg5
            go_wp2
            go_roundw
            case rel => exact ⟨j + 1, m2 + 1, _, by omega, by go_num, by omega, M5.out, fun x => by
              show (if x = y then Value.bool true else f2 x) = _
              rw [take_contains HY.out, F2.out x]
              by_cases e : x = y
              · rw [if_pos e, if_pos e]; simp
              · rw [if_neg e, if_neg e], G5.out⟩
            case measure => simp [intOf]; omega
          · obtain rfl : j = n9' := by omega
            have PA8 := Lib.hid (PA.out.maps MA.out hgx)
            have OWN8 := Lib.hid (OWN.out.other hgx (fun y hy => by have := hAm.out y hy; simpa using this))
            have MB := Lib.hid hmap; have F2 := Lib.hid hf
            have HG8 := Lib.hid (grown_next HGW.out hgx)
            have hpt : p.take j = p := List.take_of_length_le (by have := OWN.out.len; omega)
            have HPT := Lib.hid hpt
            have hpn2 : Hid (∀ y, A9 = some y → top ≤ y.block) := Lib.hid (fun y hy => (hpn.out y hy).1)
            have htx : top ≤ wr.heap.size := by omega
            have hlo : ws.heap.size ≤ wr.heap.size := by omega
            clear hmap hf hgx hpt
            go_wp2_with (at_builtin; refine wpList_appS rfl (.tmp 34) (.tmp 36) rfl ws.heap.size top A' n' c' (gTo (partG adj) cells k) A9 j c9 p rfl PA8.out OWN8.out hpn2.out htx rfl (by omega) hlo ?_; intro A7 c7 w7 hpa7 hb7 kB kM kI)
            have PA7 := Lib.hid hpa7
            have M7 := Lib.hid (kM _ _ _ _ _ _ MB.out)
            have HG7 := Lib.hid (grown_below HG8.out hb7)
            have hs7 := hb7.size
            clear hpa7 hb7 kB kM kI
            go_wp2
            go_roundw
            case rel =>
              have e := gTo_no HX.out HIP.out
              rw [← HP.out] at e
              exact ⟨k + 1, n' + 1, c7, _, m2, A7, f2, by omega, by go_num, rfl, by rw [e]; exact PA7.out, hs7, by omega, M7.out, fun x => by rw [F2.out x, HPT.out, e, inParts_app], HG7.out⟩
            case measure => simp [intOf]; omega
    · obtain rfl : k = n1 := by omega
      have eP : gTo (partG adj) cells k = gAll (partG adj) cells := by rw [gTo, List.take_of_length_le (by have := SL.out; omega)]; rfl
      rw [eP] at PA
      have HBW := Lib.hid hBw
      clear hgw hBw hpa hmap hf MA FF
      go_wp2
      go_ret
      have hmb := HMB.out
      subst hmb
      exact ⟨_, _, _, _, rfl, PA.out.lower (by omega), HBW.out⟩

end Go.Proofs.YtbpgkigoboobeaaGreat

namespace Go.Proofs.YtbpgkigoboobeaaGreat
open Go.RowKit

theorem partG_same {W H a b c : Int} {xs : List Int} {N : Nat} (h : OnFacts W H xs a b N) (hp : hasB W H xs c = true) : partG (leapsL W H xs a b) c = partL W H xs a b c := by
  have key : ∀ i, decide (0 ≤ (distL W H xs a b c).getD i (-1)) = nearB (distL W H xs a b c) 64 i := fun i => by
    by_cases hi : i < (distL W H xs a b c).length
    · rw [part_bd h hp (List.getElem?_eq_getElem hi), List.getD_eq_getElem?_getD, List.getElem?_eq_getElem hi]; rfl
    · rw [nearB, List.getD_eq_getElem?_getD, List.getElem?_eq_none (by omega)]; rfl
  rw [partG, reachL, partL, show (W * H).toNat = N by have := h.wh; omega, far64 h hp]
  rw [selTo_congr 144 (g := nearB (distL W H xs a b c) 64) (fun i _ => by rw [getD_pad]; exact key i)]
  exact selTo_stop (fun i hi => by rw [nearB, List.getD_eq_getElem?_getD, List.getElem?_eq_none (by rw [dist_len h hp]; exact hi)]; rfl) (by have := h.n; omega)
theorem fold_parts {P Q : Int → List Int} : ∀ (l : List Int) (ps : List (List Int)), (∀ c ∈ l, P c = Q c) → l.foldl (partStep P) ps = l.foldl (partStep Q) ps
  | [], _, _ => rfl
  | c :: t, ps, h => by
    rw [List.foldl_cons, List.foldl_cons, fold_parts t _ (fun d hd => h d (List.mem_cons_of_mem _ hd)), show partStep P ps c = partStep Q ps c by rw [partStep, partStep, h c List.mem_cons_self]]
theorem partsL_same {W H a b : Int} {xs : List Int} {N : Nat} (h : OnFacts W H xs a b N) : gAll (partG (leapsL W H xs a b)) (cellsL W H xs) = partsL W H xs a b :=
  fold_parts _ [] (fun _ hc => partG_same h (cellsL_mem.1 hc))
theorem cellsL_few {W H a b : Int} {xs : List Int} {N : Nat} (h : OnFacts W H xs a b N) : (cellsL W H xs).length ≤ 64 := by
  have h1 := cellsTo_len (W := W) (H := H) (hs := xs) (W * H).toNat
  have := h.wh; have := h.n
  unfold cellsL; omega
theorem partsB_any (W H : Int) (xs : List Int) (a b : Int) (N lo0 mo : Nat) (w : World) (hF : OnFacts W H xs a b N) (hom : OnMapK w lo0 mo (cellsL W H xs) (leapsL W H xs a b)) :
    Calls Tryz.prog 28 #[.map (some mo)] w fun e w' => ∃ A' n' c' top, e = .returned (.slice A' n' c') ∧ PartsAt w' w.heap.size top A' n' c' (partsL W H xs a b) ∧ Below w.heap.size w w' := by
  have h := parts_any (cellsL W H xs) (leapsL W H xs a b) lo0 mo w hom (cellsL_pairwise W H xs) (cells_in hF) adj_in (by have := cellsL_few hF; omega)
  rw [partsL_same hF] at h
  exact h

end Go.Proofs.YtbpgkigoboobeaaGreat

namespace Go.Proofs.YtbpgkigoboobeaaGreat
open Go.RowKit Go.Shelf
attribute [local go_sem] Oper.semAt_some

def fTwo (W H : Int) (xs : List Int) (a b : Int) (x : Int) : Nat := ((twoL W H xs a b).getD x.toNat (-1)).toNat

theorem PartsAt.at_ {w : World} {lo top : Nat} {A : Option Addr} {n c k : Nat} {ps : List (List Int)} (h : PartsAt w lo top A n c ps) (hk : k < n) :
    ∃ g A9 n9 c9 p, A = some ⟨g, 0, none⟩ ∧ lo ≤ g ∧ g < w.heap.size ∧ ps[k]? = some p ∧ w.cell? ⟨g, k, none⟩ = some (.slice A9 n9 c9) ∧ OwnI 3 w lo A9 n9 c9 p := by
  obtain ⟨vs, h1, h2, h3, _, _⟩ := h
  obtain ⟨g, rfl, hg1, hg2⟩ := h1.some_ hk
  have hl := h1.len
  obtain ⟨v, hv⟩ : ∃ v, vs[k]? = some v := ⟨_, List.getElem?_eq_getElem (show k < vs.length by omega)⟩
  obtain ⟨p, hp⟩ : ∃ p, ps[k]? = some p := ⟨_, List.getElem?_eq_getElem (show k < ps.length by omega)⟩
  have hc := h1.cell (k := 1) (j := 0) (fun _ => rfl) hv rfl
  rw [Nat.mul_one, Nat.add_zero] at hc
  exact ⟨g, _, _, _, _, rfl, hg1, hg2, hp, hc, h3 k _ _ hv hp⟩

set_option maxRecDepth 100000 in
theorem dist_lay {w : World} {L : List Int} (hL : L.length = 144) {old : Array Value} (ho : old.size = 144) :
    (Instr.storeAt 83 (.pointer (some ⟨w.heap.size, 0, none⟩)) (.agg (L.map (Value.int .i64)).toArray)).run Tryz.prog (w.alloc (.cells old 83)) = .ok () (w.alloc (.cells (L.map (Value.int .i64)).toArray 83)) :=
  run_storeAt_new _ _ _ _ (by rw [infoDs]; simp [hL]) (by simp [hL, ho]) (all_oneCell_toArray (fun v hv => by obtain ⟨i, _, rfl⟩ := List.mem_map.1 hv; rfl))

set_option maxRecDepth 100000 in
set_option maxHeartbeats 4000000 in
theorem twoColours_any (W H : Int) (xs : List Int) (a b : Int) (N lo0 mo : Nat) (w : World) (hF : OnFacts W H xs a b N) (hom : OnMapK w lo0 mo (cellsL W H xs) (leapsL W H xs a b)) :
    Calls Tryz.prog 27 #[.map (some mo)] w fun e w' => e = .returned (.agg (words (paintF (fTwo W H xs a b) (partsL W H xs a b).flatten)).toArray) ∧ Below w.heap.size w w' := by
  obtain ⟨ps, hps⟩ : ∃ ps, ps = partsL W H xs a b := ⟨_, rfl⟩
  obtain ⟨f, hf⟩ : ∃ f, f = fTwo W H xs a b := ⟨_, rfl⟩
  rw [← hps, ← hf]
  have HFF := Lib.hid hf
  have HPS := Lib.hid hps
  clear hf
  have HF := Lib.hid hF
  have n64 := hF.n.2
  obtain ⟨W4, hW4⟩ : ∃ W4, W4 = (w.alloc (.cells nine0 57)).alloc (.cells nine0 57) := ⟨_, rfl⟩
  have hs4 : W4.heap.size = w.heap.size + 2 := by rw [hW4]; simp
  have hb4 : Below w.heap.size w W4 := by rw [hW4]; exact (below_new (Below.refl _ _) _).alloc (by simp) _
  have hr4 : W4.heap[w.heap.size]? = some (.cells nine0 57 (0, 0)) := by
    have h := World.alloc_heap_new w (.cells nine0 57)
    rw [hW4, Below.heap_alloc _ _ _ (by simp)]; exact h
  have hp4 : W4.heap[w.heap.size + 1]? = some (.cells nine0 57 (0, 0)) := by
    have h := World.alloc_heap_new (w.alloc (.cells nine0 57)) (.cells nine0 57)
    rw [hW4]; rw [World.size_alloc] at h; exact h
  have hpo := partsB_any W H xs a b N lo0 mo W4 hF (hom.keep hb4)
  rw [← hps] at hpo
  unfold nine0 at hW4
  go_enter Tryz.func27, Tryz.ntmps27
  go_wp2_with fail
  rw [← hW4]
  clear hW4
  refine hpo.mono ?_
  rintro e ws ⟨A', n', c', top, rfl, hpa, hb⟩
  have hp5 := (hb.block (w.heap.size + 1) (by omega)).trans hp4
  have hr5 := Lib.hid ((hb.block (w.heap.size) (by omega)).trans hr4)
  have hss := hb.size
  have HOM := Lib.hid hom
  have HB := Lib.hid (below_next hb4 hb)
  have PA := Lib.hid hpa
  obtain ⟨hTL, hTP⟩ := two_parts hF
  rw [← hps] at hTP
  have HTP := Lib.hid hTP
  have hn' : n' ≤ 64 := by
    have := hpa.len
    have h1 := partsTo_len W H xs a b (cellsL W H xs).length
    rw [partsTo, List.take_length] at h1
    have h2 := cellsTo_len (W := W) (H := H) (hs := xs) (W * H).toNat
    have h3 := hF.wh
    have h4 : (cellsL W H xs).length ≤ (W * H).toNat := h2
    have h5 : ps.length ≤ (cellsL W H xs).length := by rw [HPS.out]; exact h1
    omega
  have hpl := hpa.len
  have hmid : MidP ws (w.heap.size + 1) (paintF f (ps.take 0).flatten) ws := ⟨grown_refl _ _, by rw [List.take_zero, List.flatten_nil, paintF_nil, ← nine_words]; exact hp5⟩
  have HM := Lib.hid hmid
  clear hpa hb hb4 hpo hp4 hr4 hp5 hom hF hTP hmid hps
  go_wp2
  go_loopw [12] (fun i wr => ∃ k : Nat, k ≤ n' ∧ i = .int .i64 k ∧ MidP ws (w.heap.size + 1) (paintF f (ps.take k).flatten) wr) (fun i _ => n' - (intOf i).toNat)
  case atStart => exact ⟨0, Nat.zero_le _, rfl, HM.out⟩
  case round =>
    clear HM
    obtain ⟨k, hk, rfl, hmp⟩ := hrel
    have HMP := Lib.hid hmp
    have hsw := hmp.1.size
    by_cases hlt : k < n'
    · obtain ⟨g, A9, n9, c9, p, rfl, hg1, hg2, hp, hpc, hown⟩ := PA.out.at_ hlt
      obtain ⟨c0, hc0, hpe, hhd, hcol⟩ := HTP.out p (List.mem_of_getElem? hp)
      have hpn : 0 < n9 := by have := hown.len; cases p with | nil => simp at hhd | cons y t => simp at this; omega
      obtain ⟨g9, rfl, hg3, hg4⟩ := hown.some_ hpn
      have hx0 : p[0]? = some c0 := by rw [← hhd, List.head?_eq_getElem?]
      have x0 := hmp.1.cell hpc (by simp; omega)
      have y0 := hmp.1.cell (hown.cell hx0) (by simp; omega)
      have hcr := (hasB_iff.1 hc0).1
      rw [HF.out.wh] at hcr
      obtain ⟨s, rfl⟩ : ∃ s : Nat, c0 = (s : Int) := ⟨c0.toNat, by omega⟩
      have hwr := HB.out.grown hmp.1 HB.out.size (fun k e => by cases e; omega)
      have hD := distancesFrom_any lo0 mo (cellsL W H xs) (leapsL W H xs a b) s wr (HOM.out.keep hwr).on (by omega) (cellsL_mem.2 hc0) (cells_in HF.out) adj_in
      have hL := far_len64 HF.out hc0
      have HC0 := Lib.hid hc0
      have hfar := far64 HF.out hc0
      obtain ⟨L, hLL⟩ : ∃ L, L = farL (leapsL W H xs a b) 144 (s : Int) := ⟨_, rfl⟩
      rw [← hLL] at hD hL hfar
      have OWN := Lib.hid hown; have HP := Lib.hid hp; have HCOL := Lib.hid hcol; have HFAR := Lib.hid hfar; have HWR := Lib.hid hwr
      clear hmp hpc hown hcol hfar hp hwr hhd hc0 hLL hx0
      go_wp2_with fail
      refine hD.mono ?_
      rintro e wu ⟨rfl, hbu⟩
      have hgl := OWN.out.len
      have hp9 : n9 ≤ 64 := by
        rw [← hgl, hpe, partL]
        have := selTo_len (nearB (distL W H xs a b (s : Int)) 64) (W * H).toNat
        have := HF.out.wh
        omega
      have hsu := hbu.size
      have HMU := Lib.hid (midP_below (midP_below HMP.out hbu) ((Below.refl _ _).alloc (Nat.le_refl wu.heap.size) (.cells (L.map (Value.int .i64)).toArray 83)))
      have HDC := Lib.hid (cell_laid wu L 83)
      clear hbu x0 y0
      go_wp2_with (refine wpList_store64 L hL rfl _ _ rfl rfl rfl rfl _ _ rfl ?_)
      obtain ⟨wd, hwd⟩ : ∃ wd, wd = wu.heap.size := ⟨_, rfl⟩
      obtain ⟨W6, hW6⟩ : ∃ W6, W6 = wu.alloc (.cells (L.map (Value.int .i64)).toArray 83) := ⟨_, rfl⟩
      have hs6 : W6.heap.size = wd + 1 := by rw [hW6, hwd]; simp
      rw [← hW6] at HMU HDC ⊢
      rw [← hwd] at HDC hsu ⊢
      clear hW6 hwd
      go_wp2
      have hFn := Lib.hid (show (ps.take (k + 1)).flatten = (ps.take k).flatten ++ p by rw [List.take_add_one, HP.out]; simp)
      have HM0 := Lib.hid (show MidP ws (w.heap.size + 1) (paintF f ((ps.take k).flatten ++ p.take 0)) W6 by rw [List.take_zero, List.append_nil]; exact HMU.out)
      have hcells : Hid (∀ y ∈ (ps.take k).flatten ++ p, 0 ≤ y ∧ y < 64) := Lib.hid (fun y hy => by
        rcases List.mem_append.1 hy with hy | hy
        · obtain ⟨q, hq, hyq⟩ := List.mem_flatten.1 hy
          obtain ⟨_, _, _, _, h9⟩ := HTP.out q (List.mem_of_mem_take hq)
          have := (h9 y hyq).1; omega
        · have := (HCOL.out y hy).1; omega)
      obtain ⟨pre, hpre⟩ : ∃ pre, pre = (ps.take k).flatten := ⟨_, rfl⟩
      rw [← hpre] at HM0 hFn hcells
      have hs6w : ws.heap.size ≤ wd := by omega
      clear HMU hpre HMP hD
      go_loopw [23] (fun i wx => ∃ j : Nat, j ≤ n9 ∧ i = .int .i64 j ∧ MidP ws (w.heap.size + 1) (paintF f (pre ++ p.take j)) wx ∧ W6.grownBy wx (some (w.heap.size + 1))) (fun i _ => n9 - (intOf i).toNat)
      case atStart => exact ⟨0, by omega, rfl, HM0.out, grown_refl _ _⟩
      case round =>
        clear HM0
        obtain ⟨j, hj, rfl, hmj, hgj⟩ := hrel
        have gl := (Array.getElem?_eq_some_iff.1 hmj.2).1
        have hwx := HB.out.grown hmj.1 HB.out.size (fun k e => by cases e; omega)
        have HWX := Lib.hid hwx
        have HPR := Lib.hid hmj.2; have HG1 := Lib.hid hmj.1; have HGJ := Lib.hid hgj
        by_cases hjl : j < n9
        · obtain ⟨x, hx⟩ : ∃ x, p[j]? = some x := ⟨_, List.getElem?_eq_getElem (show j < p.length by omega)⟩
          have hxm := List.mem_of_getElem? hx
          obtain ⟨hxN, hxc, hxd, hxe⟩ := HCOL.out x hxm
          have z0 := hmj.1.cell (OWN.out.cell hx) (by simp; omega)
          obtain ⟨q, rfl⟩ : ∃ q : Nat, x = (q : Int) := ⟨x.toNat, by omega⟩
          rw [Int.toNat_natCast] at hxc hxd hxe
          obtain ⟨d, hd⟩ : ∃ d, d = (distL W H xs a b (s : Int)).getD q (-1) := ⟨_, rfl⟩
          have hLd : L.getD q 0 = d := by
            rw [HFAR.out, List.getD_eq_getElem?_getD, List.getElem?_append_left (by rw [dist_len HF.out HC0.out]; omega), hd, List.getD_eq_getElem?_getD, List.getElem?_eq_getElem (by rw [dist_len HF.out HC0.out]; omega)]; rfl
          have e0 := HDC.out q (by omega)
          rw [Nat.zero_add, hLd] at e0
          have d0 := hgj.cell e0 (by simp; omega)
          rw [← hd] at hxd hxe
          have hfq : f (q : Int) = ((twoL W H xs a b).getD q (-1)).toNat := by rw [HFF.out, fTwo, Int.toNat_natCast]
          have hf9 : f (q : Int) < 9 := by omega
          have hdm : Int.tmod d 2 = ((f (q : Int) : Nat) : Int) := by rw [Int.tmod_eq_emod_of_nonneg hxd, hxe, hfq]; omega
          have HW1 := Lib.hid (with_any (paintF f (pre ++ p.take j)) (paintF_len _ _) q (f (q : Int)) _ (by omega) hf9 (paintF_at hf9) (setBits_lt _ (fun i hi => by
            obtain ⟨y, hy, rfl⟩ := List.mem_map.1 hi
            have hy2 := (List.mem_filter.1 hy).1
            have := hcells.out y (by
              rcases List.mem_append.1 hy2 with h | h
              · exact List.mem_append_left _ h
              · exact List.mem_append_right _ (List.mem_of_mem_take h))
            omega)))
          have hnx : (paintF f (pre ++ p.take j)).set (f (q : Int)) (setBits (((pre ++ p.take j).filter fun z => f z == f (q : Int)).map Int.toNat) ||| 2 ^ q) = paintF f (pre ++ p.take (j + 1)) := by
            have h := paintF_snoc (f := f) (ys := pre ++ p.take j) (y := (q : Int))
            rw [Int.toNat_natCast] at h
            rw [h, List.take_add_one, hx, List.append_assoc]; rfl
          rw [hnx, ← hdm] at HW1
          obtain ⟨P, hP⟩ : ∃ P, P = paintF f (pre ++ p.take j) := ⟨_, rfl⟩
          obtain ⟨P1, hP1⟩ : ∃ P1, P1 = paintF f (pre ++ p.take (j + 1)) := ⟨_, rfl⟩
          have hPl : P.length = 9 := by rw [hP]; exact paintF_len _ _
          have hPl1 : P1.length = 9 := by rw [hP1]; exact paintF_len _ _
          rw [← hP] at HPR HW1
          rw [← hP1] at HW1
          have HP1 := Lib.hid hP1
          have hq0 : (0 : Int) ≤ (q : Int) := by omega
          have hq1 : (q : Int) < 144 := by omega
          have hq64 : q < 64 := by omega
          have hd65 : d ≤ 64 := by
            have := dist_lo HF.out HC0.out (i := q) (by omega)
            rw [← hd] at this; exact this.2
          clear hx hxm hnx hP hP1 hxN hxc hxe hd hLd e0 hfq hdm hmj hgj hwx
          have hPw : (words P).length = 9 := by simp [words, hPl]
          have hS9 : (words P1).length = 9 := by simp [words, hPl1]
          have hI8 : (Tryz.prog.info? 57).map (·.size) = some (words P1).length := by rw [info_painting, hS9]
          have HC9 := Lib.hid (show (words P).toArray.size = (words P1).length by rw [hS9]; simpa using hPw)
          have hO9 : ∀ v ∈ words P1, v.oneCell' = true := words_one _
          obtain ⟨y0, y1, y2, y3, y4, y5, y6, y7, y8, rfl⟩ := nine_of_len hPl
          obtain ⟨q0, q1, q2, q3, q4, q5, q6, q7, q8⟩ := nine_cells HPR.out
          go_wp2
          go_region_with (go_at_call 57; refine (HW1.out _).mono ?_; rintro e wv ⟨rfl, hb⟩; (try replace hb := below_undrew hb); replace HPR := Lib.hid ((hb.block (w.heap.size + 1) gl).trans HPR.out); replace HG1 := Lib.hid (grown_next HG1.out (grown_of_below hb _)); replace HGJ := Lib.hid (grown_next HGJ.out (grown_of_below hb _)); replace gl := lt_keep gl hb; clear hb; obtain ⟨q0, q1, q2, q3, q4, q5, q6, q7, q8⟩ := nine_cells HPR.out; have hst := store_row (P := Tryz.prog) (cs := words P1) HPR.out hI8 HC9.out hO9)
          all_goals go_wp2
          all_goals go_roundw
          all_goals (first | exact ⟨j + 1, by omega, by go_num, ⟨grown_next HG1.out (grown_setRow _ _ _), by rw [← HP1.out]; exact heap_setRow HPR.out⟩, grown_next HGJ.out (grown_setRow _ _ _)⟩ | (simp [intOf]; omega))
        · obtain rfl : j = n9 := by omega
          have eP : p.take j = p := List.take_of_length_le (by omega)
          rw [eP, ← hFn.out] at hmj
          have HMJ := Lib.hid hmj
          clear hmj hgj hwx HPR HG1 HGJ HWX
          go_wp2
          go_roundw
          case rel => exact ⟨k + 1, by omega, by go_num, HMJ.out⟩
          case measure => simp [intOf]; omega
    · obtain rfl : k = n' := by omega
      have eF : ps.take k = ps := List.take_of_length_le (by omega)
      rw [eF] at hmp
      have hrr := (hmp.1.block (w.heap.size) (by omega) (by simp)).trans hr5.out
      have hh5 := Lib.hid (heap_setRow (W := wr) (c' := (words (paintF f ps.flatten)).toArray) hrr)
      have hwr := HB.out.grown hmp.1 HB.out.size (fun k e => by cases e; omega)
      have hb5 := Lib.hid (hwr.grown (grown_setRow wr (w.heap.size) (words (paintF f ps.flatten)).toArray) hwr.size (fun k e => by cases e; omega))
      have hP9 := paintF_len f ps.flatten
      obtain ⟨P, hP⟩ : ∃ P, P = paintF f ps.flatten := ⟨_, rfl⟩
      rw [← hP] at hmp hh5 hb5 hP9
      have HPP := Lib.hid hP
      have HRG := Lib.hid (range_of_row hmp.2)
      have hw9 : (words P).length = 9 := by simp [words, hP9]
      have HTH := Lib.hid (show nine0.size = (words P).toArray.size by simp [hw9]; rfl)
      have HRR := Lib.hid hrr
      have HIN := Lib.hid (show (Tryz.prog.info? 57).map (·.size) = some (words P).length by rw [info_painting, hw9])
      have HIN2 := Lib.hid (show (Tryz.prog.info? 57).map (·.size) = some (words P).toArray.size by rw [info_painting]; simp [hw9])
      have HONE := Lib.hid (all_oneCell_toArray (words_one P))
      clear hmp hrr hwr hP
      go_wp2_with (first | (refine wpList_load_mid rfl 57 (.tmp 3) rfl (w.heap.size + 1) 0 rfl (words P) _ HRG.out Tryz.underlying57 rfl HIN.out ?_) | (refine wpList_store_rowTo rfl _ (.tmp 2) (.tmp 36) rfl rfl (w.heap.size) (words P).toArray rfl rfl 57 nine0 HRR.out HIN2.out HTH.out HONE.out ?_))
      exact bodyPost_ret (v := .agg (words P).toArray) (results_cell_row Tryz.results27 _ _ (w.heap.size) 57 (words P).toArray (0, 0) _ rfl hh5.out Tryz.underlying57 rfl HIN2.out) rfl ⟨by rw [HPP.out], hb5.out⟩
end Go.Proofs.YtbpgkigoboobeaaGreat

namespace Go.Proofs.YtbpgkigoboobeaaGreat
open Go.RowKit

/-- A row of slices, all of it in the blocks from lo to hi. -/
def OwnSS (w : World) (lo hi : Nat) (A : Option Addr) (n c : Nat) (ps : List (List Int)) : Prop := PartsAt w lo hi A n c ps ∧ ∀ a, A = some a → a.block < hi
theorem own_lo {w : World} {lo : Nat} {E : TypeId} {k : Nat} {a : Addr} {n c : Nat} {xs : List Value} (h : w.ownsRow lo E k (.slice (some a) n c) n xs) : lo ≤ a.block ∧ a.block < w.heap.size := by
  have := World.ownsRow.lt h a.block rfl; exact this
theorem OwnSS.of {w : World} {lo top : Nat} {A : Option Addr} {n c : Nat} {ps : List (List Int)} (h : PartsAt w lo top A n c ps) : OwnSS w lo w.heap.size A n c ps := by
  refine ⟨?_, h.lt⟩
  obtain ⟨vs, h1, h2, h3, h4, _⟩ := h
  refine ⟨vs, h1, h2, h3, h4, fun i v hv x hx => ?_⟩
  obtain ⟨p, hp⟩ : ∃ p, ps[i]? = some p := ⟨_, List.getElem?_eq_getElem (by have := (List.getElem?_eq_some_iff.1 hv).1; have := h1.len; omega)⟩
  have h5 := h3 i v p hv hp
  rw [hx] at h5
  exact (own_lo h5).2
theorem OwnSS.keep {w w' : World} {lo hi : Nat} {A : Option Addr} {n c : Nat} {ps : List (List Int)} (h : OwnSS w lo hi A n c ps) (hb : Below w.heap.size w w') : OwnSS w' lo hi A n c ps := ⟨h.1.keep hb, h.2⟩
theorem OwnSS.drew1 {w : World} {lo hi : Nat} {A : Option Addr} {n c : Nat} {ps : List (List Int)} (h : OwnSS w lo hi A n c ps) : OwnSS w.drew lo hi A n c ps := h
theorem OwnSS.len {w : World} {lo hi : Nat} {A : Option Addr} {n c : Nat} {ps : List (List Int)} (h : OwnSS w lo hi A n c ps) : ps.length = n := h.1.len
/-- Kept as long as no block from lo to hi is written. -/
theorem OwnSS.blocks {w w' : World} {lo hi : Nat} {A : Option Addr} {n c : Nat} {ps : List (List Int)} (h : OwnSS w lo hi A n c ps) (hk : ∀ i, i < w.heap.size → lo ≤ i → i < hi → w'.heap[i]? = w.heap[i]?) : OwnSS w' lo hi A n c ps := by
  obtain ⟨⟨vs, h1, h2, h3, h4, h5⟩, h6⟩ := h
  have key : ∀ {E : TypeId} {k : Nat} {v : Option Addr} {n c : Nat} {xs : List Value}, w.ownsRow lo E k (.slice v n c) n xs → (∀ x, v = some x → x.block < hi) → w'.ownsRow lo E k (.slice v n c) n xs := by
    intro E k v n c xs h hv
    refine ⟨h.1, ?_⟩
    rcases h.2 with hn | ⟨g, cap, cur, he, hlo, hg, r⟩
    · exact .inl hn
    · have hgv : g < hi := by
        injection he with he
        exact hv _ he
      exact .inr ⟨g, cap, cur, he, hlo, (hk g (Array.getElem?_eq_some_iff.1 hg).1 hlo hgv).trans hg, r⟩
  exact ⟨⟨vs, ⟨h1.1, key h1.2 h6⟩, h2, fun i v p hv hp => key (h3 i v p hv hp) (h5 i v hv), h4, h5⟩, h6⟩
theorem OwnSS.other {w w' : World} {lo hi : Nat} {A : Option Addr} {n c : Nat} {ps : List (List Int)} {row : Option Nat} (h : OwnSS w lo hi A n c ps) (hg : w.grownBy w' row) (hne : ∀ g, lo ≤ g → g < hi → some g ≠ row) : OwnSS w' lo hi A n c ps :=
  h.blocks (fun i hi1 h1 h2 => hg.block i hi1 (hne i h1 h2))
/-- Whatever was written lies in the blocks from lo to hi. -/
structure Within (lo hi : Nat) (w w' : World) : Prop where
  os : w'.os = w.os
  tape : w'.tape = w.tape
  output : w'.output = w.output
  size : w.heap.size ≤ w'.heap.size
  block : ∀ i, i < w.heap.size → (i < lo ∨ hi ≤ i) → w'.heap[i]? = w.heap[i]?
theorem cell_of_block {w w' : World} {b i : Nat} (h : w'.heap[b]? = w.heap[b]?) : w'.cell? ⟨b, i, none⟩ = w.cell? ⟨b, i, none⟩ := by
  unfold World.cell?
  simp only [h]
theorem cell_in {w w' : World} {lo hi b i : Nat} {v : Value} (h : w.cell? ⟨b, i, none⟩ = some v) (hg : Within lo hi w w') (hl : b < w.heap.size) (ho : b < lo ∨ hi ≤ b) : w'.cell? ⟨b, i, none⟩ = some v := (cell_of_block (hg.block b hl ho)).trans h
theorem OwnI.within {E : TypeId} {w w' : World} {lo0 lo hi : Nat} {A : Option Addr} {n c : Nat} {xs : List Int} (h : OwnI E w lo0 A n c xs) (hg : Within lo hi w w') (ho : ∀ a, A = some a → a.block < lo ∨ hi ≤ a.block) : OwnI E w' lo0 A n c xs := by
  refine ⟨h.1, ?_⟩
  rcases h.2 with hn | ⟨g, cap, cur, hv, hlo, hgg, r⟩
  · exact .inl hn
  · refine .inr ⟨g, cap, cur, hv, hlo, ?_, r⟩
    injection hv with h1
    exact (hg.block g (Array.getElem?_eq_some_iff.1 hgg).1 (ho _ h1)).trans hgg
theorem OwnSS.within {w w' : World} {lo0 hi0 lo hi : Nat} {A : Option Addr} {n c : Nat} {ps : List (List Int)} (h : OwnSS w lo0 hi0 A n c ps) (hg : Within lo hi w w') (ho : hi0 ≤ lo ∨ hi ≤ lo0) : OwnSS w' lo0 hi0 A n c ps :=
  h.blocks (fun i hi1 h1 h2 => hg.block i hi1 (by omega))
theorem below_within {a w w' : World} {lo hi : Nat} (h : Below a.heap.size a w) (hg : Within lo hi w w') (hl : a.heap.size ≤ lo) : Below a.heap.size a w' :=
  ⟨hg.os.trans h.os, hg.tape.trans h.tape, hg.output.trans h.output, Nat.le_trans h.size hg.size, fun i hi => (hg.block i (Nat.lt_of_lt_of_le hi h.size) (by omega)).trans (h.block i hi)⟩
theorem within_refl (lo hi : Nat) (w : World) : Within lo hi w w := ⟨rfl, rfl, rfl, Nat.le_refl _, fun _ _ _ => rfl⟩
theorem within_drew {lo hi : Nat} {w w' : World} (h : Within lo hi w w') : Within lo hi w w'.drew := ⟨h.os, h.tape, h.output, h.size, h.block⟩
theorem within_grown {lo hi : Nat} {a b c : World} {A : Option Addr} (h : Within lo hi a b) (hg : b.grownBy c (rowOf A)) (hA : ∀ x, A = some x → lo ≤ x.block ∧ x.block < hi) : Within lo hi a c :=
  ⟨hg.os.trans h.os, hg.tape.trans h.tape, hg.output.trans h.output, Nat.le_trans h.size hg.size, fun i hi1 ho => (hg.block i (Nat.lt_of_lt_of_le hi1 h.size) (by
    rcases A with _ | x
    · simp [rowOf]
    · have := hA x rfl
      simp [rowOf]; omega)).trans (h.block i hi1 ho)⟩
/-- Part i of the row: its slice, its list; and the row when it is written over. -/
theorem OwnSS.at_ {w : World} {lo hi : Nat} {A : Option Addr} {n c : Nat} {ps : List (List Int)} (h : OwnSS w lo hi A n c ps) {i : Nat} (hi1 : i < n) :
    ∃ g V m k p, A = some ⟨g, 0, none⟩ ∧ g < w.heap.size ∧ w.cell? ⟨g, i, none⟩ = some (.slice V m k) ∧ ps[i]? = some p ∧ OwnI 3 w lo V m k p ∧ (∀ x, V = some x → lo ≤ x.block ∧ x.block < hi) ∧
      ∀ w' p', OwnI 3 w' lo V m k p' → w.grownBy w' (rowOf V) → OwnSS w' lo hi A n c (ps.set i p') := by
  obtain ⟨⟨vs, h1, h2, h3, h4, h5⟩, h6⟩ := h
  obtain ⟨g, rfl, hg1, hg2⟩ := h1.some_ hi1
  have hvl := h1.len
  obtain ⟨⟨V, m, k⟩, hv⟩ : ∃ v, vs[i]? = some v := ⟨_, List.getElem?_eq_getElem (by omega)⟩
  have hp : ps[i]? = some ps[i] := List.getElem?_eq_getElem (by omega)
  have ho := h3 i _ _ hv hp
  have hc := OwnK.cell (enc := encS) (k := 1) (j := 0) (fun _ => rfl) h1 hv (show (encS (V, m, k))[0]? = some (.slice V m k) from rfl)
  rw [show i * 1 + 0 = i by omega] at hc
  have hb : ∀ x, V = some x → lo ≤ x.block ∧ x.block < hi := fun x hx => by
    refine ⟨?_, h5 i _ hv x hx⟩
    have ho' := ho
    rw [show (V, m, k).1 = some x from hx] at ho'
    exact (own_lo ho').1
  refine ⟨g, V, m, k, ps[i], rfl, hg2, hc, hp, ho, hb, fun w' p' hw hgr => ⟨⟨vs, h1.other hgr (fun a ha => ?_), by rw [List.length_set]; exact h2, fun j v q hv' hq => ?_, h4, h5⟩, h6⟩⟩
  · injection ha with ha
    subst ha
    rcases V with _ | x
    · simp [rowOf]
    · have := rows_apart (by decide : 3 ≠ 22) ho h1.2
      simp [rowOf]; exact fun h => this h.symm
  · rw [List.getElem?_set] at hq
    by_cases e : i = j
    · subst e
      rw [if_pos rfl, if_pos (by omega)] at hq
      injection hq with hq
      rw [hv] at hv'
      injection hv' with hv'
      rw [← hv', ← hq]
      exact hw
    · rw [if_neg e] at hq
      have h7 := h3 j v q hv' hq
      refine h7.other hgr (fun a ha => ?_)
      rcases V with _ | x
      · simp [rowOf]
      · have : a.block ≠ x.block := by
          rcases Nat.lt_or_gt_of_ne e with h8 | h8
          · have := h4 i j _ _ h8 hv hv' x a rfl ha; omega
          · have := h4 j i _ _ h8 hv' hv a x ha rfl; omega
        simpa [rowOf] using this

end Go.Proofs.YtbpgkigoboobeaaGreat

namespace Go.Proofs.YtbpgkigoboobeaaGreat
open Go.RowKit

set_option maxRecDepth 100000 in
set_option maxHeartbeats 2000000 in
theorem eqIntSS_any (lo hi lo2 hi2 : Nat) (A1 A2 : Option Addr) (n1 n2 cc1 cc2 : Nat) (ps : List (List Int)) (w : World) (h1 : OwnSS w lo hi A1 n1 cc1 ps) (h2 : OwnSS w lo2 hi2 A2 n2 cc2 ps) (hn : n1 ≤ 5000) :
    Calls Tryz.prog 11 #[.slice A1 n1 cc1, .slice A2 n2 cc2] w fun e w' => e = .returned (.bool true) ∧ Below w.heap.size w w' := by
  obtain rfl : n2 = n1 := by rw [← h1.len, ← h2.len]
  have H1 := Lib.hid h1; have H2 := Lib.hid h2
  clear h1 h2
  go_enter Tryz.func11, Tryz.ntmps11
  go_wp2
  go_loopw [5] (fun i wr => ∃ k : Nat, k ≤ n2 ∧ i = .int .i64 k ∧ Below w.heap.size w wr) (fun i _ => n2 - (intOf i).toNat)
  case atStart => exact ⟨0, by omega, rfl, Below.refl _ _⟩
  case round =>
    obtain ⟨k, hk, rfl, hbw⟩ := hrel
    by_cases hlt : k < n2
    · obtain ⟨g1, V1, m1, k1, p, rfl, hl1, c1, hp1, ho1, _, _⟩ := (H1.out.keep hbw).at_ hlt
      obtain ⟨g2, V2, m2, k2, p2, rfl, hl2, c2, hp2, ho2, _, _⟩ := (H2.out.keep hbw).at_ hlt
      obtain rfl : p2 = p := by rw [hp1] at hp2; injection hp2 with hp2; exact hp2.symm
      have R1 := Lib.hid ho1.rd; have R2 := Lib.hid ho2.rd
      have HB := Lib.hid hbw
      have k0 : (0 : Int) ≤ (k : Int) := by omega
      have k9 : (k : Int) < (n2 : Int) := by omega
      clear hp1 hp2 ho1 ho2 hbw
      go_wp2_with fail
      refine wp_region_held_drew (S := fun w' => w'.cell? ⟨g1, k, none⟩ = some (.slice V1 m1 k1) ∧ w'.cell? ⟨g2, k, none⟩ = some (.slice V2 m2 k2)) (by kernel_rfl) ?_ (fun hHeld => ?_)
      · (try dsimp only)
        exact ⟨c1, c2⟩
      refine wpAnyH_take (i := 0) (oi := ⟨_, _, _, _, _, _⟩) (v := ?_) rfl (by kernel_rfl) (by kernel_rfl) (by kernel_rfl) (fun _ _ _ h => h) (Or.inl ⟨by rfl, ?_⟩) (by assumption) ?_
      rotate_left
      · intro w hSw
        (try dsimp only at hSw)
        go_simp
        (try with_reducible rfl)
      (try simp only [Act.put, List.setIfInBounds_toArray, List.set_cons_zero, List.set_cons_succ])
      refine wpAnyH_take (i := 1) (oi := ⟨_, _, _, _, _, _⟩) (v := ?_) rfl (by kernel_rfl) (by kernel_rfl) (by kernel_rfl) (fun _ _ _ h => h) (Or.inl ⟨by rfl, ?_⟩) (by assumption) ?_
      rotate_left
      · intro w hSw
        (try dsimp only at hSw)
        go_simp
        (try with_reducible rfl)
      (try simp only [Act.put, List.setIfInBounds_toArray, List.set_cons_zero, List.set_cons_succ])
      refine wpAnyH_take (i := 2) (oi := ⟨_, _, _, _, _, _⟩) (v := ?_) rfl (by kernel_rfl) (by kernel_rfl) (by kernel_rfl) (fun _ _ _ h => h) (Or.inl ⟨by rfl, ?_⟩) (by assumption) ?_
      rotate_left
      · intro w hSw
        (try dsimp only at hSw)
        go_simp
        (try with_reducible rfl)
      (try simp only [Act.put, List.setIfInBounds_toArray, List.set_cons_zero, List.set_cons_succ])
      refine wpAnyH_take (i := 3) (oi := ⟨_, _, _, _, _, _⟩) (v := ?_) rfl (by kernel_rfl) (by kernel_rfl) (by kernel_rfl) (fun _ _ _ h => h) (Or.inl ⟨by rfl, ?_⟩) (by assumption) ?_
      rotate_left
      · intro w hSw
        (try dsimp only at hSw)
        go_simp
        (try with_reducible rfl)
      (try simp only [Act.put, List.setIfInBounds_toArray, List.set_cons_zero, List.set_cons_succ])
      refine wpAnyH_take (i := 4) (oi := ⟨_, _, _, _, _, _⟩) (v := ?_) rfl (by kernel_rfl) (by kernel_rfl) (by kernel_rfl) (fun _ _ _ h => h) (Or.inl ⟨by rfl, ?_⟩) (by assumption) ?_
      rotate_left
      · intro w hSw
        (try dsimp only at hSw)
        go_simp
        (try with_reducible rfl)
      (try simp only [Act.put, List.setIfInBounds_toArray, List.set_cons_zero, List.set_cons_succ])
      refine wpAnyH_take (i := 5) (oi := ⟨_, _, _, _, _, _⟩) (v := ?_) rfl (by kernel_rfl) (by kernel_rfl) (by kernel_rfl) (fun _ _ _ h => h) (Or.inl ⟨by rfl, ?_⟩) (by assumption) ?_
      rotate_left
      · intro w hSw
        (try dsimp only at hSw)
        go_simp
        (try with_reducible rfl)
      (try simp only [Act.put, List.setIfInBounds_toArray, List.set_cons_zero, List.set_cons_succ])
      refine wpAnyH_take (i := 6) (oi := ⟨_, _, _, _, _, _⟩) (v := ?_) rfl (by kernel_rfl) (by kernel_rfl) (by kernel_rfl) (fun _ _ _ h => h) (Or.inl ⟨by rfl, ?_⟩) (by assumption) ?_
      rotate_left
      · intro w hSw
        (try dsimp only at hSw)
        go_simp
        (try with_reducible rfl)
      (try simp only [Act.put, List.setIfInBounds_toArray, List.set_cons_zero, List.set_cons_succ])
      refine wpAnyH_take (i := 7) (oi := ⟨_, _, _, _, _, _⟩) (v := ?_) rfl (by kernel_rfl) (by kernel_rfl) (by kernel_rfl) (fun _ _ _ h => h) (Or.inl ⟨by rfl, ?_⟩) (by assumption) ?_
      rotate_left
      · intro w hSw
        (try dsimp only at hSw)
        go_simp
        (try with_reducible rfl)
      (try simp only [Act.put, List.setIfInBounds_toArray, List.set_cons_zero, List.set_cons_succ])
      refine wpAnyH_ready (rs := [8]) (by kernel_rfl) (by simp) ?_
      refine AllReadyH.cons (o := ⟨_, _, _, _, _, _⟩) rfl (fun K hK => ?_) AllReadyH.nil
      go_simp
      (go_at_call 31; refine (eqIntS_any V1 V2 m1 m2 k1 k2 p2 p2 _ ?_ ?_).mono ?_; (exact R1.out); (exact R2.out); simp only [decide_true]; rintro e wv ⟨rfl, hb⟩; (repeat (first | replace hb := below_undrew hb | replace hb := below_undrewN hb)); replace c1 := cell_keep c1 hl1 hb; replace c2 := cell_keep c2 hl2 hb; replace HB := Lib.hid (below_next HB.out hb); clear hb)
      (try go_wp2_with fail)
      refine hK.out _ _ ?_ (fun hHeld => ?_)
      · (try dsimp only)
        exact ⟨c1, c2⟩
      clear hK K
      (try simp only [Act.put, List.setIfInBounds_toArray, List.set_cons_zero, List.set_cons_succ])
      refine wpAnyH_take (i := 9) (oi := ⟨_, _, _, _, _, _⟩) (v := ?_) rfl (by kernel_rfl) (by kernel_rfl) (by kernel_rfl) (fun _ _ _ h => h) (Or.inl ⟨by rfl, ?_⟩) (by assumption) ?_
      rotate_left
      · intro w hSw
        (try dsimp only at hSw)
        go_simp
        (try with_reducible rfl)
      (try simp only [Act.put, List.setIfInBounds_toArray, List.set_cons_zero, List.set_cons_succ])
      refine wpAnyH_done (by kernel_rfl) ?_ _
      obtain ⟨wd, hwd⟩ : ∃ wd, wd = wv.drew := ⟨_, rfl⟩
      have HB2 := Lib.hid (show Below w.heap.size w wd by rw [hwd]; exact ⟨HB.out.os, HB.out.tape, HB.out.output, HB.out.size, HB.out.block⟩)
      (try rw [← hwd])
      clear hwd c1 c2
      go_wp2
      go_roundw
      case rel => first | exact ⟨k + 1, by omega, by go_num, HB2.out⟩ | exact ⟨k + 1, by omega, by go_num, HB.out⟩
      case measure => simp [intOf]; omega
    · obtain rfl : k = n2 := by omega
      go_wp2
      go_ret
      exact ⟨rfl, hbw⟩

/-- The lists behind i marks, and the next mark. -/
def markTo (ps : List (List Int)) (k0 : Int) : Nat → List (List Int) × Int
  | 0 => (ps, k0)
  | i + 1 => ((markTo ps k0 i).1.set i (marks (markTo ps k0 i).2 (ps.getD i []).length), (markTo ps k0 i).2 + (ps.getD i []).length)
theorem markTo_len (ps : List (List Int)) (k0 : Int) : ∀ i, (markTo ps k0 i).1.length = ps.length
  | 0 => rfl
  | i + 1 => by rw [markTo, List.length_set]; exact markTo_len ps k0 i
theorem markTo_later (ps : List (List Int)) (k0 : Int) : ∀ i j, i ≤ j → (markTo ps k0 i).1[j]? = ps[j]?
  | 0, _, _ => rfl
  | i + 1, j, h => by rw [markTo]; simp only; rw [List.getElem?_set_ne (by omega)]; exact markTo_later ps k0 i j (by omega)
theorem markTo_done (ps : List (List Int)) (k0 : Int) : ∀ i j, j < i → j < ps.length → (markTo ps k0 i).1[j]? = some (marks (markTo ps k0 j).2 (ps.getD j []).length)
  | 0, _, h, _ => absurd h (by omega)
  | i + 1, j, h, hj => by
    rw [markTo]
    simp only
    by_cases e : i = j
    · subst e; rw [List.getElem?_set, if_pos rfl, if_pos (by rw [markTo_len]; exact hj)]
    · rw [List.getElem?_set_ne e]; exact markTo_done ps k0 i j (by omega) hj
theorem markTo_bd {ps : List (List Int)} {k0 : Int} (hs : ∀ p ∈ ps, p.length ≤ 64) : ∀ i : Nat, k0 ≤ (markTo ps k0 i).2 ∧ (markTo ps k0 i).2 ≤ k0 + 64 * (i : Int)
  | 0 => by simp [markTo]
  | i + 1 => by
    have ih := markTo_bd (k0 := k0) hs i
    rw [markTo]
    simp only
    have hl : (ps.getD i []).length ≤ 64 := by
      rw [List.getD_eq_getElem?_getD]
      cases h : ps[i]? with
      | none => simp
      | some p => exact hs p (List.mem_of_getElem? h)
    push_cast
    omega
theorem getD_of {ps : List (List Int)} {i : Nat} {p : List Int} (h : ps[i]? = some p) : ps.getD i [] = p := by rw [List.getD_eq_getElem?_getD, h]; rfl

set_option maxRecDepth 100000 in
set_option maxHeartbeats 2000000 in
theorem markIntSS_any (lo hi : Nat) (A : Option Addr) (n c : Nat) (ps : List (List Int)) (k0 : Int) (w : World) (h : OwnSS w lo hi A n c ps) (hs : ∀ p ∈ ps, p.length ≤ 64) (hn : n ≤ 5000) (h0 : 0 ≤ k0 ∧ k0 ≤ 1000) :
    Calls Tryz.prog 14 #[.slice A n c, .int .i64 k0] w fun e w' => e = .returned (.int .i64 (markTo ps k0 n).2) ∧ OwnSS w' lo hi A n c (markTo ps k0 n).1 ∧ Within lo hi w w' := by
  have H := Lib.hid h; have HS := Lib.hid hs; have HLEN := Lib.hid h.len
  clear h hs
  go_enter Tryz.func14, Tryz.ntmps14
  go_wp2
  go_loopw [1, 5] (fun v i wr => ∃ k : Nat, k ≤ n ∧ i = .int .i64 k ∧ v = .int .i64 (markTo ps k0 k).2 ∧ OwnSS wr lo hi A n c (markTo ps k0 k).1 ∧ Within lo hi w wr) (fun _ i _ => n - (intOf i).toNat)
  case atStart => exact ⟨0, by omega, rfl, rfl, H.out, within_refl _ _ _⟩
  case round =>
    obtain ⟨k, hk, rfl, rfl, how, hwi⟩ := hrel
    have hbd := markTo_bd (k0 := k0) HS.out k
    have HW := Lib.hid hwi
    by_cases hlt : k < n
    · obtain ⟨g1, V, m, kk, p, rfl, hl1, c1, hp1, ho1, hv1, hup⟩ := how.at_ hlt
      have hpk : ps[k]? = some p := by rw [markTo_later ps k0 k k (Nat.le_refl _)] at hp1; exact hp1
      have hm : p.length = m := ho1.len
      have hm64 : m ≤ 64 := by rw [← hm]; exact HS.out p (List.mem_of_getElem? hpk)
      have e1 : markTo ps k0 (k + 1) = ((markTo ps k0 k).1.set k (marks (markTo ps k0 k).2 m), (markTo ps k0 k).2 + m) := by rw [markTo, getD_of hpk, hm]
      have E1 := Lib.hid e1; have HU := Lib.hid hup; have HV := Lib.hid hv1; have HO := Lib.hid ho1
      obtain ⟨mk, hmk⟩ : ∃ mk, mk = (markTo ps k0 k).2 := ⟨_, rfl⟩
      have HMK := Lib.hid hmk
      rw [← hmk] at hbd ⊢
      have k00 : (0 : Int) ≤ (k : Int) := by omega
      have k99 : (k : Int) < (n : Int) := by omega
      clear how hp1 ho1 hv1 hup hpk hm e1 hmk hwi
      go_wp2_with fail
      refine (markIntS_any V m kk lo mk p _ HO.out (by omega) (by omega)).mono ?_
      rintro e wv ⟨rfl, HO', hg⟩
      have HO2 := Lib.hid (HU.out _ _ HO' hg)
      have HW2 := Lib.hid (within_grown HW.out hg HV.out)
      clear HO' hg c1
      go_wp2
      go_roundw
      case rel => exact ⟨k + 1, by omega, by go_num, by rw [E1.out, HMK.out], by rw [E1.out, ← HMK.out]; exact HO2.out, HW2.out⟩
      case measure => simp [intOf]; omega
    · obtain rfl : k = n := by omega
      go_wp2
      go_ret
      exact ⟨rfl, how, HW.out⟩

set_option maxRecDepth 100000 in
set_option maxHeartbeats 2000000 in
theorem heldIntSS_any (lo hi : Nat) (A : Option Addr) (n c : Nat) (ps : List (List Int)) (k0 : Int) (w : World) (h : OwnSS w lo hi A n c (markTo ps k0 n).1) (hs : ∀ p ∈ ps, p.length ≤ 64) (hn : n ≤ 5000) (hpn : ps.length = n) (h0 : 0 ≤ k0 ∧ k0 ≤ 1000) :
    Calls Tryz.prog 15 #[.slice A n c, .int .i64 k0] w fun e w' => e = .returned (.int .i64 (markTo ps k0 n).2) ∧ Below w.heap.size w w' := by
  have H := Lib.hid h; have HS := Lib.hid hs; have HPN := Lib.hid hpn
  clear h hs hpn
  go_enter Tryz.func15, Tryz.ntmps15
  go_wp2
  go_loopw [1, 5] (fun v i wr => ∃ k : Nat, k ≤ n ∧ i = .int .i64 k ∧ v = .int .i64 (markTo ps k0 k).2 ∧ Below w.heap.size w wr) (fun _ i _ => n - (intOf i).toNat)
  case atStart => exact ⟨0, by omega, rfl, rfl, Below.refl _ _⟩
  case round =>
    obtain ⟨k, hk, rfl, rfl, hbw⟩ := hrel
    have hbd := markTo_bd (k0 := k0) HS.out k
    have HB := Lib.hid hbw
    by_cases hlt : k < n
    · obtain ⟨g1, V, m, kk, p, rfl, hl1, c1, hp1, ho1, _, _⟩ := (H.out.keep hbw).at_ hlt
      rw [markTo_done ps k0 n k hlt (by rw [HPN.out]; exact hlt)] at hp1
      injection hp1 with hp1
      have hm : (ps.getD k []).length = m := by rw [← ho1.len, ← hp1, marks_length]
      rw [hm] at hp1
      rw [← hp1] at ho1
      have hm64 : m ≤ 64 := by
        rw [← hm, List.getD_eq_getElem?_getD]
        cases h9 : ps[k]? with
        | none => simp
        | some p => exact HS.out p (List.mem_of_getElem? h9)
      have e1 : (markTo ps k0 (k + 1)).2 = (markTo ps k0 k).2 + m := by rw [markTo]; simp only; rw [hm]
      have E1 := Lib.hid e1; have HO := Lib.hid ho1.rd
      obtain ⟨mk, hmk⟩ : ∃ mk, mk = (markTo ps k0 k).2 := ⟨_, rfl⟩
      have HMK := Lib.hid hmk
      rw [← hmk] at hbd HO ⊢
      have k00 : (0 : Int) ≤ (k : Int) := by omega
      have k99 : (k : Int) < (n : Int) := by omega
      clear hp1 ho1 hm e1 hmk hbw
      go_wp2_with fail
      refine (heldIntS_any V m kk mk _ HO.out (by omega) (by omega)).mono ?_
      rintro e wv ⟨rfl, hb⟩
      replace HB := Lib.hid (below_next HB.out hb)
      have hnn : decide (mk + (m : Int) < 0) = false := by simp; omega
      clear hb c1
      go_wp2
      go_roundw
      case rel => exact ⟨k + 1, by omega, by go_num, by rw [E1.out, HMK.out], HB.out⟩
      case measure => simp [intOf]; omega
    · obtain rfl : k = n := by omega
      go_wp2
      go_ret
      exact ⟨rfl, HB.out⟩

end Go.Proofs.YtbpgkigoboobeaaGreat

namespace Go.Proofs.YtbpgkigoboobeaaGreat
open Go.RowKit

def cntT (f : Int → Nat) (p : List Int) (c : Nat) : Int := ((p.filter fun x => f x == c).length : Int)
def rowT (f : Int → Nat) (p : List Int) : List Int := [cntT f p 0, cntT f p 1]
def sidesV (W H : Int) (xs : List Int) (a b : Int) : List (List Int) := if okTwo W H xs a b = true then (partsL W H xs a b).map (rowT (fTwo W H xs a b)) else []
theorem wpList_appT {ops : Array Oper} {rest : List Oper} {o : Oper} {a : Act} {Q : Exit → Act → World → Prop} {w : World} (gx : Nat) (hgx : gx = w.heap.size) (hgd : o.guard = none) (s x : Operand)
    (ho : o.op = .call { callee := .builtin .append, args := #[s, x], argTypes := #[28, 28] }) (lo top : Nat) (A : Option Addr) (n c : Nat) (ps : List (List Int)) (A3 : Option Addr) (n3 c3 : Nat) (p : List Int)
    (hs : a.eval s = .slice A n c) (hown : PartsAt w lo top A n c ps) (hp : OwnI 3 w lo A3 n3 c3 p) (hpn : ∀ y, A3 = some y → top ≤ y.block) (htop : top ≤ w.heap.size)
    (hx : a.eval x = .slice (some ⟨gx, 0, none⟩) 1 1) (hn : n ≤ 100000) (hlo : lo ≤ w.heap.size)
    (h : ∀ A' c' w', PartsAt w' lo w.heap.size A' (n + 1) c' (ps ++ [p]) → Below lo w w' → wpList Tryz.prog ops Q rest (a.put o.dst (.slice A' (n + 1) c')) w') :
    wpList Tryz.prog ops Q (o :: rest) a (w.alloc (.cells #[.slice A3 n3 c3] 22)) := by
  subst hgx
  exact wpList_appS hgd s x ho lo top A n c ps A3 n3 c3 p hs hown hp hpn htop hx hn hlo (fun A' c' w' h1 h2 _ _ _ => h A' c' w' h1 h2)
theorem own_twoT (w : World) (x y : Int) (lo : Nat) (h : lo ≤ w.heap.size) : OwnI 3 (w.alloc (.cells #[.int .i64 x, .int .i64 y] 3)) lo (some ⟨w.heap.size, 0, none⟩) 2 2 [x, y] :=
  World.ownsRow_lit (base := lo) (e := 3) w (#[.int .i64 x, .int .i64 y] : Array Value) 2 (size := 1) h (by decide) rfl

theorem cntT_snoc (f : Int → Nat) (p : List Int) (x : Int) (c : Nat) : cntT f (p ++ [x]) c = cntT f p c + if f x = c then 1 else 0 := by
  unfold cntT
  rw [List.filter_append]
  by_cases h : f x = c
  · simp [h]
  · simp [h]
theorem cntT_le (f : Int → Nat) (p : List Int) (c : Nat) : 0 ≤ cntT f p c ∧ cntT f p c ≤ p.length := by
  unfold cntT
  have := List.length_filter_le (fun x => f x == c) p
  omega

set_option maxRecDepth 100000 in
set_option maxHeartbeats 4000000 in
theorem spec_SidesOfParts (W H : Int) (A : Option Addr) (n c : Nat) (xs : List Int) (a b : Int) (w : World) (ha : Rd w A n xs) :
    Calls Tryz.prog 7 #[brd W H A n c, lpr a b] w fun e w' => ∃ A' n' c', e = .returned (.tuple #[.slice A' n' c', .bool (okTwo W H xs a b)]) ∧ OwnSS w' w.heap.size w'.heap.size A' n' c' (sidesV W H xs a b) ∧ Below w.heap.size w w' := by
  by_cases ht : (goodB W H xs && leaperB a b) = true
  · have hok : okTwo W H xs a b = true := by rw [okTwo, two_l ht, two_g ht]; rfl
    have FO := on_facts hok
    obtain ⟨N, hN⟩ : ∃ N, N = (W * H).toNat := ⟨_, rfl⟩
    rw [← hN] at FO
    have HF := Lib.hid FO
    have HOK := Lib.hid hok
    have n64 := FO.n.2
    clear FO hN
    go_enter Tryz.func7, Tryz.ntmps7
    go_wp2_with fail
    refine (boTwo_any _ _ _ _ _ _ _ _ _ ((ha.alloc _).alloc _)).mono ?_
    rw [ht]
    rintro e wv ⟨rfl, hb⟩
    have hbx0 := below_box hb
    have a0 : wv.cell? ⟨w.heap.size, 0, none⟩ = some (.int .i64 W) := by simpa using newbox hbx0 0
    have a1 : wv.cell? ⟨w.heap.size, 1, none⟩ = some (.int .i64 H) := by simpa using newbox hbx0 1
    have a2 : wv.cell? ⟨w.heap.size, 2, none⟩ = some (.slice A n c) := by simpa using newbox hbx0 2
    have al : w.heap.size < wv.heap.size := by simpa using newbox_lt hbx0
    have l0 : wv.cell? ⟨w.heap.size + 1, 0, none⟩ = some (.int .i64 a) := by simpa using newbox hb 0
    have l1 : wv.cell? ⟨w.heap.size + 1, 1, none⟩ = some (.int .i64 b) := by simpa using newbox hb 1
    have ll : w.heap.size + 1 < wv.heap.size := by simpa using newbox_lt hb
    have B := Lib.hid (below_box hbx0)
    clear hb hbx0
    have n64 := HF.out.n.2
    go_wp2_with fail
    refine (paTwo_any W H A n c xs a b N _ (ha.keep B.out) HF.out).mono ?_
    rintro e w1 ⟨gc, rfl, hown, hb⟩
    replace a0 := cell_keep a0 al hb; replace a1 := cell_keep a1 al hb; replace a2 := cell_keep a2 al hb; replace l0 := cell_keep l0 ll hb; replace l1 := cell_keep l1 ll hb; replace al := lt_keep al hb; replace ll := lt_keep ll hb
    replace B := Lib.hid (below_next B.out hb)
    have OC := Lib.hid hown
    clear hb hown
    go_wp2_with fail
    refine (faParts_any W H A n c xs a b N _ (ha.keep B.out) HF.out).mono ?_
    rintro e wx ⟨A', n', c', top, rfl, pa, hb⟩
    replace OC := Lib.hid (OC.out.keep hb)
    replace B := Lib.hid (below_next B.out hb)
    have PA := Lib.hid pa
    obtain ⟨hTL, hTP⟩ := two_parts HF.out
    have HTL := Lib.hid hTL; have HTP := Lib.hid hTP
    have hpl := pa.len
    have hpn : n' ≤ 64 := by
      have h1 := partsTo_len W H xs a b (cellsL W H xs).length
      rw [partsTo, List.take_length] at h1
      have h2 := cellsTo_len (W := W) (H := H) (hs := xs) (W * H).toNat
      have h3 := HF.out.wh
      have h4 : (cellsL W H xs).length ≤ (W * H).toNat := h2
      have h5 : (partsL W H xs a b).length ≤ (cellsL W H xs).length := h1
      omega
    have ANS := Lib.hid (show sidesV W H xs a b = (partsL W H xs a b).map (rowT (fTwo W H xs a b)) by rw [sidesV, if_pos HOK.out])
    have HFF := Lib.hid (show ∀ q : Nat, fTwo W H xs a b (q : Int) = ((twoL W H xs a b).getD q (-1)).toNat from fun q => by rw [fTwo, Int.toNat_natCast])
    obtain ⟨f, hf⟩ : ∃ f, f = fTwo W H xs a b := ⟨_, rfl⟩
    obtain ⟨ps, hps⟩ : ∃ ps, ps = partsL W H xs a b := ⟨_, rfl⟩
    rw [← hf] at ANS HFF
    rw [← hps] at ANS PA HTP hpl
    have HPS := Lib.hid hps
    clear pa hb hTL hTP hf hps a0 a1 a2 l0 l1 al ll
    have hBs := B.out.size
    obtain ⟨i0, hi, hz0, hz1, hz2⟩ := info_parts infoI
    have HI := Lib.hid hi; have HZ0 := Lib.hid hz0; have HZ1 := Lib.hid hz1; have HZ2 := Lib.hid hz2
    clear hi hz0 hz1 hz2
    have hcb : Hid (gc < wx.heap.size) := Lib.hid (by obtain ⟨g9, h1, _, h2⟩ := OC.out.some_ (k := 0) (by have := HF.out.n; omega); injection h1 with h1; injection h1 with h1; omega)
    go_wp2
    go_loopw [8, 28] (fun v i wr => ∃ (k n2 c2 top2 : Nat) (A2 : Option Addr), k ≤ n' ∧ i = .int .i64 k ∧ v = .slice A2 n2 c2 ∧ PartsAt wr wx.heap.size top2 A2 n2 c2 ((ps.take k).map (rowT f)) ∧ top2 ≤ wr.heap.size ∧ Below wx.heap.size wx wr) (fun _ i _ => n' - (intOf i).toNat)
    case atStart => exact ⟨0, 0, 0, 0, none, by omega, rfl, rfl, PartsAt.none_ _ _ _, by omega, Below.refl _ _⟩
    case round =>
      obtain ⟨k, n2, c2, top2, A2, hk, rfl, rfl, hpo, htop, hbw⟩ := hrel
      have hsw := hbw.size
      obtain rfl : k = n2 := by have := hpo.len; rw [List.length_map, List.length_take] at this; omega
      have PO := Lib.hid hpo; have HBW := Lib.hid hbw
      clear hpo
      by_cases hlt : k < n'
      · obtain ⟨g, A9, n9, c9, p, rfl, hg1, hg2, hp, hpc, hown⟩ := PA.out.at_ hlt
        obtain ⟨c0, hc0, hpe, hhd, hcol⟩ := HTP.out p (List.mem_of_getElem? hp)
        have hpn2 : 0 < n9 := by have := hown.len; cases p with | nil => simp at hhd | cons y t => simp at this; omega
        obtain ⟨g9, rfl, hg3, hg4⟩ := hown.some_ hpn2
        have x0 := cell_keep hpc hg2 hbw
        have hp9 : n9 ≤ 64 := by
          rw [← hown.len, hpe, partL]
          have := selTo_len (nearB (distL W H xs a b c0) 64) (W * H).toNat
          have := HF.out.wh
          omega
        have hgl := hown.len
        have OWN := Lib.hid (hown.keep hbw); have HP := Lib.hid hp; have HCOL := Lib.hid hcol
        have OCW := Lib.hid (OC.out.keep hbw)
        clear hp hpc hown hcol hbw hpe hhd hc0
        go_wp2_with (at_make; refine wpList_make_full _ rfl _ _ 22 rfl wr.heap.size 3 i0 (.int .i64 0) 1 Tryz.underlying22 HI.out HZ0.out HZ1.out .i64 .i64 _ _ 2 rfl rfl rfl rfl (by rw [HZ2.out]; omega) (by unfold maxLen; omega) (by simp) ?_; intro w1 hown1 hg1)
        obtain ⟨rb, hrb⟩ : ∃ rb, rb = wr.heap.size := ⟨_, rfl⟩
        have hO1 : OwnI 3 w1 rb (some ⟨rb, 0, none⟩) 2 2 (rowT f (p.take 0)) := by
          have e : (madeCells (Value.cells (.int .i64 0)) 2).toList = List.replicate 2 (.int .i64 0) := toList_madeCells_one (.int .i64 0) 2
          rw [show 2 * 1 = 2 from rfl, e] at hown1
          rw [hrb]
          unfold OwnI
          simpa [rowT, cntT] using hown1
        have hb1 : Below wr.heap.size wr w1 := below_of_grown hg1 (Nat.le_refl _) (by simp)
        have x1 := cell_keep x0 (by omega) hb1
        have hs1 := hb1.size
        replace OWN := Lib.hid (OWN.out.keep hb1)
        replace OCW := Lib.hid (OCW.out.keep hb1)
        have hcb2 := hcb.out
        have HB1 := Lib.hid hb1
        have O1 := Lib.hid hO1
        rw [← hrb] at htop hsw hs1 ⊢
        have HRB := Lib.hid hrb
        have hgr : g < rb := by omega
        have hg9r : g9 < rb := by omega
        have hgcr : gc < rb := by omega
        clear hown1 hg1 hO1 hb1 hrb x0
        go_loopw [35] (fun i wy => ∃ j : Nat, j ≤ n9 ∧ i = .int .i64 j ∧ OwnI 3 wy rb (some ⟨rb, 0, none⟩) 2 2 (rowT f (p.take j)) ∧ w1.grownBy wy (some rb)) (fun i _ => n9 - (intOf i).toNat)
        case atStart => exact ⟨0, by omega, rfl, O1.out, grown_refl _ _⟩
        case round =>
          clear O1
          obtain ⟨j, hj, rfl, hrow, hgy⟩ := hrel
          by_cases hjl : j < n9
          · obtain ⟨x, hx⟩ : ∃ x, p[j]? = some x := ⟨_, List.getElem?_eq_getElem (show j < p.length by omega)⟩
            obtain ⟨hxN, hxc, -, -⟩ := HCOL.out x (List.mem_of_getElem? hx)
            obtain ⟨q, rfl⟩ : ∃ q : Nat, x = (q : Int) := ⟨x.toNat, by omega⟩
            rw [Int.toNat_natCast] at hxc
            have z0 := hgy.cell (OWN.out.cell hx) (by simp; omega)
            obtain ⟨v, hv⟩ : ∃ v, (twoL W H xs a b)[q]? = some v := ⟨_, List.getElem?_eq_getElem (by rw [HTL.out]; omega)⟩
            have hvd : (twoL W H xs a b).getD q (-1) = v := by rw [List.getD_eq_getElem?_getD, hv]; rfl
            have v0 := hgy.cell (OCW.out.cell hv) (by simp; omega)
            have hfq := HFF.out q
            rw [hvd] at hxc hfq
            have hq0 : (0 : Int) ≤ (q : Int) := by omega
            have hq1 : (q : Int) < (N : Int) := by omega
            have hpj : p.take (j + 1) = p.take j ++ [(q : Int)] := by rw [List.take_add_one, hx]; rfl
            have hl0 := cntT_le f (p.take j) 0
            have hl1 := cntT_le f (p.take j) 1
            have hlj : (p.take j).length ≤ 64 := by rw [List.length_take]; omega
            have f0 := hrow.frozen 0
            have f1 := hrow.frozen 1
            have r0 := hrow.cell (k := 0) (x := cntT f (p.take j) 0) rfl
            have r1 := hrow.cell (k := 1) (x := cntT f (p.take j) 1) rfl
            have hn0 : rowT f (p.take (j + 1)) = [cntT f (p.take j) 0 + (if f (q : Int) = 0 then 1 else 0), cntT f (p.take j) 1 + (if f (q : Int) = 1 then 1 else 0)] := by
              rw [hpj, rowT, cntT_snoc, cntT_snoc]
            rcases hxc with rfl | rfl
            · have hfq0 : f (q : Int) = 0 := by rw [hfq]; rfl
              obtain ⟨o1, g1⟩ := hrow.stored 0 (cntT f (p.take j) 0 + 1)
              have e1 : (rowT f (p.take j)).set 0 (cntT f (p.take j) 0 + 1) = rowT f (p.take (j + 1)) := by rw [hn0, hfq0]; simp [rowT]
              rw [e1] at o1
              have O2 := Lib.hid o1; have G2 := Lib.hid (grown_next hgy g1)
              clear hx hv hvd hfq hpj hn0 hrow hgy o1 g1 e1
              generalize cntT f (p.take j) 0 = u0 at *
              generalize cntT f (p.take j) 1 = u1 at *
              go_wp2
              go_roundw
              case rel => exact ⟨j + 1, by omega, by go_num, O2.out, G2.out⟩
              case measure => simp [intOf]; omega
            · have hfq1 : f (q : Int) = 1 := by rw [hfq]; rfl
              obtain ⟨o1, g1⟩ := hrow.stored 1 (cntT f (p.take j) 1 + 1)
              have e1 : (rowT f (p.take j)).set 1 (cntT f (p.take j) 1 + 1) = rowT f (p.take (j + 1)) := by rw [hn0, hfq1]; simp [rowT]
              rw [e1] at o1
              have O2 := Lib.hid o1; have G2 := Lib.hid (grown_next hgy g1)
              clear hx hv hvd hfq hpj hn0 hrow hgy o1 g1 e1
              generalize cntT f (p.take j) 0 = u0 at *
              generalize cntT f (p.take j) 1 = u1 at *
              go_wp2
              go_roundw
              case rel => exact ⟨j + 1, by omega, by go_num, O2.out, G2.out⟩
              case measure => simp [intOf]; omega
          · obtain rfl : j = n9 := by omega
            have eP : p.take j = p := List.take_of_length_le (by omega)
            rw [eP] at hrow
            have hb2 : Below rb w1 wr := below_of_grown hgy hs1 (fun g h => by injection h with h; omega)
            have hb3 := HB1.out.trans (by rw [← HRB.out]; exact hb2)
            have PO4 := Lib.hid (PO.out.keep hb3)
            have ORW := Lib.hid (hrow.lower hsw)
            have HPN := Lib.hid (show ∀ y, some (⟨rb, 0, none⟩ : Addr) = some y → top2 ≤ y.block from fun y hy => by injection hy with hy; rw [← hy]; exact htop)
            have hs3 := hb3.size
            rw [← HRB.out] at hs3
            have HB3 := Lib.hid (HBW.out.trans (hb3.mono HBW.out.size))
            have hpk : Hid ((ps.take (k + 1)).map (rowT f) = (ps.take k).map (rowT f) ++ [rowT f p]) := Lib.hid (by rw [List.take_add_one, HP.out]; simp)
            have hlo : wx.heap.size ≤ wr.heap.size := by omega
            have htw : top2 ≤ wr.heap.size := by omega
            clear hrow hgy hb2 hb3
            go_wp2_with (at_builtin; refine wpList_appS rfl (.tmp 49) (.tmp 51) rfl wx.heap.size top2 A2 k c2 ((ps.take k).map (rowT f)) (some ⟨rb, 0, none⟩) 2 2 (rowT f p) rfl PO4.out ORW.out HPN.out htw rfl (by omega) hlo ?_; intro A7 c7 w7 hpa7 hb7 kB kM kI)
            have PA7 := Lib.hid hpa7
            have hs7 := hb7.size
            have HB7 := Lib.hid (HB3.out.trans hb7)
            clear hpa7 hb7 kB kM kI
            go_wp2
            go_roundw
            case rel => exact ⟨k + 1, k + 1, c7, wr.heap.size, A7, by omega, by go_num, rfl, by rw [hpk.out]; exact PA7.out, hs7, HB7.out⟩
            case measure => simp [intOf]; omega
      · obtain rfl : k = n' := by omega
        have eT : (ps.take k).map (rowT f) = sidesV W H xs a b := by rw [ANS.out, List.take_of_length_le (by omega)]
        have PO2 := Lib.hid (show PartsAt wr wx.heap.size top2 A2 k c2 (sidesV W H xs a b) by rw [← eT]; exact PO.out)
        clear hbw
        go_wp2
        go_ret2
        exact ⟨_, _, _, by rw [HOK.out]; rfl, OwnSS.of (PO2.out.lower hBs), B.out.trans (HBW.out.mono hBs)⟩
  · have ht' : (goodB W H xs && leaperB a b) = false := by simpa using ht
    go_enter Tryz.func7, Tryz.ntmps7
    go_wp2_with fail
    refine (boTwo_any _ _ _ _ _ _ _ _ _ ((ha.alloc _).alloc _)).mono ?_
    rw [ht']
    rintro e wv ⟨rfl, hb⟩
    have hbx0 := below_box hb
    have a0 : wv.cell? ⟨w.heap.size, 0, none⟩ = some (.int .i64 W) := by simpa using newbox hbx0 0
    have a1 : wv.cell? ⟨w.heap.size, 1, none⟩ = some (.int .i64 H) := by simpa using newbox hbx0 1
    have a2 : wv.cell? ⟨w.heap.size, 2, none⟩ = some (.slice A n c) := by simpa using newbox hbx0 2
    have al : w.heap.size < wv.heap.size := by simpa using newbox_lt hbx0
    have l0 : wv.cell? ⟨w.heap.size + 1, 0, none⟩ = some (.int .i64 a) := by simpa using newbox hb 0
    have l1 : wv.cell? ⟨w.heap.size + 1, 1, none⟩ = some (.int .i64 b) := by simpa using newbox hb 1
    have ll : w.heap.size + 1 < wv.heap.size := by simpa using newbox_lt hb
    have B := Lib.hid (below_box hbx0)
    clear hb hbx0
    go_wp2
    go_ret2
    exact ⟨none, 0, 0, by rw [show okTwo W H xs a b = false by (rw [okTwo, Bool.and_comm, ht'])]; rfl, by rw [sidesV, if_neg (by rw [show okTwo W H xs a b = false by (rw [okTwo, Bool.and_comm, ht'])]; simp)]; exact OwnSS.of (PartsAt.none_ _ _ 0), B.out⟩

end Go.Proofs.YtbpgkigoboobeaaGreat

namespace Go.Proofs.YtbpgkigoboobeaaGreat
open Go.RowKit

theorem onB_nilT {W H : Int} {xs : List Int} {a b : Int} : onB W H xs a b [] = okTwo W H xs a b := by simp [onB]
theorem wpList_store9 {ops : Array Oper} {rest : List Oper} {o : Oper} {a : Act} {w0 : World} {Q : Exit → Act → World → Prop} (L : List Nat) (hL : L.length = 9) (hg : o.guard = none) (x y : Operand)
    (ho : o.op = .store 57 x y) (hd : o.dst = none) (hx : a.eval x = .pointer (some ⟨w0.heap.size, 0, none⟩)) (hy : a.eval y = .agg (words L).toArray)
    (E : TypeId) (old : Array Value) (hold : old.size = 9) (h : wpList Tryz.prog ops Q rest a (w0.alloc (.cells (words L).toArray E))) :
    wpList Tryz.prog ops Q (o :: rest) a (w0.alloc (.cells old E)) := by
  refine wpList_store_rowTo hg _ x y ho hd w0.heap.size (words L).toArray hx hy E old (show (w0.heap.push _)[w0.heap.size]? = _ by rw [Array.getElem?_push_size]) (by rw [info_painting]; simp [words, hL]) (by rw [hold]; simp [words, hL]) (all_oneCell_toArray (words_one _)) ?_
  rw [World.setRow_alloc_new]; exact h
theorem step_appT {ops : Array Oper} {o : Oper} {a : Act} {K : Act → World → Prop} {Q : Exit → Act → World → Prop} {E0 : Prop} {w : World} (gx : Nat) (hgx : gx = w.heap.size) (hgd : o.guard = none) (s x : Operand)
    (ho : o.op = .call { callee := .builtin .append, args := #[s, x], argTypes := #[28, 28] }) (lo top : Nat) (A : Option Addr) (n c : Nat) (ps : List (List Int)) (A3 : Option Addr) (n3 c3 : Nat) (p : List Int)
    (hs : a.eval s = .slice A n c) (hown : PartsAt w lo top A n c ps) (hp : OwnI 3 w lo A3 n3 c3 p) (hpn : ∀ y, A3 = some y → top ≤ y.block) (htop : top ≤ w.heap.size)
    (hx : a.eval x = .slice (some ⟨gx, 0, none⟩) 1 1) (hn : n ≤ 100000) (hlo : lo ≤ w.heap.size)
    (h : ∀ A' c' w', PartsAt w' lo w.heap.size A' (n + 1) c' (ps ++ [p]) → Below lo w w' → K (a.put o.dst (.slice A' (n + 1) c')) w') :
    if Region.wanted o (yielded ops a.tmps) = true then Oper.wp Tryz.prog o a (w.alloc (.cells #[.slice A3 n3 c3] 22)) K Q else E0 := by
  have hw : Region.wanted o (yielded ops a.tmps) = true := by simp [Region.wanted, hgd]
  rw [if_pos hw]
  have h2 := wpList_appT (ops := ops) (rest := []) (Q := fun e a w => match e with | .normal => K a w | .outgrown => False | e => Q e a w) gx hgx hgd s x ho lo top A n c ps A3 n3 c3 p hs hown hp hpn htop hx hn hlo (fun A' c' w' h1 h3 => h A' c' w' h1 h3)
  unfold wpList at h2
  rw [if_pos hw] at h2
  rcases h2 with h2 | ⟨_, _, _, h2⟩
  · have h3 : wpList Tryz.prog ops (fun e a w => match e with | .normal => K a w | .outgrown => False | e => Q e a w) [] = K := rfl
    rw [h3] at h2
    unfold Oper.wp at *
    generalize (execOp a.eval o).run Tryz.prog (w.alloc (.cells #[.slice A3 n3 c3] 22)) = r at *
    cases r with
    | ok m w' =>
      cases m <;> simp only [Oper.upon] at h2 ⊢ <;>
        first
          | exact h2
          | exact Calls.mono h2 (fun e w'' he => by cases e <;> first | exact he | exact (he.elim fun _ h => h.elim fun _ h => h.elim))
    | halt x w' => cases x <;> simp only [Oper.upon] at h2 ⊢ <;> first | exact h2 | exact (h2.elim fun _ h => h.elim fun _ h => h.elim)
  · exact h2.elim
theorem below_new2T {lo : Nat} {w : World} {o : Obj} (h : lo ≤ w.heap.size) : Below lo w (w.alloc o) := (Below.refl _ _).alloc h o
theorem selTo_rise (f : Nat → Bool) : ∀ k, (selTo f k).Pairwise (· < ·)
  | 0 => List.Pairwise.nil
  | k + 1 => by
    have ih := selTo_rise f k
    cases h : f k with
    | false => rw [selTo_no h]; exact ih
    | true =>
      rw [selTo_yes h, List.pairwise_append]
      refine ⟨ih, List.pairwise_singleton _ _, fun x hx y hy => ?_⟩
      obtain ⟨i, hi, _, rfl⟩ := selTo_mem.1 hx
      have : y = (k : Int) := by simpa using hy
      omega
theorem and_set {f : Int → Nat} {flat part : List Int} {c : Nat} (hsub : ∀ x ∈ part, x ∈ flat) (h0 : ∀ x ∈ flat, 0 ≤ x) :
    setBits ((flat.filter fun y => f y == c).map Int.toNat) &&& setBits (part.map Int.toNat) = setBits ((part.filter fun y => f y == c).map Int.toNat) := by
  apply Nat.eq_of_testBit_eq
  intro i
  rw [Nat.testBit_and, Bool.eq_iff_iff, Bool.and_eq_true, setBits_test i _ _ rfl, setBits_test i _ _ rfl, setBits_test i _ _ rfl]
  simp only [List.mem_map, List.mem_filter]
  constructor
  · rintro ⟨⟨x, ⟨hx, hf⟩, rfl⟩, y, hy, e⟩
    have h1 := h0 x hx
    have h2 := h0 y (hsub y hy)
    have : y = x := by omega
    subst this
    exact ⟨y, ⟨hy, hf⟩, rfl⟩
  · rintro ⟨x, ⟨hx, hf⟩, rfl⟩
    exact ⟨⟨x, ⟨hsub x hx, hf⟩, rfl⟩, x, hx, rfl⟩
theorem pop_cnt {f : Int → Nat} {part : List Int} {c : Nat} (hr : part.Pairwise (· < ·)) (h : ∀ x ∈ part, 0 ≤ x ∧ x < 64) : ((popN 64 (setBits ((part.filter fun y => f y == c).map Int.toNat)) : Nat) : Int) = cntT f part c := by
  have hn : ((part.filter fun y => f y == c).map Int.toNat).Nodup := by
    rw [List.Nodup, List.pairwise_map]
    refine (hr.filter _).imp_of_mem (fun ha hb hab => ?_)
    have h1 := h _ (List.mem_filter.1 ha).1
    have h2 := h _ (List.mem_filter.1 hb).1
    omega
  have hlt : ∀ c' ∈ (part.filter fun y => f y == c).map Int.toNat, c' < 64 := fun i hi => by
    obtain ⟨y, hy, rfl⟩ := List.mem_map.1 hi
    have := h y (List.mem_filter.1 hy).1; omega
  rw [(popN_set _ _ rfl hlt).2.2 hn, List.length_map]; rfl

set_option maxRecDepth 100000 in
set_option maxHeartbeats 4000000 in
theorem impl_SidesOfParts (W H : Int) (A : Option Addr) (n c : Nat) (xs : List Int) (a b : Int) (w : World) (ha : Rd w A n xs) :
    Calls Tryz.prog 10 #[brd W H A n c, lpr a b] w fun e w' => ∃ A' n' c', e = .returned (.tuple #[.slice A' n' c', .bool (okTwo W H xs a b)]) ∧ OwnSS w' w.heap.size w'.heap.size A' n' c' (sidesV W H xs a b) ∧ Below w.heap.size w w' := by
  by_cases ho : onB W H xs a b [] = true
  · have hok : okTwo W H xs a b = true := by rw [← onB_nilT, ho]
    have FO := on_facts hok
    obtain ⟨N, hN⟩ : ∃ N, N = (W * H).toNat := ⟨_, rfl⟩
    rw [← hN] at FO
    have HF := Lib.hid FO
    have HOK := Lib.hid hok
    have n64 := FO.n.2
    clear FO hN
    go_enter Tryz.func10, Tryz.ntmps10
    go_wp2_with fail
    refine (isLeaperOn_any _ _ _ _ _ _ _ _ _ _ _ [] _ ((ha.alloc _).alloc _) (Rd.nil _ _)).mono ?_
    rw [ho]
    rintro e wv ⟨rfl, hb⟩
    have hbx0 := below_box hb
    have a0 : wv.cell? ⟨w.heap.size, 0, none⟩ = some (.int .i64 W) := by simpa using newbox hbx0 0
    have a1 : wv.cell? ⟨w.heap.size, 1, none⟩ = some (.int .i64 H) := by simpa using newbox hbx0 1
    have a2 : wv.cell? ⟨w.heap.size, 2, none⟩ = some (.slice A n c) := by simpa using newbox hbx0 2
    have al : w.heap.size < wv.heap.size := by simpa using newbox_lt hbx0
    have l0 : wv.cell? ⟨w.heap.size + 1, 0, none⟩ = some (.int .i64 a) := by simpa using newbox hb 0
    have l1 : wv.cell? ⟨w.heap.size + 1, 1, none⟩ = some (.int .i64 b) := by simpa using newbox hb 1
    have ll : w.heap.size + 1 < wv.heap.size := by simpa using newbox_lt hb
    have B := Lib.hid (below_box hbx0)
    clear hb hbx0
    go_wp2_with fail
    refine (onwardOfK_any W H A n c xs a b _ (ha.keep B.out) HF.out.g HF.out.l).mono ?_
    rintro e wx ⟨mb, rfl, hom, hb⟩
    have HOM := Lib.hid hom
    replace a0 := cell_keep a0 al hb; replace a1 := cell_keep a1 al hb; replace a2 := cell_keep a2 al hb; replace l0 := cell_keep l0 ll hb; replace l1 := cell_keep l1 ll hb; replace al := lt_keep al hb; replace ll := lt_keep ll hb; replace B := Lib.hid (below_next B.out hb)
    clear hb hom
    have hTC := twoColours_any W H xs a b N _ mb _ HF.out HOM.out
    obtain ⟨P, hP⟩ : ∃ P, P = paintF (fTwo W H xs a b) (partsL W H xs a b).flatten := ⟨_, rfl⟩
    have hPl : P.length = 9 := by rw [hP]; exact paintF_len _ _
    rw [← hP] at hTC
    have HPP := Lib.hid hP
    clear hP
    go_wp2_with fail
    refine hTC.mono ?_
    rintro e wy ⟨rfl, hb⟩
    have hsy := hb.size
    replace HOM := Lib.hid (HOM.out.keep hb)
    replace a0 := cell_keep a0 al hb; replace a1 := cell_keep a1 al hb; replace a2 := cell_keep a2 al hb; replace al := lt_keep al hb; replace B := Lib.hid (below_next B.out hb)
    clear hb hTC
    obtain ⟨W6, hW6⟩ : ∃ W6, W6 = wy.alloc (.cells (words P).toArray 57) := ⟨_, rfl⟩
    have hb6 : Below wy.heap.size wy W6 := by rw [hW6]; exact below_new (Below.refl _ _) _
    have hp6 := World.alloc_heap_new wy (.cells (words P).toArray 57)
    rw [← hW6] at hp6
    obtain ⟨pg, hpg⟩ : ∃ pg, pg = wy.heap.size := ⟨_, rfl⟩
    have hs6 : W6.heap.size = pg + 1 := by rw [hW6, hpg]; simp
    replace HOM := Lib.hid (HOM.out.keep hb6)
    replace a0 := cell_keep a0 al hb6; replace a1 := cell_keep a1 al hb6; replace a2 := cell_keep a2 al hb6; replace al := lt_keep al hb6; replace B := Lib.hid (below_next B.out hb6)
    rw [← hpg] at hp6
    have hgp : w.heap.size + 1 < pg := by omega
    clear hb6
    go_wp2_with (refine wpList_store9 P hPl rfl _ _ rfl rfl rfl rfl _ _ rfl ?_; rw [← hW6, ← hpg]; clear hW6 hpg)
    refine (partsB_any W H xs a b N _ mb _ HF.out HOM.out).mono ?_
    rintro e ws ⟨A', n', c', top, rfl, pa, hb⟩
    have hps := (hb.block pg (by omega)).trans hp6
    replace B := Lib.hid (below_next B.out hb)
    have PA := Lib.hid pa
    obtain ⟨hTL, hTP⟩ := two_parts HF.out
    have HTP := Lib.hid hTP
    have hpl := pa.len
    have hpn : n' ≤ 64 := by
      have h1 := partsTo_len W H xs a b (cellsL W H xs).length
      rw [partsTo, List.take_length] at h1
      have h2 := cellsTo_len (W := W) (H := H) (hs := xs) (W * H).toNat
      have h3 := HF.out.wh
      have h4 : (cellsL W H xs).length ≤ (W * H).toNat := h2
      have h5 : (partsL W H xs a b).length ≤ (cellsL W H xs).length := h1
      omega
    have ANS := Lib.hid (show sidesV W H xs a b = (partsL W H xs a b).map (rowT (fTwo W H xs a b)) by rw [sidesV, if_pos HOK.out])
    obtain ⟨f, hf⟩ : ∃ f, f = fTwo W H xs a b := ⟨_, rfl⟩
    obtain ⟨ps, hpse⟩ : ∃ ps, ps = partsL W H xs a b := ⟨_, rfl⟩
    rw [← hf] at ANS HPP
    rw [← hpse] at ANS PA HTP hpl HPP
    have hflat := Lib.hid (show ∀ y ∈ ps.flatten, 0 ≤ y ∧ y < 64 from fun y hy => by
      obtain ⟨q, hq, hyq⟩ := List.mem_flatten.1 hy
      obtain ⟨_, _, _, _, h9⟩ := HTP.out q hq
      have := (h9 y hyq).1; omega)
    have hBs := B.out.size
    have hpgs := (Array.getElem?_eq_some_iff.1 hps).1
    have HPG := Lib.hid hps
    clear pa hb hTL hTP hf hpse a0 a1 a2 al hps hp6 HOM
    go_wp2
    go_loopw [8, 24] (fun v i wr => ∃ (k n2 c2 top2 : Nat) (A2 : Option Addr), k ≤ n' ∧ i = .int .i64 k ∧ v = .slice A2 n2 c2 ∧ PartsAt wr ws.heap.size top2 A2 n2 c2 ((ps.take k).map (rowT f)) ∧ top2 ≤ wr.heap.size ∧ Below ws.heap.size ws wr) (fun _ i _ => n' - (intOf i).toNat)
    case atStart => exact ⟨0, 0, 0, 0, none, by omega, rfl, rfl, PartsAt.none_ _ _ _, by omega, Below.refl _ _⟩
    case round =>
      obtain ⟨k, n2, c2, top2, A2, hk, rfl, rfl, hpo, htop, hbw⟩ := hrel
      have hsw := hbw.size
      obtain rfl : k = n2 := by have := hpo.len; rw [List.length_map, List.length_take] at this; omega
      have PO := Lib.hid hpo; have HBW := Lib.hid hbw
      clear hpo
      by_cases hlt : k < n'
      · obtain ⟨g, A9, n9, c9, p, rfl, hg1, hg2, hp, hpc, hown⟩ := PA.out.at_ hlt
        obtain ⟨c0, hc0, hpe, hhd, hcol⟩ := HTP.out p (List.mem_of_getElem? hp)
        have x0 := cell_keep hpc hg2 hbw
        have hpx : ∀ x ∈ p, 0 ≤ x ∧ x < 64 := fun x hx => by have := (hcol x hx).1; omega
        have hrise : p.Pairwise (· < ·) := by rw [hpe]; exact selTo_rise _ _
        have hS := setOf_any A9 n9 c9 p wr (hown.keep hbw).rd hpx
        have hsub : ∀ x ∈ p, x ∈ ps.flatten := fun x hx => List.mem_flatten.2 ⟨p, List.mem_of_getElem? hp, hx⟩
        obtain ⟨m, hm⟩ : ∃ m, m = setBits (p.map Int.toNat) := ⟨_, rfl⟩
        have hm64 : m < 18446744073709551616 := by rw [hm]; exact setBits_lt _ (fun i hi => by obtain ⟨y, hy, rfl⟩ := List.mem_map.1 hi; have := hpx y hy; omega)
        rw [← hm] at hS
        have hP0 : P[0]? = some (setBits ((ps.flatten.filter fun y => f y == 0).map Int.toNat)) := by rw [HPP.out]; exact paintF_at (by decide)
        have hP1 : P[1]? = some (setBits ((ps.flatten.filter fun y => f y == 1).map Int.toNat)) := by rw [HPP.out]; exact paintF_at (by decide)
        have hlt64 : ∀ c : Nat, setBits ((ps.flatten.filter fun y => f y == c).map Int.toNat) < 18446744073709551616 := fun c => setBits_lt _ (fun i hi => by obtain ⟨y, hy, rfl⟩ := List.mem_map.1 hi; have := hflat.out y (List.mem_filter.1 hy).1; omega)
        have hq0 := and_set (c := 0) (f := f) hsub (fun x hx => (hflat.out x hx).1)
        have hq1 := and_set (c := 1) (f := f) hsub (fun x hx => (hflat.out x hx).1)
        have hc0' := pop_cnt (c := 0) (f := f) hrise hpx
        have hc1' := pop_cnt (c := 1) (f := f) hrise hpx
        have hl0 := hlt64 0; have hl1 := hlt64 1
        rw [← hq0] at hc0'; rw [← hq1] at hc1'
        rw [← hm] at hc0' hc1'
        generalize setBits ((ps.flatten.filter fun y => f y == 0).map Int.toNat) = s0 at *
        generalize setBits ((ps.flatten.filter fun y => f y == 1).map Int.toNat) = s1 at *
        have hrow : rowT f p = [((popN 64 (s0 &&& m) : Nat) : Int), ((popN 64 (s1 &&& m) : Nat) : Int)] := by rw [rowT, hc0', hc1']
        have hpg := (hbw.block pg hpgs).trans HPG.out
        have v0 : wr.cell? ⟨pg, 0, none⟩ = some (.int .u64 (s0 : Int)) := by
          rw [cell_of_row _ _ _ _ _ _ hpg, List.getElem?_toArray, words, List.getElem?_map, hP0]; rfl
        have v1 : wr.cell? ⟨pg, 1, none⟩ = some (.int .u64 (s1 : Int)) := by
          rw [cell_of_row _ _ _ _ _ _ hpg, List.getElem?_toArray, words, List.getElem?_map, hP1]; rfl
        have hpgw := lt_keep hpgs hbw
        have e0 := and_nat s0 m _ hl0 hm64 rfl
        have e1 := and_nat s1 m _ hl1 hm64 rfl
        have z0 : s0 &&& m < 18446744073709551616 := Nat.lt_of_le_of_lt Nat.and_le_left hl0
        have z1 : s1 &&& m < 18446744073709551616 := Nat.lt_of_le_of_lt Nat.and_le_left hl1
        have HS := Lib.hid hS; have HROW := Lib.hid hrow; have HP := Lib.hid hp
        clear hpc hown hcol hbw hpe hhd hc0 hS hrow hp hq0 hq1 hc0' hc1' hm hpx hrise hsub hlt64 hP0 hP1 hpg
        go_wp2_with fail
        refine HS.out.mono ?_
        rintro e wu ⟨rfl, hbu⟩
        replace v0 := cell_keep v0 hpgw hbu; replace v1 := cell_keep v1 hpgw hbu
        replace hpgw := lt_keep hpgw hbu
        have PO2 := Lib.hid (PO.out.keep hbu)
        have hsu := hbu.size
        have HBU := Lib.hid (HBW.out.trans (hbu.mono HBW.out.size))
        clear hbu x0
        go_wp2_with fail
        have hZ0 := Lib.hid (fun V => size_any (s0 &&& m) z0 V)
        have hZ1 := Lib.hid (fun V => size_any (s1 &&& m) z1 V)
        obtain ⟨u0, hu0⟩ : ∃ u0 : Int, u0 = ((popN 64 (s0 &&& m) : Nat) : Int) := ⟨_, rfl⟩
        obtain ⟨u1, hu1⟩ : ∃ u1 : Int, u1 = ((popN 64 (s1 &&& m) : Nat) : Int) := ⟨_, rfl⟩
        rw [← hu0] at hZ0 HROW
        rw [← hu1] at hZ1 HROW
        obtain ⟨t0, ht0⟩ : ∃ t0 : Int, t0 = ((s0 &&& m : Nat) : Int) := ⟨_, rfl⟩
        obtain ⟨t1, ht1⟩ : ∃ t1 : Int, t1 = ((s1 &&& m : Nat) : Int) := ⟨_, rfl⟩
        rw [← ht0] at e0 hZ0
        rw [← ht1] at e1 hZ1
        clear hu0 hu1 ht0 ht1 z0 z1 hl0 hl1 hm64
        have htw : top2 ≤ wu.heap.size := by omega
        have hlw : ws.heap.size ≤ wu.heap.size := by omega
        have hpk : Hid ((ps.take (k + 1)).map (rowT f) = (ps.take k).map (rowT f) ++ [[u0, u1]]) := Lib.hid (by rw [List.take_add_one, HP.out]; simp [HROW.out])
        refine wp_region_held_drew (S := fun w' => w'.cell? ⟨pg, 0, none⟩ = some (.int .u64 (s0 : Int)) ∧ w'.cell? ⟨pg, 1, none⟩ = some (.int .u64 (s1 : Int))) (by kernel_rfl) ?_ (fun hHeld => ?_)
        · (try dsimp only)
          exact ⟨(by first | exact v0 | go_simp), (by first | exact v1 | go_simp)⟩
        refine wpAnyH_take (i := 0) (oi := ⟨_, _, _, _, _, _⟩) (v := ?_) rfl (by kernel_rfl) (by kernel_rfl) (by kernel_rfl) (fun _ _ _ h => h) (Or.inl ⟨by rfl, ?_⟩) (by assumption) ?_
        rotate_left
        · intro w hSw
          (try dsimp only at hSw)
          go_simp
          (try with_reducible rfl)
        (try simp only [Act.put, List.setIfInBounds_toArray, List.set_cons_zero, List.set_cons_succ])
        refine wpAnyH_take (i := 1) (oi := ⟨_, _, _, _, _, _⟩) (v := ?_) rfl (by kernel_rfl) (by kernel_rfl) (by kernel_rfl) (fun _ _ _ h => h) (Or.inl ⟨by rfl, ?_⟩) (by assumption) ?_
        rotate_left
        · intro w hSw
          (try dsimp only at hSw)
          go_simp
          (try with_reducible rfl)
        (try simp only [Act.put, List.setIfInBounds_toArray, List.set_cons_zero, List.set_cons_succ])
        refine wpAnyH_take (i := 2) (oi := ⟨_, _, _, _, _, _⟩) (v := ?_) rfl (by kernel_rfl) (by kernel_rfl) (by kernel_rfl) (fun _ _ _ h => h) (Or.inl ⟨by rfl, ?_⟩) (by assumption) ?_
        rotate_left
        · intro w hSw
          (try dsimp only at hSw)
          go_simp
          (try with_reducible rfl)
        (try simp only [Act.put, List.setIfInBounds_toArray, List.set_cons_zero, List.set_cons_succ])
        refine wpAnyH_take (i := 3) (oi := ⟨_, _, _, _, _, _⟩) (v := ?_) rfl (by kernel_rfl) (by kernel_rfl) (by kernel_rfl) (fun _ _ _ h => h) (Or.inl ⟨by rfl, ?_⟩) (by assumption) ?_
        rotate_left
        · intro w hSw
          (try dsimp only at hSw)
          go_simp
          (try with_reducible rfl)
        (try simp only [Act.put, List.setIfInBounds_toArray, List.set_cons_zero, List.set_cons_succ])
        refine wpAnyH_take (i := 4) (oi := ⟨_, _, _, _, _, _⟩) (v := ?_) rfl (by kernel_rfl) (by kernel_rfl) (by kernel_rfl) (fun _ _ _ h => h) (Or.inl ⟨by rfl, ?_⟩) (by assumption) ?_
        rotate_left
        · intro w hSw
          (try dsimp only at hSw)
          go_simp
          (try with_reducible rfl)
        (try simp only [Act.put, List.setIfInBounds_toArray, List.set_cons_zero, List.set_cons_succ])
        refine wpAnyH_take (i := 6) (oi := ⟨_, _, _, _, _, _⟩) (v := ?_) rfl (by kernel_rfl) (by kernel_rfl) (by kernel_rfl) (fun _ _ _ h => h) (Or.inl ⟨by rfl, ?_⟩) (by assumption) ?_
        rotate_left
        · intro w hSw
          (try dsimp only at hSw)
          go_simp
          (try with_reducible rfl)
        (try simp only [Act.put, List.setIfInBounds_toArray, List.set_cons_zero, List.set_cons_succ])
        refine wpAnyH_take (i := 7) (oi := ⟨_, _, _, _, _, _⟩) (v := ?_) rfl (by kernel_rfl) (by kernel_rfl) (by kernel_rfl) (fun _ _ _ h => h) (Or.inl ⟨by rfl, ?_⟩) (by assumption) ?_
        rotate_left
        · intro w hSw
          (try dsimp only at hSw)
          go_simp
          (try with_reducible rfl)
        (try simp only [Act.put, List.setIfInBounds_toArray, List.set_cons_zero, List.set_cons_succ])
        refine wpAnyH_take (i := 8) (oi := ⟨_, _, _, _, _, _⟩) (v := ?_) rfl (by kernel_rfl) (by kernel_rfl) (by kernel_rfl) (fun _ _ _ h => h) (Or.inl ⟨by rfl, ?_⟩) (by assumption) ?_
        rotate_left
        · intro w hSw
          (try dsimp only at hSw)
          go_simp
          (try with_reducible rfl)
        (try simp only [Act.put, List.setIfInBounds_toArray, List.set_cons_zero, List.set_cons_succ])
        refine wpAnyH_take (i := 9) (oi := ⟨_, _, _, _, _, _⟩) (v := ?_) rfl (by kernel_rfl) (by kernel_rfl) (by kernel_rfl) (fun _ _ _ h => h) (Or.inl ⟨by rfl, ?_⟩) (by assumption) ?_
        rotate_left
        · intro w hSw
          (try dsimp only at hSw)
          go_simp
          (try with_reducible rfl)
        (try simp only [Act.put, List.setIfInBounds_toArray, List.set_cons_zero, List.set_cons_succ])
        refine wpAnyH_ready (rs := [5]) (by kernel_rfl) (by simp) ?_
        refine AllReadyH.cons (o := ⟨_, _, _, _, _, _⟩) rfl (fun K hK => ?_) AllReadyH.nil
        go_simp
        (go_at_call 30; refine (hZ0.out _).mono ?_; rintro e wv ⟨rfl, hb⟩; (repeat (first | replace hb := below_undrew hb | replace hb := below_undrewN hb)); replace v0 := cell_keep v0 hpgw hb; replace v1 := cell_keep v1 hpgw hb; replace hpgw := lt_keep hpgw hb; replace PO2 := Lib.hid (PO2.out.keep hb); replace HBU := Lib.hid (HBU.out.trans (hb.mono HBU.out.size)); replace htw := Nat.le_trans htw hb.size; replace hlw := Nat.le_trans hlw hb.size; clear hb)
        (try go_wp2_with fail)
        refine hK.out _ _ ?_ (fun hHeld => ?_)
        · (try dsimp only)
          exact ⟨(by first | exact v0 | go_simp), (by first | exact v1 | go_simp)⟩
        clear hK K
        (try simp only [Act.put, List.setIfInBounds_toArray, List.set_cons_zero, List.set_cons_succ])
        refine wpAnyH_ready (rs := [10]) (by kernel_rfl) (by simp) ?_
        refine AllReadyH.cons (o := ⟨_, _, _, _, _, _⟩) rfl (fun K hK => ?_) AllReadyH.nil
        go_simp
        (go_at_call 30; refine (hZ1.out _).mono ?_; rintro e wv ⟨rfl, hb⟩; (repeat (first | replace hb := below_undrew hb | replace hb := below_undrewN hb)); replace v0 := cell_keep v0 hpgw hb; replace v1 := cell_keep v1 hpgw hb; replace hpgw := lt_keep hpgw hb; replace PO2 := Lib.hid (PO2.out.keep hb); replace HBU := Lib.hid (HBU.out.trans (hb.mono HBU.out.size)); replace htw := Nat.le_trans htw hb.size; replace hlw := Nat.le_trans hlw hb.size; clear hb)
        (try go_wp2_with fail)
        refine hK.out _ _ ?_ (fun hHeld => ?_)
        · (try dsimp only)
          exact ⟨(by first | exact v0 | go_simp), (by first | exact v1 | go_simp)⟩
        clear hK K
        (try simp only [Act.put, List.setIfInBounds_toArray, List.set_cons_zero, List.set_cons_succ])
        refine wpAnyH_ready (rs := [11]) (by kernel_rfl) (by simp) ?_
        refine AllReadyH.cons (o := ⟨_, _, _, _, _, _⟩) rfl (fun K hK => ?_) AllReadyH.nil
        go_simp
        skip
        (try go_wp2_with fail)
        refine hK.out _ _ ?_ (fun hHeld => ?_)
        · (try dsimp only)
          exact ⟨(by first | exact v0 | go_simp), (by first | exact v1 | go_simp)⟩
        clear hK K
        (try simp only [Act.put, List.setIfInBounds_toArray, List.set_cons_zero, List.set_cons_succ])
        refine wpAnyH_ready (rs := [12]) (by kernel_rfl) (by simp) ?_
        refine AllReadyH.cons (o := ⟨_, _, _, _, _, _⟩) rfl (fun K hK => ?_) AllReadyH.nil
        go_simp
        skip
        (try go_wp2_with fail)
        refine hK.out _ _ ?_ (fun hHeld => ?_)
        · (try dsimp only)
          exact ⟨(by first | exact v0 | go_simp), (by first | exact v1 | go_simp)⟩
        clear hK K
        (try simp only [Act.put, List.setIfInBounds_toArray, List.set_cons_zero, List.set_cons_succ])
        refine wpAnyH_ready (rs := [13]) (by kernel_rfl) (by simp) ?_
        refine AllReadyH.cons (o := ⟨_, _, _, _, _, _⟩) rfl (fun K hK => ?_) AllReadyH.nil
        (refine step_appT _ (by simp) rfl (.tmp 30) (.tmp 42) rfl ws.heap.size top2 A2 k c2 _ (some ⟨_, 0, none⟩) 2 2 [u0, u1] rfl (PO2.out.keep (below_new (Below.refl _ _) _)) (own_twoT _ u0 u1 ws.heap.size hlw) (fun y hy => by injection hy with hy; rw [← hy]; exact htw) (by simp; omega) rfl (by omega) (by simp; omega) ?_; intro A7 c7 w7 hpa7 hb7; have PA7 := Lib.hid hpa7; have HB7 := Lib.hid (HBU.out.trans ((below_new2T hlw).trans hb7)); have hs7 := hb7.size; replace v0 : w7.cell? ⟨pg, 0, none⟩ = some (.int .u64 (s0 : Int)) := (hb7.cell (p := ⟨pg, 0, none⟩) hpgs).trans (by go_simp); replace v1 : w7.cell? ⟨pg, 1, none⟩ = some (.int .u64 (s1 : Int)) := (hb7.cell (p := ⟨pg, 1, none⟩) hpgs).trans (by go_simp); clear hpa7 hb7)
        refine hK.out _ _ ?_ (fun hHeld => ?_)
        · (try dsimp only)
          exact ⟨(by first | exact v0 | go_simp), (by first | exact v1 | go_simp)⟩
        clear hK K
        (try simp only [Act.put, List.setIfInBounds_toArray, List.set_cons_zero, List.set_cons_succ])
        refine wpAnyH_take (i := 14) (oi := ⟨_, _, _, _, _, _⟩) (v := ?_) rfl (by kernel_rfl) (by kernel_rfl) (by kernel_rfl) (fun _ _ _ h => h) (Or.inl ⟨by rfl, ?_⟩) (by assumption) ?_
        rotate_left
        · intro w hSw
          (try dsimp only at hSw)
          go_simp
          (try with_reducible rfl)
        (try simp only [Act.put, List.setIfInBounds_toArray, List.set_cons_zero, List.set_cons_succ])
        refine wpAnyH_done (by kernel_rfl) ?_ _
        all_goals go_wp2
        all_goals go_roundw
        all_goals (first | exact ⟨k + 1, k + 1, c7, _, A7, by omega, by go_num, rfl, by rw [hpk.out]; exact PA7.out, hs7, HB7.out⟩ | (simp [intOf]; omega))
      · obtain rfl : k = n' := by omega
        have eT : (ps.take k).map (rowT f) = sidesV W H xs a b := by rw [ANS.out, List.take_of_length_le (by omega)]
        have PO2 := Lib.hid (show PartsAt wr ws.heap.size top2 A2 k c2 (sidesV W H xs a b) by rw [← eT]; exact PO.out)
        clear hbw
        go_wp2
        go_ret2
        exact ⟨_, _, _, by rw [HOK.out]; rfl, OwnSS.of (PO2.out.lower hBs), B.out.trans (HBW.out.mono hBs)⟩
  · have ho' : onB W H xs a b [] = false := by simpa using ho
    go_enter Tryz.func10, Tryz.ntmps10
    go_wp2_with fail
    refine (isLeaperOn_any _ _ _ _ _ _ _ _ _ _ _ [] _ ((ha.alloc _).alloc _) (Rd.nil _ _)).mono ?_
    rw [ho']
    rintro e wv ⟨rfl, hb⟩
    have hbx0 := below_box hb
    have a0 : wv.cell? ⟨w.heap.size, 0, none⟩ = some (.int .i64 W) := by simpa using newbox hbx0 0
    have a1 : wv.cell? ⟨w.heap.size, 1, none⟩ = some (.int .i64 H) := by simpa using newbox hbx0 1
    have a2 : wv.cell? ⟨w.heap.size, 2, none⟩ = some (.slice A n c) := by simpa using newbox hbx0 2
    have al : w.heap.size < wv.heap.size := by simpa using newbox_lt hbx0
    have l0 : wv.cell? ⟨w.heap.size + 1, 0, none⟩ = some (.int .i64 a) := by simpa using newbox hb 0
    have l1 : wv.cell? ⟨w.heap.size + 1, 1, none⟩ = some (.int .i64 b) := by simpa using newbox hb 1
    have ll : w.heap.size + 1 < wv.heap.size := by simpa using newbox_lt hb
    have B := Lib.hid (below_box hbx0)
    clear hb hbx0
    go_wp2
    go_ret2
    exact ⟨none, 0, 0, by rw [show okTwo W H xs a b = false by (rw [← onB_nilT, ho'])]; rfl, by rw [sidesV, if_neg (by rw [show okTwo W H xs a b = false by (rw [← onB_nilT, ho'])]; simp)]; exact OwnSS.of (PartsAt.none_ _ _ 0), B.out⟩

theorem sidesV_small (W H : Int) (xs : List Int) (a b : Int) : (sidesV W H xs a b).length ≤ 64 ∧ ∀ p ∈ sidesV W H xs a b, p.length ≤ 64 := by
  unfold sidesV
  split
  · rename_i h
    have hF := on_facts h
    have h1 := partsTo_len W H xs a b (cellsL W H xs).length
    have h2 := cellsTo_len (W := W) (H := H) (hs := xs) (W * H).toNat
    have h3 := hF.n
    have h4 := hF.wh
    have eP : partsTo W H xs a b (cellsL W H xs).length = partsL W H xs a b := by rw [partsTo, List.take_length]; rfl
    rw [eP] at h1
    refine ⟨by rw [List.length_map]; unfold cellsL at h1; omega, fun p hp => ?_⟩
    obtain ⟨q, _, rfl⟩ := List.mem_map.1 hp
    simp [rowT]
  · exact ⟨by simp, fun p hp => by simp at hp⟩

end Go.Proofs.YtbpgkigoboobeaaGreat

namespace Go.Proofs.YtbpgkigoboobeaaGreat
open Go.RowKit

set_option maxHeartbeats 4000000 in
set_option maxRecDepth 100000 in
theorem law_SidesOfParts (w : World) (V0 G0 : Int) (A0 : Option Addr) (n0 c0 : Nat) (xs0 : List Int) (ha0 : Rd w A0 n0 xs0) (la1 lb1 : Int) :
    Calls Tryz.prog 3 #[brd V0 G0 A0 n0 c0, lpr la1 lb1] w fun e w' => e = .returned (.bool true) ∧ Below w.heap.size w w' := by
  have hn9 := ha0.2.1
  by_cases hnB : (n0 : Int) ≤ 1048576
  rotate_left
  · go_enter Tryz.func3, Tryz.ntmps3
    go_wp2_with fail
    refine (szBoard_any _ _ _ _ _ _ _ hn9 (by omega) (by omega)).mono ?_
    rintro e wv ⟨rfl, hb⟩
    have B := Lib.hid (below_box (below_box hb))
    clear hb
    go_wp2
    go_ret
    exact ⟨rfl, B.out⟩
  · go_enter Tryz.func3, Tryz.ntmps3
    go_wp2_with fail
    refine (szBoard_any _ _ _ _ _ _ _ hn9 (by omega) (by omega)).mono ?_
    rintro e wv ⟨rfl, hb⟩
    have hbx0 := below_box hb
    have a0 : wv.cell? ⟨w.heap.size, 0, none⟩ = some (.int .i64 V0) := by simpa using newbox hbx0 0
    have a1 : wv.cell? ⟨w.heap.size, 1, none⟩ = some (.int .i64 G0) := by simpa using newbox hbx0 1
    have a2 : wv.cell? ⟨w.heap.size, 2, none⟩ = some (.slice A0 n0 c0) := by simpa using newbox hbx0 2
    have al : w.heap.size < wv.heap.size := by simpa using newbox_lt hbx0
    have l0 : wv.cell? ⟨w.heap.size + 1, 0, none⟩ = some (.int .i64 la1) := by simpa using newbox hb 0
    have l1 : wv.cell? ⟨w.heap.size + 1, 1, none⟩ = some (.int .i64 lb1) := by simpa using newbox hb 1
    have ll : w.heap.size + 1 < wv.heap.size := by simpa using newbox_lt hb
    have B := Lib.hid (below_box hbx0)
    have hs1 := Lib.hid (below_box hbx0).size
    have hz := Lib.hid ll
    clear hb hbx0
    go_wp2_with fail
    go_region_held3 (fun w' => w'.cell? ⟨w.heap.size, 0, none⟩ = some (.int .i64 V0) ∧ w'.cell? ⟨w.heap.size, 1, none⟩ = some (.int .i64 G0) ∧ w'.cell? ⟨w.heap.size, 2, none⟩ = some (.slice A0 n0 c0) ∧ w'.cell? ⟨w.heap.size + 1, 0, none⟩ = some (.int .i64 la1) ∧ w'.cell? ⟨w.heap.size + 1, 1, none⟩ = some (.int .i64 lb1)) (first | exact ⟨a0, a1, a2, l0, l1⟩)
      (first
        | (go_at_call 8; refine (toBoard_any _ _ _ _ _ _ _ (by exact (ha0.keep B.out).drew1) (by omega)).mono ?_; rintro e wv ⟨gs, rfl, owns, hb⟩; (try replace hb := below_undrew hb); replace a0 := cell_keep a0 al hb; replace a1 := cell_keep a1 al hb; replace a2 := cell_keep a2 al hb; replace al := lt_keep al hb; replace l0 := cell_keep l0 ll hb; replace l1 := cell_keep l1 ll hb; replace ll := lt_keep ll hb; (try replace Os := Lib.hid (Os.out.keep hb)); have hs2 := Lib.hid hb.size; replace B := Lib.hid (below_next B.out hb); have Os := Lib.hid owns; have SPs := Lib.hid owns.span; clear owns; clear hb)
        | (go_at_call 9; refine (toLeaper_any _ _ _).mono ?_; rintro e wv ⟨rfl, hb⟩; (try replace hb := below_undrew hb); replace a0 := cell_keep a0 al hb; replace a1 := cell_keep a1 al hb; replace a2 := cell_keep a2 al hb; replace al := lt_keep al hb; replace l0 := cell_keep l0 ll hb; replace l1 := cell_keep l1 ll hb; replace ll := lt_keep ll hb; (try replace Os := Lib.hid (Os.out.keep hb)); have hs3 := Lib.hid hb.size; replace B := Lib.hid (below_next B.out hb); clear hb)
        | (go_at_call 7; refine (spec_SidesOfParts _ _ _ _ _ _ _ _ _ (by exact Os.out.rd)).mono ?_; rintro e wv ⟨AW, nW, cW, rfl, ownW, hb⟩; (try replace hb := below_undrew hb); replace a0 := cell_keep a0 al hb; replace a1 := cell_keep a1 al hb; replace a2 := cell_keep a2 al hb; replace al := lt_keep al hb; replace l0 := cell_keep l0 ll hb; replace l1 := cell_keep l1 ll hb; replace ll := lt_keep ll hb; have hs4 := Lib.hid hb.size; replace B := Lib.hid (below_next B.out hb); have OW := Lib.hid ownW; clear ownW; clear hb))
    all_goals
      clear Os SPs
      go_wp2_with fail
      refine (toBoard_any _ _ _ _ _ _ _ (ha0.keep B.out) (by omega)).mono ?_
      rintro e wv ⟨gx, rfl, ownx, hb⟩
      replace a0 := cell_keep a0 al hb
      replace a1 := cell_keep a1 al hb
      replace a2 := cell_keep a2 al hb
      replace al := lt_keep al hb
      replace l0 := cell_keep l0 ll hb
      replace l1 := cell_keep l1 ll hb
      replace ll := lt_keep ll hb
      replace OW := Lib.hid (OW.out.keep hb)
      have hs5 := Lib.hid hb.size
      replace B := Lib.hid (below_next B.out hb)
      have Ox := Lib.hid ownx; have SPx := Lib.hid ownx.span; clear ownx; clear hb
      obtain ⟨wx, hwx⟩ : ∃ wx, wx = wv := ⟨_, rfl⟩
      subst hwx
      go_wp2_with fail
      have hb := Below.refl (wx.alloc (.cells #[.int .i64 V0, .int .i64 G0, .slice (some ⟨gx, 0, none⟩) n0 n0] 31)).heap.size (wx.alloc (.cells #[.int .i64 V0, .int .i64 G0, .slice (some ⟨gx, 0, none⟩) n0 n0] 31))
      have x0 : (wx.alloc (.cells #[.int .i64 V0, .int .i64 G0, .slice (some ⟨gx, 0, none⟩) n0 n0] 31)).cell? ⟨wx.heap.size, 0, none⟩ = some (.int .i64 V0) := by simp
      have x1 : (wx.alloc (.cells #[.int .i64 V0, .int .i64 G0, .slice (some ⟨gx, 0, none⟩) n0 n0] 31)).cell? ⟨wx.heap.size, 1, none⟩ = some (.int .i64 G0) := by simp
      have x2 : (wx.alloc (.cells #[.int .i64 V0, .int .i64 G0, .slice (some ⟨gx, 0, none⟩) n0 n0] 31)).cell? ⟨wx.heap.size, 2, none⟩ = some (.slice (some ⟨gx, 0, none⟩) n0 n0) := by simp
      have xl := newbox_lt hb
      have hzx := Lib.hid xl
      replace hb := below_box hb
      replace a0 := cell_keep a0 al hb
      replace a1 := cell_keep a1 al hb
      replace a2 := cell_keep a2 al hb
      replace al := lt_keep al hb
      replace l0 := cell_keep l0 ll hb
      replace l1 := cell_keep l1 ll hb
      replace ll := lt_keep ll hb
      replace OW := Lib.hid (OW.out.keep hb)
      replace Ox := Lib.hid (Ox.out.keep hb)
      have hs6 := Lib.hid hb.size
      replace B := Lib.hid (below_next B.out hb)
      clear hb
      have hx0 : gx < wx.heap.size := (SPx.out _ rfl).2
      generalize wx.alloc (.cells #[.int .i64 V0, .int .i64 G0, .slice (some ⟨gx, 0, none⟩) n0 n0] 31) = wv at *
      generalize hx : wx.heap.size = x at *
      go_wp2_with fail
      go_region_held3 (fun w' => w'.cell? ⟨w.heap.size, 0, none⟩ = some (.int .i64 V0) ∧ w'.cell? ⟨w.heap.size, 1, none⟩ = some (.int .i64 G0) ∧ w'.cell? ⟨w.heap.size, 2, none⟩ = some (.slice A0 n0 c0) ∧ w'.cell? ⟨w.heap.size + 1, 0, none⟩ = some (.int .i64 la1) ∧ w'.cell? ⟨w.heap.size + 1, 1, none⟩ = some (.int .i64 lb1) ∧ w'.cell? ⟨x, 0, none⟩ = some (.int .i64 V0) ∧ w'.cell? ⟨x, 1, none⟩ = some (.int .i64 G0) ∧ w'.cell? ⟨x, 2, none⟩ = some (.slice (some ⟨gx, 0, none⟩) n0 n0)) (first | exact ⟨a0, a1, a2, l0, l1, x0, x1, x2⟩)
        (first
          | (go_at_call 9; refine (toLeaper_any _ _ _).mono ?_; rintro e wv ⟨rfl, hb⟩; (try replace hb := below_undrew hb); replace a0 := cell_keep a0 al hb; replace a1 := cell_keep a1 al hb; replace a2 := cell_keep a2 al hb; replace al := lt_keep al hb; replace l0 := cell_keep l0 ll hb; replace l1 := cell_keep l1 ll hb; replace ll := lt_keep ll hb; replace x0 := cell_keep x0 xl hb; replace x1 := cell_keep x1 xl hb; replace x2 := cell_keep x2 xl hb; replace xl := lt_keep xl hb; replace OW := Lib.hid (OW.out.keep hb); replace Ox := Lib.hid (Ox.out.keep hb); have hs7 := Lib.hid hb.size; replace B := Lib.hid (below_next B.out hb); clear hb)
          | (go_at_call 10; refine (impl_SidesOfParts _ _ _ _ _ _ _ _ _ (by exact Ox.out.rd)).mono ?_; rintro e wv ⟨AG, nG, cG, rfl, ownG, hb⟩; (try replace hb := below_undrew hb); replace a0 := cell_keep a0 al hb; replace a1 := cell_keep a1 al hb; replace a2 := cell_keep a2 al hb; replace al := lt_keep al hb; replace l0 := cell_keep l0 ll hb; replace l1 := cell_keep l1 ll hb; replace ll := lt_keep ll hb; replace x0 := cell_keep x0 xl hb; replace x1 := cell_keep x1 xl hb; replace x2 := cell_keep x2 xl hb; replace xl := lt_keep xl hb; replace OW := Lib.hid (OW.out.keep hb); replace Ox := Lib.hid (Ox.out.keep hb); have hs8 := Lib.hid hb.size; replace B := Lib.hid (below_next B.out hb); have OG := Lib.hid ownG; clear ownG; clear hb))
      have PS := Lib.hid (sidesV_small V0 G0 xs0 la1 lb1)
      have PN := Lib.hid OG.out.len
      have SZ := Lib.hid (show nG ≤ 5000 by rw [← PN.out]; have := PS.out.1; omega)
      go_wp2_with fail
      refine (eqIntSS_any _ _ _ _ _ _ _ _ _ _ _ _ OG.out OW.out (by rw [← OG.out.len]; have := PS.out.1; omega)).mono ?_
      rintro e wv ⟨rfl, hb⟩
      replace a0 := cell_keep a0 al hb
      replace a1 := cell_keep a1 al hb
      replace a2 := cell_keep a2 al hb
      replace al := lt_keep al hb
      replace l0 := cell_keep l0 ll hb
      replace l1 := cell_keep l1 ll hb
      replace ll := lt_keep ll hb
      replace x0 := cell_keep x0 xl hb
      replace x1 := cell_keep x1 xl hb
      replace x2 := cell_keep x2 xl hb
      replace xl := lt_keep xl hb
      replace OW := Lib.hid (OW.out.keep hb)
      replace Ox := Lib.hid (Ox.out.keep hb)
      replace OG := Lib.hid (OG.out.keep hb)
      have hs9 := Lib.hid hb.size
      replace B := Lib.hid (below_next B.out hb)
      clear hb
      go_wp2_with fail
      go_region_held3 (fun w' => w'.cell? ⟨w.heap.size, 0, none⟩ = some (.int .i64 V0) ∧ w'.cell? ⟨w.heap.size, 1, none⟩ = some (.int .i64 G0) ∧ w'.cell? ⟨w.heap.size, 2, none⟩ = some (.slice A0 n0 c0) ∧ w'.cell? ⟨w.heap.size + 1, 0, none⟩ = some (.int .i64 la1) ∧ w'.cell? ⟨w.heap.size + 1, 1, none⟩ = some (.int .i64 lb1) ∧ w'.cell? ⟨x, 0, none⟩ = some (.int .i64 V0) ∧ w'.cell? ⟨x, 1, none⟩ = some (.int .i64 G0) ∧ w'.cell? ⟨x, 2, none⟩ = some (.slice (some ⟨gx, 0, none⟩) n0 n0)) (first | exact ⟨a0, a1, a2, l0, l1, x0, x1, x2⟩)
        (first
          | (go_at_call 8; refine (toBoard_any _ _ _ _ _ _ _ (by exact (ha0.keep B.out).drew1) (by omega)).mono ?_; rintro e wv ⟨gy, rfl, owny, hb⟩; (try replace hb := below_undrew hb); replace a0 := cell_keep a0 al hb; replace a1 := cell_keep a1 al hb; replace a2 := cell_keep a2 al hb; replace al := lt_keep al hb; replace l0 := cell_keep l0 ll hb; replace l1 := cell_keep l1 ll hb; replace ll := lt_keep ll hb; replace x0 := cell_keep x0 xl hb; replace x1 := cell_keep x1 xl hb; replace x2 := cell_keep x2 xl hb; replace xl := lt_keep xl hb; replace OW := Lib.hid (OW.out.keep hb); replace Ox := Lib.hid (Ox.out.keep hb); replace OG := Lib.hid (OG.out.keep hb); have hs10 := Lib.hid hb.size; replace B := Lib.hid (below_next B.out hb); have Oy := Lib.hid owny; have SPy := Lib.hid owny.span; clear owny; clear hb)
          | (go_at_call 12; refine (eqBoard_any _ _ _ _ _ _ _ _ _ _ _ Ox.out.rd Oy.out.rd).mono ?_; simp only [decide_true]; rintro e wv ⟨rfl, hb⟩; (try replace hb := below_undrew hb); replace a0 := cell_keep a0 al hb; replace a1 := cell_keep a1 al hb; replace a2 := cell_keep a2 al hb; replace al := lt_keep al hb; replace l0 := cell_keep l0 ll hb; replace l1 := cell_keep l1 ll hb; replace ll := lt_keep ll hb; replace x0 := cell_keep x0 xl hb; replace x1 := cell_keep x1 xl hb; replace x2 := cell_keep x2 xl hb; replace xl := lt_keep xl hb; replace OW := Lib.hid (OW.out.keep hb); replace Ox := Lib.hid (Ox.out.keep hb); replace OG := Lib.hid (OG.out.keep hb); have hs11 := Lib.hid hb.size; replace B := Lib.hid (below_next B.out hb); clear hb Oy SPy))
      go_wp2_with fail
      refine (markBoard_any _ _ _ _ _ _ 1 _ _ Ox.out (by omega) (by omega)).mono ?_
      rintro e wv ⟨rfl, Ox', hg⟩
      replace a0 := cell_mark a0 hg (row_ne fun b hb => by have := SPx.out b hb; have := hz.out; have := hzx.out; have := hs1.out; have := hs2.out; have := hs3.out; have := hs4.out; have := hs5.out; have := hs6.out; have := hs7.out; have := hs8.out; have := hs9.out; have := hs10.out; have := hs11.out; omega)
      replace a1 := cell_mark a1 hg (row_ne fun b hb => by have := SPx.out b hb; have := hz.out; have := hzx.out; have := hs1.out; have := hs2.out; have := hs3.out; have := hs4.out; have := hs5.out; have := hs6.out; have := hs7.out; have := hs8.out; have := hs9.out; have := hs10.out; have := hs11.out; omega)
      replace a2 := cell_mark a2 hg (row_ne fun b hb => by have := SPx.out b hb; have := hz.out; have := hzx.out; have := hs1.out; have := hs2.out; have := hs3.out; have := hs4.out; have := hs5.out; have := hs6.out; have := hs7.out; have := hs8.out; have := hs9.out; have := hs10.out; have := hs11.out; omega)
      replace al := Nat.lt_of_lt_of_le al hg.size
      replace l0 := cell_mark l0 hg (row_ne fun b hb => by have := SPx.out b hb; have := hz.out; have := hzx.out; have := hs1.out; have := hs2.out; have := hs3.out; have := hs4.out; have := hs5.out; have := hs6.out; have := hs7.out; have := hs8.out; have := hs9.out; have := hs10.out; have := hs11.out; omega)
      replace l1 := cell_mark l1 hg (row_ne fun b hb => by have := SPx.out b hb; have := hz.out; have := hzx.out; have := hs1.out; have := hs2.out; have := hs3.out; have := hs4.out; have := hs5.out; have := hs6.out; have := hs7.out; have := hs8.out; have := hs9.out; have := hs10.out; have := hs11.out; omega)
      replace ll := Nat.lt_of_lt_of_le ll hg.size
      replace x0 := cell_mark x0 hg (row_ne fun b hb => by have := SPx.out b hb; have := hz.out; have := hzx.out; have := hs1.out; have := hs2.out; have := hs3.out; have := hs4.out; have := hs5.out; have := hs6.out; have := hs7.out; have := hs8.out; have := hs9.out; have := hs10.out; have := hs11.out; omega)
      replace x1 := cell_mark x1 hg (row_ne fun b hb => by have := SPx.out b hb; have := hz.out; have := hzx.out; have := hs1.out; have := hs2.out; have := hs3.out; have := hs4.out; have := hs5.out; have := hs6.out; have := hs7.out; have := hs8.out; have := hs9.out; have := hs10.out; have := hs11.out; omega)
      replace x2 := cell_mark x2 hg (row_ne fun b hb => by have := SPx.out b hb; have := hz.out; have := hzx.out; have := hs1.out; have := hs2.out; have := hs3.out; have := hs4.out; have := hs5.out; have := hs6.out; have := hs7.out; have := hs8.out; have := hs9.out; have := hs10.out; have := hs11.out; omega)
      replace xl := Nat.lt_of_lt_of_le xl hg.size
      replace OW := Lib.hid (OW.out.other hg fun g9 h91 h92 => row_ne fun b hb => by have := SPx.out b hb; have := hz.out; have := hzx.out; have := hs1.out; have := hs2.out; have := hs3.out; have := hs4.out; have := hs5.out; have := hs6.out; have := hs7.out; have := hs8.out; have := hs9.out; have := hs10.out; have := hs11.out; omega)
      replace OG := Lib.hid (OG.out.other hg fun g9 h91 h92 => row_ne fun b hb => by have := SPx.out b hb; have := hz.out; have := hzx.out; have := hs1.out; have := hs2.out; have := hs3.out; have := hs4.out; have := hs5.out; have := hs6.out; have := hs7.out; have := hs8.out; have := hs9.out; have := hs10.out; have := hs11.out; omega)
      replace B := Lib.hid (B.out.grown hg B.out.size (row_ge fun b hb => by have := SPx.out b hb; have := hz.out; have := hzx.out; have := hs1.out; have := hs2.out; have := hs3.out; have := hs4.out; have := hs5.out; have := hs6.out; have := hs7.out; have := hs8.out; have := hs9.out; have := hs10.out; have := hs11.out; omega))
      have hs12 := Lib.hid hg.size
      replace Ox := Lib.hid Ox'; clear Ox' hg
      go_wp2_with fail
      refine (eqIntSS_any _ _ _ _ _ _ _ _ _ _ _ _ OG.out OW.out (by rw [← OG.out.len]; have := PS.out.1; omega)).mono ?_
      rintro e wv ⟨rfl, hb⟩
      replace a0 := cell_keep a0 al hb
      replace a1 := cell_keep a1 al hb
      replace a2 := cell_keep a2 al hb
      replace al := lt_keep al hb
      replace l0 := cell_keep l0 ll hb
      replace l1 := cell_keep l1 ll hb
      replace ll := lt_keep ll hb
      replace x0 := cell_keep x0 xl hb
      replace x1 := cell_keep x1 xl hb
      replace x2 := cell_keep x2 xl hb
      replace xl := lt_keep xl hb
      replace OW := Lib.hid (OW.out.keep hb)
      replace Ox := Lib.hid (Ox.out.keep hb)
      replace OG := Lib.hid (OG.out.keep hb)
      have hs13 := Lib.hid hb.size
      replace B := Lib.hid (below_next B.out hb)
      clear hb
      go_wp2_with fail
      refine (markIntSS_any _ _ _ _ _ _ 1 _ OG.out PS.out.2 SZ.out (by omega)).mono ?_
      rintro e wv ⟨rfl, OG', hg⟩
      have hkk := markTo_bd (k0 := 1) PS.out.2 nG
      obtain ⟨kk, hk9⟩ : ∃ kk, kk = (markTo (sidesV V0 G0 xs0 la1 lb1) 1 nG).2 := ⟨_, rfl⟩
      rw [← hk9] at hkk ⊢
      have KK := Lib.hid hk9
      have hkk0 : decide (kk < 0) = false := by simp; omega
      clear hk9
      replace a0 := cell_in a0 hg al (by have := hz.out; have := hzx.out; have := hs1.out; have := hs2.out; have := hs3.out; have := hs4.out; have := hs5.out; have := hs6.out; have := hs7.out; have := hs8.out; have := hs9.out; have := hs10.out; have := hs11.out; have := hs12.out; have := hs13.out; omega)
      replace a1 := cell_in a1 hg al (by have := hz.out; have := hzx.out; have := hs1.out; have := hs2.out; have := hs3.out; have := hs4.out; have := hs5.out; have := hs6.out; have := hs7.out; have := hs8.out; have := hs9.out; have := hs10.out; have := hs11.out; have := hs12.out; have := hs13.out; omega)
      replace a2 := cell_in a2 hg al (by have := hz.out; have := hzx.out; have := hs1.out; have := hs2.out; have := hs3.out; have := hs4.out; have := hs5.out; have := hs6.out; have := hs7.out; have := hs8.out; have := hs9.out; have := hs10.out; have := hs11.out; have := hs12.out; have := hs13.out; omega)
      replace al := Nat.lt_of_lt_of_le al hg.size
      replace l0 := cell_in l0 hg ll (by have := hz.out; have := hzx.out; have := hs1.out; have := hs2.out; have := hs3.out; have := hs4.out; have := hs5.out; have := hs6.out; have := hs7.out; have := hs8.out; have := hs9.out; have := hs10.out; have := hs11.out; have := hs12.out; have := hs13.out; omega)
      replace l1 := cell_in l1 hg ll (by have := hz.out; have := hzx.out; have := hs1.out; have := hs2.out; have := hs3.out; have := hs4.out; have := hs5.out; have := hs6.out; have := hs7.out; have := hs8.out; have := hs9.out; have := hs10.out; have := hs11.out; have := hs12.out; have := hs13.out; omega)
      replace ll := Nat.lt_of_lt_of_le ll hg.size
      replace x0 := cell_in x0 hg xl (by have := hz.out; have := hzx.out; have := hs1.out; have := hs2.out; have := hs3.out; have := hs4.out; have := hs5.out; have := hs6.out; have := hs7.out; have := hs8.out; have := hs9.out; have := hs10.out; have := hs11.out; have := hs12.out; have := hs13.out; omega)
      replace x1 := cell_in x1 hg xl (by have := hz.out; have := hzx.out; have := hs1.out; have := hs2.out; have := hs3.out; have := hs4.out; have := hs5.out; have := hs6.out; have := hs7.out; have := hs8.out; have := hs9.out; have := hs10.out; have := hs11.out; have := hs12.out; have := hs13.out; omega)
      replace x2 := cell_in x2 hg xl (by have := hz.out; have := hzx.out; have := hs1.out; have := hs2.out; have := hs3.out; have := hs4.out; have := hs5.out; have := hs6.out; have := hs7.out; have := hs8.out; have := hs9.out; have := hs10.out; have := hs11.out; have := hs12.out; have := hs13.out; omega)
      replace xl := Nat.lt_of_lt_of_le xl hg.size
      replace OW := Lib.hid (OW.out.within hg (by have := hz.out; have := hzx.out; have := hs1.out; have := hs2.out; have := hs3.out; have := hs4.out; have := hs5.out; have := hs6.out; have := hs7.out; have := hs8.out; have := hs9.out; have := hs10.out; have := hs11.out; have := hs12.out; have := hs13.out; omega))
      replace Ox := Lib.hid (Ox.out.within hg (fun a ha => by have := SPx.out a ha; have := hz.out; have := hzx.out; have := hs1.out; have := hs2.out; have := hs3.out; have := hs4.out; have := hs5.out; have := hs6.out; have := hs7.out; have := hs8.out; have := hs9.out; have := hs10.out; have := hs11.out; have := hs12.out; have := hs13.out; omega))
      replace B := Lib.hid (below_within B.out hg (by have := hz.out; have := hzx.out; have := hs1.out; have := hs2.out; have := hs3.out; have := hs4.out; have := hs5.out; have := hs6.out; have := hs7.out; have := hs8.out; have := hs9.out; have := hs10.out; have := hs11.out; have := hs12.out; have := hs13.out; omega))
      have hs14 := Lib.hid hg.size
      replace OG := Lib.hid OG'; clear OG' hg
      go_wp2_with fail
      refine (heldIntSS_any _ _ _ _ _ (sidesV V0 G0 xs0 la1 lb1) 1 _ OG.out PS.out.2 SZ.out PN.out (by omega)).mono ?_
      rw [← KK.out]
      rintro e wv ⟨rfl, hb⟩
      replace a0 := cell_keep a0 al hb
      replace a1 := cell_keep a1 al hb
      replace a2 := cell_keep a2 al hb
      replace al := lt_keep al hb
      replace l0 := cell_keep l0 ll hb
      replace l1 := cell_keep l1 ll hb
      replace ll := lt_keep ll hb
      replace x0 := cell_keep x0 xl hb
      replace x1 := cell_keep x1 xl hb
      replace x2 := cell_keep x2 xl hb
      replace xl := lt_keep xl hb
      replace OW := Lib.hid (OW.out.keep hb)
      replace Ox := Lib.hid (Ox.out.keep hb)
      replace OG := Lib.hid (OG.out.keep hb)
      have hs15 := Lib.hid hb.size
      replace B := Lib.hid (below_next B.out hb)
      clear hb
      go_wp2_with fail
      go_region_held3 (fun w' => w'.cell? ⟨w.heap.size, 0, none⟩ = some (.int .i64 V0) ∧ w'.cell? ⟨w.heap.size, 1, none⟩ = some (.int .i64 G0) ∧ w'.cell? ⟨w.heap.size, 2, none⟩ = some (.slice A0 n0 c0) ∧ w'.cell? ⟨w.heap.size + 1, 0, none⟩ = some (.int .i64 la1) ∧ w'.cell? ⟨w.heap.size + 1, 1, none⟩ = some (.int .i64 lb1) ∧ w'.cell? ⟨x, 0, none⟩ = some (.int .i64 V0) ∧ w'.cell? ⟨x, 1, none⟩ = some (.int .i64 G0) ∧ w'.cell? ⟨x, 2, none⟩ = some (.slice (some ⟨gx, 0, none⟩) n0 n0)) (first | exact ⟨a0, a1, a2, l0, l1, x0, x1, x2⟩)
        (first
          | (go_at_call 8; refine (toBoard_any _ _ _ _ _ _ _ (by exact (ha0.keep B.out).drew1) (by omega)).mono ?_; rintro e wv ⟨gz, rfl, ownz, hb⟩; (try replace hb := below_undrew hb); replace a0 := cell_keep a0 al hb; replace a1 := cell_keep a1 al hb; replace a2 := cell_keep a2 al hb; replace al := lt_keep al hb; replace l0 := cell_keep l0 ll hb; replace l1 := cell_keep l1 ll hb; replace ll := lt_keep ll hb; replace x0 := cell_keep x0 xl hb; replace x1 := cell_keep x1 xl hb; replace x2 := cell_keep x2 xl hb; replace xl := lt_keep xl hb; replace OW := Lib.hid (OW.out.keep hb); replace Ox := Lib.hid (Ox.out.keep hb); replace OG := Lib.hid (OG.out.keep hb); (try replace Oz := Lib.hid (Oz.out.keep hb)); have hs16 := Lib.hid hb.size; replace B := Lib.hid (below_next B.out hb); have Oz := Lib.hid ownz; have SPz := Lib.hid ownz.span; clear ownz; clear hb)
          | (go_at_call 9; refine (toLeaper_any _ _ _).mono ?_; rintro e wv ⟨rfl, hb⟩; (try replace hb := below_undrew hb); replace a0 := cell_keep a0 al hb; replace a1 := cell_keep a1 al hb; replace a2 := cell_keep a2 al hb; replace al := lt_keep al hb; replace l0 := cell_keep l0 ll hb; replace l1 := cell_keep l1 ll hb; replace ll := lt_keep ll hb; replace x0 := cell_keep x0 xl hb; replace x1 := cell_keep x1 xl hb; replace x2 := cell_keep x2 xl hb; replace xl := lt_keep xl hb; replace OW := Lib.hid (OW.out.keep hb); replace Ox := Lib.hid (Ox.out.keep hb); replace OG := Lib.hid (OG.out.keep hb); (try replace Oz := Lib.hid (Oz.out.keep hb)); have hs17 := Lib.hid hb.size; replace B := Lib.hid (below_next B.out hb); clear hb)
          | (go_at_call 10; refine (impl_SidesOfParts _ _ _ _ _ _ _ _ _ (by exact Oz.out.rd)).mono ?_; rintro e wv ⟨AH, nH, cH, rfl, ownH, hb⟩; (try replace hb := below_undrew hb); replace a0 := cell_keep a0 al hb; replace a1 := cell_keep a1 al hb; replace a2 := cell_keep a2 al hb; replace al := lt_keep al hb; replace l0 := cell_keep l0 ll hb; replace l1 := cell_keep l1 ll hb; replace ll := lt_keep ll hb; replace x0 := cell_keep x0 xl hb; replace x1 := cell_keep x1 xl hb; replace x2 := cell_keep x2 xl hb; replace xl := lt_keep xl hb; replace OW := Lib.hid (OW.out.keep hb); replace Ox := Lib.hid (Ox.out.keep hb); replace OG := Lib.hid (OG.out.keep hb); have hs18 := Lib.hid hb.size; replace B := Lib.hid (below_next B.out hb); have OH := Lib.hid ownH; clear ownH; clear hb))
      all_goals
        clear Oz SPz
        go_wp2_with fail
        refine (eqIntSS_any _ _ _ _ _ _ _ _ _ _ _ _ OH.out OW.out (by rw [← OH.out.len]; have := PS.out.1; omega)).mono ?_
        rintro e wv ⟨rfl, hb⟩
        replace a0 := cell_keep a0 al hb
        replace a1 := cell_keep a1 al hb
        replace a2 := cell_keep a2 al hb
        replace al := lt_keep al hb
        replace l0 := cell_keep l0 ll hb
        replace l1 := cell_keep l1 ll hb
        replace ll := lt_keep ll hb
        replace x0 := cell_keep x0 xl hb
        replace x1 := cell_keep x1 xl hb
        replace x2 := cell_keep x2 xl hb
        replace xl := lt_keep xl hb
        replace OW := Lib.hid (OW.out.keep hb)
        replace Ox := Lib.hid (Ox.out.keep hb)
        replace OG := Lib.hid (OG.out.keep hb)
        have hs19 := Lib.hid hb.size
        replace B := Lib.hid (below_next B.out hb)
        clear hb OH
        go_wp2_with fail
        refine (heldIntSS_any _ _ _ _ _ (sidesV V0 G0 xs0 la1 lb1) 1 _ OG.out PS.out.2 SZ.out PN.out (by omega)).mono ?_
        rw [← KK.out]
        rintro e wv ⟨rfl, hb⟩
        replace a0 := cell_keep a0 al hb
        replace a1 := cell_keep a1 al hb
        replace a2 := cell_keep a2 al hb
        replace al := lt_keep al hb
        replace l0 := cell_keep l0 ll hb
        replace l1 := cell_keep l1 ll hb
        replace ll := lt_keep ll hb
        replace x0 := cell_keep x0 xl hb
        replace x1 := cell_keep x1 xl hb
        replace x2 := cell_keep x2 xl hb
        replace xl := lt_keep xl hb
        replace OW := Lib.hid (OW.out.keep hb)
        replace Ox := Lib.hid (Ox.out.keep hb)
        replace OG := Lib.hid (OG.out.keep hb)
        have hs20 := Lib.hid hb.size
        replace B := Lib.hid (below_next B.out hb)
        clear hb
        go_wp2
        go_ret
        exact ⟨rfl, B.out⟩

end Go.Proofs.YtbpgkigoboobeaaGreat
