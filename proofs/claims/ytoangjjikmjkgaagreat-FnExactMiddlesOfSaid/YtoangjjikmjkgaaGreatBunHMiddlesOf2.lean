/-
  Rows of booleans, rows of slices: memory words of no law (split from P1: imports no chapter 2).
  Parts, in plain terms: the first cell that no part has begins the next one.
  Memory words and plain facts for parts of a board: rows of booleans, rows of slices.
  Contracts: the parts of a board, in the model.
  A map from ints whose keys are known; slices.Sorted(maps.Keys(on)): the cells that are there.
  Contracts: leaps onward, as a map whose keys are the cells.
  Contracts: the parts, in the program.
  Contracts: the parts of a board, in the program.
  Contracts: IsWhole.
  Contracts: WidthOf.
  Middles of a board, in plain terms.
  Contracts: MiddlesOf.
  Sizes of what is handed back: middles.
  The walk of the exact law on MiddlesOf: it answers true, and what was there stays.
-/
import Derived.Test.YtoangjjikmjkgaaGreatMap1
import Derived.Test.YtoangjjikmjkgaaGreatApp
import Derived.Test.YtoangjjikmjkgaaGreatB4
import Derived.Test.YtoangjjikmjkgaaGreatBunHMiddlesOf1
import Derived.Test.YtoangjjikmjkgaaGreatT2a
import Derived.Test.YtoangjjikmjkgaaGreatIter
import Derived.Test.YtoangjjikmjkgaaGreatShelf
import Derived.Maps.OwnSet
import Derived.TacticsInMore
import Derived.Test.YtoangjjikmjkgaaGreatS10
import Derived.Test.YtoangjjikmjkgaaGreatLaw0
namespace Go.Proofs.YtoangjjikmjkgaaGreat
open Go.RowKit

/-! ### A row of booleans that the call owns -/
def OwnB (E : TypeId) (w : World) (lo : Nat) (A : Option Addr) (n c : Nat) (xs : List Bool) : Prop := w.ownsRow lo E 1 (.slice A n c) n (xs.map Value.bool)
section
variable {E : TypeId} {w w' : World} {lo : Nat} {A : Option Addr} {n c : Nat} {xs : List Bool}
theorem OwnB.len (h : OwnB E w lo A n c xs) : xs.length = n := by simpa [OwnB] using h.1
theorem OwnB.cell {g k : Nat} {x : Bool} (h : OwnB E w lo (some ⟨g, 0, none⟩) n c xs) (hx : xs[k]? = some x) : w.cell? ⟨g, k, none⟩ = some (.bool x) := by
  have hl := h.len
  have hk : k < n := by
    rcases Nat.lt_or_ge k xs.length with h' | h'
    · omega
    · rw [List.getElem?_eq_none h'] at hx; cases hx
  rw [World.ownsRow.cellAt h k (by omega), List.getElem?_map, hx]; rfl
theorem OwnB.frozen {g : Nat} (h : OwnB E w lo (some ⟨g, 0, none⟩) n c xs) (k : Nat) : w.frozen? ⟨g, k, none⟩ = false := World.ownsRow.frozenAt h k
theorem OwnB.stored {g : Nat} (h : OwnB E w lo (some ⟨g, 0, none⟩) n c xs) (k : Nat) (x : Bool) :
    OwnB E (w.setCell ⟨g, k, none⟩ (.bool x)) lo (some ⟨g, 0, none⟩) n c (xs.set k x) ∧ w.grownBy (w.setCell ⟨g, k, none⟩ (.bool x)) (some g) := by
  have := World.ownsRow.stored h k (.bool x)
  rw [← List.map_set] at this
  exact this
theorem OwnB.keep (h : OwnB E w lo A n c xs) (hb : Below w.heap.size w w') : OwnB E w' lo A n c xs := by
  refine ⟨h.1, ?_⟩
  rcases h.2 with hn | ⟨g, cap, cur, hv, hlo, hg, r⟩
  · exact .inl hn
  · exact .inr ⟨g, cap, cur, hv, hlo, (hb.block g (Array.getElem?_eq_some_iff.1 hg).1).trans hg, r⟩
theorem OwnB.other {row : Option Nat} (h : OwnB E w lo A n c xs) (hg : w.grownBy w' row) (hne : ∀ a, A = some a → some a.block ≠ row) : OwnB E w' lo A n c xs := by
  refine ⟨h.1, ?_⟩
  rcases h.2 with hn | ⟨g, cap, cur, hv, hlo, hgg, r⟩
  · exact .inl hn
  · refine .inr ⟨g, cap, cur, hv, hlo, ?_, r⟩
    injection hv with h1
    rw [hg.block g (Array.getElem?_eq_some_iff.1 hgg).1 (hne _ h1)]
    exact hgg
end
theorem infoBl : (Tryz.prog.info? 4).map (fun i => (i.zero, i.size, i.bytes)) = some (some (.bool false), 1, 1) := by kernel_rfl
/-- f 0, f 1, .. : N of them. -/
def boolRow (f : Nat → Bool) (N : Nat) : List Bool := (List.range N).map f
theorem boolRow_at {f : Nat → Bool} {N i : Nat} (h : i < N) : (boolRow f N)[i]? = some (f i) := by simp [boolRow, h]
theorem boolRow_congr {f g : Nat → Bool} {N : Nat} (h : ∀ i, i < N → f i = g i) : boolRow f N = boolRow g N := by
  apply List.map_congr_left; intro i hi; exact h i (List.mem_range.1 hi)
theorem boolRow_set (f : Nat → Bool) (N k : Nat) (b : Bool) : (boolRow f N).set k b = boolRow (fun i => if i = k then b else f i) N := by
  apply List.ext_getElem?
  intro i
  rw [List.getElem?_set]
  by_cases hi : i < N
  · by_cases e : k = i
    · subst e; rw [if_pos rfl, if_pos (by simpa [boolRow] using hi), boolRow_at hi, if_pos rfl]
    · rw [if_neg e, boolRow_at hi, boolRow_at hi, if_neg (fun h => e h.symm)]
  · rw [List.getElem?_eq_none (by simpa [boolRow] using hi), List.getElem?_eq_none (by simpa [boolRow] using hi)]
    split
    · rw [if_neg (by simp [boolRow]; omega)]
    · rfl

/-! ### Blocks that are told apart by what they hold -/
theorem row_block {w : World} {lo : Nat} {E : TypeId} {k : Nat} {a : Addr} {n c : Nat} {xs : List Value} (h : w.ownsRow lo E k (.slice (some a) n c) n xs) : ∃ cur, w.heap[a.block]? = some (.cells cur E (0, 0)) := by
  rcases h.2 with ⟨hv, _⟩ | ⟨g, cap, cur, hv, _, hg, _⟩
  · cases hv
  · injection hv with h1
    injection h1 with h1
    subst h1
    exact ⟨cur, hg⟩
theorem rows_apart {w : World} {lo lo' : Nat} {E E' : TypeId} {k k' : Nat} {a a' : Addr} {n c n' c' : Nat} {xs ys : List Value} (hne : E ≠ E') (h : w.ownsRow lo E k (.slice (some a) n c) n xs) (h' : w.ownsRow lo' E' k' (.slice (some a') n' c') n' ys) : a.block ≠ a'.block := by
  obtain ⟨c1, h1⟩ := row_block h
  obtain ⟨c2, h2⟩ := row_block h'
  intro e
  rw [e, h2] at h1
  injection h1 with h1
  injection h1 with _ h1 _
  exact hne h1.symm
theorem map_apart {w : World} {lo : Nat} {E : TypeId} {k : Nat} {a : Addr} {n c : Nat} {xs : List Value} {P : Program} {kt : TypeId} {mb m : Nat} {z : Value} {f : Int → Value} (h : w.ownsRow lo E k (.slice (some a) n c) n xs) (hm : MapI P kt w mb m z f) : a.block ≠ mb := by
  obtain ⟨c1, h1⟩ := row_block h
  obtain ⟨D, ⟨es, cl, h2, _⟩, _⟩ := hm
  intro e
  rw [e, h2] at h1
  cases h1

/-! ### A row of slices, each a row of its own -/
abbrev SlV := Option Addr × Nat × Nat
def encS (v : SlV) : List Value := [.slice v.1 v.2.1 v.2.2]
/-- The slice '.slice A n c' holds slices that read as the lists ps, each in a block of the call's own. -/
def PartsAt (w : World) (lo top : Nat) (A : Option Addr) (n c : Nat) (ps : List (List Int)) : Prop :=
  ∃ vs : List SlV, OwnK encS 1 22 w lo A n c vs ∧ ps.length = n ∧ (∀ (i : Nat) (v : SlV) (p : List Int), vs[i]? = some v → ps[i]? = some p → OwnI 3 w lo v.1 v.2.1 v.2.2 p) ∧
    (∀ (i j : Nat) (v u : SlV), i < j → vs[i]? = some v → vs[j]? = some u → ∀ x y, v.1 = some x → u.1 = some y → x.block < y.block) ∧
    ∀ (i : Nat) (v : SlV), vs[i]? = some v → ∀ x, v.1 = some x → x.block < top
theorem PartsAt.none_ (w : World) (lo top : Nat) : PartsAt w lo top none 0 0 [] := ⟨[], OwnK.none_ _ _ _ _ _, rfl, fun i v p h => by simp at h, fun i j v u _ h => by simp at h, fun i v h => by simp at h⟩
theorem PartsAt.other {w w' : World} {lo top : Nat} {A : Option Addr} {n c : Nat} {ps : List (List Int)} {row : Option Nat} (h : PartsAt w lo top A n c ps) (hg : w.grownBy w' row)
    (hA : ∀ a, A = some a → some a.block ≠ row) (hI : ∀ (a : Addr) (m k : Nat) (p : List Int), OwnI 3 w lo (some a) m k p → some a.block ≠ row) : PartsAt w' lo top A n c ps := by
  obtain ⟨vs, h1, h2, h3, h4, h5⟩ := h
  refine ⟨vs, h1.other hg hA, h2, fun i v p hv hp => (h3 i v p hv hp).other hg (fun a ha => ?_), h4, h5⟩
  have h5 := h3 i v p hv hp
  rw [ha] at h5
  exact hI a _ _ _ h5
theorem PartsAt.keep {w w' : World} {lo top : Nat} {A : Option Addr} {n c : Nat} {ps : List (List Int)} (h : PartsAt w lo top A n c ps) (hb : Below w.heap.size w w') : PartsAt w' lo top A n c ps :=
  h.other (grown_of_below hb none) (fun _ _ => by simp) (fun _ _ _ _ _ => by simp)
theorem PartsAt.lower {w : World} {lo lo' top : Nat} {A : Option Addr} {n c : Nat} {ps : List (List Int)} (h : PartsAt w lo top A n c ps) (hl : lo' ≤ lo) : PartsAt w lo' top A n c ps := by
  obtain ⟨vs, h1, h2, h3, h4, h5⟩ := h
  exact ⟨vs, h1.lower hl, h2, fun i v p hv hp => (h3 i v p hv hp).lower hl, h4, h5⟩
theorem PartsAt.len {w : World} {lo top : Nat} {A : Option Addr} {n c : Nat} {ps : List (List Int)} (h : PartsAt w lo top A n c ps) : ps.length = n := by obtain ⟨_, _, h, _⟩ := h; exact h
/-- A write into a row of booleans leaves it alone. -/
theorem PartsAt.bools {w w' : World} {lo lo' top : Nat} {A : Option Addr} {n c : Nat} {ps : List (List Int)} {gb m k : Nat} {bs : List Bool} (h : PartsAt w lo top A n c ps) (hB : OwnB 4 w lo' (some ⟨gb, 0, none⟩) m k bs) (hg : w.grownBy w' (some gb)) : PartsAt w' lo top A n c ps := by
  have h0 := h
  obtain ⟨vs, h1, _⟩ := h0
  refine h.other hg (fun a ha => ?_) (fun a m' k' p hp => ?_)
  · subst ha
    have := rows_apart (by decide : 22 ≠ 4) h1.2 hB
    simpa using this
  · have := rows_apart (by decide : 3 ≠ 4) hp hB
    simpa using this
/-- An update of a map leaves it alone. -/
theorem PartsAt.maps {w w' : World} {lo top : Nat} {A : Option Addr} {n c : Nat} {ps : List (List Int)} {P : Program} {kt : TypeId} {mb m : Nat} {z : Value} {f : Int → Value} (h : PartsAt w lo top A n c ps) (hM : MapI P kt w mb m z f) (hg : w.grownBy w' (some mb)) : PartsAt w' lo top A n c ps := by
  have h0 := h
  obtain ⟨vs, h1, _⟩ := h0
  refine h.other hg (fun a ha => ?_) (fun a m' k' p hp => ?_)
  · subst ha
    have := map_apart h1.2 hM
    simpa using this
  · have := map_apart hp hM
    simpa using this
theorem own_keepLo {E : TypeId} {k : Nat} {w w' : World} {lo L : Nat} {v : Value} {n : Nat} {xs : List Value} (h : w.ownsRow lo E k v n xs) (hb : Below L w w') (hL : ∀ b, v.ownBlock = some b → b < L) : w'.ownsRow lo E k v n xs := by
  refine ⟨h.1, ?_⟩
  rcases h.2 with hn | ⟨g, cap, cur, hv, hlo, hg, r⟩
  · exact .inl hn
  · exact .inr ⟨g, cap, cur, hv, hlo, (hb.block g (hL g (by rw [hv]; rfl))).trans hg, r⟩
theorem OwnB.keepLo {E : TypeId} {w w' : World} {lo L g n c : Nat} {xs : List Bool} (h : OwnB E w lo (some ⟨g, 0, none⟩) n c xs) (hb : Below L w w') (hL : g < L) : OwnB E w' lo (some ⟨g, 0, none⟩) n c xs :=
  own_keepLo h hb (fun b hb => by simp [Value.ownBlock] at hb; omega)
theorem PartsAt.keepLo {w w' : World} {lo top L : Nat} {A : Option Addr} {n c : Nat} {ps : List (List Int)} (h : PartsAt w lo top A n c ps) (hb : Below L w w') (hA : ∀ a, A = some a → a.block < L) (ht : top ≤ L) : PartsAt w' lo top A n c ps := by
  obtain ⟨vs, h1, h2, h3, h4, h5⟩ := h
  refine ⟨vs, ⟨h1.1, own_keepLo h1.2 hb (fun b hb => ?_)⟩, h2, fun i v p hv hp => own_keepLo (h3 i v p hv hp) hb (fun b hb => ?_), h4, h5⟩
  · rcases A with _ | a
    · simp [Value.ownBlock] at hb
    · simp [Value.ownBlock] at hb; rw [← hb]; exact hA a rfl
  · obtain ⟨v1, v2, v3⟩ := v
    rcases v1 with _ | a
    · simp [Value.ownBlock] at hb
    · simp [Value.ownBlock] at hb; have := h5 i _ hv a rfl; omega
theorem PartsAt.lt {w : World} {lo top : Nat} {A : Option Addr} {n c : Nat} {ps : List (List Int)} (h : PartsAt w lo top A n c ps) : ∀ a, A = some a → a.block < w.heap.size := fun a ha => by
  obtain ⟨vs, h1, _⟩ := h
  subst ha
  obtain ⟨cur, h⟩ := row_block h1.2
  exact (Array.getElem?_eq_some_iff.1 h).1
theorem grown_below {a b c : World} {row : Option Nat} (h : a.grownBy b row) (k : Below a.heap.size b c) : a.grownBy c row :=
  ⟨k.os.trans h.os, k.tape.trans h.tape, k.output.trans h.output, Nat.le_trans h.size k.size, fun i hi hne => (k.block i hi).trans (h.block i hi hne)⟩
/-- append of one slice, whose row lies behind all the others. -/
theorem wpList_appS {ops : Array Oper} {rest : List Oper} {o : Oper} {a : Act} {Q : Exit → Act → World → Prop} {w : World} (hgd : o.guard = none) (s x : Operand)
    (ho : o.op = .call { callee := .builtin .append, args := #[s, x], argTypes := #[38, 38] }) (lo top : Nat) (A : Option Addr) (n c : Nat) (ps : List (List Int)) (A3 : Option Addr) (n3 c3 : Nat) (p : List Int)
    (hs : a.eval s = .slice A n c) (hown : PartsAt w lo top A n c ps) (hp : OwnI 3 w lo A3 n3 c3 p) (hpn : ∀ y, A3 = some y → top ≤ y.block) (htop : top ≤ w.heap.size)
    (hx : a.eval x = .slice (some ⟨w.heap.size, 0, none⟩) 1 1)
    (hn : n ≤ 100000) (hlo : lo ≤ w.heap.size)
    (h : ∀ A' c' w', PartsAt w' lo w.heap.size A' (n + 1) c' (ps ++ [p]) → Below lo w w' → (∀ (gb lo' m k : Nat) (bs : List Bool), OwnB 4 w lo' (some ⟨gb, 0, none⟩) m k bs → OwnB 4 w' lo' (some ⟨gb, 0, none⟩) m k bs) →
      (∀ (P : Program) (kt : TypeId) (mb m : Nat) (z : Value) (f : Int → Value), MapI P kt w mb m z f → MapI P kt w' mb m z f) → (∀ (lo' : Nat) (a' : Addr) (m k : Nat) (q : List Int), OwnI 3 w lo' (some a') m k q → OwnI 3 w' lo' (some a') m k q) →
      wpList Tryz.prog ops Q rest (a.put o.dst (.slice A' (n + 1) c')) w') :
    wpList Tryz.prog ops Q (o :: rest) a (w.alloc (.cells #[.slice A3 n3 c3] 22)) := by
  obtain ⟨vs, h1, h2, h3, h4, h5⟩ := hown
  have hal : Below w.heap.size w (w.alloc (.cells #[.slice A3 n3 c3] 22)) := below_new (Below.refl _ _) _
  have hz : (Tryz.prog.info? 22).map (fun i => (i.zero, i.size, i.bytes)) = some (some (.slice none 0 0), 1, 24) := by kernel_rfl
  obtain ⟨i0, hi, hz0, hz1, hz2⟩ := info_parts hz
  refine wpList_appK (enc := encS) (k := 1) (E := 22) hgd s x 38 ho i0 (.slice none 0 0) 24 Tryz.underlying38 hi hz0 hz1 hz2 rfl (by decide) (by decide) (fun _ => rfl) (fun v u hu => ?_) [(A3, n3, c3)] ⟨w.heap.size, 0, none⟩ 1 1 hs (h1.keep hal) hx rfl (fun j u hj => ?_) (by omega) (by simp; omega) ?_
  · simp [encS] at hu; subst hu; rfl
  · match j, hj with
    | 0, hj =>
      simp [encS] at hj; subst hj
      exact cell_of_row (w.alloc (.cells #[.slice A3 n3 c3] 22)) w.heap.size 0 #[.slice A3 n3 c3] 22 (0, 0) (heap_alloc_new w _)
    | j + 1, hj => simp [encS] at hj
  · intro A' c' w' hK hgr hbl
    have hgw : w.grownBy w' (rowOf A) := grown_next (grown_of_below hal _) (by rcases A with _ | b <;> exact hgr)
    have keepI : ∀ (lo' : Nat) (a' : Addr) (m k : Nat) (q : List Int), OwnI 3 w lo' (some a') m k q → OwnI 3 w' lo' (some a') m k q := fun lo' a' m k q hq => hq.other hgw (fun a ha => by
      injection ha with ha
      subst ha
      rcases A with _ | b
      · simp [rowOf]
      · have := rows_apart (by decide : 3 ≠ 22) hq h1.2
        simpa [rowOf] using this)
    have keepN : ∀ (lo' : Nat) (v : Option Addr) (m k : Nat) (q : List Int), OwnI 3 w lo' v m k q → OwnI 3 w' lo' v m k q := fun lo' v m k q hq => by
      rcases v with _ | v
      · exact hq.other hgw (fun a ha => by cases ha)
      · exact keepI lo' v m k q hq
    refine h A' c' w' ⟨vs ++ [(A3, n3, c3)], hK, by rw [List.length_append, h2]; rfl, fun i v q hv hq => ?_, fun i j v u hij hv hu y z hy hz => ?_, fun i v hv y hy => ?_⟩ ((Below.refl _ _).alloc hlo _ |>.trans hbl) (fun gb lo' m k bs hB => hB.other hgw (fun a ha => ?_)) (fun P kt mb m z f hM => hM.other hgw ?_) keepI
    · have hvl : vs.length = n := h1.len
      by_cases e : i < n
      · rw [List.getElem?_append_left (by omega)] at hv
        rw [List.getElem?_append_left (by omega)] at hq
        exact keepN _ _ _ _ _ (h3 i v q hv hq)
      · rw [List.getElem?_append_right (by omega)] at hv
        rw [List.getElem?_append_right (by omega)] at hq
        have e0 : i - n = 0 := by
          rcases Nat.eq_zero_or_pos (i - n) with h | h
          · exact h
          · rw [hvl, List.getElem?_eq_none (by simp; omega)] at hv; cases hv
        rw [hvl, e0] at hv
        rw [h2, e0] at hq
        simp at hv hq
        subst hv; subst hq
        exact keepN _ _ _ _ _ hp
    · have hvl : vs.length = n := h1.len
      have hj : j < (vs ++ [(A3, n3, c3)]).length := (List.getElem?_eq_some_iff.1 hu).1
      rw [List.length_append, hvl] at hj
      simp only [List.length_cons, List.length_nil] at hj
      rw [List.getElem?_append_left (by omega)] at hv
      by_cases e : j < n
      · rw [List.getElem?_append_left (by omega)] at hu
        exact h4 i j v u hij hv hu y z hy hz
      · rw [List.getElem?_append_right (by omega), hvl, show j - n = 0 by omega] at hu
        simp at hu; subst hu
        have := h5 i v hv y hy
        have := hpn z hz
        omega
    · have hvl : vs.length = n := h1.len
      by_cases e : i < n
      · rw [List.getElem?_append_left (by omega)] at hv
        have := h5 i v hv y hy
        omega
      · have hj : i < (vs ++ [(A3, n3, c3)]).length := (List.getElem?_eq_some_iff.1 hv).1
        rw [List.length_append, hvl] at hj
        simp only [List.length_cons, List.length_nil] at hj
        rw [List.getElem?_append_right (by omega), hvl, show i - n = 0 by omega] at hv
        simp at hv; subst hv
        rcases hp.form with ⟨h, _⟩ | ⟨g, h, _, h2, _⟩
        · rw [h] at hy; cases hy
        · rw [h] at hy; injection hy with hy; rw [← hy]; exact h2
    · injection ha with ha
      subst ha
      rcases A with _ | b
      · simp [rowOf]
      · have := rows_apart (by decide : 4 ≠ 22) hB h1.2
        simpa [rowOf] using this
    · rcases A with _ | b
      · simp [rowOf]
      · have := map_apart h1.2 hM
        intro e; injection e with e; exact this e.symm

end Go.Proofs.YtoangjjikmjkgaaGreat

namespace Go.Proofs.YtoangjjikmjkgaaGreat
open Go.RowKit

def inParts (ps : List (List Int)) (x : Int) : Bool := ps.any fun p => p.contains x
def partStep (P : Int → List Int) (ps : List (List Int)) (c : Int) : List (List Int) := if inParts ps c = true then ps else ps ++ [P c]
def gTo (P : Int → List Int) (cells : List Int) (k : Nat) : List (List Int) := (cells.take k).foldl (partStep P) []
def gAll (P : Int → List Int) (cells : List Int) : List (List Int) := cells.foldl (partStep P) []
theorem inParts_app (ps : List (List Int)) (p : List Int) (x : Int) : inParts (ps ++ [p]) x = (inParts ps x || p.contains x) := by simp [inParts]
theorem gTo_yes {P : Int → List Int} {cells : List Int} {c : Int} {k : Nat} (hc : cells[k]? = some c) (h : inParts (gTo P cells k) c = true) : gTo P cells (k + 1) = gTo P cells k := by
  rw [gTo, take_foldl _ hc, partStep]; exact if_pos h
theorem gTo_no {P : Int → List Int} {cells : List Int} {c : Int} {k : Nat} (hc : cells[k]? = some c) (h : inParts (gTo P cells k) c = false) : gTo P cells (k + 1) = gTo P cells k ++ [P c] := by
  rw [gTo, take_foldl _ hc, partStep]; exact if_neg (by rw [show inParts ((cells.take k).foldl (partStep P) []) c = false from h]; simp)
theorem gTo_len (P : Int → List Int) (cells : List Int) : ∀ k, (gTo P cells k).length ≤ k
  | 0 => by simp [gTo]
  | k + 1 => by
    have ih := gTo_len P cells k
    cases hc : cells[k]? with
    | none =>
      have e : gTo P cells (k + 1) = gTo P cells k := by rw [gTo, gTo, List.take_add_one, hc]; simp
      rw [e]; omega
    | some c =>
      cases h : inParts (gTo P cells k) c with
      | true => rw [gTo_yes hc h]; omega
      | false => rw [gTo_no hc h, List.length_append]; simp; omega
theorem sel_contains {f : Nat → Bool} {N i : Nat} (h : i < N) : (selTo f N).contains (i : Int) = f i := by
  cases hf : f i with
  | true => rw [List.contains_iff_mem]; exact selTo_mem.2 ⟨i, h, hf, rfl⟩
  | false =>
    rw [← Bool.not_eq_true, List.contains_iff_mem]
    intro hm
    obtain ⟨j, _, hj, e⟩ := selTo_mem.1 hm
    rw [show j = i by omega, hf] at hj; cases hj
theorem take_contains {p : List Int} {j : Nat} {y x : Int} (hy : p[j]? = some y) : (p.take (j + 1)).contains x = (if x = y then true else (p.take j).contains x) := by
  rw [List.take_add_one, hy]
  by_cases e : x = y
  · subst e; simp
  · simp [e]

end Go.Proofs.YtoangjjikmjkgaaGreat

namespace Go.Proofs.YtoangjjikmjkgaaGreat
open Go.RowKit

/-! ### Parts, in plain terms -/
def partL (W H : Int) (xs : List Int) (a b c : Int) : List Int := selTo (nearB (distL W H xs a b c) 64) (W * H).toNat
def partsTo (W H : Int) (xs : List Int) (a b : Int) (k : Nat) : List (List Int) := ((cellsL W H xs).take k).foldl (partStep (partL W H xs a b)) []
def partsL (W H : Int) (xs : List Int) (a b : Int) : List (List Int) := (cellsL W H xs).foldl (partStep (partL W H xs a b)) []
theorem partsTo_yes {W H a b c : Int} {xs : List Int} {k : Nat} (hc : (cellsL W H xs)[k]? = some c) (h : inParts (partsTo W H xs a b k) c = true) : partsTo W H xs a b (k + 1) = partsTo W H xs a b k := by
  rw [partsTo, take_foldl _ hc, partStep]; exact if_pos h
theorem partsTo_no {W H a b c : Int} {xs : List Int} {k : Nat} (hc : (cellsL W H xs)[k]? = some c) (h : inParts (partsTo W H xs a b k) c = false) : partsTo W H xs a b (k + 1) = partsTo W H xs a b k ++ [partL W H xs a b c] := by
  rw [partsTo, take_foldl _ hc, partStep]; exact if_neg (by rw [show inParts (((cellsL W H xs).take k).foldl (partStep (partL W H xs a b)) []) c = false from h]; simp)
theorem partsTo_len (W H : Int) (xs : List Int) (a b : Int) : ∀ k, (partsTo W H xs a b k).length ≤ k
  | 0 => by simp [partsTo]
  | k + 1 => by
    have ih := partsTo_len W H xs a b k
    cases hc : (cellsL W H xs)[k]? with
    | none =>
      have e : partsTo W H xs a b (k + 1) = partsTo W H xs a b k := by rw [partsTo, partsTo, List.take_add_one, hc]; simp
      rw [e]; omega
    | some c =>
      cases h : inParts (partsTo W H xs a b k) c with
      | true => rw [partsTo_yes hc h]; omega
      | false => rw [partsTo_no hc h, List.length_append]; simp; omega
end Go.Proofs.YtoangjjikmjkgaaGreat

namespace Go.Proofs.YtoangjjikmjkgaaGreat
open Go.RowKit

theorem part_bd {W H a b c : Int} {xs : List Int} {N : Nat} (h : OnFacts W H xs a b N) (hp : hasB W H xs c = true) {x : Int} {i : Nat} (hx : (distL W H xs a b c)[i]? = some x) : nearB (distL W H xs a b c) 64 i = decide (0 ≤ x) := by
  have := dist_bd h hp x (List.mem_of_getElem? hx)
  rw [near_in hx, inB]
  by_cases h0 : 0 ≤ x
  · simp [h0]; omega
  · simp [h0]

set_option maxRecDepth 100000 in
set_option maxHeartbeats 4000000 in
theorem faParts_any (W H : Int) (A : Option Addr) (n c : Nat) (xs : List Int) (a b : Int) (N : Nat) (w : World) (ha : Rd w A n xs) (hF : OnFacts W H xs a b N) :
    Calls Tryz.prog 28 #[brd W H A n c, lpr a b] w fun e w' => ∃ A' n' c' top, e = .returned (.slice A' n' c') ∧ PartsAt w' w.heap.size top A' n' c' (partsL W H xs a b) ∧ Below w.heap.size w w' := by
  have hWH := hF.wh
  have HF := Lib.hid hF
  have n64 := hF.n.2
  have hN0 : (0 : Int) ≤ (N : Int) := by omega
  obtain ⟨hW, hH, _, _⟩ := goodB_iff.1 hF.g
  have HN := Lib.hid (cells_le hW hH)
  obtain ⟨i0, hi, hz0, hz1, hz2⟩ := info_parts infoI
  have HI := Lib.hid hi; have HZ0 := Lib.hid hz0; have HZ1 := Lib.hid hz1; have HZ2 := Lib.hid hz2
  obtain ⟨ib, hib, hy0, hy1, hy2⟩ := info_parts infoBl
  have HIB := Lib.hid hib; have HY0 := Lib.hid hy0; have HY1 := Lib.hid hy1; have HY2 := Lib.hid hy2
  clear hW hH hF hi hz0 hz1 hz2 hib hy0 hy1 hy2
  obtain ⟨W2, hW2⟩ : ∃ W2, W2 = (w.alloc (.cells #[.int .i64 W, .int .i64 H, .slice A n c] 30)).alloc (.cells #[.int .i64 a, .int .i64 b] 32) := ⟨_, rfl⟩
  have a0 : W2.cell? ⟨w.heap.size, 0, none⟩ = some (.int .i64 W) := by rw [hW2]; go_simp
  have a1 : W2.cell? ⟨w.heap.size, 1, none⟩ = some (.int .i64 H) := by rw [hW2]; go_simp
  have a2 : W2.cell? ⟨w.heap.size, 2, none⟩ = some (.slice A n c) := by rw [hW2]; go_simp
  have l0 : W2.cell? ⟨w.heap.size + 1, 0, none⟩ = some (.int .i64 a) := by rw [hW2]; go_simp
  have l1 : W2.cell? ⟨w.heap.size + 1, 1, none⟩ = some (.int .i64 b) := by rw [hW2]; go_simp
  have hsz : W2.heap.size = w.heap.size + 2 := by rw [hW2]; simp
  have B := Lib.hid (show Below w.heap.size w W2 by rw [hW2]; exact below_new (below_new (Below.refl _ _) _) _)
  have ga : w.heap.size < W2.heap.size := by omega
  have gl : w.heap.size + 1 < W2.heap.size := by omega
  go_enter Tryz.func28, Tryz.ntmps28
  go_wp2_with (at_make; refine wpList_make_full _ rfl _ _ 68 rfl w.heap.size 4 ib (.bool false) 1 Tryz.underlying68 HIB.out HY0.out HY1.out .i64 .i64 _ _ N rfl rfl rfl rfl (by rw [HY2.out]; omega) (by unfold maxLen; omega) (by simp; omega) ?_; intro w1 hown1 hg1; rw [← hW2] at hown1 hg1; have hb1 : Below W2.heap.size W2 w1 := below_of_grown hg1 (Nat.le_refl _) (by simp); replace a0 := cell_keep a0 ga hb1; replace a1 := cell_keep a1 ga hb1; replace a2 := cell_keep a2 ga hb1; replace l0 := cell_keep l0 gl hb1; replace l1 := cell_keep l1 gl hb1; replace ga := lt_keep ga hb1; replace gl := lt_keep gl hb1)
  have hO1 : OwnB 4 w1 w.heap.size (some ⟨w.heap.size + 1 + 1, 0, none⟩) N N (boolRow (fun _ => false) N) := by
    unfold OwnB
    rw [show N * 1 = N from by omega, hsz] at hown1
    have e : (madeCells (Value.cells (.bool false)) N).toList = List.replicate N (.bool false) := toList_madeCells_one (.bool false) N
    rw [e] at hown1
    have e2 : (boolRow (fun _ => false) N).map Value.bool = List.replicate N (.bool false) := by
      rw [boolRow, List.map_map, List.eq_replicate_iff]
      exact ⟨by simp, fun v hv => by obtain ⟨i, _, rfl⟩ := List.mem_map.1 hv; rfl⟩
    rw [e2]
    exact hown1
  obtain ⟨fb, hfb⟩ : ∃ fb, fb = w.heap.size + 1 + 1 := ⟨_, rfl⟩
  rw [← hfb] at hO1 ⊢
  replace B := Lib.hid (below_next B.out hb1)
  have SEEN := Lib.hid hO1
  have hfw : w.heap.size + 2 = fb := by omega
  have hfb2 : fb < w1.heap.size := by
    obtain ⟨cur, h⟩ := row_block hO1
    exact (Array.getElem?_eq_some_iff.1 h).1
  clear hfb hW2 hown1 hg1 hO1 hb1 hsz hWH
  refine (boCells_any W H A n c xs _ (ha.keep B.out) HN.out).mono ?_
  rintro e ws ⟨A1, n1, c1, rfl, hst, hb⟩
  replace a0 := cell_keep a0 ga hb; replace a1 := cell_keep a1 ga hb; replace a2 := cell_keep a2 ga hb; replace l0 := cell_keep l0 gl hb; replace l1 := cell_keep l1 gl hb; replace ga := lt_keep ga hb; replace gl := lt_keep gl hb
  replace SEEN := Lib.hid (SEEN.out.keep hb)
  have hs1 := hb.size
  have hfs : fb < ws.heap.size := lt_keep hfb2 hb
  replace B := Lib.hid (below_next B.out hb)
  have hBs := B.out.size
  have ST := Lib.hid hst.rd
  have SL := Lib.hid hst.len
  have n8 : n1 ≤ 64 := by have := cellsTo_len (W := W) (H := H) (hs := xs) (W * H).toNat; have := hst.len; have := HN.out; unfold cellsL at *; omega
  have hA1 : Hid (∀ y, A1 = some y → y.block ≠ fb) := Lib.hid (fun y hy => by
    subst hy
    exact rows_apart (by decide : 3 ≠ 4) hst SEEN.out)
  have n9 := hst.rd.2.1
  clear hst hb hfb2
  go_wp2
  go_loopw [6, 21] (fun v i wr => ∃ (k n' c' top : Nat) (A' : Option Addr), k ≤ n1 ∧ i = .int .i64 k ∧ v = .slice A' n' c' ∧ PartsAt wr ws.heap.size top A' n' c' (partsTo W H xs a b k) ∧ top ≤ wr.heap.size ∧ OwnB 4 wr w.heap.size (some ⟨fb, 0, none⟩) N N (boolRow (fun i => inParts (partsTo W H xs a b k) (i : Int)) N) ∧ ws.grownBy wr (some fb)) (fun _ i _ => n1 - (intOf i).toNat)
  case atStart => exact ⟨0, 0, 0, 0, none, by omega, rfl, rfl, PartsAt.none_ _ _ _, by omega, SEEN.out, grown_refl _ _⟩
  case round =>
    clear SEEN
    obtain ⟨k, n', c', top, A', hk, rfl, rfl, hpa, htop, hseen, hgw⟩ := hrel
    have hBw : Below w.heap.size w wr := B.out.trans (below_of_grown hgw hBs (fun g h => by injection h with h; omega))
    have hsw := hgw.size
    have hnp : n' ≤ 64 := by have := partsTo_len W H xs a b k; have := hpa.len; omega
    have PA := Lib.hid hpa; have SE := Lib.hid hseen
    by_cases hlt : k < n1
    · obtain ⟨bb, oo, x, rfl, hg1, hx, x0⟩ := ST.out.at_ hlt
      have hbm := hA1.out _ rfl
      simp only at hbm
      have hin := cellsL_mem.1 (List.mem_of_getElem? hx)
      have hxr := (hasB_iff.1 hin).1
      rw [HF.out.wh] at hxr
      obtain ⟨xn, rfl⟩ : ∃ xn : Nat, x = (xn : Int) := ⟨x.toNat, by omega⟩
      have hxn : xn < N := by omega
      have hx0 : (0 : Int) ≤ (xn : Int) := by omega
      have hx1 : (xn : Int) < (N : Int) := by omega
      have HX := Lib.hid hx; have HXI := Lib.hid hin
      replace x0 := hgw.cell x0 (by simp; omega)
      have b0 := hgw.cell a0 (by simp; omega); have b1 := hgw.cell a1 (by simp; omega); have b2 := hgw.cell a2 (by simp; omega); have m0 := hgw.cell l0 (by simp; omega); have m1 := hgw.cell l1 (by simp; omega)
      have HBW := Lib.hid hBw; have HGW := Lib.hid hgw
      have s0 : wr.cell? ⟨fb, xn, none⟩ = some (.bool (inParts (partsTo W H xs a b k) (xn : Int))) := hseen.cell (boolRow_at (f := fun i => inParts (partsTo W H xs a b k) (i : Int)) hxn)
      clear hx hin hxr hgw hBw hpa hseen
      cases hip : inParts (partsTo W H xs a b k) (xn : Int) with
      | true =>
        rw [hip] at s0
        have HIP := Lib.hid hip
        clear hip
        go_wp2
        go_roundw
        case rel =>
          have e := partsTo_yes HX.out HIP.out
          exact ⟨k + 1, n', c', top, A', by omega, by go_num, rfl, by rw [e]; exact PA.out, htop, by rw [e]; exact SE.out, HGW.out⟩
        case measure => simp [intOf]; omega
      | false =>
        rw [hip] at s0
        have HIP := Lib.hid hip
        clear hip
        go_wp2_with fail
        refine (faFrom_any W H A n c xs a b xn N _ (ha.keep HBW.out) HF.out.g HF.out.wh hxn).mono ?_
        rintro e wv ⟨g, rfl, own, hb⟩
        have eD : farL (leapsL W H xs a b) N (xn : Int) = distL W H xs a b (xn : Int) := by rw [distL, show (W * H).toNat = N by have := HF.out.wh; omega]
        rw [eD] at own
        have hbd : ∀ (i : Nat) (y : Int), (distL W H xs a b (xn : Int))[i]? = some y → nearB (distL W H xs a b (xn : Int)) 64 i = decide (0 ≤ y) := fun i y hy => part_bd HF.out HXI.out hy
        have hpl : selTo (nearB (distL W H xs a b (xn : Int)) 64) N = partL W H xs a b (xn : Int) := by rw [partL, show (W * H).toNat = N by have := HF.out.wh; omega]
        obtain ⟨D, hD⟩ : ∃ D, D = distL W H xs a b (xn : Int) := ⟨_, rfl⟩
        rw [← hD] at own hbd hpl
        have DLEN := Lib.hid own.len
        have hgf : g ≠ fb := rows_apart (by decide : 3 ≠ 4) own (SE.out.keep hb)
        have hgv : g < wv.heap.size := by obtain ⟨g9, h1, _, h2⟩ := own.some_ (k := 0) (by omega); injection h1 with h1; injection h1 with h1; omega
        have FAR := Lib.hid own; have HBD := Lib.hid hbd; have HPL := Lib.hid hpl
        replace PA := Lib.hid (PA.out.keep hb); replace SE := Lib.hid (SE.out.keep hb)
        have hvs := hb.size
        have hAv : Hid (∀ y, A' = some y → y.block < wv.heap.size) := Lib.hid PA.out.lt
        have htv : top ≤ wv.heap.size := by omega
        replace b0 := cell_keep b0 (by omega) hb; replace b1 := cell_keep b1 (by omega) hb; replace b2 := cell_keep b2 (by omega) hb; replace m0 := cell_keep m0 (by omega) hb; replace m1 := cell_keep m1 (by omega) hb
        have HGV := Lib.hid (grown_next HGW.out (grown_of_below hb (some fb)))
        clear hb own eD hbd hpl hD HGW x0 s0
        go_wp2
        go_loopw [9, 34] (fun v i wr => ∃ (j n9 c9 : Nat) (A9 : Option Addr), j ≤ N ∧ i = .int .i64 j ∧ v = .slice A9 n9 c9 ∧ OwnI 3 wr wv.heap.size A9 n9 c9 (selTo (nearB D 64) j) ∧ PartsAt wr ws.heap.size top A' n' c' (partsTo W H xs a b k) ∧ OwnB 4 wr w.heap.size (some ⟨fb, 0, none⟩) N N (boolRow (fun i => inParts (partsTo W H xs a b k) (i : Int) || (decide (i < j) && nearB D 64 i)) N) ∧ wv.grownBy wr (some fb)) (fun _ i _ => N - (intOf i).toNat)
        case atStart => exact ⟨0, 0, 0, none, by omega, rfl, rfl, OwnI.none_ _ _ _, PA.out, by rw [boolRow_congr (g := fun i => inParts (partsTo W H xs a b k) (i : Int)) (fun i _ => by simp)]; exact SE.out, grown_refl _ _⟩
        case round =>
          clear PA SE
          obtain ⟨j, n9, c9, A9, hj, rfl, rfl, hpt, hpa, hse, hgx⟩ := hrel
          have hsx := hgx.size
          by_cases hjl : j < N
          · obtain ⟨y, hy⟩ : ∃ y, D[j]? = some y := ⟨_, List.getElem?_eq_getElem (show j < D.length by have := DLEN.out; omega)⟩
            have y0 := hgx.cell (FAR.out.cell hy) (by simp; omega)
            have hnb := HBD.out j y hy
            have hn9 : n9 ≤ 64 := by have := selTo_len (nearB D 64) j; have := hpt.len; omega
            have hj0 : (0 : Int) ≤ (j : Int) := by omega
            have hj1 : (j : Int) < (N : Int) := by omega
            have PT := Lib.hid hpt; have HPA := Lib.hid hpa; have HSE := Lib.hid hse; have HGX := Lib.hid hgx
            clear hy hpt hpa hse hgx
            by_cases hy0 : 0 ≤ y
            · have hnb' : nearB D 64 j = true := by rw [hnb]; simpa using hy0
              have HNB := Lib.hid hnb'
              clear hnb hnb'
              have hlo : wv.heap.size ≤ wr.heap.size := hsx
              have hfw2 : fb < wv.heap.size := by omega
              obtain ⟨sv, hsv⟩ : ∃ sv, (boolRow (fun i : Nat => inParts (partsTo W H xs a b k) (i : Int) || (decide (i < j) && nearB D 64 i)) N)[j]? = some sv := ⟨_, boolRow_at hjl⟩
              have SV := Lib.hid hsv
              clear hsv
              go_wp2_with (at_builtin; refine wpList_app1 rfl (.tmp 41) (.tmp 43) 22 3 rfl i0 Tryz.underlying22 HI.out HZ0.out HZ1.out HZ2.out wv.heap.size A9 n9 c9 (selTo (nearB D 64) j) (j : Int) rfl PT.out rfl (by omega) hlo ?_; intro A5 c5 w5 hown5 hb5; have hse5 := HSE.out.keepLo hb5 hfw2; have s5 := hse5.cell SV.out; have f5 := hse5.frozen j)
              obtain ⟨o1, g1⟩ := hse5.stored j true
              rw [boolRow_set, boolRow_congr (g := fun i : Nat => inParts (partsTo W H xs a b k) (i : Int) || (decide (i < j + 1) && nearB D 64 i)) (fun i _ => by
                by_cases e : i = j
                · subst e; rw [if_pos rfl, HNB.out]; simp
                · rw [if_neg e, show decide (i < j + 1) = decide (i < j) by rw [decide_eq_decide]; omega])] at o1
              have SE6 := Lib.hid o1
              have PA6 := Lib.hid ((HPA.out.keepLo hb5 hAv.out htv).bools hse5 g1)
              have PT6 := Lib.hid (hown5.other g1 (fun a ha => by
                subst ha
                have := rows_apart (by decide : 3 ≠ 4) hown5 hse5
                simpa using this))
              have HG6 := Lib.hid (grown_next (grown_below HGX.out hb5) g1)
              clear hse5 o1 g1 hown5 hb5
              go_wp2
              go_roundw
              case rel => exact ⟨j + 1, n9 + 1, c5, A5, by omega, by go_num, rfl, by rw [selTo_yes HNB.out]; exact PT6.out, PA6.out, SE6.out, HG6.out⟩
              case measure => simp [intOf]; omega
            · have hnb' : nearB D 64 j = false := by rw [hnb]; simpa using hy0
              have HNB := Lib.hid hnb'
              clear hnb hnb'
              go_wp2
              go_roundw
              case rel => exact ⟨j + 1, n9, c9, A9, by omega, by go_num, rfl, by rw [selTo_no HNB.out]; exact PT.out, HPA.out, by
                rw [boolRow_congr (g := fun i => inParts (partsTo W H xs a b k) (i : Int) || (decide (i < j) && nearB D 64 i)) (fun i _ => by
                  by_cases e : i = j
                  · subst e; rw [HNB.out]; simp
                  · rw [show decide (i < j + 1) = decide (i < j) by rw [decide_eq_decide]; omega])]
                exact HSE.out, HGX.out⟩
              case measure => simp [intOf]; omega
          · obtain rfl : j = N := by omega
            have PT := Lib.hid (hpt.lower (show ws.heap.size ≤ wv.heap.size by omega)); have HPA := Lib.hid hpa; have HSE := Lib.hid hse; have HGX := Lib.hid hgx
            have hpn : Hid (∀ y, A9 = some y → top ≤ y.block) := Lib.hid (fun y hy => by
              rcases hpt.form with ⟨h, _⟩ | ⟨g9, h, h2, _⟩
              · rw [h] at hy; cases hy
              · rw [h] at hy; injection hy with hy; rw [← hy]; show top ≤ g9; omega)
            have htx : top ≤ wr.heap.size := by omega
            have hlo : ws.heap.size ≤ wr.heap.size := by omega
            clear hpt hpa hse hgx
            go_wp2_with (at_builtin; refine wpList_appS rfl (.tmp 49) (.tmp 51) rfl ws.heap.size top A' n' c' (partsTo W H xs a b k) A9 n9 c9 (selTo (nearB D 64) j) rfl HPA.out PT.out hpn.out htx rfl (by omega) hlo ?_; intro A7 c7 w7 hpa7 hb7 kB kM kI)
            have PA7 := Lib.hid hpa7
            have SE7 := Lib.hid (kB _ _ _ _ _ HSE.out)
            have HG7 := Lib.hid (grown_below (grown_next HGV.out HGX.out) hb7)
            have hs7 := hb7.size
            clear hpa7 hb7 kB kM kI
            go_wp2
            go_roundw
            case rel =>
              have e := partsTo_no HX.out HIP.out
              rw [HPL.out] at PA7
              refine ⟨k + 1, n' + 1, c7, wr.heap.size, A7, by omega, by go_num, rfl, by rw [e]; exact PA7.out, hs7, ?_, HG7.out⟩
              rw [e, boolRow_congr (g := fun i : Nat => inParts (partsTo W H xs a b k) (i : Int) || (decide (i < j) && nearB D 64 i)) (fun i hi => by rw [inParts_app, ← HPL.out, sel_contains hi, show decide (i < j) = true by simpa using hi]; simp)]
              exact SE7.out
            case measure => simp [intOf]; omega
    · obtain rfl : k = n1 := by omega
      have eP : partsTo W H xs a b k = partsL W H xs a b := by rw [partsTo, List.take_of_length_le (by have := SL.out; omega)]; rfl
      rw [eP] at PA
      have HBW := Lib.hid hBw
      clear hgw hBw hpa hseen SE
      go_wp2
      go_ret
      exact ⟨_, _, _, _, rfl, PA.out.lower (by omega), HBW.out⟩

end Go.Proofs.YtoangjjikmjkgaaGreat

namespace Go.Proofs.YtoangjjikmjkgaaGreat
open Go.RowKit Go.Maps Go.Sort Go.Shelf

/-- As MapI; ks tells which keys there are. -/
def MapK (P : Program) (k : TypeId) (w : World) (b n : Nat) (z : Value) (f : Int → Value) (ks : Int → Bool) : Prop :=
  ∃ D : DataW Value, w.ownsMap P k rawR b n D ∧ IsMap D ∧ (∀ x, D.atKey (.int .i64 x) (.held z) = .held (f x)) ∧ ∀ x, has D (.int .i64 x) = ks x

section
variable {P : Program} {k e t : TypeId} {w w' : World} {b n : Nat} {z : Value} {f : Int → Value} {ks : Int → Bool}
theorem MapK.map (h : MapK P k w b n z f ks) : MapI P k w b n z f := by obtain ⟨D, h1, h2, h3, _⟩ := h; exact ⟨D, h1, h2, h3⟩
theorem MapK.made (P : Program) (k : TypeId) (w : World) (z : Value) : MapK P k (w.alloc (.map #[] 0)) w.heap.size 0 z (fun _ => z) (fun _ => false) :=
  ⟨_, World.ownsMap_made _ _ _ _, isMap_empty, fun _ => rfl, fun _ => rfl⟩
theorem MapK.lt (h : MapK P k w b n z f ks) : b < w.heap.size := h.map.lt
theorem MapK.other {row : Option Nat} (h : MapK P k w b n z f ks) (hg : w.grownBy w' row) (hne : some b ≠ row) : MapK P k w' b n z f ks := by
  obtain ⟨D, h1, h2, h3⟩ := h
  exact ⟨D, h1.kept hg hne, h2, h3⟩
theorem MapK.keep (h : MapK P k w b n z f ks) (hb : Below w.heap.size w w') : MapK P k w' b n z f ks := h.other (grown_of_below hb none) (by simp)
theorem wpList_updateK {ops : Array Oper} {rest : List Oper} {o : Oper} {a : Act} {Q : Exit → Act → World → Prop}
    (hg : o.guard = none) (m x v : Operand) (hop : o.op = Op.mapUpdate t m x v) (hk : P.underlying k = some (.int .i64)) (ht : P.underlying t = some (.map k e))
    (hm : a.eval m = .map (some b)) (hown : MapK P k w b n z f ks) (hn : n < 1000000) (q : Int) (val : Value) (hx : a.eval x = .int .i64 q) (hv : a.eval v = val) (hq : (Lit.int .i64 q).wf = true)
    (hK : ∀ w', MapK P k w' b (n + 1) z (fun y => if y = q then val else f y) (fun y => if y = q then true else ks y) → w.grownBy w' (some b) → wpList P ops Q rest (a.put o.dst undef) w') :
    wpList P ops Q (o :: rest) a w := by
  obtain ⟨D, h1, h2, h3, h4⟩ := hown
  refine wpList_mapUpdate_own w hg m x v t hop k e (int_keyed hk) ht rawR b n D hm h1 (by unfold maxLen; omega) _ _ (.int .i64 q) hx hv (keyOf_int_mk hk hq) (.held val) [] rfl ?_
  intro w' hw hgr
  refine hK w' ⟨_, hw, h2.put _ _, fun y => ?_, fun y => ?_⟩ hgr
  · show _ = DataW.held (if y = q then val else f y)
    by_cases e : y = q
    · subst e
      rw [if_pos rfl]
      exact atKey_put_same h2 (by trivial) _ _
    · rw [if_neg e, atKey_put_other (fun h => e (by injection h)) _ _]
      exact h3 y
  · show _ = (if y = q then true else ks y)
    by_cases e : y = q
    · subst e
      rw [if_pos rfl]
      exact has_put_same h2 (by trivial) _
    · rw [if_neg e, has_put_other (fun h => e (by injection h)) _]
      exact h4 y
/-- What sorted keys are. -/
theorem sorted_keys {D : DataW Value} {R : Value → Option (DataW Value × List MemPlace)} (hown : w.ownsMap P k R b n D) (hk : P.underlying k = some (.int .i64)) {cells : List Int} (hc : cells.Pairwise (· < ·)) (hm : ∀ x, has D (.int .i64 x) = decide (x ∈ cells)) {ss : List Int} (hp : ss.Perm (intKeys D)) :
    ss.mergeSort (fun x y => decide (x ≤ y)) = cells := by
  obtain ⟨es, hD, hpw, _⟩ := hown.entries (int_keyed hk)
  obtain ⟨es', hD', hko⟩ := hown.keysOf
  obtain rfl : es = es' := by rw [hD] at hD'; simpa using hD'
  subst hD
  have hq : cells.Perm (intKeys (.map es)) := perm_intKeys hpw (fun p hp => by obtain ⟨v, hv⟩ := hko p hp; obtain ⟨x, _, hx, _⟩ := Maps.keyOf_i64 hk hv; exact ⟨x, hx⟩) (hc.imp (fun h => by omega)) (fun x => by rw [hm]; simp)
  rw [show (ss.mergeSort fun x y => decide (x ≤ y)) = cells.mergeSort (fun x y => decide (x ≤ y)) from mergeSort_of_perm_i (hp.trans hq.symm)]
  exact List.mergeSort_of_pairwise (hc.imp (fun h => by simp; omega))
end

/-- As OnMap; the map has just the cells. -/
def OnMapK (w : World) (lo mb : Nat) (cells : List Int) (adj : Int → List Int) : Prop :=
  lo ≤ mb ∧ ∃ (n : Nat) (f : Int → Value), n ≤ 144 ∧ MapK Tryz.prog 3 w mb n (.slice none 0 0) f (fun x => decide (x ∈ cells)) ∧ ∀ x ∈ cells, RowAt w lo mb (f x) (adj x)
theorem OnMapK.on {w : World} {lo mb : Nat} {cells : List Int} {adj : Int → List Int} (h : OnMapK w lo mb cells adj) : OnMap w lo mb cells adj := by
  obtain ⟨h0, n, f, h1, h2, h3⟩ := h
  exact ⟨h0, n, f, h1, h2.map, h3⟩
theorem OnMapK.keep {w w' : World} {lo mb : Nat} {cells : List Int} {adj : Int → List Int} (h : OnMapK w lo mb cells adj) (hb : Below w.heap.size w w') : OnMapK w' lo mb cells adj := by
  obtain ⟨h0, n, f, h1, h2, h3⟩ := h
  exact ⟨h0, n, f, h1, h2.keep hb, fun x hx => (h3 x hx).keep hb⟩

theorem sortsInts (m : Nat) : AnyZI.SortsIn Tryz.prog Tryz.sortedA_ren Fence.wide m :=
  ⟨fun blk off cap ss W hH hblk hsz => callsIn_wide.2 (Tryz.slices_Sort_int blk off cap ss W hH hblk hsz),
   fun p cap W => callsIn_wide.2 (Tryz.slices_Sort_int_none p cap W)⟩

set_option maxRecDepth 100000 in
set_option maxHeartbeats 1000000 in
theorem cells_any (lo mb : Nat) (cells : List Int) (adj : Int → List Int) (w : World) (h : OnMapK w lo mb cells adj) (hc : cells.Pairwise (· < ·)) :
    Calls Tryz.prog 51 #[.map (some mb)] w fun e w' => ∃ A' n' c', e = .returned (.slice A' n' c') ∧ OwnI 3 w' w.heap.size A' n' c' cells ∧ Below w.heap.size w w' := by
  obtain ⟨_, nn, f, hn, ⟨D, hown, hD, _, hks⟩, _⟩ := h
  refine (callsIn_wide (n := 6)).1 ?_
  have hbl := hown.lt
  have hsz := hown.size_le
  have hmax : Maps.size D ≤ maxLen := by unfold maxLen; omega
  have hbytes : Maps.size D * 8 ≤ 140737488355328 := by omega
  have hseq : SeqGives Fence.wide 2 Tryz.prog 80 #[.pointer (some ⟨w.heap.size, 0, none⟩)] encZ (fun ss => ss.Perm (intKeys D)) (Maps.size D) (w.alloc (.cells #[.map (some mb)] 53)) :=
    AnyZI.keys_gives (ρ := Tryz.keysA_ren) { Tryz.keysA with } Fence.wide _ trivial rfl (by omega) w.heap.size mb nn D _ (by simp) (by simp) (by
      obtain ⟨es, clock, hb, Ft, hs, hD⟩ := hown
      exact ⟨es, clock, (Below.heap_alloc _ _ mb hbl).trans hb, Ft, hs, hD⟩)
  have cK : ∀ mb W, CallsIn Fence.wide 5 Tryz.prog 67 #[.map mb] W fun e w' => e = .returned (.func (.func 80) #[] #[.pointer (some ⟨W.heap.size, 0, none⟩)]) ∧ w' = W.alloc (.cells #[.map mb] 53) := fun mb W => AnyZI.keys_in Tryz.keysA Fence.wide 5 trivial rfl mb W
  have cS := AnyZI.sorted_in Tryz.sortedA Fence.wide 5 trivial trivial trivial trivial rfl (by omega) (sortsInts _) (enters_of Tryz.func62 (by kernel_rfl) rfl) 80 #[.pointer (some ⟨w.heap.size, 0, none⟩)] trivial (enters_of Tryz.func80 (by kernel_rfl) rfl) _ _ hmax hbytes _ hseq
  change CallsIn _ _ Tryz.prog 66 _ _ _ at cS
  have hfK : Fence.wide.fn 67 := trivial
  have hfS : Fence.wide.fn 66 := trivial
  refine callsIn_of_wp Tryz.func51 rfl trivial ?_ rfl
  simp only [Tryz.ntmps51, List.size_toArray, List.length_cons, List.length_nil, Nat.reduceAdd, Nat.reduceSub, Array.replicate_succ, Array.replicate_zero, List.push_toArray, List.append_toArray, List.nil_append, List.cons_append]
  gi_wp2_with (first
    | (gi_at_call 67; refine (cK _ _).mono ?_; rintro e w' ⟨rfl, rfl⟩)
    | (gi_at_call 66; refine cS.mono ?_; rintro e w' ⟨v, ss, rfl, hS, hrow, hnil, hb⟩))
  go_ret
  rw [sorted_keys hown Tryz.underlying3 hc hks hS] at hrow
  have hlen : ss.length = cells.length := by have := hrow.1; simpa using this.symm
  rw [hlen] at hrow
  have hB : Below w.heap.size w w' := ((Below.refl _ w).alloc (Nat.le_refl _) _).trans (hb.mono (by simp))
  rcases hrow.2 with ⟨rfl, hz⟩ | ⟨g, cap, cur, rfl, _⟩
  · exact ⟨none, 0, 0, rfl, by rw [hz] at hrow; exact ownsRow_base_a hrow (by simp), hB⟩
  · exact ⟨_, _, _, rfl, ownsRow_base_a hrow (by simp), hB⟩

end Go.Proofs.YtoangjjikmjkgaaGreat

namespace Go.Proofs.YtoangjjikmjkgaaGreat
open Go.RowKit

theorem take_key {l : List Int} {k : Nat} {x : Int} (h : l[k]? = some x) : (fun y : Int => if y = x then true else decide (y ∈ l.take k)) = fun y => decide (y ∈ l.take (k + 1)) := by
  funext y
  rw [List.take_add_one, h]
  by_cases e : y = x
  · subst e; rw [if_pos rfl]; simp
  · rw [if_neg e, Bool.eq_iff_iff, decide_eq_true_eq, decide_eq_true_eq, List.mem_append]; simp [e]
theorem take_none (l : List Int) : (fun _ : Int => false) = fun y => decide (y ∈ l.take 0) := by funext y; simp

set_option maxRecDepth 100000 in
set_option maxHeartbeats 2000000 in
theorem onwardOfK_any (W H : Int) (A : Option Addr) (n c : Nat) (xs : List Int) (a b : Int) (w : World) (ha : Rd w A n xs) (hg : goodB W H xs = true) (hl : leaperB a b = true) :
    Calls Tryz.prog 31 #[brd W H A n c, lpr a b] w fun e w' => ∃ mb, e = .returned (.map (some mb)) ∧ OnMapK w' w.heap.size mb (cellsL W H xs) (leapsL W H xs a b) ∧ Below w.heap.size w w' := by
  have HL := Lib.hid hl
  clear hl
  obtain ⟨hW, hH, _, _⟩ := goodB_iff.1 hg
  have HW := Lib.hid hW; have HN := Lib.hid (cells_le hW hH)
  have HG := Lib.hid hg
  obtain ⟨i0, hi, hz0, hz1, hz2⟩ := info_parts infoI
  have HI := Lib.hid hi; have HZ0 := Lib.hid hz0; have HZ1 := Lib.hid hz1; have HZ2 := Lib.hid hz2
  clear hW hH hg hi hz0 hz1 hz2
  obtain ⟨W2, hW2⟩ : ∃ W2, W2 = ((w.alloc (.cells #[.int .i64 W, .int .i64 H, .slice A n c] 30)).alloc (.cells #[.int .i64 a, .int .i64 b] 32)).alloc (.map #[] 0) := ⟨_, rfl⟩
  have a0 : W2.cell? ⟨w.heap.size, 0, none⟩ = some (.int .i64 W) := by rw [hW2]; go_simp
  have a1 : W2.cell? ⟨w.heap.size, 1, none⟩ = some (.int .i64 H) := by rw [hW2]; go_simp
  have a2 : W2.cell? ⟨w.heap.size, 2, none⟩ = some (.slice A n c) := by rw [hW2]; go_simp
  have l0 : W2.cell? ⟨w.heap.size + 1, 0, none⟩ = some (.int .i64 a) := by rw [hW2]; go_simp
  have l1 : W2.cell? ⟨w.heap.size + 1, 1, none⟩ = some (.int .i64 b) := by rw [hW2]; go_simp
  have hsz : w.heap.size + 3 ≤ W2.heap.size := by rw [hW2]; simp
  have B := Lib.hid (show Below w.heap.size w W2 by rw [hW2]; exact below_new (below_new (below_new (Below.refl _ _) _) _) _)
  have R := Lib.hid (ha.keep B.out)
  have ga : w.heap.size < W2.heap.size := by omega
  have gl : w.heap.size + 1 < W2.heap.size := by omega
  have hmp : MapK Tryz.prog 3 W2 (w.heap.size + 2) 0 (.slice none 0 0) (fun _ => .slice none 0 0) (fun y => decide (y ∈ (cellsL W H xs).take 0)) := by
    rw [hW2, ← take_none]
    have := MapK.made Tryz.prog 3 ((w.alloc (.cells #[.int .i64 W, .int .i64 H, .slice A n c] 30)).alloc (.cells #[.int .i64 a, .int .i64 b] 32)) (.slice none 0 0)
    simpa using this
  have MP := Lib.hid hmp
  clear hmp
  have hmm := @run_makeMap Tryz.prog
  go_enter Tryz.func31, Tryz.ntmps31
  go_wp2_with fail
  rw [← hW2]
  obtain ⟨mb, hmb⟩ : ∃ mb, mb = w.heap.size + 1 + 1 := ⟨_, rfl⟩
  rw [show w.heap.size + 2 = mb by omega] at MP
  rw [← hmb]
  have hmb1 : w.heap.size + 2 ≤ mb := by omega
  have hmb2 : mb < W2.heap.size := by omega
  clear hW2 hmm hmb
  refine (cellsThere_any W H A n c xs _ R.out HG.out).mono ?_
  rintro e ws ⟨A1, n1, c1, rfl, hst, hb⟩
  replace a0 := cell_keep a0 ga hb; replace a1 := cell_keep a1 ga hb; replace a2 := cell_keep a2 ga hb; replace l0 := cell_keep l0 gl hb; replace l1 := cell_keep l1 gl hb; replace ga := lt_keep ga hb; replace gl := lt_keep gl hb; replace R := Lib.hid (R.out.keep hb)
  have hB0 := B.out.size
  replace B := Lib.hid (below_next B.out hb)
  have hs1 := hb.size
  have ST := Lib.hid hst.rd
  have SL := Lib.hid hst.len
  have n8 : n1 ≤ 64 := by have := cellsTo_len (W := W) (H := H) (hs := xs) (W * H).toNat; have := hst.len; have := HN.out; unfold cellsL at *; omega
  have hA1 : Hid (∀ y, A1 = some y → mb < y.block) := Lib.hid (fun y hy => by
    rcases hst.form with ⟨h, _⟩ | ⟨g, h, h2, _⟩
    · rw [h] at hy; cases hy
    · rw [h] at hy; injection hy with hy; rw [← hy]; show mb < g; omega)
  have hmlt : mb < ws.heap.size := by omega
  have n9 := hst.rd.2.1
  replace MP := Lib.hid (MP.out.keep hb)
  clear hst hb
  go_wp2
  go_loopw [12] (fun i wr => ∃ (k : Nat) (f : Int → Value), k ≤ n1 ∧ i = .int .i64 k ∧ MapK Tryz.prog 3 wr mb k (.slice none 0 0) f (fun y => decide (y ∈ (cellsL W H xs).take k)) ∧ (∀ x ∈ (cellsL W H xs).take k, RowAt wr w.heap.size mb (f x) (leapsL W H xs a b x)) ∧ ws.grownBy wr (some mb)) (fun i _ => n1 - (intOf i).toNat)
  case atStart => exact ⟨0, _, by omega, rfl, MP.out, by simp, grown_refl _ _⟩
  case round =>
    obtain ⟨k, f, hk, rfl, hm, hrows, hgw⟩ := hrel
    have hBw : Below w.heap.size w wr := B.out.trans (below_of_grown hgw (by omega) (fun g h => by injection h with h; omega))
    have HM := Lib.hid hm; have HR := Lib.hid hrows
    have HGW := Lib.hid hgw
    have hsw := hgw.size
    clear hm hrows
    by_cases hlt : k < n1
    · obtain ⟨bb, oo, x, rfl, hg1, hx, x0⟩ := ST.out.at_ hlt
      have hbm := hA1.out _ rfl
      simp only at hbm
      have HX := Lib.hid hx
      have hin := cellsL_mem.1 (List.mem_of_getElem? hx)
      have HXQ := Lib.hid (hasB_iff.1 hin).1
      have HXR := Lib.hid (range_of HN.out hin)
      replace x0 := hgw.cell x0 (by simp; omega)
      have b0 := hgw.cell a0 (by simp; omega); have b1 := hgw.cell a1 (by simp; omega); have b2 := hgw.cell a2 (by simp; omega); have m0 := hgw.cell l0 (by simp; omega); have m1 := hgw.cell l1 (by simp; omega)
      have RR := Lib.hid (ha.keep hBw)
      have HBW := Lib.hid hBw
      clear hx hin hgw hBw
      go_wp2_with fail
      refine (leapCells_any W H A n c xs a b x _ RR.out HG.out HL.out HXQ.out).mono ?_
      rintro e wv ⟨A3, n3, c3, rfl, hl3, hb⟩
      have hn3 : n3 ≤ 64 := by have := leapsL_len64 (W := W) (H := H) (xs := xs) (a := a) (b := b) (q := x) HN.out; have := hl3.len; omega
      have HL3 := Lib.hid hl3
      replace HM := Lib.hid (HM.out.keep hb)
      replace HR := Lib.hid (fun y hy => (HR.out y hy).keep hb)
      replace HGW := Lib.hid (grown_next HGW.out (grown_of_below hb (some mb)))
      have hsv := hb.size
      clear hl3 hb
      go_wp2_with (at_mapUpdate; refine wpList_updateK rfl (.tmp 16) (.tmp 17) (.tmp 21) rfl Tryz.underlying3 Tryz.underlying53 rfl HM.out (by omega) x (.slice A3 n3 c3) rfl rfl (wf_small ⟨HXR.out.1, by have := HXR.out.2; omega⟩) ?_; intro w2 hm2 hg2)
      have HM2 := Lib.hid hm2; have HG2 := Lib.hid hg2
      clear hm2 hg2
      go_wp2
      go_roundw
      case rel =>
        refine ⟨k + 1, _, by omega, by go_num, by rw [← take_key HX.out]; exact HM2.out, fun y hy => ?_, grown_next HGW.out HG2.out⟩
        rw [List.take_add_one, HX.out] at hy
        rcases List.mem_append.1 hy with hy | hy
        · have hne : y ≠ x := by
            have hp := cellsL_pairwise W H xs
            have hlen : k < (cellsL W H xs).length := by have := SL.out; omega
            rw [← List.take_append_drop k (cellsL W H xs), List.pairwise_append] at hp
            have hxd : x ∈ (cellsL W H xs).drop k := by
              rw [drop_cons_of HX.out]; exact List.mem_cons_self
            have := hp.2.2 y hy x hxd
            omega
          rw [if_neg hne]
          exact (HR.out y hy).other HG2.out
        · simp at hy
          subst hy
          rw [if_pos rfl]
          have hrow : RowAt _ w.heap.size mb (.slice A3 n3 c3) (leapsL W H xs a b y) := ⟨A3, n3, c3, rfl, HL3.out.rd, hn3, fun z hz => by
            rcases HL3.out.form with ⟨h, _⟩ | ⟨g, h, h2, h3, _⟩
            · rw [h] at hz; cases hz
            · rw [h] at hz; injection hz with hz; rw [← hz]; exact ⟨by show w.heap.size ≤ g; omega, h3, by show g ≠ mb; omega⟩⟩
          exact hrow.other HG2.out
      case measure => simp [intOf]; omega
    · have e2 : (cellsL W H xs).take k = cellsL W H xs := List.take_of_length_le (by have := SL.out; omega)
      have HBW := Lib.hid hBw
      have hk64 : k ≤ 64 := by omega
      have HRR := Lib.hid (show OnMapK wr w.heap.size mb (cellsL W H xs) (leapsL W H xs a b) from ⟨by omega, k, f, by omega, by have h := HM.out; rw [e2] at h; exact h, by rw [← e2]; exact HR.out⟩)
      clear e2 hBw hgw
      go_wp2
      go_ret
      exact ⟨mb, rfl, HRR.out, HBW.out⟩


end Go.Proofs.YtoangjjikmjkgaaGreat

namespace Go.Proofs.YtoangjjikmjkgaaGreat
open Go.RowKit

theorem zero_bool : ∀ w, (zeroValue 4).run Tryz.prog w = .ok (.bool false) w := fun _ => by kernel_rfl
def partG (adj : Int → List Int) (c : Int) : List Int := reachL (farL adj 144 c)
theorem partG_len (adj : Int → List Int) (c : Int) : (partG adj c).length ≤ 144 := by unfold partG reachL; exact selTo_len _ _
theorem partG_in {adj : Int → List Int} {c y : Int} (h : y ∈ partG adj c) : 0 ≤ y ∧ y ≤ 144 := by
  unfold partG reachL at h
  obtain ⟨i, hi, _, e⟩ := selTo_mem.1 h
  omega
theorem farG_bd {cells : List Int} {adj : Int → List Int} {c : Int} (hcl : ∀ x ∈ cells, 0 ≤ x ∧ x < 144) (hadj : ∀ x, ∀ y ∈ adj x, y ∈ cells) (hc : c ∈ cells) : (farL adj 144 c).length = 144 ∧ ∀ x ∈ farL adj 144 c, -1 ≤ x ∧ x ≤ 144 := by
  have h := bfs_ok (adj := adj) (N := 144) (start := c) (by have := hcl c hc; omega) (fun c _ x hx => by have := hcl x (hadj c x hx); omega) 144
  refine ⟨h.len, fun x hx => ?_⟩
  obtain ⟨i, hi, rfl⟩ := List.getElem_of_mem hx
  have := h.lo i _ (List.getElem?_eq_getElem hi)
  omega

set_option maxRecDepth 100000 in
set_option maxHeartbeats 4000000 in
theorem parts_any (cells : List Int) (adj : Int → List Int) (lo0 mo : Nat) (w : World) (hom : OnMapK w lo0 mo cells adj) (hc : cells.Pairwise (· < ·)) (hcl : ∀ x ∈ cells, 0 ≤ x ∧ x < 144) (hadj : ∀ x, ∀ y ∈ adj x, y ∈ cells) (hn : cells.length ≤ 144) :
    Calls Tryz.prog 40 #[.map (some mo)] w fun e w' => ∃ A' n' c' top, e = .returned (.slice A' n' c') ∧ PartsAt w' w.heap.size top A' n' c' (gAll (partG adj) cells) ∧ Below w.heap.size w w' := by
  have HOM := Lib.hid hom; have HN := Lib.hid hn; have HC := Lib.hid hc; have HCL := Lib.hid hcl; have HADJ := Lib.hid hadj
  clear hom hc hcl hadj hn
  obtain ⟨W2, hW2⟩ : ∃ W2, W2 = w.alloc (.map #[] 0) := ⟨_, rfl⟩
  have hsz : W2.heap.size = w.heap.size + 1 := by rw [hW2]; simp
  have B := Lib.hid (show Below w.heap.size w W2 by rw [hW2]; exact below_new (Below.refl _ _) _)
  have MP := Lib.hid (show MapI Tryz.prog 3 W2 w.heap.size 0 (.bool false) (fun _ => .bool false) by rw [hW2]; exact MapI.made _ _ _ _)
  have hmm := @run_makeMap Tryz.prog
  go_enter Tryz.func40, Tryz.ntmps40
  go_wp2_with fail
  rw [← hW2]
  obtain ⟨mb, hmb⟩ : ∃ mb, mb = w.heap.size := ⟨_, rfl⟩
  rw [← hmb] at MP ⊢
  have hmb2 : mb < W2.heap.size := by omega
  have HMB := Lib.hid hmb
  clear hW2 hmm hmb hsz
  refine (cells_any lo0 mo cells adj _ (HOM.out.keep B.out) HC.out).mono ?_
  rintro e ws ⟨A1, n1, c1, rfl, hst, hb⟩
  replace MP := Lib.hid (MP.out.keep hb)
  have hs1 := hb.size
  have hms : mb < ws.heap.size := lt_keep hmb2 hb
  replace B := Lib.hid (below_next B.out hb)
  have hBs := B.out.size
  have ST := Lib.hid hst.rd
  have SL := Lib.hid hst.len
  have n8 : n1 ≤ 144 := by have := hst.len; have := HN.out; omega
  have hA1 : Hid (∀ y, A1 = some y → y.block ≠ mb) := Lib.hid (fun y hy => by
    subst hy
    exact map_apart hst MP.out)
  have n9 := hst.rd.2.1
  clear hst hb hmb2
  go_wp2
  go_loopw [3, 14] (fun v i wr => ∃ (k n' c' top m : Nat) (A' : Option Addr) (f : Int → Value), k ≤ n1 ∧ i = .int .i64 k ∧ v = .slice A' n' c' ∧ PartsAt wr ws.heap.size top A' n' c' (gTo (partG adj) cells k) ∧ top ≤ wr.heap.size ∧ m ≤ 144 * k ∧ MapI Tryz.prog 3 wr mb m (.bool false) f ∧ (∀ x, f x = .bool (inParts (gTo (partG adj) cells k) x)) ∧ ws.grownBy wr (some mb)) (fun _ i _ => n1 - (intOf i).toNat)
  case atStart => exact ⟨0, 0, 0, 0, 0, none, _, by omega, rfl, rfl, PartsAt.none_ _ _ _, by omega, by omega, MP.out, fun x => rfl, grown_refl _ _⟩
  case round =>
    clear MP
    obtain ⟨k, n', c', top, m, A', f, hk, rfl, rfl, hpa, htop, hm, hmap, hf, hgw⟩ := hrel
    have hBw : Below w.heap.size w wr := B.out.trans (below_of_grown hgw hBs (fun g h => by injection h with h; have := HMB.out; omega))
    have hsw := hgw.size
    have hnp : n' ≤ 144 := by have := gTo_len (partG adj) cells k; have := hpa.len; omega
    have PA := Lib.hid hpa; have MA := Lib.hid hmap; have FF := Lib.hid hf
    by_cases hlt : k < n1
    · obtain ⟨bb, oo, x, rfl, hg1, hx, x0⟩ := ST.out.at_ hlt
      have hbm := hA1.out _ rfl
      simp only at hbm
      have hin := List.mem_of_getElem? hx
      have hxr := HCL.out _ hin
      obtain ⟨xn, rfl⟩ : ∃ xn : Nat, x = (xn : Int) := ⟨x.toNat, by omega⟩
      have hxn : xn < 144 := by omega
      have HX := Lib.hid hx; have HXI := Lib.hid hin
      replace x0 := hgw.cell x0 (by simp; omega)
      have HBW := Lib.hid hBw; have HGW := Lib.hid hgw
      have hlk := fun w' (h : MapI Tryz.prog 3 w' mb m (.bool false) f) => MapI.lookup (t := 72) (e := 4) h Tryz.underlying3 Tryz.underlying72 (zero_bool w') (wf_small (x := (xn : Int)) (by omega))
      have hl0 := hlk wr hmap
      rw [hf] at hl0
      clear hx hin hxr hgw hBw hpa hmap hf hlk
      cases hip : inParts (gTo (partG adj) cells k) (xn : Int) with
      | true =>
        rw [hip] at hl0
        have HIP := Lib.hid hip
        clear hip
        go_wp2
        go_roundw
        case rel =>
          have e := gTo_yes HX.out HIP.out
          exact ⟨k + 1, n', c', top, m, A', f, by omega, by go_num, rfl, by rw [e]; exact PA.out, htop, by omega, MA.out, by rw [e]; exact FF.out, HGW.out⟩
        case measure => simp [intOf]; omega
      | false =>
        rw [hip] at hl0
        have HIP := Lib.hid hip
        clear hip
        go_wp2_with fail
        clear hl0
        refine (distancesFrom_any lo0 mo cells adj xn _ (HOM.out.keep HBW.out).on (by omega) HXI.out HCL.out HADJ.out).mono ?_
        rintro e wu ⟨rfl, hb⟩
        obtain ⟨h64, hbd⟩ := farG_bd HCL.out HADJ.out HXI.out
        replace PA := Lib.hid (PA.out.keep hb); replace MA := Lib.hid (MA.out.keep hb)
        have htu := hb.size
        replace HGW := Lib.hid (grown_next HGW.out (grown_of_below hb (some mb)))
        clear hb
        go_wp2_with fail
        refine (reached_any _ h64 hbd _).mono ?_
        rintro e wv ⟨A9, n9', c9, rfl, own, hb⟩
        rw [show reachL (farL adj 144 (xn : Int)) = partG adj (xn : Int) from rfl] at own
        have hpn : Hid (∀ y, A9 = some y → top ≤ y.block ∧ y.block < wv.heap.size) := Lib.hid (fun y hy => by
          rcases own.form with ⟨h, _⟩ | ⟨g9, h, h2, h3, _⟩
          · rw [h] at hy; cases hy
          · rw [h] at hy; injection hy with hy; rw [← hy]; exact ⟨by show top ≤ g9; omega, h3⟩)
        replace PA := Lib.hid (PA.out.keep hb); replace MA := Lib.hid (MA.out.keep hb)
        have htv := hb.size
        replace HGW := Lib.hid (grown_next HGW.out (grown_of_below hb (some mb)))
        have OWN := Lib.hid (own.lower (show ws.heap.size ≤ wu.heap.size by omega))
        have PRD := Lib.hid own.rd
        have hp64 : n9' ≤ 144 := by have := partG_len adj (xn : Int); have := own.len; omega
        have hp9 := own.rd.2.1
        have hAm : Hid (∀ y, A9 = some y → y.block ≠ mb) := Lib.hid (fun y hy => by subst hy; exact map_apart own MA.out)
        have hbig : top ≤ wv.heap.size := by omega
        obtain ⟨p, hp⟩ : ∃ p, p = partG adj (xn : Int) := ⟨_, rfl⟩
        rw [← hp] at OWN PRD
        have HP := Lib.hid hp
        clear hb own hbd h64 hp x0
        go_wp2
        go_loopw [27] (fun i wr => ∃ (j m2 : Nat) (f2 : Int → Value), j ≤ n9' ∧ i = .int .i64 j ∧ m2 ≤ 144 * k + j ∧ MapI Tryz.prog 3 wr mb m2 (.bool false) f2 ∧ (∀ x, f2 x = .bool (inParts (gTo (partG adj) cells k) x || (p.take j).contains x)) ∧ wv.grownBy wr (some mb)) (fun i _ => n9' - (intOf i).toNat)
        case atStart => exact ⟨0, m, f, by omega, rfl, by omega, MA.out, fun x => by rw [FF.out x]; simp, grown_refl _ _⟩
        case round =>
          obtain ⟨j, m2, f2, hj, rfl, hm2, hmap, hf, hgx⟩ := hrel
          have hsx := hgx.size
          by_cases hjl : j < n9'
          · obtain ⟨b9, o9, y, rfl, hg9, hy, y0⟩ := PRD.out.at_ hjl
            have hbm9 := hAm.out _ rfl
            simp only at hbm9
            replace y0 := hgx.cell y0 (by simp; omega)
            have hyr : 0 ≤ y ∧ y ≤ 144 := partG_in (by have hm := List.mem_of_getElem? hy; rwa [HP.out] at hm)
            have HY := Lib.hid hy; have MB := Lib.hid hmap; have F2 := Lib.hid hf; have HGX := Lib.hid hgx
            have HYR := Lib.hid hyr
            clear hy hmap hf hgx hyr
            go_wp2_with (at_mapUpdate; refine wpList_update rfl (.tmp 31) (.tmp 32) (.const (.bool true)) rfl Tryz.underlying3 Tryz.underlying72 rfl MB.out (by omega) y (.bool true) rfl rfl (wf_small HYR.out) ?_; intro w5 hm5 hg5)
            have M5 := Lib.hid hm5; have G5 := Lib.hid (grown_next HGX.out hg5)
            clear hm5 hg5
            go_wp2
            go_roundw
            case rel => exact ⟨j + 1, m2 + 1, _, by omega, by go_num, by omega, M5.out, fun x => by
              show (if x = y then Value.bool true else f2 x) = _
              rw [take_contains HY.out, F2.out x]
              by_cases e : x = y
              · rw [if_pos e, if_pos e]; simp
              · rw [if_neg e, if_neg e], G5.out⟩
            case measure => simp [intOf]; omega
          · obtain rfl : j = n9' := by omega
            have PA8 := Lib.hid (PA.out.maps MA.out hgx)
            have OWN8 := Lib.hid (OWN.out.other hgx (fun y hy => by have := hAm.out y hy; simpa using this))
            have MB := Lib.hid hmap; have F2 := Lib.hid hf
            have HG8 := Lib.hid (grown_next HGW.out hgx)
            have hpt : p.take j = p := List.take_of_length_le (by have := OWN.out.len; omega)
            have HPT := Lib.hid hpt
            have hpn2 : Hid (∀ y, A9 = some y → top ≤ y.block) := Lib.hid (fun y hy => (hpn.out y hy).1)
            have htx : top ≤ wr.heap.size := by omega
            have hlo : ws.heap.size ≤ wr.heap.size := by omega
            clear hmap hf hgx hpt
            go_wp2_with (at_builtin; refine wpList_appS rfl (.tmp 34) (.tmp 36) rfl ws.heap.size top A' n' c' (gTo (partG adj) cells k) A9 j c9 p rfl PA8.out OWN8.out hpn2.out htx rfl (by omega) hlo ?_; intro A7 c7 w7 hpa7 hb7 kB kM kI)
            have PA7 := Lib.hid hpa7
            have M7 := Lib.hid (kM _ _ _ _ _ _ MB.out)
            have HG7 := Lib.hid (grown_below HG8.out hb7)
            have hs7 := hb7.size
            clear hpa7 hb7 kB kM kI
            go_wp2
            go_roundw
            case rel =>
              have e := gTo_no HX.out HIP.out
              rw [← HP.out] at e
              exact ⟨k + 1, n' + 1, c7, _, m2, A7, f2, by omega, by go_num, rfl, by rw [e]; exact PA7.out, hs7, by omega, M7.out, fun x => by rw [F2.out x, HPT.out, e, inParts_app], HG7.out⟩
            case measure => simp [intOf]; omega
    · obtain rfl : k = n1 := by omega
      have eP : gTo (partG adj) cells k = gAll (partG adj) cells := by rw [gTo, List.take_of_length_le (by have := SL.out; omega)]; rfl
      rw [eP] at PA
      have HBW := Lib.hid hBw
      clear hgw hBw hpa hmap hf MA FF
      go_wp2
      go_ret
      have hmb := HMB.out
      subst hmb
      exact ⟨_, _, _, _, rfl, PA.out.lower (by omega), HBW.out⟩

end Go.Proofs.YtoangjjikmjkgaaGreat

namespace Go.Proofs.YtoangjjikmjkgaaGreat
open Go.RowKit

theorem partG_same {W H a b c : Int} {xs : List Int} {N : Nat} (h : OnFacts W H xs a b N) (hp : hasB W H xs c = true) : partG (leapsL W H xs a b) c = partL W H xs a b c := by
  have key : ∀ i, decide (0 ≤ (distL W H xs a b c).getD i (-1)) = nearB (distL W H xs a b c) 64 i := fun i => by
    by_cases hi : i < (distL W H xs a b c).length
    · rw [part_bd h hp (List.getElem?_eq_getElem hi), List.getD_eq_getElem?_getD, List.getElem?_eq_getElem hi]; rfl
    · rw [nearB, List.getD_eq_getElem?_getD, List.getElem?_eq_none (by omega)]; rfl
  rw [partG, reachL, partL, show (W * H).toNat = N by have := h.wh; omega, far64 h hp]
  rw [selTo_congr 144 (g := nearB (distL W H xs a b c) 64) (fun i _ => by rw [getD_pad]; exact key i)]
  exact selTo_stop (fun i hi => by rw [nearB, List.getD_eq_getElem?_getD, List.getElem?_eq_none (by rw [dist_len h hp]; exact hi)]; rfl) (by have := h.n; omega)
theorem fold_parts {P Q : Int → List Int} : ∀ (l : List Int) (ps : List (List Int)), (∀ c ∈ l, P c = Q c) → l.foldl (partStep P) ps = l.foldl (partStep Q) ps
  | [], _, _ => rfl
  | c :: t, ps, h => by
    rw [List.foldl_cons, List.foldl_cons, fold_parts t _ (fun d hd => h d (List.mem_cons_of_mem _ hd)), show partStep P ps c = partStep Q ps c by rw [partStep, partStep, h c List.mem_cons_self]]
theorem partsL_same {W H a b : Int} {xs : List Int} {N : Nat} (h : OnFacts W H xs a b N) : gAll (partG (leapsL W H xs a b)) (cellsL W H xs) = partsL W H xs a b :=
  fold_parts _ [] (fun _ hc => partG_same h (cellsL_mem.1 hc))
theorem cellsL_few {W H a b : Int} {xs : List Int} {N : Nat} (h : OnFacts W H xs a b N) : (cellsL W H xs).length ≤ 64 := by
  have h1 := cellsTo_len (W := W) (H := H) (hs := xs) (W * H).toNat
  have := h.wh; have := h.n
  unfold cellsL; omega
theorem partsB_any (W H : Int) (xs : List Int) (a b : Int) (N lo0 mo : Nat) (w : World) (hF : OnFacts W H xs a b N) (hom : OnMapK w lo0 mo (cellsL W H xs) (leapsL W H xs a b)) :
    Calls Tryz.prog 40 #[.map (some mo)] w fun e w' => ∃ A' n' c' top, e = .returned (.slice A' n' c') ∧ PartsAt w' w.heap.size top A' n' c' (partsL W H xs a b) ∧ Below w.heap.size w w' := by
  have h := parts_any (cellsL W H xs) (leapsL W H xs a b) lo0 mo w hom (cellsL_pairwise W H xs) (cells_in hF) adj_in (by have := cellsL_few hF; omega)
  rw [partsL_same hF] at h
  exact h

end Go.Proofs.YtoangjjikmjkgaaGreat

namespace Go.Proofs.YtoangjjikmjkgaaGreat
open Go.RowKit

def wholeV (W H : Int) (xs : List Int) (a b : Int) : Bool := okTwo W H xs a b && decide ((partsL W H xs a b).length = 1)

set_option maxRecDepth 100000 in
set_option maxHeartbeats 2000000 in
theorem spec_IsWhole (W H : Int) (A : Option Addr) (n c : Nat) (xs : List Int) (a b : Int) (w : World) (ha : Rd w A n xs) :
    Calls Tryz.prog 8 #[brd W H A n c, lpr a b] w fun e w' => e = .returned (.tuple #[.bool (wholeV W H xs a b), .bool (okTwo W H xs a b)]) ∧ Below w.heap.size w w' := by
  by_cases ht : (goodB W H xs && leaperB a b) = true
  · have hok : okTwo W H xs a b = true := by rw [okTwo, two_l ht, two_g ht]; rfl
    have FO := on_facts hok
    obtain ⟨N, hN⟩ : ∃ N, N = (W * H).toNat := ⟨_, rfl⟩
    rw [← hN] at FO
    have HF := Lib.hid FO
    have HOK := Lib.hid hok
    have n64 := FO.n.2
    clear FO hN
    go_enter Tryz.func8, Tryz.ntmps8
    go_wp2_with fail
    refine (boTwo_any _ _ _ _ _ _ _ _ _ ((ha.alloc _).alloc _)).mono ?_
    rw [ht]
    rintro e wv ⟨rfl, hb⟩
    have hbx0 := below_box hb
    have a0 : wv.cell? ⟨w.heap.size, 0, none⟩ = some (.int .i64 W) := by simpa using newbox hbx0 0
    have a1 : wv.cell? ⟨w.heap.size, 1, none⟩ = some (.int .i64 H) := by simpa using newbox hbx0 1
    have a2 : wv.cell? ⟨w.heap.size, 2, none⟩ = some (.slice A n c) := by simpa using newbox hbx0 2
    have al : w.heap.size < wv.heap.size := by simpa using newbox_lt hbx0
    have l0 : wv.cell? ⟨w.heap.size + 1, 0, none⟩ = some (.int .i64 a) := by simpa using newbox hb 0
    have l1 : wv.cell? ⟨w.heap.size + 1, 1, none⟩ = some (.int .i64 b) := by simpa using newbox hb 1
    have ll : w.heap.size + 1 < wv.heap.size := by simpa using newbox_lt hb
    have B := Lib.hid (below_box hbx0)
    clear hb hbx0
    go_wp2_with fail
    refine (faParts_any W H A n c xs a b N _ (ha.keep B.out) HF.out).mono ?_
    rintro e wx ⟨A', n', c', top, rfl, pa, hb⟩
    have hlen := pa.len
    replace B := Lib.hid (below_next B.out hb)
    clear pa hb
    by_cases h1 : n' = 1
    · subst h1
      go_wp2
      go_ret2
      exact ⟨by rw [wholeV, HOK.out, hlen]; rfl, B.out⟩
    · have h1' : ((n' : Int) == 1) = false := by simp; omega
      go_wp2
      go_ret2
      exact ⟨by rw [wholeV, HOK.out, hlen, show decide (n' = 1) = false by simpa using h1]; rfl, B.out⟩
  · have ht' : (goodB W H xs && leaperB a b) = false := by simpa using ht
    go_enter Tryz.func8, Tryz.ntmps8
    go_wp2_with fail
    refine (boTwo_any _ _ _ _ _ _ _ _ _ ((ha.alloc _).alloc _)).mono ?_
    rw [ht']
    rintro e wv ⟨rfl, hb⟩
    have hbx0 := below_box hb
    have a0 : wv.cell? ⟨w.heap.size, 0, none⟩ = some (.int .i64 W) := by simpa using newbox hbx0 0
    have a1 : wv.cell? ⟨w.heap.size, 1, none⟩ = some (.int .i64 H) := by simpa using newbox hbx0 1
    have a2 : wv.cell? ⟨w.heap.size, 2, none⟩ = some (.slice A n c) := by simpa using newbox hbx0 2
    have al : w.heap.size < wv.heap.size := by simpa using newbox_lt hbx0
    have l0 : wv.cell? ⟨w.heap.size + 1, 0, none⟩ = some (.int .i64 a) := by simpa using newbox hb 0
    have l1 : wv.cell? ⟨w.heap.size + 1, 1, none⟩ = some (.int .i64 b) := by simpa using newbox hb 1
    have ll : w.heap.size + 1 < wv.heap.size := by simpa using newbox_lt hb
    have B := Lib.hid (below_box hbx0)
    clear hb hbx0
    go_wp2
    go_ret2
    exact ⟨by rw [show okTwo W H xs a b = false by (rw [okTwo, Bool.and_comm, ht']), wholeV, show okTwo W H xs a b = false by (rw [okTwo, Bool.and_comm, ht'])]; rfl, B.out⟩

theorem onB_nil2 {W H a b : Int} {xs : List Int} : onB W H xs a b [] = okTwo W H xs a b := by simp [onB]
set_option maxRecDepth 100000 in
set_option maxHeartbeats 2000000 in
theorem isWholeK_any (W H : Int) (xs : List Int) (a b : Int) (N lo0 mo : Nat) (w : World) (hF : OnFacts W H xs a b N) (hom : OnMapK w lo0 mo (cellsL W H xs) (leapsL W H xs a b)) :
    Calls Tryz.prog 32 #[.map (some mo)] w fun e w' => e = .returned (.bool (decide ((partsL W H xs a b).length = 1))) ∧ Below w.heap.size w w' := by
  have HOM := Lib.hid hom
  have HF := Lib.hid hF
  clear hom hF
  go_enter Tryz.func32, Tryz.ntmps32
  go_wp2_with fail
  refine (partsB_any W H xs a b N lo0 mo _ HF.out HOM.out).mono ?_
  rintro e wx ⟨A', n', c', top, rfl, pa, hb⟩
  have hlen := pa.len
  have B := Lib.hid hb
  clear pa hb
  by_cases h1 : n' = 1
  · subst h1
    go_wp2
    go_ret
    exact ⟨ret_bool (by rw [hlen]; rfl), B.out⟩
  · have h1' : ((n' : Int) == 1) = false := by simp; omega
    go_wp2
    go_ret
    exact ⟨ret_bool (by rw [hlen, show decide (n' = 1) = false by simpa using h1]), B.out⟩

set_option maxRecDepth 100000 in
set_option maxHeartbeats 2000000 in
theorem impl_IsWhole (W H : Int) (A : Option Addr) (n c : Nat) (xs : List Int) (a b : Int) (w : World) (ha : Rd w A n xs) :
    Calls Tryz.prog 11 #[brd W H A n c, lpr a b] w fun e w' => e = .returned (.tuple #[.bool (wholeV W H xs a b), .bool (okTwo W H xs a b)]) ∧ Below w.heap.size w w' := by
  by_cases ho : onB W H xs a b [] = true
  · have hok : okTwo W H xs a b = true := by rw [← onB_nil2, ho]
    have FO := on_facts hok
    obtain ⟨N, hN⟩ : ∃ N, N = (W * H).toNat := ⟨_, rfl⟩
    rw [← hN] at FO
    have HF := Lib.hid FO
    have HOK := Lib.hid hok
    have n64 := FO.n.2
    clear FO hN
    go_enter Tryz.func11, Tryz.ntmps11
    go_wp2_with fail
    refine (isLeaperOn_any _ _ _ _ _ _ _ _ _ _ _ [] _ ((ha.alloc _).alloc _) (Rd.nil _ _)).mono ?_
    rw [ho]
    rintro e wv ⟨rfl, hb⟩
    have hbx0 := below_box hb
    have a0 : wv.cell? ⟨w.heap.size, 0, none⟩ = some (.int .i64 W) := by simpa using newbox hbx0 0
    have a1 : wv.cell? ⟨w.heap.size, 1, none⟩ = some (.int .i64 H) := by simpa using newbox hbx0 1
    have a2 : wv.cell? ⟨w.heap.size, 2, none⟩ = some (.slice A n c) := by simpa using newbox hbx0 2
    have al : w.heap.size < wv.heap.size := by simpa using newbox_lt hbx0
    have l0 : wv.cell? ⟨w.heap.size + 1, 0, none⟩ = some (.int .i64 a) := by simpa using newbox hb 0
    have l1 : wv.cell? ⟨w.heap.size + 1, 1, none⟩ = some (.int .i64 b) := by simpa using newbox hb 1
    have ll : w.heap.size + 1 < wv.heap.size := by simpa using newbox_lt hb
    have B := Lib.hid (below_box hbx0)
    clear hb hbx0
    go_wp2_with fail
    refine (onwardOfK_any W H A n c xs a b _ (ha.keep B.out) HF.out.g HF.out.l).mono ?_
    rintro e wx ⟨mb, rfl, hom, hb⟩
    have HOM := Lib.hid hom
    replace B := Lib.hid (below_next B.out hb)
    clear hom hb
    go_wp2_with fail
    refine (isWholeK_any W H xs a b N _ mb _ HF.out HOM.out).mono ?_
    rintro e wy ⟨rfl, hb⟩
    replace B := Lib.hid (below_next B.out hb)
    clear hb
    go_wp2
    go_ret2
    exact ⟨by rw [wholeV, HOK.out]; rfl, B.out⟩
  · have ho' : onB W H xs a b [] = false := by simpa using ho
    go_enter Tryz.func11, Tryz.ntmps11
    go_wp2_with fail
    refine (isLeaperOn_any _ _ _ _ _ _ _ _ _ _ _ [] _ ((ha.alloc _).alloc _) (Rd.nil _ _)).mono ?_
    rw [ho']
    rintro e wv ⟨rfl, hb⟩
    have hbx0 := below_box hb
    have a0 : wv.cell? ⟨w.heap.size, 0, none⟩ = some (.int .i64 W) := by simpa using newbox hbx0 0
    have a1 : wv.cell? ⟨w.heap.size, 1, none⟩ = some (.int .i64 H) := by simpa using newbox hbx0 1
    have a2 : wv.cell? ⟨w.heap.size, 2, none⟩ = some (.slice A n c) := by simpa using newbox hbx0 2
    have al : w.heap.size < wv.heap.size := by simpa using newbox_lt hbx0
    have l0 : wv.cell? ⟨w.heap.size + 1, 0, none⟩ = some (.int .i64 a) := by simpa using newbox hb 0
    have l1 : wv.cell? ⟨w.heap.size + 1, 1, none⟩ = some (.int .i64 b) := by simpa using newbox hb 1
    have ll : w.heap.size + 1 < wv.heap.size := by simpa using newbox_lt hb
    have B := Lib.hid (below_box hbx0)
    clear hb hbx0
    go_wp2
    go_ret2
    exact ⟨by rw [show okTwo W H xs a b = false by (rw [← onB_nil2, ho']), wholeV, show okTwo W H xs a b = false by (rw [← onB_nil2, ho'])]; rfl, B.out⟩

end Go.Proofs.YtoangjjikmjkgaaGreat

namespace Go.Proofs.YtoangjjikmjkgaaGreat
open Go.RowKit

/-- The greatest distance from a cell. -/
def farF (W H : Int) (xs : List Int) (a b c : Int) : Int := (distL W H xs a b c).getD (mostTo (distL W H xs a b c) (W * H).toNat).toNat (-1)
def widTo (W H : Int) (xs : List Int) (a b : Int) (k : Nat) : Int := ((cellsL W H xs).take k).foldl (fun m c => max m (farF W H xs a b c)) 0
def widthV (W H : Int) (xs : List Int) (a b : Int) : Int := if wholeV W H xs a b = true then widTo W H xs a b (cellsL W H xs).length else 0
theorem widTo_next {W H a b c : Int} {xs : List Int} {k : Nat} (hc : (cellsL W H xs)[k]? = some c) : widTo W H xs a b (k + 1) = max (widTo W H xs a b k) (farF W H xs a b c) := by
  rw [widTo, take_foldl _ hc]; rfl
theorem farF_most {W H a b c : Int} {xs : List Int} {N : Nat} (h : OnFacts W H xs a b N) (hp : hasB W H xs c = true) : ∃ j, IsMost (distL W H xs a b c) j ∧ farF W H xs a b c = (distL W H xs a b c).getD j (-1) := by
  have hr := (hasB_iff.1 hp).1
  have hN : (W * H).toNat = N := by have := h.wh; omega
  obtain ⟨j, ej, M⟩ := most_is (L := distL W H xs a b c) (k := c.toNat) (by rw [dist_len h hp]; have := h.wh; omega) (by rw [dist_self h hp]; omega)
  rw [dist_len h hp] at ej
  exact ⟨j, M, by rw [farF, hN, ej, Int.toNat_natCast]⟩
theorem farF_bd {W H a b c : Int} {xs : List Int} {N : Nat} (h : OnFacts W H xs a b N) (hp : hasB W H xs c = true) : 0 ≤ farF W H xs a b c ∧ farF W H xs a b c ≤ 64 := by
  obtain ⟨j, M, e⟩ := farF_most h hp
  rw [e]
  refine ⟨M.nn, ?_⟩
  rw [List.getD_eq_getElem?_getD, List.getElem?_eq_getElem M.lt]
  exact (dist_bd h hp _ (List.getElem_mem M.lt)).2
theorem farF_max {W H a b c : Int} {xs : List Int} {N : Nat} (h : OnFacts W H xs a b N) (hp : hasB W H xs c = true) : Go.Lib.maxOf (farL (leapsL W H xs a b) 144 c) = farF W H xs a b c := by
  obtain ⟨j, M, e⟩ := farF_most h hp
  rw [e]
  exact most_max M (far64 h hp)
theorem widTo_bd {W H a b : Int} {xs : List Int} {N : Nat} (h : OnFacts W H xs a b N) : ∀ k, 0 ≤ widTo W H xs a b k ∧ widTo W H xs a b k ≤ 64
  | 0 => by rw [widTo]; simp
  | k + 1 => by
    have ih := widTo_bd h k
    cases hc : (cellsL W H xs)[k]? with
    | none =>
      have e : widTo W H xs a b (k + 1) = widTo W H xs a b k := by rw [widTo, widTo, List.take_add_one, hc]; simp
      rw [e]; exact ih
    | some c =>
      rw [widTo_next hc]
      have := farF_bd h (cellsL_mem.1 (List.mem_of_getElem? hc))
      omega
set_option maxHeartbeats 400000 in
theorem l1Most2_any (x y : Int) (w : World) :
    Calls Tryz.prog 36 #[.int .i64 x, .int .i64 y] w fun e w' => e = .returned (.int .i64 (max x y)) ∧ Below w.heap.size w w' := by
  by_cases h : y < x
  · go_enter Tryz.func36, Tryz.ntmps36
    go_wp2
    go_ret
    exact ⟨ret_int (by omega), Below.refl _ _⟩
  · go_enter Tryz.func36, Tryz.ntmps36
    go_wp2
    go_ret
    exact ⟨ret_int (by omega), Below.refl _ _⟩

set_option maxRecDepth 100000 in
set_option maxHeartbeats 4000000 in
theorem spec_WidthOf (W H : Int) (A : Option Addr) (n c : Nat) (xs : List Int) (a b : Int) (w : World) (ha : Rd w A n xs) :
    Calls Tryz.prog 13 #[brd W H A n c, lpr a b] w fun e w' => e = .returned (.tuple #[.int .i64 (widthV W H xs a b), .bool (wholeV W H xs a b)]) ∧ Below w.heap.size w w' := by
  by_cases ht : (goodB W H xs && leaperB a b) = true
  · have hok : okTwo W H xs a b = true := by rw [okTwo, two_l ht, two_g ht]; rfl
    have FO := on_facts hok
    obtain ⟨N, hN⟩ : ∃ N, N = (W * H).toNat := ⟨_, rfl⟩
    rw [← hN] at FO
    have HF := Lib.hid FO
    have HOK := Lib.hid hok
    have n64 := FO.n.2
    clear FO hN
    have hN8 := cells_le (goodB_iff.1 HF.out.g).1 (goodB_iff.1 HF.out.g).2.1
    have HN := Lib.hid hN8
    clear hN8
    go_enter Tryz.func13, Tryz.ntmps13
    go_wp2_with fail
    refine (boTwo_any _ _ _ _ _ _ _ _ _ ((ha.alloc _).alloc _)).mono ?_
    rw [ht]
    rintro e wv ⟨rfl, hb⟩
    have hbx0 := below_box hb
    have a0 : wv.cell? ⟨w.heap.size, 0, none⟩ = some (.int .i64 W) := by simpa using newbox hbx0 0
    have a1 : wv.cell? ⟨w.heap.size, 1, none⟩ = some (.int .i64 H) := by simpa using newbox hbx0 1
    have a2 : wv.cell? ⟨w.heap.size, 2, none⟩ = some (.slice A n c) := by simpa using newbox hbx0 2
    have al : w.heap.size < wv.heap.size := by simpa using newbox_lt hbx0
    have l0 : wv.cell? ⟨w.heap.size + 1, 0, none⟩ = some (.int .i64 a) := by simpa using newbox hb 0
    have l1 : wv.cell? ⟨w.heap.size + 1, 1, none⟩ = some (.int .i64 b) := by simpa using newbox hb 1
    have ll : w.heap.size + 1 < wv.heap.size := by simpa using newbox_lt hb
    have B := Lib.hid (below_box hbx0)
    clear hb hbx0
    go_wp2_with fail
    refine (faParts_any W H A n c xs a b N _ (ha.keep B.out) HF.out).mono ?_
    rintro e wx ⟨A', n', c', top, rfl, pa, hb⟩
    have hlen := pa.len
    have HLEN := Lib.hid hlen
    replace a0 := cell_keep a0 al hb; replace a1 := cell_keep a1 al hb; replace a2 := cell_keep a2 al hb; replace l0 := cell_keep l0 ll hb; replace l1 := cell_keep l1 ll hb; replace al := lt_keep al hb; replace ll := lt_keep ll hb
    replace B := Lib.hid (below_next B.out hb)
    clear pa hb hlen
    by_cases h1 : n' = 1
    · subst h1
      have hw : wholeV W H xs a b = true := by rw [wholeV, HOK.out, HLEN.out]; rfl
      have HW := Lib.hid hw
      clear hw HLEN
      go_wp2_with fail
      refine (boCells_any W H A n c xs _ (ha.keep B.out) HN.out).mono ?_
      rintro e ws ⟨A1, n1, c1, rfl, hst, hb⟩
      replace a0 := cell_keep a0 al hb; replace a1 := cell_keep a1 al hb; replace a2 := cell_keep a2 al hb; replace l0 := cell_keep l0 ll hb; replace l1 := cell_keep l1 ll hb; replace al := lt_keep al hb; replace ll := lt_keep ll hb
      replace B := Lib.hid (below_next B.out hb)
      have ST := Lib.hid hst.rd
      have SL := Lib.hid hst.len
      have n8 : n1 ≤ 64 := by have := cellsTo_len (W := W) (H := H) (hs := xs) (W * H).toNat; have := hst.len; have := HN.out; unfold cellsL at *; omega
      have n9 := hst.rd.2.1
      clear hst hb
      go_wp2
      go_loopw [6, 25] (fun v i wr => ∃ k : Nat, k ≤ n1 ∧ i = .int .i64 k ∧ v = .int .i64 (widTo W H xs a b k) ∧ Below ws.heap.size ws wr) (fun _ i _ => n1 - (intOf i).toNat)
      case atStart => exact ⟨0, by omega, rfl, rfl, Below.refl _ _⟩
      case round =>
        obtain ⟨k, hk, rfl, rfl, hbw⟩ := hrel
        have hmb := widTo_bd HF.out k
        by_cases hlt : k < n1
        · obtain ⟨bb, oo, x, rfl, hg1, hx, x0⟩ := (ST.out.keep hbw).at_ hlt
          have hin := cellsL_mem.1 (List.mem_of_getElem? hx)
          have hxr := (hasB_iff.1 hin).1
          rw [HF.out.wh] at hxr
          obtain ⟨xn, rfl⟩ : ∃ xn : Nat, x = (xn : Int) := ⟨x.toNat, by omega⟩
          have hxn : xn < N := by omega
          have hxh : hasB W H xs (xn : Int) = true := hin
          have hfb := farF_bd HF.out hxh
          have est := widTo_next (a := a) (b := b) hx
          have EST := Lib.hid est; have HXI := Lib.hid hxh; have HFB := Lib.hid hfb
          obtain ⟨mk, hmk⟩ : ∃ mk, mk = widTo W H xs a b k := ⟨_, rfl⟩
          rw [← hmk] at hmb ⊢
          have HMK := Lib.hid hmk; have HMB := Lib.hid hmb
          have HB := Lib.hid (below_next B.out hbw); have HBW := Lib.hid hbw
          have b0 := cell_keep a0 al hbw; have b1 := cell_keep a1 al hbw; have b2 := cell_keep a2 al hbw; have m0 := cell_keep l0 ll hbw; have m1 := cell_keep l1 ll hbw
          clear hx hin hxr hxh hfb est hmk hmb hbw
          go_wp2_with fail
          refine (faFrom_any W H A n c xs a b xn N _ (ha.keep HB.out) HF.out.g HF.out.wh hxn).mono ?_
          rintro e wv ⟨g, rfl, own, hb⟩
          have eD : farL (leapsL W H xs a b) N (xn : Int) = distL W H xs a b (xn : Int) := by rw [distL, show (W * H).toNat = N by have := HF.out.wh; omega]
          rw [eD] at own
          have DRD := Lib.hid own.rd
          replace HBW := Lib.hid (below_next HBW.out hb)
          clear own hb eD x0 b0 b1 b2 m0 m1
          go_wp2_with fail
          refine (faMost_any _ N N _ _ DRD.out (dist_bd HF.out HXI.out) n64 xn hxn (by rw [dist_selfN HF.out HXI.out]; omega)).mono ?_
          rintro e wz ⟨rfl, hb⟩
          have ef : (distL W H xs a b (xn : Int)).getD (mostTo (distL W H xs a b (xn : Int)) N).toNat (-1) = farF W H xs a b (xn : Int) := by rw [farF, show (W * H).toNat = N by have := HF.out.wh; omega]
          rw [ef]
          obtain ⟨fx, hfx⟩ : ∃ fx, fx = farF W H xs a b (xn : Int) := ⟨_, rfl⟩
          rw [← hfx]
          have HFX := Lib.hid hfx
          replace HBW := Lib.hid (below_next HBW.out hb)
          clear hb DRD ef hfx
          go_wp2_with fail
          refine (l1Most2_any mk fx _).mono ?_
          rintro e w5 ⟨rfl, hb⟩
          replace HBW := Lib.hid (below_next HBW.out hb)
          clear hb
          go_wp2
          go_roundw
          case rel => exact ⟨k + 1, by omega, by go_num, by rw [EST.out, HFX.out, HMK.out], HBW.out⟩
          case measure => simp [intOf]; omega
        · obtain rfl : k = n1 := by omega
          have HB := Lib.hid (below_next B.out hbw)
          have eW : widTo W H xs a b k = widthV W H xs a b := by rw [widthV, if_pos HW.out, widTo, widTo, List.take_of_length_le (by have := SL.out; omega), List.take_length]
          rw [eW]
          clear hbw hmb eW
          go_wp2
          go_ret2
          exact ⟨by rw [HW.out]; rfl, HB.out⟩
    · have hw : wholeV W H xs a b = false := by rw [wholeV, HOK.out, HLEN.out, show decide (n' = 1) = false by simpa using h1]; rfl
      have h1' : ((n' : Int) != 1) = true := by simp; omega
      have HW := Lib.hid hw
      clear hw HLEN
      go_wp2
      go_ret2
      exact ⟨by rw [widthV, HW.out]; rfl, B.out⟩
  · have ht' : (goodB W H xs && leaperB a b) = false := by simpa using ht
    go_enter Tryz.func13, Tryz.ntmps13
    go_wp2_with fail
    refine (boTwo_any _ _ _ _ _ _ _ _ _ ((ha.alloc _).alloc _)).mono ?_
    rw [ht']
    rintro e wv ⟨rfl, hb⟩
    have hbx0 := below_box hb
    have a0 : wv.cell? ⟨w.heap.size, 0, none⟩ = some (.int .i64 W) := by simpa using newbox hbx0 0
    have a1 : wv.cell? ⟨w.heap.size, 1, none⟩ = some (.int .i64 H) := by simpa using newbox hbx0 1
    have a2 : wv.cell? ⟨w.heap.size, 2, none⟩ = some (.slice A n c) := by simpa using newbox hbx0 2
    have al : w.heap.size < wv.heap.size := by simpa using newbox_lt hbx0
    have l0 : wv.cell? ⟨w.heap.size + 1, 0, none⟩ = some (.int .i64 a) := by simpa using newbox hb 0
    have l1 : wv.cell? ⟨w.heap.size + 1, 1, none⟩ = some (.int .i64 b) := by simpa using newbox hb 1
    have ll : w.heap.size + 1 < wv.heap.size := by simpa using newbox_lt hb
    have B := Lib.hid (below_box hbx0)
    clear hb hbx0
    go_wp2
    go_ret2
    exact ⟨by rw [widthV, show wholeV W H xs a b = false by rw [wholeV, show okTwo W H xs a b = false by (rw [okTwo, Bool.and_comm, ht'])]; rfl]; rfl, B.out⟩

set_option maxRecDepth 100000 in
set_option maxHeartbeats 4000000 in
theorem impl_WidthOf (W H : Int) (A : Option Addr) (n c : Nat) (xs : List Int) (a b : Int) (w : World) (ha : Rd w A n xs) :
    Calls Tryz.prog 14 #[brd W H A n c, lpr a b] w fun e w' => e = .returned (.tuple #[.int .i64 (widthV W H xs a b), .bool (wholeV W H xs a b)]) ∧ Below w.heap.size w w' := by
  by_cases ho : onB W H xs a b [] = true
  · have hok : okTwo W H xs a b = true := by rw [← onB_nil2, ho]
    have FO := on_facts hok
    obtain ⟨N, hN⟩ : ∃ N, N = (W * H).toNat := ⟨_, rfl⟩
    rw [← hN] at FO
    have HF := Lib.hid FO
    have HOK := Lib.hid hok
    have n64 := FO.n.2
    clear FO hN
    have hN8 := cells_le (goodB_iff.1 HF.out.g).1 (goodB_iff.1 HF.out.g).2.1
    have HN := Lib.hid hN8
    clear hN8
    go_enter Tryz.func14, Tryz.ntmps14
    go_wp2_with fail
    refine (isLeaperOn_any _ _ _ _ _ _ _ _ _ _ _ [] _ ((ha.alloc _).alloc _) (Rd.nil _ _)).mono ?_
    rw [ho]
    rintro e wv ⟨rfl, hb⟩
    have hbx0 := below_box hb
    have a0 : wv.cell? ⟨w.heap.size, 0, none⟩ = some (.int .i64 W) := by simpa using newbox hbx0 0
    have a1 : wv.cell? ⟨w.heap.size, 1, none⟩ = some (.int .i64 H) := by simpa using newbox hbx0 1
    have a2 : wv.cell? ⟨w.heap.size, 2, none⟩ = some (.slice A n c) := by simpa using newbox hbx0 2
    have al : w.heap.size < wv.heap.size := by simpa using newbox_lt hbx0
    have l0 : wv.cell? ⟨w.heap.size + 1, 0, none⟩ = some (.int .i64 a) := by simpa using newbox hb 0
    have l1 : wv.cell? ⟨w.heap.size + 1, 1, none⟩ = some (.int .i64 b) := by simpa using newbox hb 1
    have ll : w.heap.size + 1 < wv.heap.size := by simpa using newbox_lt hb
    have B := Lib.hid (below_box hbx0)
    clear hb hbx0
    go_wp2_with fail
    refine (onwardOfK_any W H A n c xs a b _ (ha.keep B.out) HF.out.g HF.out.l).mono ?_
    rintro e wx ⟨mb, rfl, hom, hb⟩
    have HOM := Lib.hid hom
    replace a0 := cell_keep a0 al hb; replace a1 := cell_keep a1 al hb; replace a2 := cell_keep a2 al hb; replace l0 := cell_keep l0 ll hb; replace l1 := cell_keep l1 ll hb; replace al := lt_keep al hb; replace ll := lt_keep ll hb
    replace B := Lib.hid (below_next B.out hb)
    clear hom hb
    go_wp2_with fail
    refine (isWholeK_any W H xs a b N _ mb _ HF.out HOM.out).mono ?_
    rintro e wy ⟨rfl, hb⟩
    replace HOM := Lib.hid (HOM.out.keep hb)
    replace a0 := cell_keep a0 al hb; replace a1 := cell_keep a1 al hb; replace a2 := cell_keep a2 al hb; replace l0 := cell_keep l0 ll hb; replace l1 := cell_keep l1 ll hb; replace al := lt_keep al hb; replace ll := lt_keep ll hb
    replace B := Lib.hid (below_next B.out hb)
    clear hb
    by_cases h1 : (partsL W H xs a b).length = 1
    · have hw : wholeV W H xs a b = true := by rw [wholeV, HOK.out, h1]; rfl
      have HW := Lib.hid hw
      rw [show decide ((partsL W H xs a b).length = 1) = true by simpa using h1]
      clear hw h1
      go_wp2_with fail
      refine (cellsThere_any W H A n c xs _ (ha.keep B.out) HF.out.g).mono ?_
      rintro e ws ⟨A1, n1, c1, rfl, hst, hb⟩
      replace HOM := Lib.hid (HOM.out.keep hb)
      replace a0 := cell_keep a0 al hb; replace a1 := cell_keep a1 al hb; replace a2 := cell_keep a2 al hb; replace l0 := cell_keep l0 ll hb; replace l1 := cell_keep l1 ll hb; replace al := lt_keep al hb; replace ll := lt_keep ll hb
      replace B := Lib.hid (below_next B.out hb)
      have ST := Lib.hid hst.rd
      have SL := Lib.hid hst.len
      have n8 : n1 ≤ 64 := by have := cellsTo_len (W := W) (H := H) (hs := xs) (W * H).toNat; have := hst.len; have := HN.out; unfold cellsL at *; omega
      have n9 := hst.rd.2.1
      clear hst hb
      go_wp2
      go_loopw [7, 23] (fun v i wr => ∃ k : Nat, k ≤ n1 ∧ i = .int .i64 k ∧ v = .int .i64 (widTo W H xs a b k) ∧ Below ws.heap.size ws wr) (fun _ i _ => n1 - (intOf i).toNat)
      case atStart => exact ⟨0, by omega, rfl, rfl, Below.refl _ _⟩
      case round =>
        obtain ⟨k, hk, rfl, rfl, hbw⟩ := hrel
        have hmb := widTo_bd HF.out k
        by_cases hlt : k < n1
        · obtain ⟨bb, oo, x, rfl, hg1, hx, x0⟩ := (ST.out.keep hbw).at_ hlt
          have hin := cellsL_mem.1 (List.mem_of_getElem? hx)
          have hxr := (hasB_iff.1 hin).1
          rw [HF.out.wh] at hxr
          obtain ⟨xn, rfl⟩ : ∃ xn : Nat, x = (xn : Int) := ⟨x.toNat, by omega⟩
          have hxn : xn < N := by omega
          have hxh : hasB W H xs (xn : Int) = true := hin
          have hfb := farF_bd HF.out hxh
          have est := widTo_next (a := a) (b := b) hx
          have EST := Lib.hid est; have HXI := Lib.hid hxh; have HFB := Lib.hid hfb
          obtain ⟨mk, hmk⟩ : ∃ mk, mk = widTo W H xs a b k := ⟨_, rfl⟩
          rw [← hmk] at hmb ⊢
          have HMK := Lib.hid hmk; have HMB := Lib.hid hmb
          have HB := Lib.hid (below_next B.out hbw); have HBW := Lib.hid hbw
          have b0 := cell_keep a0 al hbw; have b1 := cell_keep a1 al hbw; have b2 := cell_keep a2 al hbw; have m0 := cell_keep l0 ll hbw; have m1 := cell_keep l1 ll hbw
          clear hx hin hxr hxh hfb est hmk hmb hbw
          go_wp2_with fail
          refine (distancesFrom_any _ mb (cellsL W H xs) (leapsL W H xs a b) xn _ (HOM.out.keep HBW.out).on (by omega) (cellsL_mem.2 HXI.out) (cells_in HF.out) adj_in).mono ?_
          rintro e wu ⟨rfl, hb⟩
          have h64 := far_len64 HF.out HXI.out
          replace HBW := Lib.hid (below_next HBW.out hb)
          clear hb x0 b0 b1 b2 m0 m1
          go_wp2_with fail
          refine (greatest_any _ h64 _).mono ?_
          rintro e wv ⟨rfl, hb⟩
          rw [farF_max HF.out HXI.out]
          obtain ⟨fx, hfx⟩ : ∃ fx, fx = farF W H xs a b (xn : Int) := ⟨_, rfl⟩
          rw [← hfx]
          have HFX := Lib.hid hfx
          replace HBW := Lib.hid (below_next HBW.out hb)
          clear hb hfx h64
          go_wp2
          go_roundw
          case rel => exact ⟨k + 1, by omega, by go_num, by rw [EST.out, HFX.out, HMK.out], HBW.out⟩
          case measure => simp [intOf]; omega
        · obtain rfl : k = n1 := by omega
          have HB := Lib.hid (below_next B.out hbw)
          have eW : widTo W H xs a b k = widthV W H xs a b := by rw [widthV, if_pos HW.out, widTo, widTo, List.take_of_length_le (by have := SL.out; omega), List.take_length]
          rw [eW]
          clear hbw hmb eW
          go_wp2
          go_ret2
          exact ⟨by rw [HW.out]; rfl, HB.out⟩
    · have hw : wholeV W H xs a b = false := by rw [wholeV, HOK.out, show decide ((partsL W H xs a b).length = 1) = false by simpa using h1]; rfl
      have HW := Lib.hid hw
      rw [show decide ((partsL W H xs a b).length = 1) = false by simpa using h1]
      clear hw
      go_wp2
      go_ret2
      exact ⟨by rw [widthV, HW.out]; rfl, B.out⟩
  · have ho' : onB W H xs a b [] = false := by simpa using ho
    go_enter Tryz.func14, Tryz.ntmps14
    go_wp2_with fail
    refine (isLeaperOn_any _ _ _ _ _ _ _ _ _ _ _ [] _ ((ha.alloc _).alloc _) (Rd.nil _ _)).mono ?_
    rw [ho']
    rintro e wv ⟨rfl, hb⟩
    have hbx0 := below_box hb
    have a0 : wv.cell? ⟨w.heap.size, 0, none⟩ = some (.int .i64 W) := by simpa using newbox hbx0 0
    have a1 : wv.cell? ⟨w.heap.size, 1, none⟩ = some (.int .i64 H) := by simpa using newbox hbx0 1
    have a2 : wv.cell? ⟨w.heap.size, 2, none⟩ = some (.slice A n c) := by simpa using newbox hbx0 2
    have al : w.heap.size < wv.heap.size := by simpa using newbox_lt hbx0
    have l0 : wv.cell? ⟨w.heap.size + 1, 0, none⟩ = some (.int .i64 a) := by simpa using newbox hb 0
    have l1 : wv.cell? ⟨w.heap.size + 1, 1, none⟩ = some (.int .i64 b) := by simpa using newbox hb 1
    have ll : w.heap.size + 1 < wv.heap.size := by simpa using newbox_lt hb
    have B := Lib.hid (below_box hbx0)
    clear hb hbx0
    go_wp2
    go_ret2
    exact ⟨by rw [widthV, show wholeV W H xs a b = false by rw [wholeV, show okTwo W H xs a b = false by (rw [← onB_nil2, ho'])]; rfl]; rfl, B.out⟩

end Go.Proofs.YtoangjjikmjkgaaGreat

namespace Go.Proofs.YtoangjjikmjkgaaGreat
open Go.RowKit

/-- One cell more, as the model has it: what was found, and the least so far. -/
def midStep (F : Int → Int) (st : List Int × Int) (c : Int) : List Int × Int :=
  if st.2 < 0 ∨ F c < st.2 then ([c], F c) else if F c = st.2 then (st.1 ++ [c], st.2) else st
/-- As the program has it. -/
def midStepI (F : Int → Int) (st : List Int × Int) (c : Int) : List Int × Int :=
  if F c < st.2 then ([c], F c) else if F c = st.2 then (st.1 ++ [c], st.2) else st
def midTo (W H : Int) (xs : List Int) (a b : Int) (k : Nat) : List Int × Int := ((cellsL W H xs).take k).foldl (midStep (farF W H xs a b)) ([], -1)
def midToI (W H : Int) (xs : List Int) (a b : Int) (k : Nat) : List Int × Int := ((cellsL W H xs).take k).foldl (midStepI (farF W H xs a b)) ([], 64)
def middlesV (W H : Int) (xs : List Int) (a b : Int) : List Int := if wholeV W H xs a b = true then (midTo W H xs a b (cellsL W H xs).length).1 else []
theorem midTo_next {W H a b c : Int} {xs : List Int} {k : Nat} (hc : (cellsL W H xs)[k]? = some c) : midTo W H xs a b (k + 1) = midStep (farF W H xs a b) (midTo W H xs a b k) c := take_foldl _ hc _
theorem midToI_next {W H a b c : Int} {xs : List Int} {k : Nat} (hc : (cellsL W H xs)[k]? = some c) : midToI W H xs a b (k + 1) = midStepI (farF W H xs a b) (midToI W H xs a b k) c := take_foldl _ hc _
theorem mid_stop {W H a b : Int} {xs : List Int} {k : Nat} (hc : (cellsL W H xs)[k]? = none) : midTo W H xs a b (k + 1) = midTo W H xs a b k ∧ midToI W H xs a b (k + 1) = midToI W H xs a b k := by
  constructor
  · rw [midTo, midTo, List.take_add_one, hc]; simp
  · rw [midToI, midToI, List.take_add_one, hc]; simp
theorem midStep_len (F : Int → Int) (st : List Int × Int) (c : Int) : (midStep F st c).1.length ≤ st.1.length + 1 := by
  unfold midStep; split
  · simp
  · split
    · simp
    · omega
theorem midStepI_len (F : Int → Int) (st : List Int × Int) (c : Int) : (midStepI F st c).1.length ≤ st.1.length + 1 := by
  unfold midStepI; split
  · simp
  · split
    · simp
    · omega
theorem midTo_len (W H : Int) (xs : List Int) (a b : Int) : ∀ k, (midTo W H xs a b k).1.length ≤ k
  | 0 => by simp [midTo]
  | k + 1 => by
    have ih := midTo_len W H xs a b k
    cases hc : (cellsL W H xs)[k]? with
    | none => rw [(mid_stop hc).1]; omega
    | some c => rw [midTo_next hc]; have := midStep_len (farF W H xs a b) (midTo W H xs a b k) c; omega
theorem midToI_len (W H : Int) (xs : List Int) (a b : Int) : ∀ k, (midToI W H xs a b k).1.length ≤ k
  | 0 => by simp [midToI]
  | k + 1 => by
    have ih := midToI_len W H xs a b k
    cases hc : (cellsL W H xs)[k]? with
    | none => rw [(mid_stop hc).2]; omega
    | some c => rw [midToI_next hc]; have := midStepI_len (farF W H xs a b) (midToI W H xs a b k) c; omega
theorem midTo_bd {W H a b : Int} {xs : List Int} {N : Nat} (h : OnFacts W H xs a b N) : ∀ k, -1 ≤ (midTo W H xs a b k).2 ∧ (midTo W H xs a b k).2 ≤ 64
  | 0 => by simp [midTo]
  | k + 1 => by
    have ih := midTo_bd h k
    cases hc : (cellsL W H xs)[k]? with
    | none => rw [(mid_stop hc).1]; exact ih
    | some c =>
      rw [midTo_next hc, midStep]
      have := farF_bd h (cellsL_mem.1 (List.mem_of_getElem? hc))
      split
      · simp only; omega
      · split
        · exact ih
        · exact ih
/-- Both go the same way: the least is told otherwise before the first cell alone. -/
theorem mid_both {W H a b : Int} {xs : List Int} {N : Nat} (h : OnFacts W H xs a b N) : ∀ k, (midTo W H xs a b k = ([], -1) ∧ midToI W H xs a b k = ([], 64)) ∨ (0 ≤ (midTo W H xs a b k).2 ∧ midToI W H xs a b k = midTo W H xs a b k)
  | 0 => .inl ⟨rfl, rfl⟩
  | k + 1 => by
    have ih := mid_both h k
    cases hc : (cellsL W H xs)[k]? with
    | none => rw [(mid_stop hc).1, (mid_stop hc).2]; exact ih
    | some c =>
      have hf := farF_bd h (cellsL_mem.1 (List.mem_of_getElem? hc))
      rw [midTo_next hc, midToI_next hc]
      right
      rcases ih with ⟨e1, e2⟩ | ⟨h0, e⟩
      · rw [e1, e2, midStep, midStepI, if_pos (.inl (by simp))]
        refine ⟨hf.1, ?_⟩
        by_cases h64 : farF W H xs a b c < 64
        · rw [if_pos h64]
        · have e64 : farF W H xs a b c = 64 := by omega
          rw [if_neg (by simp only; omega), if_pos e64]
          simp [e64]
      · rw [e, midStep, midStepI]
        have hn : ¬ (midTo W H xs a b k).2 < 0 := by omega
        by_cases h1 : farF W H xs a b c < (midTo W H xs a b k).2
        · rw [if_pos (.inr h1), if_pos h1]; exact ⟨hf.1, rfl⟩
        · rw [if_neg (by intro h9; rcases h9 with h9 | h9; exact hn h9; exact h1 h9), if_neg h1]
          refine ⟨?_, rfl⟩
          split
          · exact h0
          · exact h0
theorem mid_same {W H a b : Int} {xs : List Int} {N : Nat} (h : OnFacts W H xs a b N) (k : Nat) : (midToI W H xs a b k).1 = (midTo W H xs a b k).1 := by
  rcases mid_both h k with ⟨e1, e2⟩ | ⟨_, e⟩
  · rw [e1, e2]
  · rw [e]
theorem midToI_bd {W H a b : Int} {xs : List Int} {N : Nat} (h : OnFacts W H xs a b N) (k : Nat) : 0 ≤ (midToI W H xs a b k).2 ∧ (midToI W H xs a b k).2 ≤ 64 := by
  have hb := midTo_bd h k
  rcases mid_both h k with ⟨e1, e2⟩ | ⟨h0, e⟩
  · rw [e2]; simp
  · rw [e]; omega

end Go.Proofs.YtoangjjikmjkgaaGreat

namespace Go.Proofs.YtoangjjikmjkgaaGreat
open Go.RowKit

set_option maxRecDepth 100000 in
set_option maxHeartbeats 4000000 in
theorem spec_MiddlesOf (W H : Int) (A : Option Addr) (n c : Nat) (xs : List Int) (a b : Int) (w : World) (ha : Rd w A n xs) :
    Calls Tryz.prog 21 #[brd W H A n c, lpr a b] w fun e w' => ∃ A' n' c', e = .returned (.tuple #[.slice A' n' c', .bool (wholeV W H xs a b)]) ∧ OwnI 3 w' w.heap.size A' n' c' (middlesV W H xs a b) ∧ Below w.heap.size w w' := by
  obtain ⟨i0, hi, hz0, hz1, hz2⟩ := info_parts infoI
  have HI := Lib.hid hi; have HZ0 := Lib.hid hz0; have HZ1 := Lib.hid hz1; have HZ2 := Lib.hid hz2
  clear hi hz0 hz1 hz2
  by_cases ht : (goodB W H xs && leaperB a b) = true
  · have hok : okTwo W H xs a b = true := by rw [okTwo, two_l ht, two_g ht]; rfl
    have FO := on_facts hok
    obtain ⟨N, hN⟩ : ∃ N, N = (W * H).toNat := ⟨_, rfl⟩
    rw [← hN] at FO
    have HF := Lib.hid FO
    have HOK := Lib.hid hok
    have n64 := FO.n.2
    clear FO hN
    have hN8 := cells_le (goodB_iff.1 HF.out.g).1 (goodB_iff.1 HF.out.g).2.1
    have HN := Lib.hid hN8
    clear hN8
    go_enter Tryz.func21, Tryz.ntmps21
    go_wp2_with fail
    refine (boTwo_any _ _ _ _ _ _ _ _ _ ((ha.alloc _).alloc _)).mono ?_
    rw [ht]
    rintro e wv ⟨rfl, hb⟩
    have hbx0 := below_box hb
    have a0 : wv.cell? ⟨w.heap.size, 0, none⟩ = some (.int .i64 W) := by simpa using newbox hbx0 0
    have a1 : wv.cell? ⟨w.heap.size, 1, none⟩ = some (.int .i64 H) := by simpa using newbox hbx0 1
    have a2 : wv.cell? ⟨w.heap.size, 2, none⟩ = some (.slice A n c) := by simpa using newbox hbx0 2
    have al : w.heap.size < wv.heap.size := by simpa using newbox_lt hbx0
    have l0 : wv.cell? ⟨w.heap.size + 1, 0, none⟩ = some (.int .i64 a) := by simpa using newbox hb 0
    have l1 : wv.cell? ⟨w.heap.size + 1, 1, none⟩ = some (.int .i64 b) := by simpa using newbox hb 1
    have ll : w.heap.size + 1 < wv.heap.size := by simpa using newbox_lt hb
    have B := Lib.hid (below_box hbx0)
    clear hb hbx0
    go_wp2_with fail
    refine (faParts_any W H A n c xs a b N _ (ha.keep B.out) HF.out).mono ?_
    rintro e wx ⟨A', n', c', top, rfl, pa, hb⟩
    have hlen := pa.len
    have HLEN := Lib.hid hlen
    replace a0 := cell_keep a0 al hb; replace a1 := cell_keep a1 al hb; replace a2 := cell_keep a2 al hb; replace l0 := cell_keep l0 ll hb; replace l1 := cell_keep l1 ll hb; replace al := lt_keep al hb; replace ll := lt_keep ll hb
    replace B := Lib.hid (below_next B.out hb)
    clear pa hb hlen
    by_cases h1 : n' = 1
    · subst h1
      have hw : wholeV W H xs a b = true := by rw [wholeV, HOK.out, HLEN.out]; rfl
      have HW := Lib.hid hw
      clear hw HLEN
      go_wp2_with fail
      refine (boCells_any W H A n c xs _ (ha.keep B.out) HN.out).mono ?_
      rintro e ws ⟨A1, n1, c1, rfl, hst, hb⟩
      replace a0 := cell_keep a0 al hb; replace a1 := cell_keep a1 al hb; replace a2 := cell_keep a2 al hb; replace l0 := cell_keep l0 ll hb; replace l1 := cell_keep l1 ll hb; replace al := lt_keep al hb; replace ll := lt_keep ll hb
      replace B := Lib.hid (below_next B.out hb)
      have ST := Lib.hid hst.rd
      have SL := Lib.hid hst.len
      have n8 : n1 ≤ 64 := by have := cellsTo_len (W := W) (H := H) (hs := xs) (W * H).toNat; have := hst.len; have := HN.out; unfold cellsL at *; omega
      have n9 := hst.rd.2.1
      clear hst hb
      go_wp2
      go_loopw [6, 7, 26] (fun v u i wr => ∃ (k n' c' : Nat) (A' : Option Addr), k ≤ n1 ∧ i = .int .i64 k ∧ v = .slice A' n' c' ∧ u = .int .i64 (midTo W H xs a b k).2 ∧ OwnI 3 wr ws.heap.size A' n' c' (midTo W H xs a b k).1 ∧ Below ws.heap.size ws wr) (fun _ _ i _ => n1 - (intOf i).toNat)
      case atStart => exact ⟨0, 0, 0, none, by omega, rfl, rfl, rfl, OwnI.none_ _ _ _, Below.refl _ _⟩
      case round =>
        obtain ⟨k, n', c', A', hk, rfl, rfl, rfl, hown, hbw⟩ := hrel
        have hn64 : n' ≤ 64 := by have := midTo_len W H xs a b k; have := hown.len; omega
        have hl64 := midTo_bd HF.out k
        by_cases hlt : k < n1
        · obtain ⟨bb, oo, x, rfl, hg1, hx, x0⟩ := (ST.out.keep hbw).at_ hlt
          have hin := cellsL_mem.1 (List.mem_of_getElem? hx)
          have hxr := (hasB_iff.1 hin).1
          rw [HF.out.wh] at hxr
          obtain ⟨xn, rfl⟩ : ∃ xn : Nat, x = (xn : Int) := ⟨x.toNat, by omega⟩
          have hxn : xn < N := by omega
          have hxh : hasB W H xs (xn : Int) = true := hin
          have hfb := farF_bd HF.out hxh
          have est := midTo_next (a := a) (b := b) hx
          have HXI := Lib.hid hxh
          have HFB := Lib.hid hfb
          obtain ⟨mo, hmo⟩ : ∃ mo, mo = (midTo W H xs a b k).1 := ⟨_, rfl⟩
          obtain ⟨ml, hml⟩ : ∃ ml, ml = (midTo W H xs a b k).2 := ⟨_, rfl⟩
          have e2 : midTo W H xs a b k = (mo, ml) := by rw [hmo, hml]
          rw [e2] at est
          rw [← hmo] at hown
          rw [← hml] at hl64 ⊢
          have EST := Lib.hid est; have HO := Lib.hid hown
          have HB := Lib.hid (below_next B.out hbw); have HBW := Lib.hid hbw
          have b0 := cell_keep a0 al hbw; have b1 := cell_keep a1 al hbw; have b2 := cell_keep a2 al hbw; have m0 := cell_keep l0 ll hbw; have m1 := cell_keep l1 ll hbw
          clear hx hin hxr hxh hfb est hmo hml e2 hbw hown
          go_wp2_with fail
          refine (faFrom_any W H A n c xs a b xn N _ (ha.keep HB.out) HF.out.g HF.out.wh hxn).mono ?_
          rintro e wv ⟨g, rfl, own, hb⟩
          have eD : farL (leapsL W H xs a b) N (xn : Int) = distL W H xs a b (xn : Int) := by rw [distL, show (W * H).toNat = N by have := HF.out.wh; omega]
          rw [eD] at own
          have DRD := Lib.hid own.rd
          replace HBW := Lib.hid (below_next HBW.out hb); replace HO := Lib.hid (HO.out.keep hb)
          clear own hb eD x0 b0 b1 b2 m0 m1
          go_wp2_with fail
          refine (faMost_any _ N N _ _ DRD.out (dist_bd HF.out HXI.out) n64 xn hxn (by rw [dist_selfN HF.out HXI.out]; omega)).mono ?_
          rintro e wz ⟨rfl, hb⟩
          have ef : (distL W H xs a b (xn : Int)).getD (mostTo (distL W H xs a b (xn : Int)) N).toNat (-1) = farF W H xs a b (xn : Int) := by rw [farF, show (W * H).toNat = N by have := HF.out.wh; omega]
          rw [ef]
          replace HBW := Lib.hid (below_next HBW.out hb); replace HO := Lib.hid (HO.out.keep hb)
          have hsz9 : ws.heap.size ≤ wz.heap.size := HBW.out.size
          clear hb DRD ef
          obtain ⟨fx, hfe⟩ : ∃ fx, fx = farF W H xs a b (xn : Int) := ⟨_, rfl⟩
          have hfx := HFB.out
          rw [← hfe] at hfx ⊢
          have HFE := Lib.hid hfe
          clear hfe
          by_cases h0 : ml < 0
          · go_wp2_with (at_builtin; refine wpList_app1 rfl (.tmp 49) (.tmp 51) 22 3 rfl i0 Tryz.underlying22 HI.out HZ0.out HZ1.out HZ2.out ws.heap.size none 0 0 [] (xn : Int) rfl (OwnI.none_ _ _ _) rfl (by omega) hsz9 ?_; intro A2 c2' w2 hown2 hb2')
            have HO3 := Lib.hid hown2; have HB3 := Lib.hid (HBW.out.trans hb2')
            clear hown2 hb2'
            go_wp2
            go_roundw
            case rel =>
              have e : midTo W H xs a b (k + 1) = ([(xn : Int)], fx) := by rw [EST.out, midStep, if_pos (by rw [← HFE.out]; exact .inl h0), ← HFE.out]
              exact ⟨k + 1, 0 + 1, c2', A2, by omega, by go_num, rfl, by rw [e], by rw [e]; simpa using HO3.out, HB3.out⟩
            case measure => simp [intOf]; omega
          · have h0' : decide (ml < 0) = false := by simpa using h0
            by_cases h1 : fx < ml
            · go_wp2_with (at_builtin; refine wpList_app1 rfl (.tmp 49) (.tmp 51) 22 3 rfl i0 Tryz.underlying22 HI.out HZ0.out HZ1.out HZ2.out ws.heap.size none 0 0 [] (xn : Int) rfl (OwnI.none_ _ _ _) rfl (by omega) hsz9 ?_; intro A2 c2' w2 hown2 hb2')
              have HO3 := Lib.hid hown2; have HB3 := Lib.hid (HBW.out.trans hb2')
              clear hown2 hb2'
              go_wp2
              go_roundw
              case rel =>
                have e : midTo W H xs a b (k + 1) = ([(xn : Int)], fx) := by rw [EST.out, midStep, if_pos (by rw [← HFE.out]; exact .inr h1), ← HFE.out]
                exact ⟨k + 1, 0 + 1, c2', A2, by omega, by go_num, rfl, by rw [e], by rw [e]; simpa using HO3.out, HB3.out⟩
              case measure => simp [intOf]; omega
            · have h1' : decide (fx < ml) = false := by simpa using h1
              by_cases h2 : fx = ml
              · subst h2
                go_wp2_with (at_builtin; refine wpList_app1 rfl (.tmp 49) (.tmp 51) 22 3 rfl i0 Tryz.underlying22 HI.out HZ0.out HZ1.out HZ2.out ws.heap.size A' n' c' mo (xn : Int) rfl HO.out rfl (by omega) hsz9 ?_; intro A2 c2' w2 hown2 hb2')
                have HO3 := Lib.hid hown2; have HB3 := Lib.hid (HBW.out.trans hb2')
                clear hown2 hb2'
                go_wp2
                go_roundw
                case rel =>
                  have e : midTo W H xs a b (k + 1) = (mo ++ [(xn : Int)], fx) := by rw [EST.out, midStep, if_neg (by rw [← HFE.out]; simp only; omega), if_pos (by rw [← HFE.out])]
                  exact ⟨k + 1, n' + 1, c2', A2, by omega, by go_num, rfl, by rw [e], by rw [e]; exact HO3.out, HB3.out⟩
                case measure => simp [intOf]; omega
              · have h2' : (fx == ml) = false := by simpa using h2
                go_wp2
                go_roundw
                case rel =>
                  have e : midTo W H xs a b (k + 1) = (mo, ml) := by rw [EST.out, midStep, if_neg (by rw [← HFE.out]; simp only; omega), if_neg (by rw [← HFE.out]; exact h2)]
                  exact ⟨k + 1, n', c', A', by omega, by go_num, rfl, by rw [e], by rw [e]; exact HO.out, HBW.out⟩
                case measure => simp [intOf]; omega
        · obtain rfl : k = n1 := by omega
          have HB := Lib.hid (below_next B.out hbw)
          have eW : (midTo W H xs a b k).1 = middlesV W H xs a b := by rw [middlesV, if_pos HW.out, midTo, midTo, List.take_of_length_le (by have := SL.out; omega), List.take_length]
          rw [eW] at hown
          have HO := Lib.hid (hown.lower B.out.size)
          clear hbw hown eW hl64
          go_wp2
          go_ret2
          exact ⟨_, _, _, by rw [HW.out]; rfl, HO.out, HB.out⟩
    · have hw : wholeV W H xs a b = false := by rw [wholeV, HOK.out, HLEN.out, show decide (n' = 1) = false by simpa using h1]; rfl
      have h1' : ((n' : Int) != 1) = true := by simp; omega
      have HW := Lib.hid hw
      clear hw HLEN
      go_wp2
      go_ret2
      exact ⟨none, 0, 0, by rw [HW.out]; rfl, by rw [middlesV, if_neg (by rw [HW.out]; simp)]; exact OwnI.none_ _ _ _, B.out⟩
  · have ht' : (goodB W H xs && leaperB a b) = false := by simpa using ht
    go_enter Tryz.func21, Tryz.ntmps21
    go_wp2_with fail
    refine (boTwo_any _ _ _ _ _ _ _ _ _ ((ha.alloc _).alloc _)).mono ?_
    rw [ht']
    rintro e wv ⟨rfl, hb⟩
    have hbx0 := below_box hb
    have a0 : wv.cell? ⟨w.heap.size, 0, none⟩ = some (.int .i64 W) := by simpa using newbox hbx0 0
    have a1 : wv.cell? ⟨w.heap.size, 1, none⟩ = some (.int .i64 H) := by simpa using newbox hbx0 1
    have a2 : wv.cell? ⟨w.heap.size, 2, none⟩ = some (.slice A n c) := by simpa using newbox hbx0 2
    have al : w.heap.size < wv.heap.size := by simpa using newbox_lt hbx0
    have l0 : wv.cell? ⟨w.heap.size + 1, 0, none⟩ = some (.int .i64 a) := by simpa using newbox hb 0
    have l1 : wv.cell? ⟨w.heap.size + 1, 1, none⟩ = some (.int .i64 b) := by simpa using newbox hb 1
    have ll : w.heap.size + 1 < wv.heap.size := by simpa using newbox_lt hb
    have B := Lib.hid (below_box hbx0)
    clear hb hbx0
    go_wp2
    go_ret2
    exact ⟨none, 0, 0, by rw [show wholeV W H xs a b = false by rw [wholeV, show okTwo W H xs a b = false by (rw [okTwo, Bool.and_comm, ht'])]; rfl]; rfl, by rw [middlesV, if_neg (by rw [wholeV, show okTwo W H xs a b = false by (rw [okTwo, Bool.and_comm, ht'])]; simp)]; exact OwnI.none_ _ _ _, B.out⟩

set_option maxRecDepth 100000 in
set_option maxHeartbeats 4000000 in
theorem impl_MiddlesOf (W H : Int) (A : Option Addr) (n c : Nat) (xs : List Int) (a b : Int) (w : World) (ha : Rd w A n xs) :
    Calls Tryz.prog 22 #[brd W H A n c, lpr a b] w fun e w' => ∃ A' n' c', e = .returned (.tuple #[.slice A' n' c', .bool (wholeV W H xs a b)]) ∧ OwnI 3 w' w.heap.size A' n' c' (middlesV W H xs a b) ∧ Below w.heap.size w w' := by
  obtain ⟨i0, hi, hz0, hz1, hz2⟩ := info_parts infoI
  have HI := Lib.hid hi; have HZ0 := Lib.hid hz0; have HZ1 := Lib.hid hz1; have HZ2 := Lib.hid hz2
  clear hi hz0 hz1 hz2
  by_cases ho : onB W H xs a b [] = true
  · have hok : okTwo W H xs a b = true := by rw [← onB_nil2, ho]
    have FO := on_facts hok
    obtain ⟨N, hN⟩ : ∃ N, N = (W * H).toNat := ⟨_, rfl⟩
    rw [← hN] at FO
    have HF := Lib.hid FO
    have HOK := Lib.hid hok
    have n64 := FO.n.2
    clear FO hN
    have hN8 := cells_le (goodB_iff.1 HF.out.g).1 (goodB_iff.1 HF.out.g).2.1
    have HN := Lib.hid hN8
    clear hN8
    go_enter Tryz.func22, Tryz.ntmps22
    go_wp2_with fail
    refine (isLeaperOn_any _ _ _ _ _ _ _ _ _ _ _ [] _ ((ha.alloc _).alloc _) (Rd.nil _ _)).mono ?_
    rw [ho]
    rintro e wv ⟨rfl, hb⟩
    have hbx0 := below_box hb
    have a0 : wv.cell? ⟨w.heap.size, 0, none⟩ = some (.int .i64 W) := by simpa using newbox hbx0 0
    have a1 : wv.cell? ⟨w.heap.size, 1, none⟩ = some (.int .i64 H) := by simpa using newbox hbx0 1
    have a2 : wv.cell? ⟨w.heap.size, 2, none⟩ = some (.slice A n c) := by simpa using newbox hbx0 2
    have al : w.heap.size < wv.heap.size := by simpa using newbox_lt hbx0
    have l0 : wv.cell? ⟨w.heap.size + 1, 0, none⟩ = some (.int .i64 a) := by simpa using newbox hb 0
    have l1 : wv.cell? ⟨w.heap.size + 1, 1, none⟩ = some (.int .i64 b) := by simpa using newbox hb 1
    have ll : w.heap.size + 1 < wv.heap.size := by simpa using newbox_lt hb
    have B := Lib.hid (below_box hbx0)
    clear hb hbx0
    go_wp2_with fail
    refine (onwardOfK_any W H A n c xs a b _ (ha.keep B.out) HF.out.g HF.out.l).mono ?_
    rintro e wx ⟨mb, rfl, hom, hb⟩
    have HOM := Lib.hid hom
    replace a0 := cell_keep a0 al hb; replace a1 := cell_keep a1 al hb; replace a2 := cell_keep a2 al hb; replace l0 := cell_keep l0 ll hb; replace l1 := cell_keep l1 ll hb; replace al := lt_keep al hb; replace ll := lt_keep ll hb
    replace B := Lib.hid (below_next B.out hb)
    clear hom hb
    go_wp2_with fail
    refine (isWholeK_any W H xs a b N _ mb _ HF.out HOM.out).mono ?_
    rintro e wy ⟨rfl, hb⟩
    replace HOM := Lib.hid (HOM.out.keep hb)
    replace a0 := cell_keep a0 al hb; replace a1 := cell_keep a1 al hb; replace a2 := cell_keep a2 al hb; replace l0 := cell_keep l0 ll hb; replace l1 := cell_keep l1 ll hb; replace al := lt_keep al hb; replace ll := lt_keep ll hb
    replace B := Lib.hid (below_next B.out hb)
    clear hb
    by_cases h1 : (partsL W H xs a b).length = 1
    · have hw : wholeV W H xs a b = true := by rw [wholeV, HOK.out, h1]; rfl
      have HW := Lib.hid hw
      rw [show decide ((partsL W H xs a b).length = 1) = true by simpa using h1]
      clear hw h1
      go_wp2_with fail
      refine (cellsThere_any W H A n c xs _ (ha.keep B.out) HF.out.g).mono ?_
      rintro e ws ⟨A1, n1, c1, rfl, hst, hb⟩
      replace HOM := Lib.hid (HOM.out.keep hb)
      replace a0 := cell_keep a0 al hb; replace a1 := cell_keep a1 al hb; replace a2 := cell_keep a2 al hb; replace l0 := cell_keep l0 ll hb; replace l1 := cell_keep l1 ll hb; replace al := lt_keep al hb; replace ll := lt_keep ll hb
      replace B := Lib.hid (below_next B.out hb)
      have ST := Lib.hid hst.rd
      have SL := Lib.hid hst.len
      have n8 : n1 ≤ 64 := by have := cellsTo_len (W := W) (H := H) (hs := xs) (W * H).toNat; have := hst.len; have := HN.out; unfold cellsL at *; omega
      have n9 := hst.rd.2.1
      clear hst hb
      go_wp2
      go_loopw [7, 8, 25] (fun v u i wr => ∃ (k n' c' : Nat) (A' : Option Addr), k ≤ n1 ∧ i = .int .i64 k ∧ v = .slice A' n' c' ∧ u = .int .i64 (midToI W H xs a b k).2 ∧ OwnI 3 wr ws.heap.size A' n' c' (midToI W H xs a b k).1 ∧ Below ws.heap.size ws wr) (fun _ _ i _ => n1 - (intOf i).toNat)
      case atStart => exact ⟨0, 0, 0, none, by omega, rfl, rfl, rfl, OwnI.none_ _ _ _, Below.refl _ _⟩
      case round =>
        obtain ⟨k, n', c', A', hk, rfl, rfl, rfl, hown, hbw⟩ := hrel
        have hn64 : n' ≤ 64 := by have := midToI_len W H xs a b k; have := hown.len; omega
        have hl64 := midToI_bd HF.out k
        by_cases hlt : k < n1
        · obtain ⟨bb, oo, x, rfl, hg1, hx, x0⟩ := (ST.out.keep hbw).at_ hlt
          have hin := cellsL_mem.1 (List.mem_of_getElem? hx)
          have hxr := (hasB_iff.1 hin).1
          rw [HF.out.wh] at hxr
          obtain ⟨xn, rfl⟩ : ∃ xn : Nat, x = (xn : Int) := ⟨x.toNat, by omega⟩
          have hxn : xn < N := by omega
          have hxh : hasB W H xs (xn : Int) = true := hin
          have hfb := farF_bd HF.out hxh
          have est := midToI_next (a := a) (b := b) hx
          have HXI := Lib.hid hxh
          have HFB := Lib.hid hfb
          obtain ⟨mo, hmo⟩ : ∃ mo, mo = (midToI W H xs a b k).1 := ⟨_, rfl⟩
          obtain ⟨ml, hml⟩ : ∃ ml, ml = (midToI W H xs a b k).2 := ⟨_, rfl⟩
          have e2 : midToI W H xs a b k = (mo, ml) := by rw [hmo, hml]
          rw [e2] at est
          rw [← hmo] at hown
          rw [← hml] at hl64 ⊢
          have EST := Lib.hid est; have HO := Lib.hid hown
          have HB := Lib.hid (below_next B.out hbw); have HBW := Lib.hid hbw
          have b0 := cell_keep a0 al hbw; have b1 := cell_keep a1 al hbw; have b2 := cell_keep a2 al hbw; have m0 := cell_keep l0 ll hbw; have m1 := cell_keep l1 ll hbw
          clear hx hin hxr hxh hfb est hmo hml e2 hbw hown
          go_wp2_with fail
          refine (distancesFrom_any _ mb (cellsL W H xs) (leapsL W H xs a b) xn _ (HOM.out.keep HBW.out).on (by omega) (cellsL_mem.2 HXI.out) (cells_in HF.out) adj_in).mono ?_
          rintro e wu ⟨rfl, hb⟩
          have h64 := far_len64 HF.out HXI.out
          replace HBW := Lib.hid (below_next HBW.out hb); replace HO := Lib.hid (HO.out.keep hb)
          clear hb x0 b0 b1 b2 m0 m1
          go_wp2_with fail
          refine (greatest_any _ h64 _).mono ?_
          rintro e wz ⟨rfl, hb⟩
          rw [farF_max HF.out HXI.out]
          replace HBW := Lib.hid (below_next HBW.out hb); replace HO := Lib.hid (HO.out.keep hb)
          have hsz9 : ws.heap.size ≤ wz.heap.size := HBW.out.size
          clear hb h64
          obtain ⟨fx, hfe⟩ : ∃ fx, fx = farF W H xs a b (xn : Int) := ⟨_, rfl⟩
          have hfx := HFB.out
          rw [← hfe] at hfx ⊢
          have HFE := Lib.hid hfe
          clear hfe
          by_cases h1 : fx < ml
          · go_wp2_with (at_builtin; refine wpList_app1 rfl (.tmp 40) (.tmp 42) 22 3 rfl i0 Tryz.underlying22 HI.out HZ0.out HZ1.out HZ2.out ws.heap.size none 0 0 [] (xn : Int) rfl (OwnI.none_ _ _ _) rfl (by omega) hsz9 ?_; intro A2 c2' w2 hown2 hb2')
            have HO3 := Lib.hid hown2; have HB3 := Lib.hid (HBW.out.trans hb2')
            clear hown2 hb2'
            go_wp2
            go_roundw
            case rel =>
              have e : midToI W H xs a b (k + 1) = ([(xn : Int)], fx) := by rw [EST.out, midStepI, if_pos (by rw [← HFE.out]; exact h1), ← HFE.out]
              exact ⟨k + 1, 0 + 1, c2', A2, by omega, by go_num, rfl, by rw [e], by rw [e]; simpa using HO3.out, HB3.out⟩
            case measure => simp [intOf]; omega
          · have h1' : decide (fx < ml) = false := by simpa using h1
            by_cases h2 : fx = ml
            · subst h2
              go_wp2_with (at_builtin; refine wpList_app1 rfl (.tmp 40) (.tmp 42) 22 3 rfl i0 Tryz.underlying22 HI.out HZ0.out HZ1.out HZ2.out ws.heap.size A' n' c' mo (xn : Int) rfl HO.out rfl (by omega) hsz9 ?_; intro A2 c2' w2 hown2 hb2')
              have HO3 := Lib.hid hown2; have HB3 := Lib.hid (HBW.out.trans hb2')
              clear hown2 hb2'
              go_wp2
              go_roundw
              case rel =>
                have e : midToI W H xs a b (k + 1) = (mo ++ [(xn : Int)], fx) := by rw [EST.out, midStepI, if_neg (by rw [← HFE.out]; simp only; omega), if_pos (by rw [← HFE.out])]
                exact ⟨k + 1, n' + 1, c2', A2, by omega, by go_num, rfl, by rw [e], by rw [e]; exact HO3.out, HB3.out⟩
              case measure => simp [intOf]; omega
            · have h2' : (fx == ml) = false := by simpa using h2
              go_wp2
              go_roundw
              case rel =>
                have e : midToI W H xs a b (k + 1) = (mo, ml) := by rw [EST.out, midStepI, if_neg (by rw [← HFE.out]; simp only; omega), if_neg (by rw [← HFE.out]; exact h2)]
                exact ⟨k + 1, n', c', A', by omega, by go_num, rfl, by rw [e], by rw [e]; exact HO.out, HBW.out⟩
              case measure => simp [intOf]; omega
        · obtain rfl : k = n1 := by omega
          have HB := Lib.hid (below_next B.out hbw)
          have eW : (midToI W H xs a b k).1 = middlesV W H xs a b := by rw [mid_same HF.out k, middlesV, if_pos HW.out, midTo, midTo, List.take_of_length_le (by have := SL.out; omega), List.take_length]
          rw [eW] at hown
          have HO := Lib.hid (hown.lower B.out.size)
          clear hbw hown eW hl64
          go_wp2
          go_ret2
          exact ⟨_, _, _, by rw [HW.out]; rfl, HO.out, HB.out⟩
    · have hw : wholeV W H xs a b = false := by rw [wholeV, HOK.out, show decide ((partsL W H xs a b).length = 1) = false by simpa using h1]; rfl
      have HW := Lib.hid hw
      rw [show decide ((partsL W H xs a b).length = 1) = false by simpa using h1]
      clear hw
      go_wp2
      go_ret2
      exact ⟨none, 0, 0, by rw [HW.out]; rfl, by rw [middlesV, if_neg (by rw [HW.out]; simp)]; exact OwnI.none_ _ _ _, B.out⟩
  · have ho' : onB W H xs a b [] = false := by simpa using ho
    go_enter Tryz.func22, Tryz.ntmps22
    go_wp2_with fail
    refine (isLeaperOn_any _ _ _ _ _ _ _ _ _ _ _ [] _ ((ha.alloc _).alloc _) (Rd.nil _ _)).mono ?_
    rw [ho']
    rintro e wv ⟨rfl, hb⟩
    have hbx0 := below_box hb
    have a0 : wv.cell? ⟨w.heap.size, 0, none⟩ = some (.int .i64 W) := by simpa using newbox hbx0 0
    have a1 : wv.cell? ⟨w.heap.size, 1, none⟩ = some (.int .i64 H) := by simpa using newbox hbx0 1
    have a2 : wv.cell? ⟨w.heap.size, 2, none⟩ = some (.slice A n c) := by simpa using newbox hbx0 2
    have al : w.heap.size < wv.heap.size := by simpa using newbox_lt hbx0
    have l0 : wv.cell? ⟨w.heap.size + 1, 0, none⟩ = some (.int .i64 a) := by simpa using newbox hb 0
    have l1 : wv.cell? ⟨w.heap.size + 1, 1, none⟩ = some (.int .i64 b) := by simpa using newbox hb 1
    have ll : w.heap.size + 1 < wv.heap.size := by simpa using newbox_lt hb
    have B := Lib.hid (below_box hbx0)
    clear hb hbx0
    go_wp2
    go_ret2
    exact ⟨none, 0, 0, by rw [show wholeV W H xs a b = false by rw [wholeV, show okTwo W H xs a b = false by (rw [← onB_nil2, ho'])]; rfl]; rfl, by rw [middlesV, if_neg (by rw [wholeV, show okTwo W H xs a b = false by (rw [← onB_nil2, ho'])]; simp)]; exact OwnI.none_ _ _ _, B.out⟩

end Go.Proofs.YtoangjjikmjkgaaGreat

namespace Go.Proofs.YtoangjjikmjkgaaGreat
open Go.RowKit

theorem len_MiddlesOf (W H : Int) (xs : List Int) (a b : Int) : (middlesV W H xs a b).length ≤ 1000000 := by
  unfold middlesV
  split
  · rename_i h
    rw [wholeV, Bool.and_eq_true] at h
    have hF := on_facts h.1
    have h1 := midTo_len W H xs a b (cellsL W H xs).length
    have h2 := cellsTo_len (W := W) (H := H) (hs := xs) (W * H).toNat
    have := hF.n; have := hF.wh
    unfold cellsL at h1; unfold cellsL; omega
  · simp

end Go.Proofs.YtoangjjikmjkgaaGreat

namespace Go.Proofs.YtoangjjikmjkgaaGreat
open Go.RowKit

set_option maxHeartbeats 4000000 in
set_option maxRecDepth 100000 in
theorem law_MiddlesOf (w : World) (V0 G0 : Int) (A0 : Option Addr) (n0 c0 : Nat) (xs0 : List Int) (ha0 : Rd w A0 n0 xs0) (la1 lb1 : Int) :
    Calls Tryz.prog 6 #[brd V0 G0 A0 n0 c0, lpr la1 lb1] w fun e w' => e = .returned (.bool true) ∧ Below w.heap.size w w' := by
  have hn9 := ha0.2.1
  by_cases hnB : (n0 : Int) ≤ 1048576
  rotate_left
  · go_enter Tryz.func6, Tryz.ntmps6
    go_wp2_with fail
    refine (szBoard_any _ _ _ _ _ _ _ hn9 (by omega) (by omega)).mono ?_
    rintro e wv ⟨rfl, hb⟩
    have B := Lib.hid (below_box (below_box hb))
    clear hb
    go_wp2
    go_ret
    exact ⟨rfl, B.out⟩
  · go_enter Tryz.func6, Tryz.ntmps6
    go_wp2_with fail
    refine (szBoard_any _ _ _ _ _ _ _ hn9 (by omega) (by omega)).mono ?_
    rintro e wv ⟨rfl, hb⟩
    have hbx0 := below_box hb
    have a0 : wv.cell? ⟨w.heap.size, 0, none⟩ = some (.int .i64 V0) := by simpa using newbox hbx0 0
    have a1 : wv.cell? ⟨w.heap.size, 1, none⟩ = some (.int .i64 G0) := by simpa using newbox hbx0 1
    have a2 : wv.cell? ⟨w.heap.size, 2, none⟩ = some (.slice A0 n0 c0) := by simpa using newbox hbx0 2
    have al : w.heap.size < wv.heap.size := by simpa using newbox_lt hbx0
    have l0 : wv.cell? ⟨w.heap.size + 1, 0, none⟩ = some (.int .i64 la1) := by simpa using newbox hb 0
    have l1 : wv.cell? ⟨w.heap.size + 1, 1, none⟩ = some (.int .i64 lb1) := by simpa using newbox hb 1
    have ll : w.heap.size + 1 < wv.heap.size := by simpa using newbox_lt hb
    have B := Lib.hid (below_box hbx0)
    have hs1 := Lib.hid (below_box hbx0).size
    have hz := Lib.hid ll
    clear hb hbx0
    go_wp2_with fail
    go_region_held3 (fun w' => w'.cell? ⟨w.heap.size, 0, none⟩ = some (.int .i64 V0) ∧ w'.cell? ⟨w.heap.size, 1, none⟩ = some (.int .i64 G0) ∧ w'.cell? ⟨w.heap.size, 2, none⟩ = some (.slice A0 n0 c0) ∧ w'.cell? ⟨w.heap.size + 1, 0, none⟩ = some (.int .i64 la1) ∧ w'.cell? ⟨w.heap.size + 1, 1, none⟩ = some (.int .i64 lb1)) (first | exact ⟨a0, a1, a2, l0, l1⟩)
      (first
        | (go_at_call 9; refine (toBoard_any _ _ _ _ _ _ _ (by exact (ha0.keep B.out).drew1) (by omega)).mono ?_; rintro e wv ⟨gs, rfl, owns, hb⟩; (try replace hb := below_undrew hb); replace a0 := cell_keep a0 al hb; replace a1 := cell_keep a1 al hb; replace a2 := cell_keep a2 al hb; replace al := lt_keep al hb; replace l0 := cell_keep l0 ll hb; replace l1 := cell_keep l1 ll hb; replace ll := lt_keep ll hb; (try replace Os := Lib.hid (Os.out.keep hb)); have hs2 := Lib.hid hb.size; replace B := Lib.hid (below_next B.out hb); have Os := Lib.hid owns; have SPs := Lib.hid owns.span; clear owns; clear hb)
        | (go_at_call 10; refine (toLeaper_any _ _ _).mono ?_; rintro e wv ⟨rfl, hb⟩; (try replace hb := below_undrew hb); replace a0 := cell_keep a0 al hb; replace a1 := cell_keep a1 al hb; replace a2 := cell_keep a2 al hb; replace al := lt_keep al hb; replace l0 := cell_keep l0 ll hb; replace l1 := cell_keep l1 ll hb; replace ll := lt_keep ll hb; (try replace Os := Lib.hid (Os.out.keep hb)); have hs3 := Lib.hid hb.size; replace B := Lib.hid (below_next B.out hb); clear hb)
        | (go_at_call 21; refine (spec_MiddlesOf _ _ _ _ _ _ _ _ _ (by exact Os.out.rd)).mono ?_; rintro e wv ⟨AW, nW, cW, rfl, ownW, hb⟩; (try replace hb := below_undrew hb); replace a0 := cell_keep a0 al hb; replace a1 := cell_keep a1 al hb; replace a2 := cell_keep a2 al hb; replace al := lt_keep al hb; replace l0 := cell_keep l0 ll hb; replace l1 := cell_keep l1 ll hb; replace ll := lt_keep ll hb; have hs4 := Lib.hid hb.size; replace B := Lib.hid (below_next B.out hb); have OW := Lib.hid ownW; have SPW := Lib.hid ownW.span; clear ownW; clear hb))
    all_goals
      clear Os SPs
      go_wp2_with fail
      refine (toBoard_any _ _ _ _ _ _ _ (ha0.keep B.out) (by omega)).mono ?_
      rintro e wv ⟨gx, rfl, ownx, hb⟩
      replace a0 := cell_keep a0 al hb
      replace a1 := cell_keep a1 al hb
      replace a2 := cell_keep a2 al hb
      replace al := lt_keep al hb
      replace l0 := cell_keep l0 ll hb
      replace l1 := cell_keep l1 ll hb
      replace ll := lt_keep ll hb
      replace OW := Lib.hid (OW.out.keep hb)
      have hs5 := Lib.hid hb.size
      replace B := Lib.hid (below_next B.out hb)
      have Ox := Lib.hid ownx; have SPx := Lib.hid ownx.span; clear ownx; clear hb
      obtain ⟨wx, hwx⟩ : ∃ wx, wx = wv := ⟨_, rfl⟩
      subst hwx
      go_wp2_with fail
      have hb := Below.refl (wx.alloc (.cells #[.int .i64 V0, .int .i64 G0, .slice (some ⟨gx, 0, none⟩) n0 n0] 30)).heap.size (wx.alloc (.cells #[.int .i64 V0, .int .i64 G0, .slice (some ⟨gx, 0, none⟩) n0 n0] 30))
      have x0 : (wx.alloc (.cells #[.int .i64 V0, .int .i64 G0, .slice (some ⟨gx, 0, none⟩) n0 n0] 30)).cell? ⟨wx.heap.size, 0, none⟩ = some (.int .i64 V0) := by simp
      have x1 : (wx.alloc (.cells #[.int .i64 V0, .int .i64 G0, .slice (some ⟨gx, 0, none⟩) n0 n0] 30)).cell? ⟨wx.heap.size, 1, none⟩ = some (.int .i64 G0) := by simp
      have x2 : (wx.alloc (.cells #[.int .i64 V0, .int .i64 G0, .slice (some ⟨gx, 0, none⟩) n0 n0] 30)).cell? ⟨wx.heap.size, 2, none⟩ = some (.slice (some ⟨gx, 0, none⟩) n0 n0) := by simp
      have xl := newbox_lt hb
      have hzx := Lib.hid xl
      replace hb := below_box hb
      replace a0 := cell_keep a0 al hb
      replace a1 := cell_keep a1 al hb
      replace a2 := cell_keep a2 al hb
      replace al := lt_keep al hb
      replace l0 := cell_keep l0 ll hb
      replace l1 := cell_keep l1 ll hb
      replace ll := lt_keep ll hb
      replace OW := Lib.hid (OW.out.keep hb)
      replace Ox := Lib.hid (Ox.out.keep hb)
      have hs6 := Lib.hid hb.size
      replace B := Lib.hid (below_next B.out hb)
      clear hb
      have hx0 : gx < wx.heap.size := (SPx.out _ rfl).2
      generalize wx.alloc (.cells #[.int .i64 V0, .int .i64 G0, .slice (some ⟨gx, 0, none⟩) n0 n0] 30) = wv at *
      generalize hx : wx.heap.size = x at *
      go_wp2_with fail
      go_region_held3 (fun w' => w'.cell? ⟨w.heap.size, 0, none⟩ = some (.int .i64 V0) ∧ w'.cell? ⟨w.heap.size, 1, none⟩ = some (.int .i64 G0) ∧ w'.cell? ⟨w.heap.size, 2, none⟩ = some (.slice A0 n0 c0) ∧ w'.cell? ⟨w.heap.size + 1, 0, none⟩ = some (.int .i64 la1) ∧ w'.cell? ⟨w.heap.size + 1, 1, none⟩ = some (.int .i64 lb1) ∧ w'.cell? ⟨x, 0, none⟩ = some (.int .i64 V0) ∧ w'.cell? ⟨x, 1, none⟩ = some (.int .i64 G0) ∧ w'.cell? ⟨x, 2, none⟩ = some (.slice (some ⟨gx, 0, none⟩) n0 n0)) (first | exact ⟨a0, a1, a2, l0, l1, x0, x1, x2⟩)
        (first
          | (go_at_call 10; refine (toLeaper_any _ _ _).mono ?_; rintro e wv ⟨rfl, hb⟩; (try replace hb := below_undrew hb); replace a0 := cell_keep a0 al hb; replace a1 := cell_keep a1 al hb; replace a2 := cell_keep a2 al hb; replace al := lt_keep al hb; replace l0 := cell_keep l0 ll hb; replace l1 := cell_keep l1 ll hb; replace ll := lt_keep ll hb; replace x0 := cell_keep x0 xl hb; replace x1 := cell_keep x1 xl hb; replace x2 := cell_keep x2 xl hb; replace xl := lt_keep xl hb; replace OW := Lib.hid (OW.out.keep hb); replace Ox := Lib.hid (Ox.out.keep hb); have hs7 := Lib.hid hb.size; replace B := Lib.hid (below_next B.out hb); clear hb)
          | (go_at_call 22; refine (impl_MiddlesOf _ _ _ _ _ _ _ _ _ (by exact Ox.out.rd)).mono ?_; rintro e wv ⟨AG, nG, cG, rfl, ownG, hb⟩; (try replace hb := below_undrew hb); replace a0 := cell_keep a0 al hb; replace a1 := cell_keep a1 al hb; replace a2 := cell_keep a2 al hb; replace al := lt_keep al hb; replace l0 := cell_keep l0 ll hb; replace l1 := cell_keep l1 ll hb; replace ll := lt_keep ll hb; replace x0 := cell_keep x0 xl hb; replace x1 := cell_keep x1 xl hb; replace x2 := cell_keep x2 xl hb; replace xl := lt_keep xl hb; replace OW := Lib.hid (OW.out.keep hb); replace Ox := Lib.hid (Ox.out.keep hb); have hs8 := Lib.hid hb.size; replace B := Lib.hid (below_next B.out hb); have OG := Lib.hid ownG; have SPG := Lib.hid ownG.span; clear ownG; clear hb))
      have SZ := Lib.hid (show nG ≤ 1000000 by rw [← OG.out.len]; exact len_MiddlesOf _ _ _ _ _)
      go_wp2_with fail
      refine (eqIntS_any _ _ _ _ _ _ _ _ _ OG.out.rd OW.out.rd).mono ?_
      simp only [decide_true]
      rintro e wv ⟨rfl, hb⟩
      replace a0 := cell_keep a0 al hb
      replace a1 := cell_keep a1 al hb
      replace a2 := cell_keep a2 al hb
      replace al := lt_keep al hb
      replace l0 := cell_keep l0 ll hb
      replace l1 := cell_keep l1 ll hb
      replace ll := lt_keep ll hb
      replace x0 := cell_keep x0 xl hb
      replace x1 := cell_keep x1 xl hb
      replace x2 := cell_keep x2 xl hb
      replace xl := lt_keep xl hb
      replace OW := Lib.hid (OW.out.keep hb)
      replace Ox := Lib.hid (Ox.out.keep hb)
      replace OG := Lib.hid (OG.out.keep hb)
      have hs9 := Lib.hid hb.size
      replace B := Lib.hid (below_next B.out hb)
      clear hb
      go_wp2_with fail
      go_region_held3 (fun w' => w'.cell? ⟨w.heap.size, 0, none⟩ = some (.int .i64 V0) ∧ w'.cell? ⟨w.heap.size, 1, none⟩ = some (.int .i64 G0) ∧ w'.cell? ⟨w.heap.size, 2, none⟩ = some (.slice A0 n0 c0) ∧ w'.cell? ⟨w.heap.size + 1, 0, none⟩ = some (.int .i64 la1) ∧ w'.cell? ⟨w.heap.size + 1, 1, none⟩ = some (.int .i64 lb1) ∧ w'.cell? ⟨x, 0, none⟩ = some (.int .i64 V0) ∧ w'.cell? ⟨x, 1, none⟩ = some (.int .i64 G0) ∧ w'.cell? ⟨x, 2, none⟩ = some (.slice (some ⟨gx, 0, none⟩) n0 n0)) (first | exact ⟨a0, a1, a2, l0, l1, x0, x1, x2⟩)
        (first
          | (go_at_call 9; refine (toBoard_any _ _ _ _ _ _ _ (by exact (ha0.keep B.out).drew1) (by omega)).mono ?_; rintro e wv ⟨gy, rfl, owny, hb⟩; (try replace hb := below_undrew hb); replace a0 := cell_keep a0 al hb; replace a1 := cell_keep a1 al hb; replace a2 := cell_keep a2 al hb; replace al := lt_keep al hb; replace l0 := cell_keep l0 ll hb; replace l1 := cell_keep l1 ll hb; replace ll := lt_keep ll hb; replace x0 := cell_keep x0 xl hb; replace x1 := cell_keep x1 xl hb; replace x2 := cell_keep x2 xl hb; replace xl := lt_keep xl hb; replace OW := Lib.hid (OW.out.keep hb); replace Ox := Lib.hid (Ox.out.keep hb); replace OG := Lib.hid (OG.out.keep hb); have hs10 := Lib.hid hb.size; replace B := Lib.hid (below_next B.out hb); have Oy := Lib.hid owny; have SPy := Lib.hid owny.span; clear owny; clear hb)
          | (go_at_call 12; refine (eqBoard_any _ _ _ _ _ _ _ _ _ _ _ Ox.out.rd Oy.out.rd).mono ?_; simp only [decide_true]; rintro e wv ⟨rfl, hb⟩; (try replace hb := below_undrew hb); replace a0 := cell_keep a0 al hb; replace a1 := cell_keep a1 al hb; replace a2 := cell_keep a2 al hb; replace al := lt_keep al hb; replace l0 := cell_keep l0 ll hb; replace l1 := cell_keep l1 ll hb; replace ll := lt_keep ll hb; replace x0 := cell_keep x0 xl hb; replace x1 := cell_keep x1 xl hb; replace x2 := cell_keep x2 xl hb; replace xl := lt_keep xl hb; replace OW := Lib.hid (OW.out.keep hb); replace Ox := Lib.hid (Ox.out.keep hb); replace OG := Lib.hid (OG.out.keep hb); have hs11 := Lib.hid hb.size; replace B := Lib.hid (below_next B.out hb); clear hb Oy SPy))
      go_wp2_with fail
      refine (markBoard_any _ _ _ _ _ _ 1 _ _ Ox.out (by omega) (by omega)).mono ?_
      rintro e wv ⟨rfl, Ox', hg⟩
      replace a0 := cell_mark a0 hg (row_ne fun b hb => by have := SPx.out b hb; have := hz.out; have := hzx.out; have := hs1.out; have := hs2.out; have := hs3.out; have := hs4.out; have := hs5.out; have := hs6.out; have := hs7.out; have := hs8.out; have := hs9.out; have := hs10.out; have := hs11.out; omega)
      replace a1 := cell_mark a1 hg (row_ne fun b hb => by have := SPx.out b hb; have := hz.out; have := hzx.out; have := hs1.out; have := hs2.out; have := hs3.out; have := hs4.out; have := hs5.out; have := hs6.out; have := hs7.out; have := hs8.out; have := hs9.out; have := hs10.out; have := hs11.out; omega)
      replace a2 := cell_mark a2 hg (row_ne fun b hb => by have := SPx.out b hb; have := hz.out; have := hzx.out; have := hs1.out; have := hs2.out; have := hs3.out; have := hs4.out; have := hs5.out; have := hs6.out; have := hs7.out; have := hs8.out; have := hs9.out; have := hs10.out; have := hs11.out; omega)
      replace al := Nat.lt_of_lt_of_le al hg.size
      replace l0 := cell_mark l0 hg (row_ne fun b hb => by have := SPx.out b hb; have := hz.out; have := hzx.out; have := hs1.out; have := hs2.out; have := hs3.out; have := hs4.out; have := hs5.out; have := hs6.out; have := hs7.out; have := hs8.out; have := hs9.out; have := hs10.out; have := hs11.out; omega)
      replace l1 := cell_mark l1 hg (row_ne fun b hb => by have := SPx.out b hb; have := hz.out; have := hzx.out; have := hs1.out; have := hs2.out; have := hs3.out; have := hs4.out; have := hs5.out; have := hs6.out; have := hs7.out; have := hs8.out; have := hs9.out; have := hs10.out; have := hs11.out; omega)
      replace ll := Nat.lt_of_lt_of_le ll hg.size
      replace x0 := cell_mark x0 hg (row_ne fun b hb => by have := SPx.out b hb; have := hz.out; have := hzx.out; have := hs1.out; have := hs2.out; have := hs3.out; have := hs4.out; have := hs5.out; have := hs6.out; have := hs7.out; have := hs8.out; have := hs9.out; have := hs10.out; have := hs11.out; omega)
      replace x1 := cell_mark x1 hg (row_ne fun b hb => by have := SPx.out b hb; have := hz.out; have := hzx.out; have := hs1.out; have := hs2.out; have := hs3.out; have := hs4.out; have := hs5.out; have := hs6.out; have := hs7.out; have := hs8.out; have := hs9.out; have := hs10.out; have := hs11.out; omega)
      replace x2 := cell_mark x2 hg (row_ne fun b hb => by have := SPx.out b hb; have := hz.out; have := hzx.out; have := hs1.out; have := hs2.out; have := hs3.out; have := hs4.out; have := hs5.out; have := hs6.out; have := hs7.out; have := hs8.out; have := hs9.out; have := hs10.out; have := hs11.out; omega)
      replace xl := Nat.lt_of_lt_of_le xl hg.size
      replace OW := Lib.hid (OW.out.other hg fun a ha => row_ne fun b hb => by have := SPW.out a ha; have := SPx.out b hb; have := hz.out; have := hzx.out; have := hs1.out; have := hs2.out; have := hs3.out; have := hs4.out; have := hs5.out; have := hs6.out; have := hs7.out; have := hs8.out; have := hs9.out; have := hs10.out; have := hs11.out; omega)
      replace OG := Lib.hid (OG.out.other hg fun a ha => row_ne fun b hb => by have := SPG.out a ha; have := SPx.out b hb; have := hz.out; have := hzx.out; have := hs1.out; have := hs2.out; have := hs3.out; have := hs4.out; have := hs5.out; have := hs6.out; have := hs7.out; have := hs8.out; have := hs9.out; have := hs10.out; have := hs11.out; omega)
      replace B := Lib.hid (B.out.grown hg B.out.size (row_ge fun b hb => by have := SPx.out b hb; have := hz.out; have := hzx.out; have := hs1.out; have := hs2.out; have := hs3.out; have := hs4.out; have := hs5.out; have := hs6.out; have := hs7.out; have := hs8.out; have := hs9.out; have := hs10.out; have := hs11.out; omega))
      have hs12 := Lib.hid hg.size
      replace Ox := Lib.hid Ox'; clear Ox' hg
      go_wp2_with fail
      refine (eqIntS_any _ _ _ _ _ _ _ _ _ OG.out.rd OW.out.rd).mono ?_
      simp only [decide_true]
      rintro e wv ⟨rfl, hb⟩
      replace a0 := cell_keep a0 al hb
      replace a1 := cell_keep a1 al hb
      replace a2 := cell_keep a2 al hb
      replace al := lt_keep al hb
      replace l0 := cell_keep l0 ll hb
      replace l1 := cell_keep l1 ll hb
      replace ll := lt_keep ll hb
      replace x0 := cell_keep x0 xl hb
      replace x1 := cell_keep x1 xl hb
      replace x2 := cell_keep x2 xl hb
      replace xl := lt_keep xl hb
      replace OW := Lib.hid (OW.out.keep hb)
      replace Ox := Lib.hid (Ox.out.keep hb)
      replace OG := Lib.hid (OG.out.keep hb)
      have hs13 := Lib.hid hb.size
      replace B := Lib.hid (below_next B.out hb)
      clear hb
      go_wp2_with fail
      refine (markIntS_any _ _ _ _ 1 _ _ OG.out (by omega) (by have := SZ.out; omega)).mono ?_
      rintro e wv ⟨rfl, OG', hg⟩
      replace a0 := cell_mark a0 hg (row_ne fun b hb => by have := SPG.out b hb; have := hz.out; have := hzx.out; have := hs1.out; have := hs2.out; have := hs3.out; have := hs4.out; have := hs5.out; have := hs6.out; have := hs7.out; have := hs8.out; have := hs9.out; have := hs10.out; have := hs11.out; have := hs12.out; have := hs13.out; omega)
      replace a1 := cell_mark a1 hg (row_ne fun b hb => by have := SPG.out b hb; have := hz.out; have := hzx.out; have := hs1.out; have := hs2.out; have := hs3.out; have := hs4.out; have := hs5.out; have := hs6.out; have := hs7.out; have := hs8.out; have := hs9.out; have := hs10.out; have := hs11.out; have := hs12.out; have := hs13.out; omega)
      replace a2 := cell_mark a2 hg (row_ne fun b hb => by have := SPG.out b hb; have := hz.out; have := hzx.out; have := hs1.out; have := hs2.out; have := hs3.out; have := hs4.out; have := hs5.out; have := hs6.out; have := hs7.out; have := hs8.out; have := hs9.out; have := hs10.out; have := hs11.out; have := hs12.out; have := hs13.out; omega)
      replace al := Nat.lt_of_lt_of_le al hg.size
      replace l0 := cell_mark l0 hg (row_ne fun b hb => by have := SPG.out b hb; have := hz.out; have := hzx.out; have := hs1.out; have := hs2.out; have := hs3.out; have := hs4.out; have := hs5.out; have := hs6.out; have := hs7.out; have := hs8.out; have := hs9.out; have := hs10.out; have := hs11.out; have := hs12.out; have := hs13.out; omega)
      replace l1 := cell_mark l1 hg (row_ne fun b hb => by have := SPG.out b hb; have := hz.out; have := hzx.out; have := hs1.out; have := hs2.out; have := hs3.out; have := hs4.out; have := hs5.out; have := hs6.out; have := hs7.out; have := hs8.out; have := hs9.out; have := hs10.out; have := hs11.out; have := hs12.out; have := hs13.out; omega)
      replace ll := Nat.lt_of_lt_of_le ll hg.size
      replace x0 := cell_mark x0 hg (row_ne fun b hb => by have := SPG.out b hb; have := hz.out; have := hzx.out; have := hs1.out; have := hs2.out; have := hs3.out; have := hs4.out; have := hs5.out; have := hs6.out; have := hs7.out; have := hs8.out; have := hs9.out; have := hs10.out; have := hs11.out; have := hs12.out; have := hs13.out; omega)
      replace x1 := cell_mark x1 hg (row_ne fun b hb => by have := SPG.out b hb; have := hz.out; have := hzx.out; have := hs1.out; have := hs2.out; have := hs3.out; have := hs4.out; have := hs5.out; have := hs6.out; have := hs7.out; have := hs8.out; have := hs9.out; have := hs10.out; have := hs11.out; have := hs12.out; have := hs13.out; omega)
      replace x2 := cell_mark x2 hg (row_ne fun b hb => by have := SPG.out b hb; have := hz.out; have := hzx.out; have := hs1.out; have := hs2.out; have := hs3.out; have := hs4.out; have := hs5.out; have := hs6.out; have := hs7.out; have := hs8.out; have := hs9.out; have := hs10.out; have := hs11.out; have := hs12.out; have := hs13.out; omega)
      replace xl := Nat.lt_of_lt_of_le xl hg.size
      replace OW := Lib.hid (OW.out.other hg fun a ha => row_ne fun b hb => by have := SPW.out a ha; have := SPG.out b hb; have := hz.out; have := hzx.out; have := hs1.out; have := hs2.out; have := hs3.out; have := hs4.out; have := hs5.out; have := hs6.out; have := hs7.out; have := hs8.out; have := hs9.out; have := hs10.out; have := hs11.out; have := hs12.out; have := hs13.out; omega)
      replace Ox := Lib.hid (Ox.out.other hg fun a ha => row_ne fun b hb => by have := SPx.out a ha; have := SPG.out b hb; have := hz.out; have := hzx.out; have := hs1.out; have := hs2.out; have := hs3.out; have := hs4.out; have := hs5.out; have := hs6.out; have := hs7.out; have := hs8.out; have := hs9.out; have := hs10.out; have := hs11.out; have := hs12.out; have := hs13.out; omega)
      replace B := Lib.hid (B.out.grown hg B.out.size (row_ge fun b hb => by have := SPG.out b hb; have := hz.out; have := hzx.out; have := hs1.out; have := hs2.out; have := hs3.out; have := hs4.out; have := hs5.out; have := hs6.out; have := hs7.out; have := hs8.out; have := hs9.out; have := hs10.out; have := hs11.out; have := hs12.out; have := hs13.out; omega))
      have hs14 := Lib.hid hg.size
      replace OG := Lib.hid OG'; clear OG' hg
      go_wp2_with fail
      refine (heldIntS_any _ _ _ 1 _ OG.out.rd (by omega) (by have := SZ.out; omega)).mono ?_
      rintro e wv ⟨rfl, hb⟩
      replace a0 := cell_keep a0 al hb
      replace a1 := cell_keep a1 al hb
      replace a2 := cell_keep a2 al hb
      replace al := lt_keep al hb
      replace l0 := cell_keep l0 ll hb
      replace l1 := cell_keep l1 ll hb
      replace ll := lt_keep ll hb
      replace x0 := cell_keep x0 xl hb
      replace x1 := cell_keep x1 xl hb
      replace x2 := cell_keep x2 xl hb
      replace xl := lt_keep xl hb
      replace OW := Lib.hid (OW.out.keep hb)
      replace Ox := Lib.hid (Ox.out.keep hb)
      replace OG := Lib.hid (OG.out.keep hb)
      have hs15 := Lib.hid hb.size
      replace B := Lib.hid (below_next B.out hb)
      clear hb
      go_wp2_with fail
      go_region_held3 (fun w' => w'.cell? ⟨w.heap.size, 0, none⟩ = some (.int .i64 V0) ∧ w'.cell? ⟨w.heap.size, 1, none⟩ = some (.int .i64 G0) ∧ w'.cell? ⟨w.heap.size, 2, none⟩ = some (.slice A0 n0 c0) ∧ w'.cell? ⟨w.heap.size + 1, 0, none⟩ = some (.int .i64 la1) ∧ w'.cell? ⟨w.heap.size + 1, 1, none⟩ = some (.int .i64 lb1) ∧ w'.cell? ⟨x, 0, none⟩ = some (.int .i64 V0) ∧ w'.cell? ⟨x, 1, none⟩ = some (.int .i64 G0) ∧ w'.cell? ⟨x, 2, none⟩ = some (.slice (some ⟨gx, 0, none⟩) n0 n0)) (first | exact ⟨a0, a1, a2, l0, l1, x0, x1, x2⟩)
        (first
          | (go_at_call 9; refine (toBoard_any _ _ _ _ _ _ _ (by exact (ha0.keep B.out).drew1) (by omega)).mono ?_; rintro e wv ⟨gz, rfl, ownz, hb⟩; (try replace hb := below_undrew hb); replace a0 := cell_keep a0 al hb; replace a1 := cell_keep a1 al hb; replace a2 := cell_keep a2 al hb; replace al := lt_keep al hb; replace l0 := cell_keep l0 ll hb; replace l1 := cell_keep l1 ll hb; replace ll := lt_keep ll hb; replace x0 := cell_keep x0 xl hb; replace x1 := cell_keep x1 xl hb; replace x2 := cell_keep x2 xl hb; replace xl := lt_keep xl hb; replace OW := Lib.hid (OW.out.keep hb); replace Ox := Lib.hid (Ox.out.keep hb); replace OG := Lib.hid (OG.out.keep hb); (try replace Oz := Lib.hid (Oz.out.keep hb)); have hs16 := Lib.hid hb.size; replace B := Lib.hid (below_next B.out hb); have Oz := Lib.hid ownz; have SPz := Lib.hid ownz.span; clear ownz; clear hb)
          | (go_at_call 10; refine (toLeaper_any _ _ _).mono ?_; rintro e wv ⟨rfl, hb⟩; (try replace hb := below_undrew hb); replace a0 := cell_keep a0 al hb; replace a1 := cell_keep a1 al hb; replace a2 := cell_keep a2 al hb; replace al := lt_keep al hb; replace l0 := cell_keep l0 ll hb; replace l1 := cell_keep l1 ll hb; replace ll := lt_keep ll hb; replace x0 := cell_keep x0 xl hb; replace x1 := cell_keep x1 xl hb; replace x2 := cell_keep x2 xl hb; replace xl := lt_keep xl hb; replace OW := Lib.hid (OW.out.keep hb); replace Ox := Lib.hid (Ox.out.keep hb); replace OG := Lib.hid (OG.out.keep hb); (try replace Oz := Lib.hid (Oz.out.keep hb)); have hs17 := Lib.hid hb.size; replace B := Lib.hid (below_next B.out hb); clear hb)
          | (go_at_call 22; refine (impl_MiddlesOf _ _ _ _ _ _ _ _ _ (by exact Oz.out.rd)).mono ?_; rintro e wv ⟨AH, nH, cH, rfl, ownH, hb⟩; (try replace hb := below_undrew hb); replace a0 := cell_keep a0 al hb; replace a1 := cell_keep a1 al hb; replace a2 := cell_keep a2 al hb; replace al := lt_keep al hb; replace l0 := cell_keep l0 ll hb; replace l1 := cell_keep l1 ll hb; replace ll := lt_keep ll hb; replace x0 := cell_keep x0 xl hb; replace x1 := cell_keep x1 xl hb; replace x2 := cell_keep x2 xl hb; replace xl := lt_keep xl hb; replace OW := Lib.hid (OW.out.keep hb); replace Ox := Lib.hid (Ox.out.keep hb); replace OG := Lib.hid (OG.out.keep hb); have hs18 := Lib.hid hb.size; replace B := Lib.hid (below_next B.out hb); have OH := Lib.hid ownH; have SPH := Lib.hid ownH.span; clear ownH; clear hb))
      all_goals
        clear Oz SPz SPH
        go_wp2_with fail
        refine (eqIntS_any _ _ _ _ _ _ _ _ _ OH.out.rd OW.out.rd).mono ?_
        simp only [decide_true]
        rintro e wv ⟨rfl, hb⟩
        replace a0 := cell_keep a0 al hb
        replace a1 := cell_keep a1 al hb
        replace a2 := cell_keep a2 al hb
        replace al := lt_keep al hb
        replace l0 := cell_keep l0 ll hb
        replace l1 := cell_keep l1 ll hb
        replace ll := lt_keep ll hb
        replace x0 := cell_keep x0 xl hb
        replace x1 := cell_keep x1 xl hb
        replace x2 := cell_keep x2 xl hb
        replace xl := lt_keep xl hb
        replace OW := Lib.hid (OW.out.keep hb)
        replace Ox := Lib.hid (Ox.out.keep hb)
        replace OG := Lib.hid (OG.out.keep hb)
        have hs19 := Lib.hid hb.size
        replace B := Lib.hid (below_next B.out hb)
        clear hb OH
        go_wp2_with fail
        refine (heldIntS_any _ _ _ 1 _ OG.out.rd (by omega) (by have := SZ.out; omega)).mono ?_
        rintro e wv ⟨rfl, hb⟩
        replace a0 := cell_keep a0 al hb
        replace a1 := cell_keep a1 al hb
        replace a2 := cell_keep a2 al hb
        replace al := lt_keep al hb
        replace l0 := cell_keep l0 ll hb
        replace l1 := cell_keep l1 ll hb
        replace ll := lt_keep ll hb
        replace x0 := cell_keep x0 xl hb
        replace x1 := cell_keep x1 xl hb
        replace x2 := cell_keep x2 xl hb
        replace xl := lt_keep xl hb
        replace OW := Lib.hid (OW.out.keep hb)
        replace Ox := Lib.hid (Ox.out.keep hb)
        replace OG := Lib.hid (OG.out.keep hb)
        have hs20 := Lib.hid hb.size
        replace B := Lib.hid (below_next B.out hb)
        clear hb
        go_wp2
        go_ret
        exact ⟨rfl, B.out⟩

end Go.Proofs.YtoangjjikmjkgaaGreat
