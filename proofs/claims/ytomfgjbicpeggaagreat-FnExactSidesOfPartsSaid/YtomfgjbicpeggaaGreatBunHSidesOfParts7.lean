/-
  Rows of booleans, rows of slices: memory words of no law (split from P1: imports no chapter 2).
  Memory words and plain facts for parts of a board: rows of booleans, rows of slices.
  Cells on routes, in plain terms.
  Two colours by parts, in plain terms.
  Contracts: whether no leap joins two cells of one colour, in the model (no table is read).
  Contracts: the parts of a board, in the model.
-/
import Derived.Test.YtomfgjbicpeggaaGreatBunHSidesOfParts1
import Derived.Test.YtomfgjbicpeggaaGreatBunHSidesOfParts3
import Derived.Test.YtomfgjbicpeggaaGreatBunHSidesOfParts6
import Derived.Test.YtomfgjbicpeggaaGreatBunHSidesOfParts4
import Derived.Deep.RegionHeld3
namespace Go.Proofs.YtomfgjbicpeggaaGreat
open Go.RowKit

/-! ### A row of booleans that the call owns -/
def OwnB (E : TypeId) (w : World) (lo : Nat) (A : Option Addr) (n c : Nat) (xs : List Bool) : Prop := w.ownsRow lo E 1 (.slice A n c) n (xs.map Value.bool)
section
variable {E : TypeId} {w w' : World} {lo : Nat} {A : Option Addr} {n c : Nat} {xs : List Bool}
theorem OwnB.len (h : OwnB E w lo A n c xs) : xs.length = n := by simpa [OwnB] using h.1
theorem OwnB.cell {g k : Nat} {x : Bool} (h : OwnB E w lo (some ⟨g, 0, none⟩) n c xs) (hx : xs[k]? = some x) : w.cell? ⟨g, k, none⟩ = some (.bool x) := by
  have hl := h.len
  have hk : k < n := by
    rcases Nat.lt_or_ge k xs.length with h' | h'
    · omega
    · rw [List.getElem?_eq_none h'] at hx; cases hx
  rw [World.ownsRow.cellAt h k (by omega), List.getElem?_map, hx]; rfl
theorem OwnB.frozen {g : Nat} (h : OwnB E w lo (some ⟨g, 0, none⟩) n c xs) (k : Nat) : w.frozen? ⟨g, k, none⟩ = false := World.ownsRow.frozenAt h k
theorem OwnB.stored {g : Nat} (h : OwnB E w lo (some ⟨g, 0, none⟩) n c xs) (k : Nat) (x : Bool) :
    OwnB E (w.setCell ⟨g, k, none⟩ (.bool x)) lo (some ⟨g, 0, none⟩) n c (xs.set k x) ∧ w.grownBy (w.setCell ⟨g, k, none⟩ (.bool x)) (some g) := by
  have := World.ownsRow.stored h k (.bool x)
  rw [← List.map_set] at this
  exact this
theorem OwnB.keep (h : OwnB E w lo A n c xs) (hb : Below w.heap.size w w') : OwnB E w' lo A n c xs := by
  refine ⟨h.1, ?_⟩
  rcases h.2 with hn | ⟨g, cap, cur, hv, hlo, hg, r⟩
  · exact .inl hn
  · exact .inr ⟨g, cap, cur, hv, hlo, (hb.block g (Array.getElem?_eq_some_iff.1 hg).1).trans hg, r⟩
theorem OwnB.other {row : Option Nat} (h : OwnB E w lo A n c xs) (hg : w.grownBy w' row) (hne : ∀ a, A = some a → some a.block ≠ row) : OwnB E w' lo A n c xs := by
  refine ⟨h.1, ?_⟩
  rcases h.2 with hn | ⟨g, cap, cur, hv, hlo, hgg, r⟩
  · exact .inl hn
  · refine .inr ⟨g, cap, cur, hv, hlo, ?_, r⟩
    injection hv with h1
    rw [hg.block g (Array.getElem?_eq_some_iff.1 hgg).1 (hne _ h1)]
    exact hgg
end
theorem infoBl : (Tryz.prog.info? 4).map (fun i => (i.zero, i.size, i.bytes)) = some (some (.bool false), 1, 1) := by kernel_rfl
/-- f 0, f 1, .. : N of them. -/
def boolRow (f : Nat → Bool) (N : Nat) : List Bool := (List.range N).map f
theorem boolRow_at {f : Nat → Bool} {N i : Nat} (h : i < N) : (boolRow f N)[i]? = some (f i) := by simp [boolRow, h]
theorem boolRow_congr {f g : Nat → Bool} {N : Nat} (h : ∀ i, i < N → f i = g i) : boolRow f N = boolRow g N := by
  apply List.map_congr_left; intro i hi; exact h i (List.mem_range.1 hi)
theorem boolRow_set (f : Nat → Bool) (N k : Nat) (b : Bool) : (boolRow f N).set k b = boolRow (fun i => if i = k then b else f i) N := by
  apply List.ext_getElem?
  intro i
  rw [List.getElem?_set]
  by_cases hi : i < N
  · by_cases e : k = i
    · subst e; rw [if_pos rfl, if_pos (by simpa [boolRow] using hi), boolRow_at hi, if_pos rfl]
    · rw [if_neg e, boolRow_at hi, boolRow_at hi, if_neg (fun h => e h.symm)]
  · rw [List.getElem?_eq_none (by simpa [boolRow] using hi), List.getElem?_eq_none (by simpa [boolRow] using hi)]
    split
    · rw [if_neg (by simp [boolRow]; omega)]
    · rfl

/-! ### Blocks that are told apart by what they hold -/
theorem row_block {w : World} {lo : Nat} {E : TypeId} {k : Nat} {a : Addr} {n c : Nat} {xs : List Value} (h : w.ownsRow lo E k (.slice (some a) n c) n xs) : ∃ cur, w.heap[a.block]? = some (.cells cur E (0, 0)) := by
  rcases h.2 with ⟨hv, _⟩ | ⟨g, cap, cur, hv, _, hg, _⟩
  · cases hv
  · injection hv with h1
    injection h1 with h1
    subst h1
    exact ⟨cur, hg⟩
theorem rows_apart {w : World} {lo lo' : Nat} {E E' : TypeId} {k k' : Nat} {a a' : Addr} {n c n' c' : Nat} {xs ys : List Value} (hne : E ≠ E') (h : w.ownsRow lo E k (.slice (some a) n c) n xs) (h' : w.ownsRow lo' E' k' (.slice (some a') n' c') n' ys) : a.block ≠ a'.block := by
  obtain ⟨c1, h1⟩ := row_block h
  obtain ⟨c2, h2⟩ := row_block h'
  intro e
  rw [e, h2] at h1
  injection h1 with h1
  injection h1 with _ h1 _
  exact hne h1.symm
theorem map_apart {w : World} {lo : Nat} {E : TypeId} {k : Nat} {a : Addr} {n c : Nat} {xs : List Value} {P : Program} {kt : TypeId} {mb m : Nat} {z : Value} {f : Int → Value} (h : w.ownsRow lo E k (.slice (some a) n c) n xs) (hm : MapI P kt w mb m z f) : a.block ≠ mb := by
  obtain ⟨c1, h1⟩ := row_block h
  obtain ⟨D, ⟨es, cl, h2, _⟩, _⟩ := hm
  intro e
  rw [e, h2] at h1
  cases h1

/-! ### A row of slices, each a row of its own -/
abbrev SlV := Option Addr × Nat × Nat
def encS (v : SlV) : List Value := [.slice v.1 v.2.1 v.2.2]
/-- The slice '.slice A n c' holds slices that read as the lists ps, each in a block of the call's own. -/
def PartsAt (w : World) (lo top : Nat) (A : Option Addr) (n c : Nat) (ps : List (List Int)) : Prop :=
  ∃ vs : List SlV, OwnK encS 1 22 w lo A n c vs ∧ ps.length = n ∧ (∀ (i : Nat) (v : SlV) (p : List Int), vs[i]? = some v → ps[i]? = some p → OwnI 3 w lo v.1 v.2.1 v.2.2 p) ∧
    (∀ (i j : Nat) (v u : SlV), i < j → vs[i]? = some v → vs[j]? = some u → ∀ x y, v.1 = some x → u.1 = some y → x.block < y.block) ∧
    ∀ (i : Nat) (v : SlV), vs[i]? = some v → ∀ x, v.1 = some x → x.block < top
theorem PartsAt.none_ (w : World) (lo top : Nat) : PartsAt w lo top none 0 0 [] := ⟨[], OwnK.none_ _ _ _ _ _, rfl, fun i v p h => by simp at h, fun i j v u _ h => by simp at h, fun i v h => by simp at h⟩
theorem PartsAt.other {w w' : World} {lo top : Nat} {A : Option Addr} {n c : Nat} {ps : List (List Int)} {row : Option Nat} (h : PartsAt w lo top A n c ps) (hg : w.grownBy w' row)
    (hA : ∀ a, A = some a → some a.block ≠ row) (hI : ∀ (a : Addr) (m k : Nat) (p : List Int), OwnI 3 w lo (some a) m k p → some a.block ≠ row) : PartsAt w' lo top A n c ps := by
  obtain ⟨vs, h1, h2, h3, h4, h5⟩ := h
  refine ⟨vs, h1.other hg hA, h2, fun i v p hv hp => (h3 i v p hv hp).other hg (fun a ha => ?_), h4, h5⟩
  have h5 := h3 i v p hv hp
  rw [ha] at h5
  exact hI a _ _ _ h5
theorem PartsAt.keep {w w' : World} {lo top : Nat} {A : Option Addr} {n c : Nat} {ps : List (List Int)} (h : PartsAt w lo top A n c ps) (hb : Below w.heap.size w w') : PartsAt w' lo top A n c ps :=
  h.other (grown_of_below hb none) (fun _ _ => by simp) (fun _ _ _ _ _ => by simp)
theorem PartsAt.lower {w : World} {lo lo' top : Nat} {A : Option Addr} {n c : Nat} {ps : List (List Int)} (h : PartsAt w lo top A n c ps) (hl : lo' ≤ lo) : PartsAt w lo' top A n c ps := by
  obtain ⟨vs, h1, h2, h3, h4, h5⟩ := h
  exact ⟨vs, h1.lower hl, h2, fun i v p hv hp => (h3 i v p hv hp).lower hl, h4, h5⟩
theorem PartsAt.len {w : World} {lo top : Nat} {A : Option Addr} {n c : Nat} {ps : List (List Int)} (h : PartsAt w lo top A n c ps) : ps.length = n := by obtain ⟨_, _, h, _⟩ := h; exact h
/-- A write into a row of booleans leaves it alone. -/
theorem PartsAt.bools {w w' : World} {lo lo' top : Nat} {A : Option Addr} {n c : Nat} {ps : List (List Int)} {gb m k : Nat} {bs : List Bool} (h : PartsAt w lo top A n c ps) (hB : OwnB 4 w lo' (some ⟨gb, 0, none⟩) m k bs) (hg : w.grownBy w' (some gb)) : PartsAt w' lo top A n c ps := by
  have h0 := h
  obtain ⟨vs, h1, _⟩ := h0
  refine h.other hg (fun a ha => ?_) (fun a m' k' p hp => ?_)
  · subst ha
    have := rows_apart (by decide : 22 ≠ 4) h1.2 hB
    simpa using this
  · have := rows_apart (by decide : 3 ≠ 4) hp hB
    simpa using this
/-- An update of a map leaves it alone. -/
theorem PartsAt.maps {w w' : World} {lo top : Nat} {A : Option Addr} {n c : Nat} {ps : List (List Int)} {P : Program} {kt : TypeId} {mb m : Nat} {z : Value} {f : Int → Value} (h : PartsAt w lo top A n c ps) (hM : MapI P kt w mb m z f) (hg : w.grownBy w' (some mb)) : PartsAt w' lo top A n c ps := by
  have h0 := h
  obtain ⟨vs, h1, _⟩ := h0
  refine h.other hg (fun a ha => ?_) (fun a m' k' p hp => ?_)
  · subst ha
    have := map_apart h1.2 hM
    simpa using this
  · have := map_apart hp hM
    simpa using this
theorem own_keepLo {E : TypeId} {k : Nat} {w w' : World} {lo L : Nat} {v : Value} {n : Nat} {xs : List Value} (h : w.ownsRow lo E k v n xs) (hb : Below L w w') (hL : ∀ b, v.ownBlock = some b → b < L) : w'.ownsRow lo E k v n xs := by
  refine ⟨h.1, ?_⟩
  rcases h.2 with hn | ⟨g, cap, cur, hv, hlo, hg, r⟩
  · exact .inl hn
  · exact .inr ⟨g, cap, cur, hv, hlo, (hb.block g (hL g (by rw [hv]; rfl))).trans hg, r⟩
theorem OwnB.keepLo {E : TypeId} {w w' : World} {lo L g n c : Nat} {xs : List Bool} (h : OwnB E w lo (some ⟨g, 0, none⟩) n c xs) (hb : Below L w w') (hL : g < L) : OwnB E w' lo (some ⟨g, 0, none⟩) n c xs :=
  own_keepLo h hb (fun b hb => by simp [Value.ownBlock] at hb; omega)
theorem PartsAt.keepLo {w w' : World} {lo top L : Nat} {A : Option Addr} {n c : Nat} {ps : List (List Int)} (h : PartsAt w lo top A n c ps) (hb : Below L w w') (hA : ∀ a, A = some a → a.block < L) (ht : top ≤ L) : PartsAt w' lo top A n c ps := by
  obtain ⟨vs, h1, h2, h3, h4, h5⟩ := h
  refine ⟨vs, ⟨h1.1, own_keepLo h1.2 hb (fun b hb => ?_)⟩, h2, fun i v p hv hp => own_keepLo (h3 i v p hv hp) hb (fun b hb => ?_), h4, h5⟩
  · rcases A with _ | a
    · simp [Value.ownBlock] at hb
    · simp [Value.ownBlock] at hb; rw [← hb]; exact hA a rfl
  · obtain ⟨v1, v2, v3⟩ := v
    rcases v1 with _ | a
    · simp [Value.ownBlock] at hb
    · simp [Value.ownBlock] at hb; have := h5 i _ hv a rfl; omega
theorem PartsAt.lt {w : World} {lo top : Nat} {A : Option Addr} {n c : Nat} {ps : List (List Int)} (h : PartsAt w lo top A n c ps) : ∀ a, A = some a → a.block < w.heap.size := fun a ha => by
  obtain ⟨vs, h1, _⟩ := h
  subst ha
  obtain ⟨cur, h⟩ := row_block h1.2
  exact (Array.getElem?_eq_some_iff.1 h).1
theorem grown_below {a b c : World} {row : Option Nat} (h : a.grownBy b row) (k : Below a.heap.size b c) : a.grownBy c row :=
  ⟨k.os.trans h.os, k.tape.trans h.tape, k.output.trans h.output, Nat.le_trans h.size k.size, fun i hi hne => (k.block i hi).trans (h.block i hi hne)⟩
/-- append of one slice, whose row lies behind all the others. -/
theorem wpList_appS {ops : Array Oper} {rest : List Oper} {o : Oper} {a : Act} {Q : Exit → Act → World → Prop} {w : World} (hgd : o.guard = none) (s x : Operand)
    (ho : o.op = .call { callee := .builtin .append, args := #[s, x], argTypes := #[28, 28] }) (lo top : Nat) (A : Option Addr) (n c : Nat) (ps : List (List Int)) (A3 : Option Addr) (n3 c3 : Nat) (p : List Int)
    (hs : a.eval s = .slice A n c) (hown : PartsAt w lo top A n c ps) (hp : OwnI 3 w lo A3 n3 c3 p) (hpn : ∀ y, A3 = some y → top ≤ y.block) (htop : top ≤ w.heap.size)
    (hx : a.eval x = .slice (some ⟨w.heap.size, 0, none⟩) 1 1)
    (hn : n ≤ 100000) (hlo : lo ≤ w.heap.size)
    (h : ∀ A' c' w', PartsAt w' lo w.heap.size A' (n + 1) c' (ps ++ [p]) → Below lo w w' → (∀ (gb lo' m k : Nat) (bs : List Bool), OwnB 4 w lo' (some ⟨gb, 0, none⟩) m k bs → OwnB 4 w' lo' (some ⟨gb, 0, none⟩) m k bs) →
      (∀ (P : Program) (kt : TypeId) (mb m : Nat) (z : Value) (f : Int → Value), MapI P kt w mb m z f → MapI P kt w' mb m z f) → (∀ (lo' : Nat) (a' : Addr) (m k : Nat) (q : List Int), OwnI 3 w lo' (some a') m k q → OwnI 3 w' lo' (some a') m k q) →
      wpList Tryz.prog ops Q rest (a.put o.dst (.slice A' (n + 1) c')) w') :
    wpList Tryz.prog ops Q (o :: rest) a (w.alloc (.cells #[.slice A3 n3 c3] 22)) := by
  obtain ⟨vs, h1, h2, h3, h4, h5⟩ := hown
  have hal : Below w.heap.size w (w.alloc (.cells #[.slice A3 n3 c3] 22)) := below_new (Below.refl _ _) _
  have hz : (Tryz.prog.info? 22).map (fun i => (i.zero, i.size, i.bytes)) = some (some (.slice none 0 0), 1, 24) := by kernel_rfl
  obtain ⟨i0, hi, hz0, hz1, hz2⟩ := info_parts hz
  refine wpList_appK (enc := encS) (k := 1) (E := 22) hgd s x 28 ho i0 (.slice none 0 0) 24 Tryz.underlying28 hi hz0 hz1 hz2 rfl (by decide) (by decide) (fun _ => rfl) (fun v u hu => ?_) [(A3, n3, c3)] ⟨w.heap.size, 0, none⟩ 1 1 hs (h1.keep hal) hx rfl (fun j u hj => ?_) (by omega) (by simp; omega) ?_
  · simp [encS] at hu; subst hu; rfl
  · match j, hj with
    | 0, hj =>
      simp [encS] at hj; subst hj
      exact cell_of_row (w.alloc (.cells #[.slice A3 n3 c3] 22)) w.heap.size 0 #[.slice A3 n3 c3] 22 (0, 0) (heap_alloc_new w _)
    | j + 1, hj => simp [encS] at hj
  · intro A' c' w' hK hgr hbl
    have hgw : w.grownBy w' (rowOf A) := grown_next (grown_of_below hal _) (by rcases A with _ | b <;> exact hgr)
    have keepI : ∀ (lo' : Nat) (a' : Addr) (m k : Nat) (q : List Int), OwnI 3 w lo' (some a') m k q → OwnI 3 w' lo' (some a') m k q := fun lo' a' m k q hq => hq.other hgw (fun a ha => by
      injection ha with ha
      subst ha
      rcases A with _ | b
      · simp [rowOf]
      · have := rows_apart (by decide : 3 ≠ 22) hq h1.2
        simpa [rowOf] using this)
    have keepN : ∀ (lo' : Nat) (v : Option Addr) (m k : Nat) (q : List Int), OwnI 3 w lo' v m k q → OwnI 3 w' lo' v m k q := fun lo' v m k q hq => by
      rcases v with _ | v
      · exact hq.other hgw (fun a ha => by cases ha)
      · exact keepI lo' v m k q hq
    refine h A' c' w' ⟨vs ++ [(A3, n3, c3)], hK, by rw [List.length_append, h2]; rfl, fun i v q hv hq => ?_, fun i j v u hij hv hu y z hy hz => ?_, fun i v hv y hy => ?_⟩ ((Below.refl _ _).alloc hlo _ |>.trans hbl) (fun gb lo' m k bs hB => hB.other hgw (fun a ha => ?_)) (fun P kt mb m z f hM => hM.other hgw ?_) keepI
    · have hvl : vs.length = n := h1.len
      by_cases e : i < n
      · rw [List.getElem?_append_left (by omega)] at hv
        rw [List.getElem?_append_left (by omega)] at hq
        exact keepN _ _ _ _ _ (h3 i v q hv hq)
      · rw [List.getElem?_append_right (by omega)] at hv
        rw [List.getElem?_append_right (by omega)] at hq
        have e0 : i - n = 0 := by
          rcases Nat.eq_zero_or_pos (i - n) with h | h
          · exact h
          · rw [hvl, List.getElem?_eq_none (by simp; omega)] at hv; cases hv
        rw [hvl, e0] at hv
        rw [h2, e0] at hq
        simp at hv hq
        subst hv; subst hq
        exact keepN _ _ _ _ _ hp
    · have hvl : vs.length = n := h1.len
      have hj : j < (vs ++ [(A3, n3, c3)]).length := (List.getElem?_eq_some_iff.1 hu).1
      rw [List.length_append, hvl] at hj
      simp only [List.length_cons, List.length_nil] at hj
      rw [List.getElem?_append_left (by omega)] at hv
      by_cases e : j < n
      · rw [List.getElem?_append_left (by omega)] at hu
        exact h4 i j v u hij hv hu y z hy hz
      · rw [List.getElem?_append_right (by omega), hvl, show j - n = 0 by omega] at hu
        simp at hu; subst hu
        have := h5 i v hv y hy
        have := hpn z hz
        omega
    · have hvl : vs.length = n := h1.len
      by_cases e : i < n
      · rw [List.getElem?_append_left (by omega)] at hv
        have := h5 i v hv y hy
        omega
      · have hj : i < (vs ++ [(A3, n3, c3)]).length := (List.getElem?_eq_some_iff.1 hv).1
        rw [List.length_append, hvl] at hj
        simp only [List.length_cons, List.length_nil] at hj
        rw [List.getElem?_append_right (by omega), hvl, show i - n = 0 by omega] at hv
        simp at hv; subst hv
        rcases hp.form with ⟨h, _⟩ | ⟨g, h, _, h2, _⟩
        · rw [h] at hy; cases hy
        · rw [h] at hy; injection hy with hy; rw [← hy]; exact h2
    · injection ha with ha
      subst ha
      rcases A with _ | b
      · simp [rowOf]
      · have := rows_apart (by decide : 4 ≠ 22) hB h1.2
        simpa [rowOf] using this
    · rcases A with _ | b
      · simp [rowOf]
      · have := map_apart h1.2 hM
        intro e; injection e with e; exact this e.symm

end Go.Proofs.YtomfgjbicpeggaaGreat

namespace Go.Proofs.YtomfgjbicpeggaaGreat
open Go.RowKit

/-! ### Parts, in plain terms -/
def partL (W H : Int) (xs : List Int) (a b c : Int) : List Int := selTo (nearB (distL W H xs a b c) 64) (W * H).toNat
def inParts (ps : List (List Int)) (x : Int) : Bool := ps.any fun p => p.contains x
def partStep (P : Int → List Int) (ps : List (List Int)) (c : Int) : List (List Int) := if inParts ps c = true then ps else ps ++ [P c]
def partsTo (W H : Int) (xs : List Int) (a b : Int) (k : Nat) : List (List Int) := ((cellsL W H xs).take k).foldl (partStep (partL W H xs a b)) []
def partsL (W H : Int) (xs : List Int) (a b : Int) : List (List Int) := (cellsL W H xs).foldl (partStep (partL W H xs a b)) []
theorem inParts_app (ps : List (List Int)) (p : List Int) (x : Int) : inParts (ps ++ [p]) x = (inParts ps x || p.contains x) := by simp [inParts]
theorem partsTo_yes {W H a b c : Int} {xs : List Int} {k : Nat} (hc : (cellsL W H xs)[k]? = some c) (h : inParts (partsTo W H xs a b k) c = true) : partsTo W H xs a b (k + 1) = partsTo W H xs a b k := by
  rw [partsTo, take_foldl _ hc, partStep]; exact if_pos h
theorem partsTo_no {W H a b c : Int} {xs : List Int} {k : Nat} (hc : (cellsL W H xs)[k]? = some c) (h : inParts (partsTo W H xs a b k) c = false) : partsTo W H xs a b (k + 1) = partsTo W H xs a b k ++ [partL W H xs a b c] := by
  rw [partsTo, take_foldl _ hc, partStep]; exact if_neg (by rw [show inParts (((cellsL W H xs).take k).foldl (partStep (partL W H xs a b)) []) c = false from h]; simp)
theorem partsTo_len (W H : Int) (xs : List Int) (a b : Int) : ∀ k, (partsTo W H xs a b k).length ≤ k
  | 0 => by simp [partsTo]
  | k + 1 => by
    have ih := partsTo_len W H xs a b k
    cases hc : (cellsL W H xs)[k]? with
    | none =>
      have e : partsTo W H xs a b (k + 1) = partsTo W H xs a b k := by rw [partsTo, partsTo, List.take_add_one, hc]; simp
      rw [e]; omega
    | some c =>
      cases h : inParts (partsTo W H xs a b k) c with
      | true => rw [partsTo_yes hc h]; omega
      | false => rw [partsTo_no hc h, List.length_append]; simp; omega
theorem sel_contains {f : Nat → Bool} {N i : Nat} (h : i < N) : (selTo f N).contains (i : Int) = f i := by
  cases hf : f i with
  | true => rw [List.contains_iff_mem]; exact selTo_mem.2 ⟨i, h, hf, rfl⟩
  | false =>
    rw [← Bool.not_eq_true, List.contains_iff_mem]
    intro hm
    obtain ⟨j, _, hj, e⟩ := selTo_mem.1 hm
    rw [show j = i by omega, hf] at hj; cases hj


end Go.Proofs.YtomfgjbicpeggaaGreat

namespace Go.Proofs.YtomfgjbicpeggaaGreat
open Go.RowKit

def routeSel (D1 D2 : List Int) (d : Int) (i : Nat) : Bool := decide (0 ≤ D1.getD i (-1) ∧ 0 ≤ D2.getD i (-1) ∧ D1.getD i (-1) + D2.getD i (-1) = d)
def onRoutesV (W H : Int) (xs : List Int) (a b p q : Int) : List Int := if onB W H xs a b [p, q] = true then selTo (routeSel (distL W H xs a b p) (distL W H xs a b q) (distV W H xs a b p q)) (W * H).toNat else []
theorem sel_filter {W H : Int} {hs : List Int} (f : Int → Bool) : ∀ k : Nat, (cellsTo W H hs k).filter f = selTo (fun i => hasB W H hs (i : Int) && f (i : Int)) k
  | 0 => rfl
  | k + 1 => by
    have ih := sel_filter (W := W) (H := H) (hs := hs) f k
    cases hh : hasB W H hs (k : Int) with
    | false => rw [cellsTo_no hh, ih, selTo_no (by simp [hh])]
    | true =>
      rw [cellsTo_yes hh, List.filter_append, ih]
      cases hf : f (k : Int) with
      | false => rw [selTo_no (by simp [hf])]; simp [hf]
      | true => rw [selTo_yes (by simp [hh, hf])]; simp [hf]
theorem leaps_sym {W H a b : Int} {hs : List Int} (x y : Int) (hx : hasB W H hs x = true) (hy : y ∈ leapsL W H hs a b x) : hasB W H hs y = true ∧ x ∈ leapsL W H hs a b y := by
  rw [leapsL, List.mem_filter] at hy
  refine ⟨cellsL_mem.1 hy.1, ?_⟩
  rw [leapsL, List.mem_filter]
  exact ⟨cellsL_mem.2 hx, by rw [leapB_comm]; exact hy.2⟩
theorem dist_lo {W H a b p : Int} {xs : List Int} {N : Nat} (h : OnFacts W H xs a b N) (hp : hasB W H xs p = true) {i : Nat} (hi : i < N) : -1 ≤ (distL W H xs a b p).getD i (-1) ∧ (distL W H xs a b p).getD i (-1) ≤ 64 := by
  have hl := dist_len h hp
  rw [List.getD_eq_getElem?_getD, List.getElem?_eq_getElem (by omega)]
  have hm : (distL W H xs a b p)[i]'(by omega) ∈ farL (leapsL W H xs a b) 64 p := by rw [far64 h hp]; exact List.mem_append_left _ (List.getElem_mem _)
  exact far_bd h hp _ hm
theorem on_reach {W H a b p q : Int} {xs : List Int} {N : Nat} (h : OnFacts W H xs a b N) (hp : hasB W H xs p = true) (hq : hasB W H xs q = true) (hd : 0 ≤ (distL W H xs a b p).getD q.toNat (-1)) {i : Nat} (hi : i < N) {d : Int} (hd0 : 0 ≤ d) :
    (hasB W H xs (i : Int) && decide ((distL W H xs a b p).getD i (-1) + (distL W H xs a b q).getD i (-1) = d)) = routeSel (distL W H xs a b p) (distL W H xs a b q) d i := by
  have hN : (W * H).toNat = N := by have := h.wh; omega
  have rg : ∀ x, hasB W H xs x = true → 0 ≤ x ∧ x < (N : Int) := fun x hx => by have := (hasB_iff.1 hx).1; rw [h.wh] at this; exact this
  have had : ∀ c : Int, 0 ≤ c ∧ c < (N : Int) → ∀ x ∈ leapsL W H xs a b c, 0 ≤ x ∧ x < (N : Int) := fun c _ x hx => leaps_in h.wh hx
  have b1 := dist_lo h hp hi
  have b2 := dist_lo h hq hi
  have e1 : distL W H xs a b p = farL (leapsL W H xs a b) N p := by rw [distL, hN]
  have e2 : distL W H xs a b q = farL (leapsL W H xs a b) N q := by rw [distL, hN]
  have back : 0 ≤ (farL (leapsL W H xs a b) N q).getD p.toNat (-1) := by
    have := far_symm (C := fun x => hasB W H xs x = true) rg leaps_sym hp had (i := q.toNat) (by rw [← e1]; exact hd)
    have := this.2
    rwa [Int.toNat_of_nonneg (rg q hq).1] at this
  have iff1 : 0 ≤ (distL W H xs a b p).getD i (-1) → 0 ≤ (distL W H xs a b q).getD i (-1) := fun hA => by
    rw [e2]; rw [e1] at hA
    exact far_trans (rg q hq) (rg p hp) had back hA
  have iff2 : 0 ≤ (distL W H xs a b q).getD i (-1) → 0 ≤ (distL W H xs a b p).getD i (-1) := fun hB => by
    rw [e1]; rw [e2] at hB; rw [e1] at hd
    exact far_trans (rg p hp) (rg q hq) had hd hB
  by_cases hA : 0 ≤ (distL W H xs a b p).getD i (-1)
  · have hB := iff1 hA
    have hh : hasB W H xs (i : Int) = true := by
      have := far_symm (C := fun x => hasB W H xs x = true) rg leaps_sym hp had (i := i) (by rw [← e1]; exact hA)
      exact this.1
    rw [hh, routeSel]
    simp only [Bool.true_and, decide_eq_decide]
    exact ⟨fun h => ⟨hA, hB, h⟩, fun h => h.2.2⟩
  · have hB : ¬ 0 ≤ (distL W H xs a b q).getD i (-1) := fun h => hA (iff2 h)
    rw [routeSel, decide_eq_false (show ¬ (distL W H xs a b p).getD i (-1) + (distL W H xs a b q).getD i (-1) = d by omega), Bool.and_false, decide_eq_false (fun h => hA h.1)]

end Go.Proofs.YtomfgjbicpeggaaGreat

namespace Go.Proofs.YtomfgjbicpeggaaGreat
open Go.RowKit

/-- The colours of the cells before the k-th one with a distance. -/
def layK (D : List Int) (out : List Int) : Nat → List Int
  | 0 => out
  | k + 1 => if 0 ≤ D.getD k (-1) then (layK D out k).set k (D.getD k (-1) % 2) else layK D out k
theorem layK_yes {D out : List Int} {k : Nat} (h : 0 ≤ D.getD k (-1)) : layK D out (k + 1) = (layK D out k).set k (D.getD k (-1) % 2) := if_pos h
theorem layK_no {D out : List Int} {k : Nat} (h : ¬ 0 ≤ D.getD k (-1)) : layK D out (k + 1) = layK D out k := if_neg h
theorem layK_len (D out : List Int) : ∀ k, (layK D out k).length = out.length
  | 0 => rfl
  | k + 1 => by
    by_cases h : 0 ≤ D.getD k (-1)
    · rw [layK_yes h, List.length_set, layK_len D out k]
    · rw [layK_no h, layK_len D out k]
theorem layK_at (D out : List Int) (i : Nat) (hi : i < out.length) : ∀ k, (layK D out k).getD i (-1) = if i < k ∧ 0 ≤ D.getD i (-1) then D.getD i (-1) % 2 else out.getD i (-1)
  | 0 => by simp [layK]
  | k + 1 => by
    have ih := layK_at D out i hi k
    have hl := layK_len D out k
    by_cases h : 0 ≤ D.getD k (-1)
    · rw [layK_yes h, List.getD_eq_getElem?_getD, List.getElem?_set]
      by_cases e : k = i
      · subst e
        rw [if_pos rfl, if_pos (by omega), if_pos ⟨by omega, h⟩]; rfl
      · rw [if_neg e, ← List.getD_eq_getElem?_getD, ih]
        by_cases h2 : i < k ∧ 0 ≤ D.getD i (-1)
        · rw [if_pos h2, if_pos ⟨by omega, h2.2⟩]
        · rw [if_neg h2, if_neg (fun h3 => h2 ⟨by omega, h3.2⟩)]
    · rw [layK_no h, ih]
      by_cases h2 : i < k ∧ 0 ≤ D.getD i (-1)
      · rw [if_pos h2, if_pos ⟨by omega, h2.2⟩]
      · rw [if_neg h2, if_neg (fun h3 => h2 ⟨by
          rcases Nat.lt_or_ge i k with h4 | h4
          · exact h4
          · have : i = k := by omega
            subst this; exact absurd h3.2 h, h3.2⟩)]

/-- One cell painted by the distances D. -/
def putD (D out : List Int) (x : Int) : List Int := out.set x.toNat (D.getD x.toNat (-1) % 2)
theorem put_part {f : Nat → Bool} {D out : List Int} : ∀ k, (∀ i, i < k → f i = decide (0 ≤ D.getD i (-1))) → (selTo f k).foldl (putD D) out = layK D out k
  | 0, _ => rfl
  | k + 1, h => by
    have ih := put_part (f := f) (D := D) (out := out) k (fun i hi => h i (by omega))
    have hk := h k (by omega)
    by_cases h0 : 0 ≤ D.getD k (-1)
    · rw [selTo_yes (by rw [hk]; simpa using h0), List.foldl_append, ih, layK_yes h0, List.foldl_cons, List.foldl_nil, putD, Int.toNat_natCast]
    · rw [selTo_no (by rw [hk]; simpa using h0), ih, layK_no h0]
theorem sel_head {f : Nat → Bool} {c : Nat} (hc : f c = true) (hlt : ∀ i, i < c → f i = false) : ∀ k, c < k → (selTo f k).head? = some (c : Int)
  | 0, h => by omega
  | k + 1, h => by
    by_cases e : c = k
    · subst e
      rw [selTo_yes hc, selTo_none c hlt]; rfl
    · have ih := sel_head hc hlt k (by omega)
      cases hf : f k with
      | true => rw [selTo_yes hf, List.head?_append, ih]; rfl
      | false => rw [selTo_no hf, ih]

/-! ### The model: cell by cell -/
def twoStep (F : Int → List Int) (N : Nat) (out : List Int) (c : Int) : List Int := if 0 ≤ out.getD c.toNat (-1) then out else layK (F c) out N
def twoTo (W H : Int) (xs : List Int) (a b : Int) (k : Nat) : List Int := ((cellsL W H xs).take k).foldl (twoStep (distL W H xs a b) (W * H).toNat) (List.replicate (W * H).toNat (-1))
def twoL (W H : Int) (xs : List Int) (a b : Int) : List Int := (cellsL W H xs).foldl (twoStep (distL W H xs a b) (W * H).toNat) (List.replicate (W * H).toNat (-1))
theorem twoTo_next {W H a b c : Int} {xs : List Int} {k : Nat} (hc : (cellsL W H xs)[k]? = some c) : twoTo W H xs a b (k + 1) = twoStep (distL W H xs a b) (W * H).toNat (twoTo W H xs a b k) c := take_foldl _ hc _
theorem twoTo_stop {W H a b : Int} {xs : List Int} {k : Nat} (hc : (cellsL W H xs)[k]? = none) : twoTo W H xs a b (k + 1) = twoTo W H xs a b k := by
  rw [twoTo, twoTo, List.take_add_one, hc]; simp
theorem partsTo_stop {W H a b : Int} {xs : List Int} {k : Nat} (hc : (cellsL W H xs)[k]? = none) : partsTo W H xs a b (k + 1) = partsTo W H xs a b k := by
  rw [partsTo, partsTo, List.take_add_one, hc]; simp

/-! ### The program: part by part -/
def putPart (F : Int → List Int) (out p : List Int) : List Int := p.foldl (putD (F (p.headD 0))) out
def byParts (F : Int → List Int) (N : Nat) (ps : List (List Int)) : List Int := ps.foldl (putPart F) (List.replicate N (-1))
theorem byParts_snoc (F : Int → List Int) (N : Nat) (ps : List (List Int)) (p : List Int) : byParts F N (ps ++ [p]) = putPart F (byParts F N ps) p := by simp [byParts]

structure TwoOk (W H : Int) (xs : List Int) (a b : Int) (N k : Nat) : Prop where
  eq : twoTo W H xs a b k = byParts (distL W H xs a b) N (partsTo W H xs a b k)
  len : (twoTo W H xs a b k).length = N
  iff : ∀ i, i < N → (0 ≤ (twoTo W H xs a b k).getD i (-1) ↔ inParts (partsTo W H xs a b k) (i : Int) = true)
  rng : ∀ i, i < N → (twoTo W H xs a b k).getD i (-1) = -1 ∨ (twoTo W H xs a b k).getD i (-1) = 0 ∨ (twoTo W H xs a b k).getD i (-1) = 1
  all : ∀ j x, j < k → (cellsL W H xs)[j]? = some x → inParts (partsTo W H xs a b k) x = true
  parts : ∀ p ∈ partsTo W H xs a b k, ∃ c, hasB W H xs c = true ∧ p = partL W H xs a b c ∧ p.head? = some c ∧ ∀ i : Nat, i < N → p.contains (i : Int) = true → (distL W H xs a b c).getD i (-1) % 2 = (twoTo W H xs a b k).getD i (-1)

theorem partL_near {W H a b c : Int} {xs : List Int} {N : Nat} (h : OnFacts W H xs a b N) (hp : hasB W H xs c = true) {i : Nat} (hi : i < N) : nearB (distL W H xs a b c) 64 i = decide (0 ≤ (distL W H xs a b c).getD i (-1)) := by
  have := dist_lo h hp hi
  rw [nearB, inB]
  exact decide_eq_decide.2 ⟨fun h => h.1, fun h => ⟨h, this.2⟩⟩
theorem reach_sym {W H a b p : Int} {xs : List Int} {N i : Nat} (h : OnFacts W H xs a b N) (hp : hasB W H xs p = true) (hd : 0 ≤ (distL W H xs a b p).getD i (-1)) : hasB W H xs (i : Int) = true ∧ 0 ≤ (distL W H xs a b (i : Int)).getD p.toNat (-1) := by
  have hN : (W * H).toNat = N := by have := h.wh; omega
  have rg : ∀ x, hasB W H xs x = true → 0 ≤ x ∧ x < (N : Int) := fun x hx => by have := (hasB_iff.1 hx).1; rw [h.wh] at this; exact this
  have had : ∀ c : Int, 0 ≤ c ∧ c < (N : Int) → ∀ x ∈ leapsL W H xs a b c, 0 ≤ x ∧ x < (N : Int) := fun c _ x hx => leaps_in h.wh hx
  have e : ∀ q, distL W H xs a b q = farL (leapsL W H xs a b) N q := fun q => by rw [distL, hN]
  rw [e] at hd ⊢
  exact far_symm (C := fun x => hasB W H xs x = true) rg leaps_sym hp had hd
theorem reach_trans {W H a b p q : Int} {xs : List Int} {N i : Nat} (h : OnFacts W H xs a b N) (hp : hasB W H xs p = true) (hq : hasB W H xs q = true) (h1 : 0 ≤ (distL W H xs a b p).getD q.toNat (-1)) (h2 : 0 ≤ (distL W H xs a b q).getD i (-1)) : 0 ≤ (distL W H xs a b p).getD i (-1) := by
  have hN : (W * H).toNat = N := by have := h.wh; omega
  have rg : ∀ x, hasB W H xs x = true → 0 ≤ x ∧ x < (N : Int) := fun x hx => by have := (hasB_iff.1 hx).1; rw [h.wh] at this; exact this
  have had : ∀ c : Int, 0 ≤ c ∧ c < (N : Int) → ∀ x ∈ leapsL W H xs a b c, 0 ≤ x ∧ x < (N : Int) := fun c _ x hx => leaps_in h.wh hx
  have e : ∀ q, distL W H xs a b q = farL (leapsL W H xs a b) N q := fun q => by rw [distL, hN]
  rw [e] at h1 h2 ⊢
  exact far_trans (rg p hp) (rg q hq) had h1 h2

theorem two_ok {W H a b : Int} {xs : List Int} {N : Nat} (h : OnFacts W H xs a b N) : ∀ k, TwoOk W H xs a b N k
  | 0 => by
    have hN : (W * H).toNat = N := by have := h.wh; omega
    have e : twoTo W H xs a b 0 = List.replicate N (-1) := by rw [twoTo, hN]; rfl
    have hg : ∀ i, i < N → (List.replicate N (-1 : Int)).getD i (-1) = -1 := fun i hi => by
      rw [List.getD_eq_getElem?_getD, List.getElem?_replicate, if_pos hi]; rfl
    refine ⟨e, by rw [e, List.length_replicate], fun i hi => ?_, fun i hi => ?_, fun j x hj => by omega, fun p hp => by simp [partsTo] at hp⟩
    · rw [e, hg i hi]; simp [partsTo, inParts]
    · rw [e, hg i hi]; exact Or.inl rfl
  | k + 1 => by
    have ih := two_ok h k
    have hN : (W * H).toNat = N := by have := h.wh; omega
    cases hc : (cellsL W H xs)[k]? with
    | none =>
      rcases ih with ⟨h1, h2, h3, h4, h5, h6⟩
      refine ⟨by rw [twoTo_stop hc, partsTo_stop hc]; exact h1, by rw [twoTo_stop hc]; exact h2, by rw [twoTo_stop hc, partsTo_stop hc]; exact h3, by rw [twoTo_stop hc]; exact h4, fun j x hj hx => ?_, by rw [partsTo_stop hc, twoTo_stop hc]; exact h6⟩
      rw [partsTo_stop hc]
      rcases Nat.lt_or_ge j k with hjk | hjk
      · exact h5 j x hjk hx
      · have : j = k := by omega
        subst this; rw [hc] at hx; cases hx
    | some c =>
      have hh : hasB W H xs c = true := cellsL_mem.1 (List.mem_of_getElem? hc)
      have hr := (hasB_iff.1 hh).1
      have hcN : c.toNat < N := by have := h.wh; omega
      have ec : ((c.toNat : Nat) : Int) = c := Int.toNat_of_nonneg hr.1
      have hin := ih.iff c.toNat hcN
      rw [ec] at hin
      cases hP : inParts (partsTo W H xs a b k) c with
      | true =>
        have e1 := partsTo_yes hc hP
        have e2 : twoTo W H xs a b (k + 1) = twoTo W H xs a b k := by rw [twoTo_next hc, twoStep, if_pos (hin.2 hP)]
        rcases ih with ⟨h1, h2, h3, h4, h5, h6⟩
        refine ⟨by rw [e1, e2]; exact h1, by rw [e2]; exact h2, by rw [e1, e2]; exact h3, by rw [e2]; exact h4, fun j x hj hx => ?_, by rw [e1, e2]; exact h6⟩
        rw [e1]
        rcases Nat.lt_or_ge j k with hjk | hjk
        · exact h5 j x hjk hx
        · have : j = k := by omega
          subst this; rw [hc] at hx; cases hx; exact hP
      | false =>
        have e1 := partsTo_no hc hP
        have e2 : twoTo W H xs a b (k + 1) = layK (distL W H xs a b c) (twoTo W H xs a b k) N := by
          rw [twoTo_next hc, twoStep, if_neg (by rw [hin, hP]; simp), hN]
        have hnear : ∀ i, i < N → nearB (distL W H xs a b c) 64 i = decide (0 ≤ (distL W H xs a b c).getD i (-1)) := fun i hi => partL_near h hh hi
        have hself := dist_self h hh
        -- no cell before c is reached from c
        have hbefore : ∀ i, i < c.toNat → nearB (distL W H xs a b c) 64 i = false := fun i hi => by
          rw [hnear i (by omega), decide_eq_false_iff_not]
          intro hd
          obtain ⟨hhi, hback⟩ := reach_sym h hh hd
          obtain ⟨j, hj, hjx⟩ := List.getElem_of_mem (cellsL_mem.2 hhi)
          have hjk : j < k := by
            rcases Nat.lt_or_ge j k with h4 | h4
            · exact h4
            · exfalso
              have hkl := (List.getElem?_eq_some_iff.1 hc).1
              have hkc := (List.getElem?_eq_some_iff.1 hc).2
              rcases Nat.eq_or_lt_of_le h4 with h5 | h5
              · subst h5; omega
              · have := List.pairwise_iff_getElem.1 (cellsL_pairwise W H xs) k j hkl hj h5
                omega
          have hip := ih.all j (i : Int) hjk (by rw [List.getElem?_eq_getElem hj, hjx])
          rw [inParts, List.any_eq_true] at hip
          obtain ⟨p, hp, hpx⟩ := hip
          obtain ⟨c2, hc2, rfl, -, -⟩ := ih.parts p hp
          rw [partL, sel_contains (by omega), partL_near h hc2 (by omega), decide_eq_true_eq] at hpx
          have hcc := reach_trans h hc2 hhi (by rw [Int.toNat_natCast]; exact hpx) hback
          have : inParts (partsTo W H xs a b k) c = true := by
            rw [inParts, List.any_eq_true]
            refine ⟨_, hp, ?_⟩
            rw [← ec, partL, sel_contains (by omega), partL_near h hc2 hcN, decide_eq_true_eq]
            exact hcc
          rw [this] at hP; cases hP
        have hhead? : (partL W H xs a b c).head? = some c := by
          have := sel_head (f := nearB (distL W H xs a b c) 64) (c := c.toNat) (by rw [hnear _ hcN, decide_eq_true_eq]; omega) hbefore (W * H).toNat (by omega)
          rw [partL, this, ec]
        have hhead : (partL W H xs a b c).headD 0 = c := by rw [List.headD_eq_head?_getD, hhead?]; rfl
        -- no cell of an earlier part is reached from c
        have happart : ∀ p ∈ partsTo W H xs a b k, ∀ i, i < N → p.contains (i : Int) = true → ¬ 0 ≤ (distL W H xs a b c).getD i (-1) := fun p hp i hi hpx hd => by
          obtain ⟨hhi, hback⟩ := reach_sym h hh hd
          obtain ⟨c2, hc2, rfl, -, -⟩ := ih.parts p hp
          rw [partL, sel_contains (by omega), partL_near h hc2 (by omega), decide_eq_true_eq] at hpx
          have hcc := reach_trans h hc2 hhi (by rw [Int.toNat_natCast]; exact hpx) hback
          have : inParts (partsTo W H xs a b k) c = true := by
            rw [inParts, List.any_eq_true]
            refine ⟨_, hp, ?_⟩
            rw [← ec, partL, sel_contains (by omega), partL_near h hc2 hcN, decide_eq_true_eq]
            exact hcc
          rw [this] at hP; cases hP
        refine ⟨?_, by rw [e2, layK_len]; exact ih.len, fun i hi => ?_, fun i hi => ?_, fun j x hj hx => ?_, fun p hp => ?_⟩
        · rw [e1, byParts_snoc, ← ih.eq, putPart, hhead, e2, partL, hN]
          exact (put_part N hnear).symm
        · rw [e1, e2, inParts_app, partL, sel_contains (by omega), hnear i hi, layK_at _ _ _ (by rw [ih.len]; exact hi)]
          by_cases h0 : 0 ≤ (distL W H xs a b c).getD i (-1)
          · rw [if_pos ⟨hi, h0⟩]; simp only [h0, decide_true, Bool.or_true, iff_true]; omega
          · rw [if_neg (fun h => h0 h.2), ih.iff i hi, decide_eq_false h0, Bool.or_false]
        · rw [e2, layK_at _ _ _ (by rw [ih.len]; exact hi)]
          by_cases h0 : 0 ≤ (distL W H xs a b c).getD i (-1)
          · rw [if_pos ⟨hi, h0⟩]; omega
          · rw [if_neg (fun h => h0 h.2)]; exact ih.rng i hi
        · rw [e1, inParts_app]
          rcases Nat.lt_or_ge j k with hjk | hjk
          · rw [ih.all j x hjk hx]; rfl
          · have : j = k := by omega
            subst this
            rw [hc] at hx; cases hx
            have h7 := sel_contains (f := nearB (distL W H xs a b c) 64) (N := (W * H).toNat) (i := c.toNat) (by omega)
            rw [ec] at h7
            rw [partL, h7, hnear _ hcN, decide_eq_true (by omega), Bool.or_true]
        · rw [e1] at hp
          rcases List.mem_append.1 hp with hp | hp
          · obtain ⟨c2, hc2, hp2, hp3, hp4⟩ := ih.parts p hp
            refine ⟨c2, hc2, hp2, hp3, fun i hi hpx => ?_⟩
            rw [hp4 i hi hpx, e2, layK_at _ _ _ (by rw [ih.len]; exact hi), if_neg (fun h => happart p hp i hi hpx h.2)]
          · have hp2 : p = partL W H xs a b c := by simpa using hp
            subst hp2
            refine ⟨c, hh, rfl, hhead?, fun i hi hpx => ?_⟩
            rw [partL, sel_contains (by omega), hnear i hi, decide_eq_true_eq] at hpx
            rw [e2, layK_at _ _ _ (by rw [ih.len]; exact hi), if_pos ⟨hi, hpx⟩]

theorem two_parts {W H a b : Int} {xs : List Int} {N : Nat} (h : OnFacts W H xs a b N) : (twoL W H xs a b).length = N ∧
    ∀ p ∈ partsL W H xs a b, ∃ c, hasB W H xs c = true ∧ p = partL W H xs a b c ∧ p.head? = some c ∧ ∀ x ∈ p, (0 ≤ x ∧ x < N) ∧ ((twoL W H xs a b).getD x.toNat (-1) = 0 ∨ (twoL W H xs a b).getD x.toNat (-1) = 1) ∧ 0 ≤ (distL W H xs a b c).getD x.toNat (-1) ∧ (distL W H xs a b c).getD x.toNat (-1) % 2 = (twoL W H xs a b).getD x.toNat (-1) := by
  have K := two_ok h (cellsL W H xs).length
  have e1 : twoTo W H xs a b (cellsL W H xs).length = twoL W H xs a b := by rw [twoTo, List.take_length]; rfl
  have e2 : partsTo W H xs a b (cellsL W H xs).length = partsL W H xs a b := by rw [partsTo, List.take_length]; rfl
  rcases K with ⟨h1, h2, h3, h4, _, h6⟩
  rw [e1, e2] at *
  refine ⟨h2, fun p hp => ?_⟩
  obtain ⟨c, hc, rfl, hd, hcol⟩ := h6 p hp
  refine ⟨c, hc, rfl, hd, fun x hx => ?_⟩
  have hN : (W * H).toNat = N := by have := h.wh; omega
  obtain ⟨i, hi, hfi, rfl⟩ := selTo_mem.1 hx
  rw [hN] at hi
  rw [partL_near h hc hi, decide_eq_true_eq] at hfi
  have hin := (h3 i hi).2 (by rw [inParts, List.any_eq_true]; exact ⟨_, hp, List.contains_iff_mem.2 hx⟩)
  rw [Int.toNat_natCast]
  refine ⟨⟨by omega, by omega⟩, ?_, hfi, hcol i hi (List.contains_iff_mem.2 hx)⟩
  rcases h4 i hi with h | h
  · omega
  · exact h
end Go.Proofs.YtomfgjbicpeggaaGreat

namespace Go.Proofs.YtomfgjbicpeggaaGreat
open Go.RowKit

def cAt (cs : List Int) (x : Int) : Int := cs.getD x.toNat 0
/-- No leap joins two cells of one colour. -/
def paIsB (W H : Int) (xs : List Int) (a b : Int) (cs : List Int) : Bool := (cellsL W H xs).all fun c => (leapsL W H xs a b c).all fun d => !(cAt cs c == cAt cs d)
theorem cells_rng64 {W H : Int} {xs : List Int} (hg : goodB W H xs = true) : ∀ x ∈ cellsL W H xs, 0 ≤ x ∧ x < 64 := fun x hx => by
  have h1 := (hasB_iff.1 (cellsL_mem.1 hx)).1
  obtain ⟨hW, hH, _, _⟩ := goodB_iff.1 hg
  have := cells_le hW hH
  omega
theorem cAt_of {cs : List Int} {x : Int} (h1 : x.toNat < cs.length) : cs[x.toNat]? = some (cAt cs x) := by
  rw [cAt, List.getD_eq_getElem?_getD, List.getElem?_eq_getElem h1]; rfl

set_option maxRecDepth 100000 in
set_option maxHeartbeats 4000000 in
theorem paIs_any (W H : Int) (A : Option Addr) (n c : Nat) (xs : List Int) (a b : Int) (A2 : Option Addr) (m c2 : Nat) (cs : List Int) (w : World) (ha : Rd w A n xs) (hc : Rd w A2 m cs) (hg : goodB W H xs = true) (hlen : (cs.length : Int) = W * H) :
    Calls Tryz.prog 32 #[brd W H A n c, lpr a b, .slice A2 m c2] w fun e w' => e = .returned (.bool (paIsB W H xs a b cs)) ∧ Below w.heap.size w w' := by
  have HG := Lib.hid hg
  have HN := Lib.hid (cells_le (goodB_iff.1 hg).1 (goodB_iff.1 hg).2.1)
  have HML := Lib.hid hc.1
  have m9 := hc.2.1
  have HLEN := Lib.hid hlen
  obtain ⟨W2, hW2⟩ : ∃ W2, W2 = (w.alloc (.cells #[.int .i64 W, .int .i64 H, .slice A n c] 31)).alloc (.cells #[.int .i64 a, .int .i64 b] 33) := ⟨_, rfl⟩
  have a0 : W2.cell? ⟨w.heap.size, 0, none⟩ = some (.int .i64 W) := by rw [hW2]; go_simp
  have a1 : W2.cell? ⟨w.heap.size, 1, none⟩ = some (.int .i64 H) := by rw [hW2]; go_simp
  have a2 : W2.cell? ⟨w.heap.size, 2, none⟩ = some (.slice A n c) := by rw [hW2]; go_simp
  have l0 : W2.cell? ⟨w.heap.size + 1, 0, none⟩ = some (.int .i64 a) := by rw [hW2]; go_simp
  have l1 : W2.cell? ⟨w.heap.size + 1, 1, none⟩ = some (.int .i64 b) := by rw [hW2]; go_simp
  have hsz : w.heap.size + 2 ≤ W2.heap.size := by rw [hW2]; simp
  have B := Lib.hid (show Below w.heap.size w W2 by rw [hW2]; exact below_new (below_new (Below.refl _ _) _) _)
  have R := Lib.hid (ha.keep B.out); have RC := Lib.hid hc
  have ga : w.heap.size < W2.heap.size := by omega
  have gl : w.heap.size + 1 < W2.heap.size := by omega
  clear hg ha hc hlen
  go_enter Tryz.func32, Tryz.ntmps32
  go_wp2_with fail
  rw [← hW2]
  clear hW2
  refine (boCells_any W H A n c xs _ R.out HN.out).mono ?_
  rintro e ws ⟨A1, n1, c1, rfl, hst, hb⟩
  replace a0 := cell_keep a0 ga hb; replace a1 := cell_keep a1 ga hb; replace a2 := cell_keep a2 ga hb; replace l0 := cell_keep l0 gl hb; replace l1 := cell_keep l1 gl hb; replace ga := lt_keep ga hb; replace gl := lt_keep gl hb; replace R := Lib.hid (R.out.keep hb)
  replace B := Lib.hid (below_next B.out hb)
  have ST := Lib.hid hst.rd
  have SL := Lib.hid hst.len
  have n8 : n1 ≤ 64 := by have := cellsL_len64 (xs := xs) HN.out; have := hst.len; omega
  clear hst hb hsz
  go_wp2
  go_loopw [14] (fun i wr => ∃ k : Nat, k ≤ n1 ∧ i = .int .i64 k ∧ ((cellsL W H xs).take k).all (fun c => (leapsL W H xs a b c).all fun d => !(cAt cs c == cAt cs d)) = true ∧ Below ws.heap.size ws wr) (fun i _ => n1 - (intOf i).toNat)
  case atStart => exact ⟨0, Nat.zero_le _, rfl, by simp, Below.refl _ _⟩
  case round =>
    obtain ⟨k, hk, rfl, hall, hbw⟩ := hrel
    have HALL := Lib.hid hall
    have HB := Lib.hid hbw
    clear hall
    by_cases hlt : k < n1
    · obtain ⟨bb, oo, x, rfl, hg1, hx, x0⟩ := ST.out.at_ hlt
      have HX := Lib.hid hx
      have hxm := List.mem_of_getElem? hx
      obtain ⟨hx0, hx1⟩ := cells_rng64 HG.out x hxm
      have hxN : x.toNat < m := by have := (hasB_iff.1 (cellsL_mem.1 hxm)).1; have := HLEN.out; have := HML.out; omega
      obtain ⟨p, rfl⟩ : ∃ p : Nat, x = (p : Int) := ⟨x.toNat, by omega⟩
      rw [Int.toNat_natCast] at hxN
      have HXM := Lib.hid hxm
      replace x0 := cell_keep x0 hg1 hbw
      have b0 := cell_keep a0 ga hbw; have b1 := cell_keep a1 ga hbw; have b2 := cell_keep a2 ga hbw; have m0 := cell_keep l0 gl hbw; have m1 := cell_keep l1 gl hbw
      have gb := lt_keep ga hbw; have gm := lt_keep gl hbw
      have hL := boLeaps_any W H A n c xs a b (p : Int) wr (R.out.keep hbw) HG.out ⟨hx0, by omega⟩
      clear hx hbw hxm hg1
      go_wp2_with fail
      refine hL.mono ?_
      rintro e wv ⟨A3, n3, c3, rfl, hown, hb⟩
      replace b0 := cell_keep b0 gb hb; replace b1 := cell_keep b1 gb hb; replace b2 := cell_keep b2 gb hb; replace m0 := cell_keep m0 gm hb; replace m1 := cell_keep m1 gm hb
      have LT := Lib.hid hown.rd
      have LL := Lib.hid hown.len
      have n9 : n3 ≤ 64 := by have := leapsL_len64 (a := a) (b := b) (q := (p : Int)) (xs := xs) HN.out; have := hown.len; omega
      have HV := Lib.hid (HB.out.trans (hb.mono HB.out.size))
      clear hb hown hL x0
      go_wp2
      go_loopw [23] (fun i wr => ∃ j : Nat, j ≤ n3 ∧ i = .int .i64 j ∧ ((leapsL W H xs a b p).take j).all (fun d => !(cAt cs p == cAt cs d)) = true ∧ Below wv.heap.size wv wr) (fun i _ => n3 - (intOf i).toNat)
      case atStart => exact ⟨0, Nat.zero_le _, rfl, by simp, Below.refl _ _⟩
      case round =>
        obtain ⟨j, hj, rfl, hallj, hbj⟩ := hrel
        rename_i wz
        have HALJ := Lib.hid hallj
        have HBJ := Lib.hid hbj
        have HW0 := Lib.hid (B.out.trans ((HV.out.trans (hbj.mono HV.out.size)).mono B.out.size))
        clear hallj
        by_cases hltj : j < n3
        · obtain ⟨b3, o3, y, rfl, hg3, hy, y0⟩ := LT.out.at_ hltj
          have HY := Lib.hid hy
          have hym := (List.mem_filter.1 (List.mem_of_getElem? hy)).1
          obtain ⟨hy0, hy1⟩ := cells_rng64 HG.out y hym
          have hyN : y.toNat < m := by have := (hasB_iff.1 (cellsL_mem.1 hym)).1; have := HLEN.out; have := HML.out; omega
          obtain ⟨q, rfl⟩ : ∃ q : Nat, y = (q : Int) := ⟨y.toNat, by omega⟩
          rw [Int.toNat_natCast] at hyN
          replace y0 := cell_keep y0 hg3 hbj
          obtain ⟨b4, o4, u, rfl, hg4, hu, u0⟩ := RC.out.at_ hxN
          obtain ⟨b5, o5, v, e5, hg5, hv, v0⟩ := RC.out.at_ hyN
          obtain ⟨rfl, rfl⟩ : b4 = b5 ∧ o4 = o5 := by simp at e5; exact e5
          replace u0 := cell_keep u0 hg4 HW0.out
          replace v0 := cell_keep v0 hg5 HW0.out
          have HU := Lib.hid (show cAt cs (p : Int) = u by have := cAt_of (x := (p : Int)) (cs := cs) (by have := HML.out; omega); rw [Int.toNat_natCast, hu] at this; injection this with this; exact this.symm)
          have HV2 := Lib.hid (show cAt cs (q : Int) = v by have := cAt_of (x := (q : Int)) (cs := cs) (by have := HML.out; omega); rw [Int.toNat_natCast, hv] at this; injection this with this; exact this.symm)
          clear hy hym hu hv hbj e5 hg3 hg4 hg5
          cases huv : (u == v) with
          | true =>
            have HUV := Lib.hid huv
            go_wp2
            go_quiet (fail)
            go_wp2
            go_ret
            exact ⟨ret_bool (by
              symm; rw [paIsB, Bool.eq_false_iff]; intro h
              have h1 := List.all_eq_true.1 (List.all_eq_true.1 h (p : Int) HXM.out) (q : Int) (List.mem_of_getElem? HY.out)
              rw [HU.out, HV2.out, HUV.out] at h1; cases h1), below_drewN HW0.out _⟩
          | false =>
            have HUV := Lib.hid huv
            go_wp2
            go_quiet (fail)
            go_wp2
            go_roundw
            case rel => exact ⟨j + 1, by omega, by go_num, by rw [List.take_add_one, HY.out, List.all_append, HALJ.out]; simp [HU.out, HV2.out, HUV.out], below_drewN HBJ.out _⟩
            case measure => simp [intOf]; omega
        · have hjn : j = n3 := by omega
          subst hjn
          have HE := Lib.hid (show (leapsL W H xs a b p).all (fun d => !(cAt cs p == cAt cs d)) = true by have h := HALJ.out; rw [List.take_of_length_le (by have := LL.out; omega)] at h; exact h)
          clear hbj
          go_wp2
          go_roundw
          case rel => exact ⟨k + 1, by omega, by go_num, by rw [List.take_add_one, HX.out, List.all_append, HALL.out]; simpa using HE.out, HV.out.trans (HBJ.out.mono HV.out.size)⟩
          case measure => simp [intOf]; omega
    · have hkn : k = n1 := by omega
      subst hkn
      clear hbw
      go_wp2
      go_ret
      exact ⟨ret_bool (by have h := HALL.out; rw [List.take_of_length_le (by have := SL.out; omega)] at h; rw [paIsB, h]), B.out.trans (HB.out.mono B.out.size)⟩
end Go.Proofs.YtomfgjbicpeggaaGreat

namespace Go.Proofs.YtomfgjbicpeggaaGreat
open Go.RowKit

end Go.Proofs.YtomfgjbicpeggaaGreat

namespace Go.Proofs.YtomfgjbicpeggaaGreat
open Go.RowKit

theorem part_bd {W H a b c : Int} {xs : List Int} {N : Nat} (h : OnFacts W H xs a b N) (hp : hasB W H xs c = true) {x : Int} {i : Nat} (hx : (distL W H xs a b c)[i]? = some x) : nearB (distL W H xs a b c) 64 i = decide (0 ≤ x) := by
  have := dist_bd h hp x (List.mem_of_getElem? hx)
  rw [near_in hx, inB]
  by_cases h0 : 0 ≤ x
  · simp [h0]; omega
  · simp [h0]

set_option maxRecDepth 100000 in
set_option maxHeartbeats 4000000 in
theorem faParts_any (W H : Int) (A : Option Addr) (n c : Nat) (xs : List Int) (a b : Int) (N : Nat) (w : World) (ha : Rd w A n xs) (hF : OnFacts W H xs a b N) :
    Calls Tryz.prog 17 #[brd W H A n c, lpr a b] w fun e w' => ∃ A' n' c' top, e = .returned (.slice A' n' c') ∧ PartsAt w' w.heap.size top A' n' c' (partsL W H xs a b) ∧ Below w.heap.size w w' := by
  have hWH := hF.wh
  have HF := Lib.hid hF
  have n64 := hF.n.2
  have hN0 : (0 : Int) ≤ (N : Int) := by omega
  obtain ⟨hW, hH, _, _⟩ := goodB_iff.1 hF.g
  have HN := Lib.hid (cells_le hW hH)
  obtain ⟨i0, hi, hz0, hz1, hz2⟩ := info_parts infoI
  have HI := Lib.hid hi; have HZ0 := Lib.hid hz0; have HZ1 := Lib.hid hz1; have HZ2 := Lib.hid hz2
  obtain ⟨ib, hib, hy0, hy1, hy2⟩ := info_parts infoBl
  have HIB := Lib.hid hib; have HY0 := Lib.hid hy0; have HY1 := Lib.hid hy1; have HY2 := Lib.hid hy2
  clear hW hH hF hi hz0 hz1 hz2 hib hy0 hy1 hy2
  obtain ⟨W2, hW2⟩ : ∃ W2, W2 = (w.alloc (.cells #[.int .i64 W, .int .i64 H, .slice A n c] 31)).alloc (.cells #[.int .i64 a, .int .i64 b] 33) := ⟨_, rfl⟩
  have a0 : W2.cell? ⟨w.heap.size, 0, none⟩ = some (.int .i64 W) := by rw [hW2]; go_simp
  have a1 : W2.cell? ⟨w.heap.size, 1, none⟩ = some (.int .i64 H) := by rw [hW2]; go_simp
  have a2 : W2.cell? ⟨w.heap.size, 2, none⟩ = some (.slice A n c) := by rw [hW2]; go_simp
  have l0 : W2.cell? ⟨w.heap.size + 1, 0, none⟩ = some (.int .i64 a) := by rw [hW2]; go_simp
  have l1 : W2.cell? ⟨w.heap.size + 1, 1, none⟩ = some (.int .i64 b) := by rw [hW2]; go_simp
  have hsz : W2.heap.size = w.heap.size + 2 := by rw [hW2]; simp
  have B := Lib.hid (show Below w.heap.size w W2 by rw [hW2]; exact below_new (below_new (Below.refl _ _) _) _)
  have ga : w.heap.size < W2.heap.size := by omega
  have gl : w.heap.size + 1 < W2.heap.size := by omega
  go_enter Tryz.func17, Tryz.ntmps17
  go_wp2_with (at_make; refine wpList_make_full _ rfl _ _ 64 rfl w.heap.size 4 ib (.bool false) 1 Tryz.underlying64 HIB.out HY0.out HY1.out .i64 .i64 _ _ N rfl rfl rfl rfl (by rw [HY2.out]; omega) (by unfold maxLen; omega) (by simp; omega) ?_; intro w1 hown1 hg1; rw [← hW2] at hown1 hg1; have hb1 : Below W2.heap.size W2 w1 := below_of_grown hg1 (Nat.le_refl _) (by simp); replace a0 := cell_keep a0 ga hb1; replace a1 := cell_keep a1 ga hb1; replace a2 := cell_keep a2 ga hb1; replace l0 := cell_keep l0 gl hb1; replace l1 := cell_keep l1 gl hb1; replace ga := lt_keep ga hb1; replace gl := lt_keep gl hb1)
  have hO1 : OwnB 4 w1 w.heap.size (some ⟨w.heap.size + 1 + 1, 0, none⟩) N N (boolRow (fun _ => false) N) := by
    unfold OwnB
    rw [show N * 1 = N from by omega, hsz] at hown1
    have e : (madeCells (Value.cells (.bool false)) N).toList = List.replicate N (.bool false) := toList_madeCells_one (.bool false) N
    rw [e] at hown1
    have e2 : (boolRow (fun _ => false) N).map Value.bool = List.replicate N (.bool false) := by
      rw [boolRow, List.map_map, List.eq_replicate_iff]
      exact ⟨by simp, fun v hv => by obtain ⟨i, _, rfl⟩ := List.mem_map.1 hv; rfl⟩
    rw [e2]
    exact hown1
  obtain ⟨fb, hfb⟩ : ∃ fb, fb = w.heap.size + 1 + 1 := ⟨_, rfl⟩
  rw [← hfb] at hO1 ⊢
  replace B := Lib.hid (below_next B.out hb1)
  have SEEN := Lib.hid hO1
  have hfw : w.heap.size + 2 = fb := by omega
  have hfb2 : fb < w1.heap.size := by
    obtain ⟨cur, h⟩ := row_block hO1
    exact (Array.getElem?_eq_some_iff.1 h).1
  clear hfb hW2 hown1 hg1 hO1 hb1 hsz hWH
  refine (boCells_any W H A n c xs _ (ha.keep B.out) HN.out).mono ?_
  rintro e ws ⟨A1, n1, c1, rfl, hst, hb⟩
  replace a0 := cell_keep a0 ga hb; replace a1 := cell_keep a1 ga hb; replace a2 := cell_keep a2 ga hb; replace l0 := cell_keep l0 gl hb; replace l1 := cell_keep l1 gl hb; replace ga := lt_keep ga hb; replace gl := lt_keep gl hb
  replace SEEN := Lib.hid (SEEN.out.keep hb)
  have hs1 := hb.size
  have hfs : fb < ws.heap.size := lt_keep hfb2 hb
  replace B := Lib.hid (below_next B.out hb)
  have hBs := B.out.size
  have ST := Lib.hid hst.rd
  have SL := Lib.hid hst.len
  have n8 : n1 ≤ 64 := by have := cellsTo_len (W := W) (H := H) (hs := xs) (W * H).toNat; have := hst.len; have := HN.out; unfold cellsL at *; omega
  have hA1 : Hid (∀ y, A1 = some y → y.block ≠ fb) := Lib.hid (fun y hy => by
    subst hy
    exact rows_apart (by decide : 3 ≠ 4) hst SEEN.out)
  have n9 := hst.rd.2.1
  clear hst hb hfb2
  go_wp2
  go_loopw [6, 21] (fun v i wr => ∃ (k n' c' top : Nat) (A' : Option Addr), k ≤ n1 ∧ i = .int .i64 k ∧ v = .slice A' n' c' ∧ PartsAt wr ws.heap.size top A' n' c' (partsTo W H xs a b k) ∧ top ≤ wr.heap.size ∧ OwnB 4 wr w.heap.size (some ⟨fb, 0, none⟩) N N (boolRow (fun i => inParts (partsTo W H xs a b k) (i : Int)) N) ∧ ws.grownBy wr (some fb)) (fun _ i _ => n1 - (intOf i).toNat)
  case atStart => exact ⟨0, 0, 0, 0, none, by omega, rfl, rfl, PartsAt.none_ _ _ _, by omega, SEEN.out, grown_refl _ _⟩
  case round =>
    clear SEEN
    obtain ⟨k, n', c', top, A', hk, rfl, rfl, hpa, htop, hseen, hgw⟩ := hrel
    have hBw : Below w.heap.size w wr := B.out.trans (below_of_grown hgw hBs (fun g h => by injection h with h; omega))
    have hsw := hgw.size
    have hnp : n' ≤ 64 := by have := partsTo_len W H xs a b k; have := hpa.len; omega
    have PA := Lib.hid hpa; have SE := Lib.hid hseen
    by_cases hlt : k < n1
    · obtain ⟨bb, oo, x, rfl, hg1, hx, x0⟩ := ST.out.at_ hlt
      have hbm := hA1.out _ rfl
      simp only at hbm
      have hin := cellsL_mem.1 (List.mem_of_getElem? hx)
      have hxr := (hasB_iff.1 hin).1
      rw [HF.out.wh] at hxr
      obtain ⟨xn, rfl⟩ : ∃ xn : Nat, x = (xn : Int) := ⟨x.toNat, by omega⟩
      have hxn : xn < N := by omega
      have hx0 : (0 : Int) ≤ (xn : Int) := by omega
      have hx1 : (xn : Int) < (N : Int) := by omega
      have HX := Lib.hid hx; have HXI := Lib.hid hin
      replace x0 := hgw.cell x0 (by simp; omega)
      have b0 := hgw.cell a0 (by simp; omega); have b1 := hgw.cell a1 (by simp; omega); have b2 := hgw.cell a2 (by simp; omega); have m0 := hgw.cell l0 (by simp; omega); have m1 := hgw.cell l1 (by simp; omega)
      have HBW := Lib.hid hBw; have HGW := Lib.hid hgw
      have s0 : wr.cell? ⟨fb, xn, none⟩ = some (.bool (inParts (partsTo W H xs a b k) (xn : Int))) := hseen.cell (boolRow_at (f := fun i => inParts (partsTo W H xs a b k) (i : Int)) hxn)
      clear hx hin hxr hgw hBw hpa hseen
      cases hip : inParts (partsTo W H xs a b k) (xn : Int) with
      | true =>
        rw [hip] at s0
        have HIP := Lib.hid hip
        clear hip
        go_wp2
        go_roundw
        case rel =>
          have e := partsTo_yes HX.out HIP.out
          exact ⟨k + 1, n', c', top, A', by omega, by go_num, rfl, by rw [e]; exact PA.out, htop, by rw [e]; exact SE.out, HGW.out⟩
        case measure => simp [intOf]; omega
      | false =>
        rw [hip] at s0
        have HIP := Lib.hid hip
        clear hip
        go_wp2_with fail
        refine (faFrom_any W H A n c xs a b xn N _ (ha.keep HBW.out) HF.out.g HF.out.wh hxn).mono ?_
        rintro e wv ⟨g, rfl, own, hb⟩
        have eD : farL (leapsL W H xs a b) N (xn : Int) = distL W H xs a b (xn : Int) := by rw [distL, show (W * H).toNat = N by have := HF.out.wh; omega]
        rw [eD] at own
        have hbd : ∀ (i : Nat) (y : Int), (distL W H xs a b (xn : Int))[i]? = some y → nearB (distL W H xs a b (xn : Int)) 64 i = decide (0 ≤ y) := fun i y hy => part_bd HF.out HXI.out hy
        have hpl : selTo (nearB (distL W H xs a b (xn : Int)) 64) N = partL W H xs a b (xn : Int) := by rw [partL, show (W * H).toNat = N by have := HF.out.wh; omega]
        obtain ⟨D, hD⟩ : ∃ D, D = distL W H xs a b (xn : Int) := ⟨_, rfl⟩
        rw [← hD] at own hbd hpl
        have DLEN := Lib.hid own.len
        have hgf : g ≠ fb := rows_apart (by decide : 3 ≠ 4) own (SE.out.keep hb)
        have hgv : g < wv.heap.size := by obtain ⟨g9, h1, _, h2⟩ := own.some_ (k := 0) (by omega); injection h1 with h1; injection h1 with h1; omega
        have FAR := Lib.hid own; have HBD := Lib.hid hbd; have HPL := Lib.hid hpl
        replace PA := Lib.hid (PA.out.keep hb); replace SE := Lib.hid (SE.out.keep hb)
        have hvs := hb.size
        have hAv : Hid (∀ y, A' = some y → y.block < wv.heap.size) := Lib.hid PA.out.lt
        have htv : top ≤ wv.heap.size := by omega
        replace b0 := cell_keep b0 (by omega) hb; replace b1 := cell_keep b1 (by omega) hb; replace b2 := cell_keep b2 (by omega) hb; replace m0 := cell_keep m0 (by omega) hb; replace m1 := cell_keep m1 (by omega) hb
        have HGV := Lib.hid (grown_next HGW.out (grown_of_below hb (some fb)))
        clear hb own eD hbd hpl hD HGW x0 s0
        go_wp2
        go_loopw [9, 34] (fun v i wr => ∃ (j n9 c9 : Nat) (A9 : Option Addr), j ≤ N ∧ i = .int .i64 j ∧ v = .slice A9 n9 c9 ∧ OwnI 3 wr wv.heap.size A9 n9 c9 (selTo (nearB D 64) j) ∧ PartsAt wr ws.heap.size top A' n' c' (partsTo W H xs a b k) ∧ OwnB 4 wr w.heap.size (some ⟨fb, 0, none⟩) N N (boolRow (fun i => inParts (partsTo W H xs a b k) (i : Int) || (decide (i < j) && nearB D 64 i)) N) ∧ wv.grownBy wr (some fb)) (fun _ i _ => N - (intOf i).toNat)
        case atStart => exact ⟨0, 0, 0, none, by omega, rfl, rfl, OwnI.none_ _ _ _, PA.out, by rw [boolRow_congr (g := fun i => inParts (partsTo W H xs a b k) (i : Int)) (fun i _ => by simp)]; exact SE.out, grown_refl _ _⟩
        case round =>
          clear PA SE
          obtain ⟨j, n9, c9, A9, hj, rfl, rfl, hpt, hpa, hse, hgx⟩ := hrel
          have hsx := hgx.size
          by_cases hjl : j < N
          · obtain ⟨y, hy⟩ : ∃ y, D[j]? = some y := ⟨_, List.getElem?_eq_getElem (show j < D.length by have := DLEN.out; omega)⟩
            have y0 := hgx.cell (FAR.out.cell hy) (by simp; omega)
            have hnb := HBD.out j y hy
            have hn9 : n9 ≤ 64 := by have := selTo_len (nearB D 64) j; have := hpt.len; omega
            have hj0 : (0 : Int) ≤ (j : Int) := by omega
            have hj1 : (j : Int) < (N : Int) := by omega
            have PT := Lib.hid hpt; have HPA := Lib.hid hpa; have HSE := Lib.hid hse; have HGX := Lib.hid hgx
            clear hy hpt hpa hse hgx
            by_cases hy0 : 0 ≤ y
            · have hnb' : nearB D 64 j = true := by rw [hnb]; simpa using hy0
              have HNB := Lib.hid hnb'
              clear hnb hnb'
              have hlo : wv.heap.size ≤ wr.heap.size := hsx
              have hfw2 : fb < wv.heap.size := by omega
              obtain ⟨sv, hsv⟩ : ∃ sv, (boolRow (fun i : Nat => inParts (partsTo W H xs a b k) (i : Int) || (decide (i < j) && nearB D 64 i)) N)[j]? = some sv := ⟨_, boolRow_at hjl⟩
              have SV := Lib.hid hsv
              clear hsv
              go_wp2_with (at_builtin; refine wpList_app1 rfl (.tmp 41) (.tmp 43) 22 3 rfl i0 Tryz.underlying22 HI.out HZ0.out HZ1.out HZ2.out wv.heap.size A9 n9 c9 (selTo (nearB D 64) j) (j : Int) rfl PT.out rfl (by omega) hlo ?_; intro A5 c5 w5 hown5 hb5; have hse5 := HSE.out.keepLo hb5 hfw2; have s5 := hse5.cell SV.out; have f5 := hse5.frozen j)
              obtain ⟨o1, g1⟩ := hse5.stored j true
              rw [boolRow_set, boolRow_congr (g := fun i : Nat => inParts (partsTo W H xs a b k) (i : Int) || (decide (i < j + 1) && nearB D 64 i)) (fun i _ => by
                by_cases e : i = j
                · subst e; rw [if_pos rfl, HNB.out]; simp
                · rw [if_neg e, show decide (i < j + 1) = decide (i < j) by rw [decide_eq_decide]; omega])] at o1
              have SE6 := Lib.hid o1
              have PA6 := Lib.hid ((HPA.out.keepLo hb5 hAv.out htv).bools hse5 g1)
              have PT6 := Lib.hid (hown5.other g1 (fun a ha => by
                subst ha
                have := rows_apart (by decide : 3 ≠ 4) hown5 hse5
                simpa using this))
              have HG6 := Lib.hid (grown_next (grown_below HGX.out hb5) g1)
              clear hse5 o1 g1 hown5 hb5
              go_wp2
              go_roundw
              case rel => exact ⟨j + 1, n9 + 1, c5, A5, by omega, by go_num, rfl, by rw [selTo_yes HNB.out]; exact PT6.out, PA6.out, SE6.out, HG6.out⟩
              case measure => simp [intOf]; omega
            · have hnb' : nearB D 64 j = false := by rw [hnb]; simpa using hy0
              have HNB := Lib.hid hnb'
              clear hnb hnb'
              go_wp2
              go_roundw
              case rel => exact ⟨j + 1, n9, c9, A9, by omega, by go_num, rfl, by rw [selTo_no HNB.out]; exact PT.out, HPA.out, by
                rw [boolRow_congr (g := fun i => inParts (partsTo W H xs a b k) (i : Int) || (decide (i < j) && nearB D 64 i)) (fun i _ => by
                  by_cases e : i = j
                  · subst e; rw [HNB.out]; simp
                  · rw [show decide (i < j + 1) = decide (i < j) by rw [decide_eq_decide]; omega])]
                exact HSE.out, HGX.out⟩
              case measure => simp [intOf]; omega
          · obtain rfl : j = N := by omega
            have PT := Lib.hid (hpt.lower (show ws.heap.size ≤ wv.heap.size by omega)); have HPA := Lib.hid hpa; have HSE := Lib.hid hse; have HGX := Lib.hid hgx
            have hpn : Hid (∀ y, A9 = some y → top ≤ y.block) := Lib.hid (fun y hy => by
              rcases hpt.form with ⟨h, _⟩ | ⟨g9, h, h2, _⟩
              · rw [h] at hy; cases hy
              · rw [h] at hy; injection hy with hy; rw [← hy]; show top ≤ g9; omega)
            have htx : top ≤ wr.heap.size := by omega
            have hlo : ws.heap.size ≤ wr.heap.size := by omega
            clear hpt hpa hse hgx
            go_wp2_with (at_builtin; refine wpList_appS rfl (.tmp 49) (.tmp 51) rfl ws.heap.size top A' n' c' (partsTo W H xs a b k) A9 n9 c9 (selTo (nearB D 64) j) rfl HPA.out PT.out hpn.out htx rfl (by omega) hlo ?_; intro A7 c7 w7 hpa7 hb7 kB kM kI)
            have PA7 := Lib.hid hpa7
            have SE7 := Lib.hid (kB _ _ _ _ _ HSE.out)
            have HG7 := Lib.hid (grown_below (grown_next HGV.out HGX.out) hb7)
            have hs7 := hb7.size
            clear hpa7 hb7 kB kM kI
            go_wp2
            go_roundw
            case rel =>
              have e := partsTo_no HX.out HIP.out
              rw [HPL.out] at PA7
              refine ⟨k + 1, n' + 1, c7, wr.heap.size, A7, by omega, by go_num, rfl, by rw [e]; exact PA7.out, hs7, ?_, HG7.out⟩
              rw [e, boolRow_congr (g := fun i : Nat => inParts (partsTo W H xs a b k) (i : Int) || (decide (i < j) && nearB D 64 i)) (fun i hi => by rw [inParts_app, ← HPL.out, sel_contains hi, show decide (i < j) = true by simpa using hi]; simp)]
              exact SE7.out
            case measure => simp [intOf]; omega
    · obtain rfl : k = n1 := by omega
      have eP : partsTo W H xs a b k = partsL W H xs a b := by rw [partsTo, List.take_of_length_le (by have := SL.out; omega)]; rfl
      rw [eP] at PA
      have HBW := Lib.hid hBw
      clear hgw hBw hpa hseen SE
      go_wp2
      go_ret
      exact ⟨_, _, _, _, rfl, PA.out.lower (by omega), HBW.out⟩

end Go.Proofs.YtomfgjbicpeggaaGreat
