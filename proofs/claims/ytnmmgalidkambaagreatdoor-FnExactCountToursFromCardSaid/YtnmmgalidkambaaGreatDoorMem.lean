/-
  Memory words for this seat's contracts: a slice of ints that reads as a list; one that the call owns; what is kept behind a call. No program is named here but for the seat's namespace.
-/
import Derived.WalkKit
import Derived.WalkSpells
import Derived.WalkLawsBesides
import Derived.Deep.QuietTactic
import Derived.BigQuiet
import Derived.Lib.Hide
namespace Go.Proofs.YtnmmgalidkambaaGreatDoor
open Go.RowKit

theorem below_next {a b c : World} (h : Below a.heap.size a b) (k : Below b.heap.size b c) : Below a.heap.size a c := h.trans (k.mono h.size)
theorem below_drewN {B : Nat} {a w : World} (h : Below B a w) (n : Nat) : Below B a (w.drewN n) := ⟨h.os, h.tape, h.output, h.size, h.block⟩
theorem below_new {a w : World} (h : Below a.heap.size a w) (o : Obj) : Below a.heap.size a (w.alloc o) := h.alloc h.size o

/-- The cells of a block that the call has just laid, behind whatever leaves it alone. -/
theorem box_cell {w wr : World} {cs : Array Value} {t : TypeId} (h : Below (w.heap.size + 1) (w.alloc (.cells cs t)) wr) (i : Nat) : wr.cell? ⟨w.heap.size, i, none⟩ = cs[i]? := by
  rw [h.cell (p := ⟨w.heap.size, i, none⟩) (by simp)]
  exact cell_of_row (w.alloc (.cells cs t)) w.heap.size i cs t (0, 0) (heap_alloc_new w _)
theorem box_size {w wr : World} {o : Obj} {B : Nat} (h : Below B (w.alloc o) wr) : w.heap.size < wr.heap.size := by have := h.size; simp at this; omega
theorem box_below {w wr : World} {o : Obj} (h : Below (w.heap.size + 1) (w.alloc o) wr) : Below w.heap.size w wr := (below_new (Below.refl _ _) o).trans (h.mono (by omega))
/-- Behind a contract: the walk's rules on what lay there. -/
theorem bcell {W w1 : World} (hb : Below W.heap.size W w1) : (∀ b o, b < W.heap.size → w1.cell? ⟨b, o, none⟩ = W.cell? ⟨b, o, none⟩) ∧ (∀ b o, b < W.heap.size → w1.frozen? ⟨b, o, none⟩ = W.frozen? ⟨b, o, none⟩) :=
  ⟨fun b o h => hb.cell (p := ⟨b, o, none⟩) h, fun b o h => hb.frozen (p := ⟨b, o, none⟩) h⟩

/-! ### A slice that reads as a list of ints -/
/-- The slice value '.slice A n c' reads as the list xs of ints. -/
def Rd (w : World) (A : Option Addr) (n : Nat) (xs : List Int) : Prop :=
  xs.length = n ∧ n ≤ 9223372036854775807 ∧ ∀ k, k < n → ∃ b off x, A = some ⟨b, off, none⟩ ∧ b < w.heap.size ∧ xs[k]? = some x ∧ w.cell? ⟨b, off + k, none⟩ = some (.int .i64 x)

theorem Rd.keep {w w' : World} {A : Option Addr} {n : Nat} {xs : List Int} (h : Rd w A n xs) (hb : Below w.heap.size w w') : Rd w' A n xs := by
  refine ⟨h.1, h.2.1, fun k hk => ?_⟩
  obtain ⟨b, off, x, hA, hlt, hx, hc⟩ := h.2.2 k hk
  exact ⟨b, off, x, hA, Nat.lt_of_lt_of_le hlt hb.size, hx, (hb.cell (p := ⟨b, off + k, none⟩) hlt).trans hc⟩
theorem Rd.nil (w : World) (A : Option Addr) : Rd w A 0 [] := ⟨rfl, by omega, fun k hk => absurd hk (by omega)⟩
theorem Rd.drewN {w : World} {A : Option Addr} {n : Nat} {xs : List Int} (h : Rd w A n xs) (k : Nat) : Rd (w.drewN k) A n xs := h
theorem Rd.alloc {w : World} {A : Option Addr} {n : Nat} {xs : List Int} (h : Rd w A n xs) (o : Obj) : Rd (w.alloc o) A n xs := h.keep ((Below.refl _ _).alloc (Nat.le_refl _) o)
theorem Rd.at_ {w : World} {A : Option Addr} {n k : Nat} {xs : List Int} (h : Rd w A n xs) (hk : k < n) :
    ∃ b off x, A = some ⟨b, off, none⟩ ∧ b < w.heap.size ∧ xs[k]? = some x ∧ w.cell? ⟨b, off + k, none⟩ = some (.int .i64 x) := h.2.2 k hk

/-! ### A row of ints that the call owns -/
/-- The slice '.slice A n c' owns, in a block from lo on, the list xs of ints (E: the number of int's type). -/
def OwnI (E : TypeId) (w : World) (lo : Nat) (A : Option Addr) (n c : Nat) (xs : List Int) : Prop := w.ownsRow lo E 1 (.slice A n c) n (xs.map (Value.int .i64))

section
variable {E : TypeId} {w w' : World} {lo : Nat} {A : Option Addr} {n c : Nat} {xs : List Int}
theorem OwnI.len (h : OwnI E w lo A n c xs) : xs.length = n := by simpa [OwnI] using h.1
theorem OwnI.form (h : OwnI E w lo A n c xs) : (A = none ∧ n = 0 ∧ c = 0 ∧ xs = []) ∨ ∃ g, A = some ⟨g, 0, none⟩ ∧ lo ≤ g ∧ g < w.heap.size ∧ n ≤ c ∧ c ≤ maxLen := by
  have hl := h.len
  rcases h.2 with ⟨hv, hn⟩ | ⟨g, cap, cur, hv, hb, hg, hnc, hm, _⟩
  · injection hv with h1 h2 h3
    subst hn
    exact .inl ⟨h1, rfl, h3, List.eq_nil_of_length_eq_zero hl⟩
  · injection hv with h1 h2 h3
    subst h3
    exact .inr ⟨g, h1, hb, (Array.getElem?_eq_some_iff.1 hg).1, hnc, hm⟩
theorem OwnI.some_ {k : Nat} (h : OwnI E w lo A n c xs) (hk : k < n) : ∃ g, A = some ⟨g, 0, none⟩ ∧ lo ≤ g ∧ g < w.heap.size := by
  rcases h.form with ⟨_, h0, _⟩ | ⟨g, h1, h2, h3, _⟩
  · omega
  · exact ⟨g, h1, h2, h3⟩
theorem OwnI.rd (h : OwnI E w lo A n c xs) : Rd w A n xs := by
  refine ⟨h.len, ?_, fun k hk => ?_⟩
  · rcases h.form with ⟨_, h0, _⟩ | ⟨g, _, _, _, h1, h2⟩
    · omega
    · unfold maxLen at h2; omega
  · rcases h.form with ⟨_, h0, _⟩ | ⟨g, rfl, hb, hlt, _⟩
    · omega
    · have hl := h.len
      have hx : xs[k]? = some xs[k] := List.getElem?_eq_getElem (by omega)
      refine ⟨g, 0, xs[k], rfl, hlt, hx, ?_⟩
      rw [Nat.zero_add, World.ownsRow.cellAt h k (by omega), List.getElem?_map, hx]; rfl
theorem OwnI.cell {g k : Nat} {x : Int} (h : OwnI E w lo (some ⟨g, 0, none⟩) n c xs) (hx : xs[k]? = some x) : w.cell? ⟨g, k, none⟩ = some (.int .i64 x) := by
  have hl := h.len
  have hk : k < n := by
    rcases Nat.lt_or_ge k xs.length with h' | h'
    · omega
    · rw [List.getElem?_eq_none h'] at hx; cases hx
  rw [World.ownsRow.cellAt h k (by omega), List.getElem?_map, hx]; rfl
theorem OwnI.frozen {g : Nat} (h : OwnI E w lo (some ⟨g, 0, none⟩) n c xs) (k : Nat) : w.frozen? ⟨g, k, none⟩ = false := World.ownsRow.frozenAt h k
theorem OwnI.stored {g : Nat} (h : OwnI E w lo (some ⟨g, 0, none⟩) n c xs) (k : Nat) (x : Int) :
    OwnI E (w.setCell ⟨g, k, none⟩ (.int .i64 x)) lo (some ⟨g, 0, none⟩) n c (xs.set k x) ∧ w.grownBy (w.setCell ⟨g, k, none⟩ (.int .i64 x)) (some g) := by
  have := World.ownsRow.stored h k (.int .i64 x)
  rw [← List.map_set] at this
  exact this
theorem OwnI.keep (h : OwnI E w lo A n c xs) (hb : Below w.heap.size w w') : OwnI E w' lo A n c xs := by
  refine ⟨h.1, ?_⟩
  rcases h.2 with hn | ⟨g, cap, cur, hv, hlo, hg, r⟩
  · exact .inl hn
  · exact .inr ⟨g, cap, cur, hv, hlo, (hb.block g (Array.getElem?_eq_some_iff.1 hg).1).trans hg, r⟩
theorem OwnI.lower {lo' : Nat} (h : OwnI E w lo A n c xs) (hl : lo' ≤ lo) : OwnI E w lo' A n c xs := by
  refine ⟨h.1, ?_⟩
  rcases h.2 with hn | ⟨g, cap, cur, hv, hlo, hg, r⟩
  · exact .inl hn
  · exact .inr ⟨g, cap, cur, hv, Nat.le_trans hl hlo, hg, r⟩
theorem OwnI.alloc (h : OwnI E w lo A n c xs) (o : Obj) : OwnI E (w.alloc o) lo A n c xs := h.keep ((Below.refl _ _).alloc (Nat.le_refl _) o)
theorem OwnI.drewN (h : OwnI E w lo A n c xs) (k : Nat) : OwnI E (w.drewN k) lo A n c xs := h
/-- A store below the row's blocks. -/
theorem OwnI.set_ (h : OwnI E w lo A n c xs) {p : Addr} (hp : p.block < lo) (u : Value) : OwnI E (w.setCell p u) lo A n c xs := ownsRow_setCell_below h hp u
theorem OwnI.none_ (E : TypeId) (w : World) (lo : Nat) : OwnI E w lo none 0 0 [] := World.ownsRow_nil w lo E 1
/-- Behind a call that writes into one block alone, another one. -/
theorem OwnI.other {row : Option Nat} (h : OwnI E w lo A n c xs) (hg : w.grownBy w' row) (hne : ∀ a, A = some a → some a.block ≠ row) : OwnI E w' lo A n c xs := by
  refine ⟨h.1, ?_⟩
  rcases h.2 with hn | ⟨g, cap, cur, hv, hlo, hgg, r⟩
  · exact .inl hn
  · refine .inr ⟨g, cap, cur, hv, hlo, ?_, r⟩
    injection hv with h1
    rw [hg.block g (Array.getElem?_eq_some_iff.1 hgg).1 (hne _ h1)]
    exact hgg
end

/-- The block of a slice's row, if it has one. -/
def rowOf (A : Option Addr) : Option Nat := A.map (·.block)

theorem rowOf_none : rowOf none = none := rfl
theorem rowOf_some (g o : Nat) : rowOf (some ⟨g, o, none⟩) = some g := rfl

/-- A read row in another block than the one that is written. -/
theorem Rd.other {w w' : World} {A : Option Addr} {n : Nat} {xs : List Int} {row : Option Nat} (h : Rd w A n xs) (hg : w.grownBy w' row) (hne : ∀ a, A = some a → some a.block ≠ row) : Rd w' A n xs := by
  refine ⟨h.1, h.2.1, fun k hk => ?_⟩
  obtain ⟨b, off, x, hA, hlt, hx, hc⟩ := h.2.2 k hk
  exact ⟨b, off, x, hA, Nat.lt_of_lt_of_le hlt hg.size, hx, hg.cell hc (by have := hne _ hA; simpa using this)⟩

theorem grown_of_below {a w : World} (h : Below a.heap.size a w) (row : Option Nat) : a.grownBy w row := ⟨h.os, h.tape, h.output, h.size, fun i hi _ => h.block i hi⟩
theorem grown_next {a b c : World} {row : Option Nat} (h : a.grownBy b row) (k : b.grownBy c row) : a.grownBy c row :=
  ⟨k.os.trans h.os, k.tape.trans h.tape, k.output.trans h.output, Nat.le_trans h.size k.size, fun i hi hne => (k.block i (Nat.lt_of_lt_of_le hi h.size) hne).trans (h.block i hi hne)⟩
theorem grown_drewN {a w : World} {row : Option Nat} (h : a.grownBy w row) (n : Nat) : a.grownBy (w.drewN n) row := ⟨h.os, h.tape, h.output, h.size, h.block⟩
theorem grown_refl (w : World) (row : Option Nat) : w.grownBy w row := ⟨rfl, rfl, rfl, Nat.le_refl _, fun _ _ _ => rfl⟩
/-- What was written lies in new memory: below it nothing has turned. -/
theorem below_of_grown {B : Nat} {a w : World} {row : Option Nat} (h : a.grownBy w row) (hB : B ≤ a.heap.size) (hr : ∀ g, row = some g → B ≤ g) : Below B a w := (Below.refl _ _).grown h hB hr

/-! ### Ends -/
theorem ret_bool {a b : Bool} (h : a = b) : Ending.returned (.bool a) = .returned (.bool b) := by rw [h]
theorem ret_int {a b : Int} (h : a = b) : Ending.returned (.int .i64 a) = .returned (.int .i64 b) := by rw [h]

/-- Lists that begin alike, one element more. -/
theorem take_same_succ {xs ys : List Int} {k : Nat} {x : Int} (h : xs.take k = ys.take k) (hx : xs[k]? = some x) (hy : ys[k]? = some x) : xs.take (k + 1) = ys.take (k + 1) := by
  rw [List.take_add_one, List.take_add_one, h, hx, hy]
theorem ne_of_at {xs ys : List Int} {k : Nat} {x y : Int} (hx : xs[k]? = some x) (hy : ys[k]? = some y) (h : x ≠ y) : xs ≠ ys := by
  intro e; subst e; rw [hx] at hy; exact h (by injection hy)

/-- k, k + 1, .. : n of them. -/
def marks (k : Int) (n : Nat) : List Int := (List.range n).map fun i : Nat => k + (i : Int)
theorem marks_length (k : Int) (n : Nat) : (marks k n).length = n := by simp [marks]
theorem marks_at {k : Int} {n i : Nat} (h : i < n) : (marks k n)[i]? = some (k + i) := by simp [marks, h]
theorem marks_set {k : Int} {xs : List Int} {i : Nat} {x : Int} (hx : xs[i]? = some x) : (marks k i ++ xs.drop i).set i (k + i) = marks k (i + 1) ++ xs.drop (i + 1) := by
  have hl : i < xs.length := by
    rcases Nat.lt_or_ge i xs.length with h | h
    · exact h
    · rw [List.getElem?_eq_none h] at hx; cases hx
  have h1 : marks k (i + 1) = marks k i ++ [k + (i : Int)] := by simp [marks, List.range_succ]
  rw [h1, List.set_append_right _ _ (by rw [marks_length]; omega), marks_length, Nat.sub_self, List.append_assoc]
  congr 1
  rw [List.drop_eq_getElem_cons hl]; rfl
theorem marks_app_at {k : Int} {xs : List Int} {i n : Nat} (hn : xs.length = n) (hi : i < n) : ∃ x, xs[i]? = some x ∧ (marks k i ++ xs.drop i)[i]? = some x := by
  refine ⟨xs[i], List.getElem?_eq_getElem (by omega), ?_⟩
  rw [List.getElem?_append_right (by rw [marks_length]; omega), marks_length, Nat.sub_self, List.getElem?_drop, Nat.add_zero]
  exact List.getElem?_eq_getElem (by omega)
theorem copy_at {xs : List Int} {k n : Nat} (hn : xs.length = n) (hk : k < n) : (xs.take k ++ List.replicate (n - k) 0)[k]? = some 0 := by
  have h1 : (xs.take k).length = k := by rw [List.length_take]; omega
  rw [List.getElem?_append_right (by omega), h1, Nat.sub_self, List.getElem?_replicate, if_pos (by omega)]
theorem copy_set {xs : List Int} {i n : Nat} {x : Int} (hn : xs.length = n) (hx : xs[i]? = some x) : (xs.take i ++ List.replicate (n - i) 0).set i x = xs.take (i + 1) ++ List.replicate (n - (i + 1)) 0 := by
  have hl : i < xs.length := by
    rcases Nat.lt_or_ge i xs.length with h | h
    · exact h
    · rw [List.getElem?_eq_none h] at hx; cases hx
  have hx' : xs[i] = x := by rw [List.getElem?_eq_getElem hl] at hx; injection hx
  rw [List.set_append_right _ _ (by rw [List.length_take]; omega), List.length_take, Nat.min_eq_left (by omega), Nat.sub_self, List.take_succ_eq_append_getElem hl, hx', List.append_assoc]
  congr 1
  obtain ⟨m, hm⟩ : ∃ m, n - i = m + 1 := ⟨n - i - 1, by omega⟩
  rw [hm, List.replicate_succ, show n - (i + 1) = m from by omega]; rfl

theorem OwnI.cap {E : TypeId} {w : World} {lo : Nat} {A : Option Addr} {n c : Nat} {xs : List Int} (h : OwnI E w lo A n c xs) : n ≤ c := by
  rcases h.form with ⟨_, h0, _⟩ | ⟨g, _, _, _, h1, _⟩ <;> omega
theorem Rd.take {w : World} {A : Option Addr} {n : Nat} {xs : List Int} (h : Rd w A n xs) {k : Nat} (hk : k ≤ n) : Rd w A k (xs.take k) := by
  refine ⟨by rw [List.length_take, h.1]; omega, by have := h.2.1; omega, fun j hj => ?_⟩
  obtain ⟨b, off, x, hA, hb, hx, hc⟩ := h.2.2 j (by omega)
  exact ⟨b, off, x, hA, hb, by rw [List.getElem?_take, if_pos hj]; exact hx, hc⟩
theorem Rd.drop {w : World} {b off : Nat} {n : Nat} {xs : List Int} (h : Rd w (some ⟨b, off, none⟩) n xs) {k : Nat} (hk : k ≤ n) : Rd w (some ⟨b, off + k, none⟩) (n - k) (xs.drop k) := by
  refine ⟨by rw [List.length_drop, h.1], by have := h.2.1; omega, fun j hj => ?_⟩
  obtain ⟨b', o', x, hA, hb, hx, hc⟩ := h.2.2 (k + j) (by omega)
  injection hA with hA
  injection hA with e1 e2 _
  subst e1 e2
  exact ⟨b, off + k, x, rfl, hb, by rw [List.getElem?_drop]; exact hx, by rw [Nat.add_assoc]; exact hc⟩
theorem Rd.cell_ {w : World} {ad : Addr} {n : Nat} {xs : List Int} {j : Nat} {y : Int} (h : Rd w (some ad) n xs) (hj : xs[j]? = some y) : w.cell? (ad.add j) = some (.int .i64 y) := by
  have hjn : j < n := by rw [← h.1]; exact (List.getElem?_eq_some_iff.1 hj).1
  obtain ⟨b, off, x, hA, _, hx, hc⟩ := h.2.2 j hjn
  injection hA with hA
  subst hA
  rw [hj] at hx
  injection hx with hx
  subst hx
  by_cases h0 : j = 0
  · subst h0; simpa [Addr.add] using hc
  · simpa [Addr.add, h0] using hc
end Go.Proofs.YtnmmgalidkambaaGreatDoor
