/-
  Memory words for this seat's contracts: a slice of ints that reads as a list; one that the call owns; what is kept behind a call. No program is named here but for the seat's namespace.
  Contracts of the laws' own helpers: what copies, compares, marks and looks at slices of ints and boards.
  Plain functions and facts on numbers and lists: what leapers and boards are. No program is named here.
  Plain functions and facts: the cells of a board in order.
  Contracts: leapers, sizes, boards, in the program and in its model.
  Contracts: boards, in the program and in its model.
-/
import Derived.WalkKit
import Derived.WalkSpells
import Derived.WalkLawsBesides
import Derived.Deep.QuietTactic
import Derived.BigQuiet
import Derived.Lib.Hide
import Derived.Test.YtcfibfbenccimaaGreatDoorProg
namespace Go.Proofs.YtcfibfbenccimaaGreatDoor
open Go.RowKit

theorem below_next {a b c : World} (h : Below a.heap.size a b) (k : Below b.heap.size b c) : Below a.heap.size a c := h.trans (k.mono h.size)
theorem below_drewN {B : Nat} {a w : World} (h : Below B a w) (n : Nat) : Below B a (w.drewN n) := ⟨h.os, h.tape, h.output, h.size, h.block⟩
theorem below_new {a w : World} (h : Below a.heap.size a w) (o : Obj) : Below a.heap.size a (w.alloc o) := h.alloc h.size o

/-- The cells of a block that the call has just laid, behind whatever leaves it alone. -/
theorem box_cell {w wr : World} {cs : Array Value} {t : TypeId} (h : Below (w.heap.size + 1) (w.alloc (.cells cs t)) wr) (i : Nat) : wr.cell? ⟨w.heap.size, i, none⟩ = cs[i]? := by
  rw [h.cell (p := ⟨w.heap.size, i, none⟩) (by simp)]
  exact cell_of_row (w.alloc (.cells cs t)) w.heap.size i cs t (0, 0) (heap_alloc_new w _)
theorem box_size {w wr : World} {o : Obj} {B : Nat} (h : Below B (w.alloc o) wr) : w.heap.size < wr.heap.size := by have := h.size; simp at this; omega
theorem box_below {w wr : World} {o : Obj} (h : Below (w.heap.size + 1) (w.alloc o) wr) : Below w.heap.size w wr := (below_new (Below.refl _ _) o).trans (h.mono (by omega))
/-- Behind a contract: the walk's rules on what lay there. -/
theorem bcell {W w1 : World} (hb : Below W.heap.size W w1) : (∀ b o, b < W.heap.size → w1.cell? ⟨b, o, none⟩ = W.cell? ⟨b, o, none⟩) ∧ (∀ b o, b < W.heap.size → w1.frozen? ⟨b, o, none⟩ = W.frozen? ⟨b, o, none⟩) :=
  ⟨fun b o h => hb.cell (p := ⟨b, o, none⟩) h, fun b o h => hb.frozen (p := ⟨b, o, none⟩) h⟩

/-! ### A slice that reads as a list of ints -/
/-- The slice value '.slice A n c' reads as the list xs of ints. -/
def Rd (w : World) (A : Option Addr) (n : Nat) (xs : List Int) : Prop :=
  xs.length = n ∧ n ≤ 9223372036854775807 ∧ ∀ k, k < n → ∃ b off x, A = some ⟨b, off, none⟩ ∧ b < w.heap.size ∧ xs[k]? = some x ∧ w.cell? ⟨b, off + k, none⟩ = some (.int .i64 x)

theorem Rd.keep {w w' : World} {A : Option Addr} {n : Nat} {xs : List Int} (h : Rd w A n xs) (hb : Below w.heap.size w w') : Rd w' A n xs := by
  refine ⟨h.1, h.2.1, fun k hk => ?_⟩
  obtain ⟨b, off, x, hA, hlt, hx, hc⟩ := h.2.2 k hk
  exact ⟨b, off, x, hA, Nat.lt_of_lt_of_le hlt hb.size, hx, (hb.cell (p := ⟨b, off + k, none⟩) hlt).trans hc⟩
theorem Rd.nil (w : World) (A : Option Addr) : Rd w A 0 [] := ⟨rfl, by omega, fun k hk => absurd hk (by omega)⟩
theorem Rd.drewN {w : World} {A : Option Addr} {n : Nat} {xs : List Int} (h : Rd w A n xs) (k : Nat) : Rd (w.drewN k) A n xs := h
theorem Rd.alloc {w : World} {A : Option Addr} {n : Nat} {xs : List Int} (h : Rd w A n xs) (o : Obj) : Rd (w.alloc o) A n xs := h.keep ((Below.refl _ _).alloc (Nat.le_refl _) o)
theorem Rd.at_ {w : World} {A : Option Addr} {n k : Nat} {xs : List Int} (h : Rd w A n xs) (hk : k < n) :
    ∃ b off x, A = some ⟨b, off, none⟩ ∧ b < w.heap.size ∧ xs[k]? = some x ∧ w.cell? ⟨b, off + k, none⟩ = some (.int .i64 x) := h.2.2 k hk

/-! ### A row of ints that the call owns -/
/-- The slice '.slice A n c' owns, in a block from lo on, the list xs of ints (E: the number of int's type). -/
def OwnI (E : TypeId) (w : World) (lo : Nat) (A : Option Addr) (n c : Nat) (xs : List Int) : Prop := w.ownsRow lo E 1 (.slice A n c) n (xs.map (Value.int .i64))

section
variable {E : TypeId} {w w' : World} {lo : Nat} {A : Option Addr} {n c : Nat} {xs : List Int}
theorem OwnI.len (h : OwnI E w lo A n c xs) : xs.length = n := by simpa [OwnI] using h.1
theorem OwnI.form (h : OwnI E w lo A n c xs) : (A = none ∧ n = 0 ∧ c = 0 ∧ xs = []) ∨ ∃ g, A = some ⟨g, 0, none⟩ ∧ lo ≤ g ∧ g < w.heap.size ∧ n ≤ c ∧ c ≤ maxLen := by
  have hl := h.len
  rcases h.2 with ⟨hv, hn⟩ | ⟨g, cap, cur, hv, hb, hg, hnc, hm, _⟩
  · injection hv with h1 h2 h3
    subst hn
    exact .inl ⟨h1, rfl, h3, List.eq_nil_of_length_eq_zero hl⟩
  · injection hv with h1 h2 h3
    subst h3
    exact .inr ⟨g, h1, hb, (Array.getElem?_eq_some_iff.1 hg).1, hnc, hm⟩
theorem OwnI.some_ {k : Nat} (h : OwnI E w lo A n c xs) (hk : k < n) : ∃ g, A = some ⟨g, 0, none⟩ ∧ lo ≤ g ∧ g < w.heap.size := by
  rcases h.form with ⟨_, h0, _⟩ | ⟨g, h1, h2, h3, _⟩
  · omega
  · exact ⟨g, h1, h2, h3⟩
theorem OwnI.rd (h : OwnI E w lo A n c xs) : Rd w A n xs := by
  refine ⟨h.len, ?_, fun k hk => ?_⟩
  · rcases h.form with ⟨_, h0, _⟩ | ⟨g, _, _, _, h1, h2⟩
    · omega
    · unfold maxLen at h2; omega
  · rcases h.form with ⟨_, h0, _⟩ | ⟨g, rfl, hb, hlt, _⟩
    · omega
    · have hl := h.len
      have hx : xs[k]? = some xs[k] := List.getElem?_eq_getElem (by omega)
      refine ⟨g, 0, xs[k], rfl, hlt, hx, ?_⟩
      rw [Nat.zero_add, World.ownsRow.cellAt h k (by omega), List.getElem?_map, hx]; rfl
theorem OwnI.cell {g k : Nat} {x : Int} (h : OwnI E w lo (some ⟨g, 0, none⟩) n c xs) (hx : xs[k]? = some x) : w.cell? ⟨g, k, none⟩ = some (.int .i64 x) := by
  have hl := h.len
  have hk : k < n := by
    rcases Nat.lt_or_ge k xs.length with h' | h'
    · omega
    · rw [List.getElem?_eq_none h'] at hx; cases hx
  rw [World.ownsRow.cellAt h k (by omega), List.getElem?_map, hx]; rfl
theorem OwnI.frozen {g : Nat} (h : OwnI E w lo (some ⟨g, 0, none⟩) n c xs) (k : Nat) : w.frozen? ⟨g, k, none⟩ = false := World.ownsRow.frozenAt h k
theorem OwnI.stored {g : Nat} (h : OwnI E w lo (some ⟨g, 0, none⟩) n c xs) (k : Nat) (x : Int) :
    OwnI E (w.setCell ⟨g, k, none⟩ (.int .i64 x)) lo (some ⟨g, 0, none⟩) n c (xs.set k x) ∧ w.grownBy (w.setCell ⟨g, k, none⟩ (.int .i64 x)) (some g) := by
  have := World.ownsRow.stored h k (.int .i64 x)
  rw [← List.map_set] at this
  exact this
theorem OwnI.keep (h : OwnI E w lo A n c xs) (hb : Below w.heap.size w w') : OwnI E w' lo A n c xs := by
  refine ⟨h.1, ?_⟩
  rcases h.2 with hn | ⟨g, cap, cur, hv, hlo, hg, r⟩
  · exact .inl hn
  · exact .inr ⟨g, cap, cur, hv, hlo, (hb.block g (Array.getElem?_eq_some_iff.1 hg).1).trans hg, r⟩
theorem OwnI.lower {lo' : Nat} (h : OwnI E w lo A n c xs) (hl : lo' ≤ lo) : OwnI E w lo' A n c xs := by
  refine ⟨h.1, ?_⟩
  rcases h.2 with hn | ⟨g, cap, cur, hv, hlo, hg, r⟩
  · exact .inl hn
  · exact .inr ⟨g, cap, cur, hv, Nat.le_trans hl hlo, hg, r⟩
theorem OwnI.alloc (h : OwnI E w lo A n c xs) (o : Obj) : OwnI E (w.alloc o) lo A n c xs := h.keep ((Below.refl _ _).alloc (Nat.le_refl _) o)
theorem OwnI.drewN (h : OwnI E w lo A n c xs) (k : Nat) : OwnI E (w.drewN k) lo A n c xs := h
/-- A store below the row's blocks. -/
theorem OwnI.set_ (h : OwnI E w lo A n c xs) {p : Addr} (hp : p.block < lo) (u : Value) : OwnI E (w.setCell p u) lo A n c xs := ownsRow_setCell_below h hp u
theorem OwnI.none_ (E : TypeId) (w : World) (lo : Nat) : OwnI E w lo none 0 0 [] := World.ownsRow_nil w lo E 1
/-- Behind a call that writes into one block alone, another one. -/
theorem OwnI.other {row : Option Nat} (h : OwnI E w lo A n c xs) (hg : w.grownBy w' row) (hne : ∀ a, A = some a → some a.block ≠ row) : OwnI E w' lo A n c xs := by
  refine ⟨h.1, ?_⟩
  rcases h.2 with hn | ⟨g, cap, cur, hv, hlo, hgg, r⟩
  · exact .inl hn
  · refine .inr ⟨g, cap, cur, hv, hlo, ?_, r⟩
    injection hv with h1
    rw [hg.block g (Array.getElem?_eq_some_iff.1 hgg).1 (hne _ h1)]
    exact hgg
end

/-- The block of a slice's row, if it has one. -/
def rowOf (A : Option Addr) : Option Nat := A.map (·.block)

theorem rowOf_none : rowOf none = none := rfl
theorem rowOf_some (g o : Nat) : rowOf (some ⟨g, o, none⟩) = some g := rfl

/-- A read row in another block than the one that is written. -/
theorem Rd.other {w w' : World} {A : Option Addr} {n : Nat} {xs : List Int} {row : Option Nat} (h : Rd w A n xs) (hg : w.grownBy w' row) (hne : ∀ a, A = some a → some a.block ≠ row) : Rd w' A n xs := by
  refine ⟨h.1, h.2.1, fun k hk => ?_⟩
  obtain ⟨b, off, x, hA, hlt, hx, hc⟩ := h.2.2 k hk
  exact ⟨b, off, x, hA, Nat.lt_of_lt_of_le hlt hg.size, hx, hg.cell hc (by have := hne _ hA; simpa using this)⟩

theorem grown_of_below {a w : World} (h : Below a.heap.size a w) (row : Option Nat) : a.grownBy w row := ⟨h.os, h.tape, h.output, h.size, fun i hi _ => h.block i hi⟩
theorem grown_next {a b c : World} {row : Option Nat} (h : a.grownBy b row) (k : b.grownBy c row) : a.grownBy c row :=
  ⟨k.os.trans h.os, k.tape.trans h.tape, k.output.trans h.output, Nat.le_trans h.size k.size, fun i hi hne => (k.block i (Nat.lt_of_lt_of_le hi h.size) hne).trans (h.block i hi hne)⟩
theorem grown_drewN {a w : World} {row : Option Nat} (h : a.grownBy w row) (n : Nat) : a.grownBy (w.drewN n) row := ⟨h.os, h.tape, h.output, h.size, h.block⟩
theorem grown_refl (w : World) (row : Option Nat) : w.grownBy w row := ⟨rfl, rfl, rfl, Nat.le_refl _, fun _ _ _ => rfl⟩
/-- What was written lies in new memory: below it nothing has turned. -/
theorem below_of_grown {B : Nat} {a w : World} {row : Option Nat} (h : a.grownBy w row) (hB : B ≤ a.heap.size) (hr : ∀ g, row = some g → B ≤ g) : Below B a w := (Below.refl _ _).grown h hB hr

/-! ### Ends -/
theorem ret_bool {a b : Bool} (h : a = b) : Ending.returned (.bool a) = .returned (.bool b) := by rw [h]
theorem ret_int {a b : Int} (h : a = b) : Ending.returned (.int .i64 a) = .returned (.int .i64 b) := by rw [h]

/-- Lists that begin alike, one element more. -/
theorem take_same_succ {xs ys : List Int} {k : Nat} {x : Int} (h : xs.take k = ys.take k) (hx : xs[k]? = some x) (hy : ys[k]? = some x) : xs.take (k + 1) = ys.take (k + 1) := by
  rw [List.take_add_one, List.take_add_one, h, hx, hy]
theorem ne_of_at {xs ys : List Int} {k : Nat} {x y : Int} (hx : xs[k]? = some x) (hy : ys[k]? = some y) (h : x ≠ y) : xs ≠ ys := by
  intro e; subst e; rw [hx] at hy; exact h (by injection hy)

/-- k, k + 1, .. : n of them. -/
def marks (k : Int) (n : Nat) : List Int := (List.range n).map fun i : Nat => k + (i : Int)
theorem marks_length (k : Int) (n : Nat) : (marks k n).length = n := by simp [marks]
theorem marks_at {k : Int} {n i : Nat} (h : i < n) : (marks k n)[i]? = some (k + i) := by simp [marks, h]
theorem marks_set {k : Int} {xs : List Int} {i : Nat} {x : Int} (hx : xs[i]? = some x) : (marks k i ++ xs.drop i).set i (k + i) = marks k (i + 1) ++ xs.drop (i + 1) := by
  have hl : i < xs.length := by
    rcases Nat.lt_or_ge i xs.length with h | h
    · exact h
    · rw [List.getElem?_eq_none h] at hx; cases hx
  have h1 : marks k (i + 1) = marks k i ++ [k + (i : Int)] := by simp [marks, List.range_succ]
  rw [h1, List.set_append_right _ _ (by rw [marks_length]; omega), marks_length, Nat.sub_self, List.append_assoc]
  congr 1
  rw [List.drop_eq_getElem_cons hl]; rfl
theorem marks_app_at {k : Int} {xs : List Int} {i n : Nat} (hn : xs.length = n) (hi : i < n) : ∃ x, xs[i]? = some x ∧ (marks k i ++ xs.drop i)[i]? = some x := by
  refine ⟨xs[i], List.getElem?_eq_getElem (by omega), ?_⟩
  rw [List.getElem?_append_right (by rw [marks_length]; omega), marks_length, Nat.sub_self, List.getElem?_drop, Nat.add_zero]
  exact List.getElem?_eq_getElem (by omega)
theorem copy_at {xs : List Int} {k n : Nat} (hn : xs.length = n) (hk : k < n) : (xs.take k ++ List.replicate (n - k) 0)[k]? = some 0 := by
  have h1 : (xs.take k).length = k := by rw [List.length_take]; omega
  rw [List.getElem?_append_right (by omega), h1, Nat.sub_self, List.getElem?_replicate, if_pos (by omega)]
theorem copy_set {xs : List Int} {i n : Nat} {x : Int} (hn : xs.length = n) (hx : xs[i]? = some x) : (xs.take i ++ List.replicate (n - i) 0).set i x = xs.take (i + 1) ++ List.replicate (n - (i + 1)) 0 := by
  have hl : i < xs.length := by
    rcases Nat.lt_or_ge i xs.length with h | h
    · exact h
    · rw [List.getElem?_eq_none h] at hx; cases hx
  have hx' : xs[i] = x := by rw [List.getElem?_eq_getElem hl] at hx; injection hx
  rw [List.set_append_right _ _ (by rw [List.length_take]; omega), List.length_take, Nat.min_eq_left (by omega), Nat.sub_self, List.take_succ_eq_append_getElem hl, hx', List.append_assoc]
  congr 1
  obtain ⟨m, hm⟩ : ∃ m, n - i = m + 1 := ⟨n - i - 1, by omega⟩
  rw [hm, List.replicate_succ, show n - (i + 1) = m from by omega]; rfl

theorem OwnI.cap {E : TypeId} {w : World} {lo : Nat} {A : Option Addr} {n c : Nat} {xs : List Int} (h : OwnI E w lo A n c xs) : n ≤ c := by
  rcases h.form with ⟨_, h0, _⟩ | ⟨g, _, _, _, h1, _⟩ <;> omega
theorem Rd.take {w : World} {A : Option Addr} {n : Nat} {xs : List Int} (h : Rd w A n xs) {k : Nat} (hk : k ≤ n) : Rd w A k (xs.take k) := by
  refine ⟨by rw [List.length_take, h.1]; omega, by have := h.2.1; omega, fun j hj => ?_⟩
  obtain ⟨b, off, x, hA, hb, hx, hc⟩ := h.2.2 j (by omega)
  exact ⟨b, off, x, hA, hb, by rw [List.getElem?_take, if_pos hj]; exact hx, hc⟩
theorem Rd.drop {w : World} {b off : Nat} {n : Nat} {xs : List Int} (h : Rd w (some ⟨b, off, none⟩) n xs) {k : Nat} (hk : k ≤ n) : Rd w (some ⟨b, off + k, none⟩) (n - k) (xs.drop k) := by
  refine ⟨by rw [List.length_drop, h.1], by have := h.2.1; omega, fun j hj => ?_⟩
  obtain ⟨b', o', x, hA, hb, hx, hc⟩ := h.2.2 (k + j) (by omega)
  injection hA with hA
  injection hA with e1 e2 _
  subst e1 e2
  exact ⟨b, off + k, x, rfl, hb, by rw [List.getElem?_drop]; exact hx, by rw [Nat.add_assoc]; exact hc⟩
theorem Rd.cell_ {w : World} {ad : Addr} {n : Nat} {xs : List Int} {j : Nat} {y : Int} (h : Rd w (some ad) n xs) (hj : xs[j]? = some y) : w.cell? (ad.add j) = some (.int .i64 y) := by
  have hjn : j < n := by rw [← h.1]; exact (List.getElem?_eq_some_iff.1 hj).1
  obtain ⟨b, off, x, hA, _, hx, hc⟩ := h.2.2 j hjn
  injection hA with hA
  subst hA
  rw [hj] at hx
  injection hx with hx
  subst hx
  by_cases h0 : j = 0
  · subst h0; simpa [Addr.add] using hc
  · simpa [Addr.add, h0] using hc
end Go.Proofs.YtcfibfbenccimaaGreatDoor

namespace Go.Proofs.YtcfibfbenccimaaGreatDoor
open Go.RowKit

theorem infoI : (Tryz.prog.info? 3).map (fun i => (i.zero, i.size, i.bytes)) = some (some (.int .i64 0), 1, 8) := by kernel_rfl

set_option maxHeartbeats 400000 in
theorem eqIntS_any (A B : Option Addr) (n m c d : Nat) (xs ys : List Int) (w : World) (ha : Rd w A n xs) (hb : Rd w B m ys) :
    Calls Tryz.prog 15 #[.slice A n c, .slice B m d] w fun e w' => e = .returned (.bool (decide (xs = ys))) ∧ Below w.heap.size w w' := by
  have h1 := ha.1; have h2 := hb.1; have h3 := ha.2.1; have h4 := hb.2.1
  by_cases hnm : n = m
  · subst hnm
    have H1 := Lib.hid h1; have H2 := Lib.hid h2
    clear h1 h2
    go_enter Tryz.func15, Tryz.ntmps15
    go_wp2
    go_loopw [5] (fun i wr => ∃ k : Nat, k ≤ n ∧ i = .int .i64 k ∧ xs.take k = ys.take k ∧ Below w.heap.size w wr) (fun i _ => n - (intOf i).toNat)
    case atStart => exact ⟨0, Nat.zero_le _, rfl, rfl, Below.refl _ _⟩
    case round =>
      obtain ⟨k, hk, rfl, htk, hbw⟩ := hrel
      have HT := Lib.hid htk
      clear htk
      by_cases hlt : k < n
      · obtain ⟨b1, o1, x, rfl, hl1, hx, hc1⟩ := (ha.keep hbw).at_ hlt
        obtain ⟨b2, o2, y, rfl, hl2, hy, hc2⟩ := (hb.keep hbw).at_ hlt
        have HX := Lib.hid hx; have HY := Lib.hid hy
        clear hx hy
        by_cases hxy : x = y
        · subst hxy
          go_wp2
          go_quiet (fail)
          go_wp2
          go_roundw
          case rel => exact ⟨k + 1, by omega, by go_num, take_same_succ HT.out HX.out HY.out, below_drewN hbw _⟩
          case measure => simp [intOf]; omega
        · have hne : (x != y) = true := by simpa using hxy
          go_wp2
          go_quiet (fail)
          go_wp2
          go_ret
          exact ⟨ret_bool (by simpa using ne_of_at HX.out HY.out hxy), below_drewN hbw _⟩
      · go_wp2
        go_ret
        have := HT.out
        have e1 := H1.out; have e2 := H2.out
        exact ⟨ret_bool (by rw [List.take_of_length_le (by omega), List.take_of_length_le (by omega)] at this; simpa using this), hbw⟩
  · have hne : ((n : Int) != (m : Int)) = true := by simp; omega
    go_enter Tryz.func15, Tryz.ntmps15
    go_wp2
    go_ret
    exact ⟨ret_bool (by simp; intro e; subst e; omega), Below.refl _ _⟩

set_option maxHeartbeats 400000 in
theorem szIntS_any (A : Option Addr) (n c : Nat) (left : Int) (w : World) (hn : n ≤ 9223372036854775807) (h0 : 0 ≤ left) (hl : left ≤ 4611686018427387904) :
    Calls Tryz.prog 27 #[.slice A n c, .int .i64 left] w fun e w' => e = .returned (.int .i64 (if (n : Int) ≤ left then left - n else -1)) ∧ w = w' := by
  by_cases h : (n : Int) ≤ left
  · go_enter Tryz.func27, Tryz.ntmps27
    go_wp2
    go_ret
    exact ⟨rfl, rfl⟩
  · go_enter Tryz.func27, Tryz.ntmps27
    go_wp2
    go_ret
    exact ⟨rfl, rfl⟩

set_option maxHeartbeats 400000 in
theorem toIntS_any (A : Option Addr) (n c : Nat) (xs : List Int) (w : World) (ha : Rd w A n xs) (hn : n ≤ 17179869184) :
    Calls Tryz.prog 12 #[.slice A n c] w fun e w' => ∃ g, e = .returned (.slice (some ⟨g, 0, none⟩) n n) ∧ OwnI 3 w' w.heap.size (some ⟨g, 0, none⟩) n n xs ∧ Below w.heap.size w w' := by
  obtain ⟨i0, hi, hz0, hz1, hz2⟩ := info_parts infoI
  have H1 := Lib.hid ha.1
  go_enter Tryz.func12, Tryz.ntmps12
  go_wp2_with (at_make; refine wpList_make_full _ rfl _ _ 22 rfl w.heap.size 3 i0 (.int .i64 0) 1 Tryz.underlying22 hi hz0 hz1 .i64 .i64 _ _ n rfl rfl rfl rfl (by rw [hz2]; omega) (by unfold maxLen; omega) (Nat.le_refl _) ?_; intro w1 hown1 hg1)
  have hb1 : Below w.heap.size w w1 := below_of_grown hg1 (Nat.le_refl _) (by simp)
  have hs1 : w.heap.size < w1.heap.size := by
    have hb := (World.ownsRow.lt hown1) w.heap.size (by simp [Value.ownBlock])
    exact hb.2
  have hO1 : OwnI 3 w1 w.heap.size (some ⟨w.heap.size, 0, none⟩) n n (xs.take 0 ++ List.replicate (n - 0) 0) := by
    unfold OwnI
    rw [show n * 1 = n from by omega] at hown1
    have e : (madeCells (Value.cells (.int .i64 0)) n).toList = List.replicate n (.int .i64 0) := toList_madeCells_one (.int .i64 0) n
    rw [e] at hown1
    simpa using hown1
  clear hown1
  generalize hg : w.heap.size = g at *
  go_loopw [4] (fun i wr => ∃ k : Nat, k ≤ n ∧ i = .int .i64 k ∧ OwnI 3 wr g (some ⟨g, 0, none⟩) n n (xs.take k ++ List.replicate (n - k) 0) ∧ Below g w wr) (fun i _ => n - (intOf i).toNat)
  case atStart => exact ⟨0, Nat.zero_le _, rfl, hO1, hb1⟩
  case round =>
    obtain ⟨k, hk, rfl, hown, hbw⟩ := hrel
    by_cases hlt : k < n
    · obtain ⟨b1, o1, x, rfl, hl1, hx, hc1⟩ := ha.at_ hlt
      have hc2 : wr.cell? ⟨b1, o1 + k, none⟩ = some (.int .i64 x) := (hbw.cell (p := ⟨b1, o1 + k, none⟩) (by simp; omega)).trans hc1
      have hc3 : wr.cell? ⟨g, k, none⟩ = some (.int .i64 0) := hown.cell (copy_at H1.out hlt)
      have hf3 : wr.frozen? ⟨g, k, none⟩ = false := hown.frozen k
      have hst := (hown.stored k x).1
      rw [copy_set H1.out hx] at hst
      have hbs : Below g w (wr.setCell ⟨g, k, none⟩ (.int .i64 x)) := hbw.setCell (by simp) _
      have HX := Lib.hid hx; have HS := Lib.hid hst; have HB := Lib.hid hbs
      clear hx hst hbs hown hbw
      go_wp2
      go_roundw
      case rel => exact ⟨k + 1, by omega, by go_num, HS.out, HB.out⟩
      case measure => simp [intOf]; omega
    · go_wp2
      go_ret
      have e : k = n := by omega
      subst e
      rw [Nat.sub_self, List.take_of_length_le (by have := H1.out; omega)] at hown
      subst hg
      exact ⟨_, rfl, by simpa using hown, hbw⟩

/-- A board's value. -/
abbrev brd (W H : Int) (A : Option Addr) (n c : Nat) : Value := .agg #[.int .i64 W, .int .i64 H, .slice A n c]
abbrev lpr (a b : Int) : Value := .agg #[.int .i64 a, .int .i64 b]

set_option maxHeartbeats 400000 in
theorem szBoard_any (W H : Int) (A : Option Addr) (n c : Nat) (left : Int) (w : World) (hn : n ≤ 9223372036854775807) (h0 : 0 ≤ left) (hl : left ≤ 4611686018427387904) :
    Calls Tryz.prog 8 #[brd W H A n c, .int .i64 left] w fun e w' => e = .returned (.int .i64 (if (n : Int) ≤ left then left - n else -1)) ∧ Below w.heap.size w w' := by
  by_cases h : (n : Int) ≤ left
  · go_enter Tryz.func8, Tryz.ntmps8
    go_wp2_with (go_at_call 27; refine (szIntS_any _ _ _ _ _ hn h0 hl).mono ?_; rintro e w1 ⟨rfl, rfl⟩)
    go_ret
    exact ⟨rfl, below_new (Below.refl _ _) _⟩
  · go_enter Tryz.func8, Tryz.ntmps8
    go_wp2_with (go_at_call 27; refine (szIntS_any _ _ _ _ _ hn h0 hl).mono ?_; rintro e w1 ⟨rfl, rfl⟩)
    go_ret
    exact ⟨rfl, below_new (Below.refl _ _) _⟩

set_option maxHeartbeats 400000 in
theorem toLeaper_any (a b : Int) (w : World) :
    Calls Tryz.prog 11 #[lpr a b] w fun e w' => e = .returned (lpr a b) ∧ Below w.heap.size w w' := by
  go_enter Tryz.func11, Tryz.ntmps11
  go_wp2
  exact bodyPost_ret (v := lpr a b) (by simp [results, Tryz.results11, go_sem]) rfl ⟨rfl, below_new (below_new (below_new (Below.refl _ _) _) _) _⟩

set_option maxHeartbeats 400000 in
theorem toBoard_any (W H : Int) (A : Option Addr) (n c : Nat) (xs : List Int) (w : World) (ha : Rd w A n xs) (hn : n ≤ 17179869184) :
    Calls Tryz.prog 10 #[brd W H A n c] w fun e w' => ∃ g, e = .returned (brd W H (some ⟨g, 0, none⟩) n n) ∧ OwnI 3 w' w.heap.size (some ⟨g, 0, none⟩) n n xs ∧ Below w.heap.size w w' := by
  go_enter Tryz.func10, Tryz.ntmps10
  go_wp2_with fail
  refine (toIntS_any A n c xs _ (((ha.alloc _).alloc _).alloc _) hn).mono ?_
  rintro e w1 ⟨g, rfl, hown, hb1⟩
  obtain ⟨hc, hf⟩ := bcell hb1
  have hz : w.heap.size + 1 + 1 < w1.heap.size := by have := hb1.size; simp at this; omega
  have hown' : OwnI 3 w1 (w.heap.size + 1 + 1 + 1) (some ⟨g, 0, none⟩) n n xs := by simpa using hown
  have hbw : Below w.heap.size w w1 := (below_new (below_new (below_new (Below.refl _ _) _) _) _).trans (hb1.mono (by simp; omega))
  have HO := Lib.hid hown'; have HB := Lib.hid hbw
  clear hown hown' hbw hb1
  go_wp2
  refine bodyPost_ret (v := brd W H (some ⟨g, 0, none⟩) n n) (by simp [results, Tryz.results10, go_sem, hc]) rfl ⟨g, rfl, ?_, ?_⟩
  · exact ((((HO.out.set_ (by simp) _).set_ (by simp) _).set_ (by simp) _).set_ (by simp) _).lower (by omega)
  · exact (((HB.out.setCell (by simp; omega) _).setCell (by simp) _).setCell (by simp) _).setCell (by simp) _

set_option maxHeartbeats 400000 in
theorem eqBoard_any (W H : Int) (A B : Option Addr) (n m c d : Nat) (xs ys : List Int) (w : World) (ha : Rd w A n xs) (hb : Rd w B m ys) :
    Calls Tryz.prog 14 #[brd W H A n c, brd W H B m d] w fun e w' => e = .returned (.bool (decide (xs = ys))) ∧ Below w.heap.size w w' := by
  by_cases hxy : xs = ys
  · have hd : decide (xs = ys) = true := by simpa using hxy
    rw [hd]
    clear hxy
    go_enter Tryz.func14, Tryz.ntmps14
    go_wp2_with fail
    refine (eqIntS_any A B n m c d xs ys _ ((ha.alloc _).alloc _) ((hb.alloc _).alloc _)).mono ?_
    rw [hd]
    rintro e w1 ⟨rfl, hb1⟩
    have HB := Lib.hid ((below_new (below_new (Below.refl _ _) _) _).trans (hb1.mono (by simp; omega)))
    clear hb1
    go_wp2
    go_ret
    exact ⟨rfl, HB.out⟩
  · have hd : decide (xs = ys) = false := by simpa using hxy
    rw [hd]
    clear hxy
    go_enter Tryz.func14, Tryz.ntmps14
    go_wp2_with fail
    refine (eqIntS_any A B n m c d xs ys _ ((ha.alloc _).alloc _) ((hb.alloc _).alloc _)).mono ?_
    rw [hd]
    rintro e w1 ⟨rfl, hb1⟩
    have HB := Lib.hid ((below_new (below_new (Below.refl _ _) _) _).trans (hb1.mono (by simp; omega)))
    clear hb1
    go_wp2
    go_ret
    exact ⟨rfl, HB.out⟩

set_option maxHeartbeats 400000 in
theorem markIntS_any (A : Option Addr) (n c lo : Nat) (k0 : Int) (xs : List Int) (w : World) (ha : OwnI 3 w lo A n c xs) (h0 : 0 ≤ k0) (hk0 : k0 + n ≤ 4611686018427387904) :
    Calls Tryz.prog 19 #[.slice A n c, .int .i64 k0] w fun e w' => e = .returned (.int .i64 (k0 + n)) ∧ OwnI 3 w' lo A n c (marks k0 n) ∧ w.grownBy w' (rowOf A) := by
  have HL := Lib.hid ha.len
  go_enter Tryz.func19, Tryz.ntmps19
  go_wp2
  go_loopw [1, 5] (fun kk i wr => ∃ k : Nat, k ≤ n ∧ i = .int .i64 k ∧ kk = .int .i64 (k0 + k) ∧ OwnI 3 wr lo A n c (marks k0 k ++ xs.drop k) ∧ w.grownBy wr (rowOf A)) (fun _ i _ => n - (intOf i).toNat)
  case atStart => exact ⟨0, Nat.zero_le _, rfl, by go_num, by simpa [marks] using ha, grown_refl _ _⟩
  case round =>
    obtain ⟨k, hk, rfl, rfl, hown, hbw⟩ := hrel
    by_cases hlt : k < n
    · obtain ⟨g, rfl, hg1, hg2⟩ := hown.some_ hlt
      obtain ⟨x, hx1, hx2⟩ := marks_app_at (k := k0) HL.out hlt
      have hc3 := hown.cell hx2
      have hf3 : wr.frozen? ⟨g, k, none⟩ = false := hown.frozen k
      have hst := hown.stored k (k0 + k)
      rw [marks_set hx1] at hst
      have HB := Lib.hid (grown_next hbw hst.2)
      have HS := Lib.hid hst.1
      clear hst hbw hown hx1 hx2
      go_wp2
      go_roundw
      case rel => exact ⟨k + 1, by omega, by go_num, by go_num, HS.out, HB.out⟩
      case measure => simp [intOf]; omega
    · go_wp2
      go_ret
      obtain rfl : k = n := by omega
      exact ⟨rfl, by rw [List.drop_of_length_le (by have := HL.out; omega), List.append_nil] at hown; exact hown, hbw⟩

set_option maxHeartbeats 400000 in
theorem heldIntS_any (A : Option Addr) (n c : Nat) (k0 : Int) (w : World) (ha : Rd w A n (marks k0 n)) (h0 : 0 ≤ k0) (hk0 : k0 + n ≤ 4611686018427387904) :
    Calls Tryz.prog 20 #[.slice A n c, .int .i64 k0] w fun e w' => e = .returned (.int .i64 (k0 + n)) ∧ Below w.heap.size w w' := by
  go_enter Tryz.func20, Tryz.ntmps20
  go_wp2
  go_loopw [1, 5] (fun kk i wr => ∃ k : Nat, k ≤ n ∧ i = .int .i64 k ∧ kk = .int .i64 (k0 + k) ∧ Below w.heap.size w wr) (fun _ i _ => n - (intOf i).toNat)
  case atStart => exact ⟨0, Nat.zero_le _, rfl, by go_num, Below.refl _ _⟩
  case round =>
    obtain ⟨k, hk, rfl, rfl, hbw⟩ := hrel
    by_cases hlt : k < n
    · obtain ⟨b1, o1, x, rfl, hl1, hx, hc1⟩ := (ha.keep hbw).at_ hlt
      rw [marks_at hlt] at hx
      injection hx with hx
      subst hx
      go_wp2
      go_roundw
      case rel => exact ⟨k + 1, by omega, by go_num, by go_num, hbw⟩
      case measure => simp [intOf]; omega
    · go_wp2
      go_ret
      obtain rfl : k = n := by omega
      exact ⟨rfl, hbw⟩

set_option maxHeartbeats 400000 in
theorem markBoard_any (W H : Int) (A : Option Addr) (n c lo : Nat) (k0 : Int) (xs : List Int) (w : World) (ha : OwnI 3 w lo A n c xs) (h0 : 0 ≤ k0) (hk0 : k0 + n ≤ 4611686018427387904) :
    Calls Tryz.prog 18 #[brd W H A n c, .int .i64 k0] w fun e w' => e = .returned (.int .i64 (k0 + n)) ∧ OwnI 3 w' lo A n c (marks k0 n) ∧ w.grownBy w' (rowOf A) := by
  go_enter Tryz.func18, Tryz.ntmps18
  go_wp2_with fail
  refine (markIntS_any A n c lo k0 xs _ (ha.alloc _) h0 hk0).mono ?_
  rintro e w1 ⟨rfl, hown, hg⟩
  have HG := Lib.hid (grown_next (grown_of_below (below_new (Below.refl _ _) _) _) hg)
  clear hg
  go_wp2
  go_ret
  exact ⟨rfl, hown, HG.out⟩

end Go.Proofs.YtcfibfbenccimaaGreatDoor

namespace Go.Proofs.YtcfibfbenccimaaGreatDoor

def sizeB (n : Int) : Bool := decide (1 ≤ n ∧ n ≤ 8)
def leaperB (a b : Int) : Bool := decide (0 ≤ a ∧ a ≤ b ∧ 1 ≤ b ∧ b ≤ 5)
def inB (n lo hi : Int) : Bool := decide (lo ≤ n ∧ n ≤ hi)
/-- Strictly increasing, all above lo and below hi. -/
def risesB (lo hi : Int) : List Int → Bool
  | [] => true
  | h :: t => decide (lo < h ∧ h < hi) && risesB h hi t
def goodB (W H : Int) (hs : List Int) : Bool := sizeB W && sizeB H && decide ((hs.length : Int) < W * H) && risesB (-1) (W * H) hs

theorem sizeB_iff {n : Int} : sizeB n = true ↔ 1 ≤ n ∧ n ≤ 8 := by simp [sizeB]
theorem leaperB_iff {a b : Int} : leaperB a b = true ↔ 0 ≤ a ∧ a ≤ b ∧ 1 ≤ b ∧ b ≤ 5 := by simp [leaperB]
theorem inB_iff {n lo hi : Int} : inB n lo hi = true ↔ lo ≤ n ∧ n ≤ hi := by simp [inB]
theorem inB_false {n lo hi : Int} : inB n lo hi = false ↔ n < lo ∨ hi < n := by simp [inB]; omega
theorem sizeB_false {n : Int} : sizeB n = false ↔ n < 1 ∨ 8 < n := by simp [sizeB]; omega
theorem goodB_iff {W H : Int} {hs : List Int} : goodB W H hs = true ↔ (1 ≤ W ∧ W ≤ 8) ∧ (1 ≤ H ∧ H ≤ 8) ∧ (hs.length : Int) < W * H ∧ risesB (-1) (W * H) hs = true := by
  simp [goodB, sizeB, and_assoc]

theorem risesB_mono {lo lo' hi : Int} {hs : List Int} (h : risesB lo hi hs = true) (hl : lo' ≤ lo) : risesB lo' hi hs = true := by
  cases hs with
  | nil => rfl
  | cons a t => simp [risesB] at h ⊢; exact ⟨by omega, h.2⟩
theorem risesB_mem {lo hi : Int} {hs : List Int} (h : risesB lo hi hs = true) : ∀ x ∈ hs, lo < x ∧ x < hi := by
  induction hs generalizing lo with
  | nil => intro x hx; cases hx
  | cons a t ih =>
    simp [risesB] at h
    intro x hx
    rcases List.mem_cons.1 hx with rfl | hx
    · exact h.1
    · have := ih h.2 x hx; omega
theorem risesB_pairwise {lo hi : Int} {hs : List Int} (h : risesB lo hi hs = true) : hs.Pairwise (· < ·) := by
  induction hs generalizing lo with
  | nil => exact List.Pairwise.nil
  | cons a t ih =>
    simp [risesB] at h
    exact List.Pairwise.cons (fun x hx => (risesB_mem h.2 x hx).1) (ih h.2)
theorem risesB_of {lo hi : Int} {hs : List Int} (hp : hs.Pairwise (· < ·)) (hm : ∀ x ∈ hs, lo < x ∧ x < hi) : risesB lo hi hs = true := by
  induction hs generalizing lo with
  | nil => rfl
  | cons a t ih =>
    rw [List.pairwise_cons] at hp
    simp only [risesB, Bool.and_eq_true, decide_eq_true_eq]
    exact ⟨hm a (List.mem_cons_self), ih hp.2 (fun x hx => ⟨hp.1 x hx, (hm x (List.mem_cons_of_mem _ hx)).2⟩)⟩
theorem drop_cons_of {xs : List Int} {k : Nat} {x : Int} (hx : xs[k]? = some x) : xs.drop k = x :: xs.drop (k + 1) := by
  have hl : k < xs.length := by
    rcases Nat.lt_or_ge k xs.length with h | h
    · exact h
    · rw [List.getElem?_eq_none h] at hx; cases hx
  rw [List.getElem?_eq_getElem hl] at hx
  rw [List.drop_eq_getElem_cons hl]; injection hx with hx; rw [hx]

/-- Both sizes are small: so is the number of cells. -/
theorem cells_le {W H : Int} (hW : 1 ≤ W ∧ W ≤ 8) (hH : 1 ≤ H ∧ H ≤ 8) : 1 ≤ W * H ∧ W * H ≤ 64 := by
  obtain ⟨h1, h2⟩ := hW
  obtain ⟨h3, h4⟩ := hH
  constructor
  · have := Int.mul_le_mul h1 h3 (by omega) (by omega); omega
  · have := Int.mul_le_mul h2 h4 (by omega) (by omega); omega

/-- The model's way: all in range, and each greater than the one before. -/
def inAll (lo hi : Int) (xs : List Int) : Bool := xs.all fun x => inB x lo hi
theorem inAll_iff {lo hi : Int} {xs : List Int} : inAll lo hi xs = true ↔ ∀ x ∈ xs, lo ≤ x ∧ x ≤ hi := by simp [inAll, inB]
theorem inAll_drop {lo hi x : Int} {xs : List Int} {k : Nat} (hx : xs[k]? = some x) : inAll lo hi (xs.drop k) = (inB x lo hi && inAll lo hi (xs.drop (k + 1))) := by
  rw [drop_cons_of hx]; rfl
theorem pairwise_of_steps {xs : List Int} (h : ∀ k x y, xs[k]? = some x → xs[k + 1]? = some y → x < y) : xs.Pairwise (· < ·) := by
  induction xs with
  | nil => exact List.Pairwise.nil
  | cons a t ih =>
    have ht : t.Pairwise (· < ·) := ih fun k x y hx hy => h (k + 1) x y hx hy
    cases t with
    | nil => exact List.pairwise_singleton _ _
    | cons b t =>
      have hab : a < b := h 0 a b rfl rfl
      refine List.Pairwise.cons (fun x hx => ?_) ht
      rcases List.mem_cons.1 hx with rfl | hx
      · exact hab
      · exact Int.lt_trans hab ((List.pairwise_cons.1 ht).1 x hx)
theorem steps_of_pairwise {xs : List Int} (h : xs.Pairwise (· < ·)) {k : Nat} {x y : Int} (hx : xs[k]? = some x) (hy : xs[k + 1]? = some y) : x < y := by
  obtain ⟨h1, rfl⟩ := List.getElem?_eq_some_iff.1 hx
  obtain ⟨h2, rfl⟩ := List.getElem?_eq_some_iff.1 hy
  exact (List.pairwise_iff_getElem.1 h) k (k + 1) h1 h2 (by omega)
/-- After the range, the steps decide. -/
theorem rises_in {hi : Int} {xs : List Int} (h : risesB (-1) hi xs = true) : inAll 0 (hi - 1) xs = true :=
  inAll_iff.2 fun x hx => by have := risesB_mem h x hx; omega
theorem rises_false {hi x y : Int} {xs : List Int} {k : Nat} (hx : xs[k]? = some x) (hy : xs[k + 1]? = some y) (hxy : y ≤ x) : risesB (-1) hi xs = false := by
  rw [Bool.eq_false_iff]
  intro h
  have := steps_of_pairwise (risesB_pairwise h) hx hy
  omega
theorem rises_of_in {hi : Int} {xs : List Int} (h : inAll 0 (hi - 1) xs = true) (hs : ∀ k x y, k + 1 < xs.length → xs[k]? = some x → xs[k + 1]? = some y → x < y) : risesB (-1) hi xs = true := by
  refine risesB_of (pairwise_of_steps fun k x y hx hy => hs k x y ?_ hx hy) (fun x hx => by have := inAll_iff.1 h x hx; omega)
  exact (List.getElem?_eq_some_iff.1 hy).1
theorem rises_drop {lo hi x : Int} {xs : List Int} {k : Nat} (hx : xs[k]? = some x) : risesB lo hi (xs.drop k) = (decide (lo < x ∧ x < hi) && risesB x hi (xs.drop (k + 1))) := by
  rw [drop_cons_of hx]; rfl

/-! ### Which cells are there -/
def hasB (W H : Int) (hs : List Int) (c : Int) : Bool := decide (0 ≤ c ∧ c < W * H) && !hs.contains c
theorem hasB_iff {W H c : Int} {hs : List Int} : hasB W H hs c = true ↔ (0 ≤ c ∧ c < W * H) ∧ c ∉ hs := by simp [hasB]
theorem has_step {xs : List Int} {k : Nat} {x c : Int} (hx : xs[k]? = some x) (hne : x ≠ c) : (xs.drop k).contains c = (xs.drop (k + 1)).contains c := by
  rw [drop_cons_of hx, List.contains_cons]
  have : (c == x) = false := by simpa using fun h => hne h.symm
  rw [this, Bool.false_or]
theorem has_hit {xs : List Int} {k : Nat} {c : Int} (hx : xs[k]? = some c) : (xs.drop k).contains c = true := by
  rw [drop_cons_of hx, List.contains_cons]; simp

end Go.Proofs.YtcfibfbenccimaaGreatDoor

namespace Go.Proofs.YtcfibfbenccimaaGreatDoor

def upTo (n : Nat) : List Int := (List.range n).map fun i : Nat => (i : Int)
theorem upTo_succ (n : Nat) : upTo (n + 1) = upTo n ++ [(n : Int)] := by simp [upTo, List.range_succ]
theorem upTo_mem {n : Nat} {x : Int} : x ∈ upTo n ↔ 0 ≤ x ∧ x < n := by
  simp only [upTo, List.mem_map, List.mem_range]
  constructor
  · rintro ⟨i, hi, rfl⟩; omega
  · intro h; exact ⟨x.toNat, by omega, by omega⟩
theorem upTo_pairwise (n : Nat) : (upTo n).Pairwise (· < ·) := by
  rw [upTo, List.pairwise_map]
  exact List.pairwise_lt_range.imp (fun h => by omega)
/-- The cells that are there below k, increasing. -/
def cellsTo (W H : Int) (hs : List Int) (k : Nat) : List Int := (upTo k).filter (hasB W H hs)
def cellsL (W H : Int) (hs : List Int) : List Int := cellsTo W H hs (W * H).toNat
theorem cellsTo_yes {W H : Int} {hs : List Int} {k : Nat} (h : hasB W H hs k = true) : cellsTo W H hs (k + 1) = cellsTo W H hs k ++ [(k : Int)] := by
  rw [cellsTo, upTo_succ, List.filter_append, List.filter_cons, if_pos h]; rfl
theorem cellsTo_no {W H : Int} {hs : List Int} {k : Nat} (h : hasB W H hs k = false) : cellsTo W H hs (k + 1) = cellsTo W H hs k := by
  rw [cellsTo, upTo_succ, List.filter_append, List.filter_cons, if_neg (by simp [h])]; simp [cellsTo]
theorem cellsTo_len {W H : Int} {hs : List Int} (k : Nat) : (cellsTo W H hs k).length ≤ k := by
  have := List.length_filter_le (hasB W H hs) (upTo k)
  simpa [cellsTo, upTo] using this
theorem cellsL_mem {W H x : Int} {hs : List Int} : x ∈ cellsL W H hs ↔ hasB W H hs x = true := by
  rw [cellsL, cellsTo, List.mem_filter, upTo_mem]
  constructor
  · exact fun h => h.2
  · intro h; have := hasB_iff.1 h; exact ⟨by omega, h⟩
theorem cellsL_pairwise (W H : Int) (hs : List Int) : (cellsL W H hs).Pairwise (· < ·) := (upTo_pairwise _).filter _


theorem filter_not_mem_len : ∀ (hs l : List Int), hs.Pairwise (· < ·) → l.Nodup → (∀ x ∈ hs, x ∈ l) → (l.filter fun x => !hs.contains x).length + hs.length = l.length
  | [], l, _, _, _ => by simp
  | h :: hs, l, hp, hd, hm => by
    rw [List.pairwise_cons] at hp
    have ih := filter_not_mem_len hs l hp.2 hd (fun x hx => hm x (List.mem_cons_of_mem _ hx))
    have hh : h ∉ hs := fun hx => absurd (hp.1 h hx) (by omega)
    have hl : h ∈ l.filter fun x => !hs.contains x := by
      rw [List.mem_filter]; exact ⟨hm h (List.mem_cons_self), by simpa using hh⟩
    have e : (l.filter fun x => !(h :: hs).contains x) = (l.filter fun x => !hs.contains x).filter fun x => !(x == h) := by
      rw [List.filter_filter]
      apply List.filter_congr
      intro x _
      rw [List.contains_cons, Bool.not_or]
    have hd2 : (l.filter fun x => !hs.contains x).Nodup := hd.filter _
    have e2 : ((l.filter fun x => !hs.contains x).filter fun x => !(x == h)) = (l.filter fun x => !hs.contains x).erase h := by
      rw [hd2.erase_eq_filter]; rfl
    rw [e, e2, List.length_erase_of_mem hl]
    have : 0 < (l.filter fun x => !hs.contains x).length := List.length_pos_of_mem hl
    simp only [List.length_cons]
    omega
theorem cellsL_len {W H : Int} {hs : List Int} (hg : goodB W H hs = true) : ((cellsL W H hs).length : Int) = W * H - hs.length := by
  obtain ⟨hW, hH, hlen, hri⟩ := goodB_iff.1 hg
  have hN := cells_le hW hH
  have e : cellsL W H hs = (upTo (W * H).toNat).filter fun x => !hs.contains x := by
    rw [cellsL, cellsTo]
    apply List.filter_congr
    intro x hx
    have := upTo_mem.1 hx
    simp [hasB]; omega
  have h := filter_not_mem_len hs (upTo (W * H).toNat) (risesB_pairwise hri) ((upTo_pairwise _).imp (fun h => by omega)) (fun x hx => by
    have := risesB_mem hri x hx
    exact upTo_mem.2 ⟨by omega, by omega⟩)
  have hl : (upTo (W * H).toNat).length = (W * H).toNat := by simp [upTo]
  rw [e]; omega

end Go.Proofs.YtcfibfbenccimaaGreatDoor

namespace Go.Proofs.YtcfibfbenccimaaGreatDoor
open Go.RowKit

set_option maxHeartbeats 400000 in
theorem l1In_any (n lo hi : Int) (w : World) :
    Calls Tryz.prog 55 #[.int .i64 n, .int .i64 lo, .int .i64 hi] w fun e w' => e = .returned (.bool (inB n lo hi)) ∧ w = w' := by
  by_cases h1 : lo ≤ n
  · go_enter Tryz.func55, Tryz.ntmps55
    go_wp2
    go_ret
    exact ⟨ret_bool (by simp [inB, h1]), rfl⟩
  · go_enter Tryz.func55, Tryz.ntmps55
    go_wp2
    go_ret
    exact ⟨ret_bool (by simp [inB]; omega), rfl⟩

set_option maxHeartbeats 400000 in
theorem isSize_any (n : Int) (w : World) :
    Calls Tryz.prog 78 #[.int .i64 n] w fun e w' => e = .returned (.bool (sizeB n)) ∧ w = w' := by
  by_cases h1 : 1 ≤ n
  · go_enter Tryz.func78, Tryz.ntmps78
    go_wp2
    go_ret
    exact ⟨ret_bool (by simp [sizeB, h1]), rfl⟩
  · go_enter Tryz.func78, Tryz.ntmps78
    go_wp2
    go_ret
    exact ⟨ret_bool (by simp [sizeB]; omega), rfl⟩

set_option maxHeartbeats 400000 in
theorem boSize_any (m n : Int) (w : World) :
    Calls Tryz.prog 76 #[.int .i64 m, .int .i64 n] w fun e w' => e = .returned (.bool (sizeB m && sizeB n)) ∧ w = w' := by
  by_cases h1 : inB m 1 8 = true
  · go_enter Tryz.func76, Tryz.ntmps76
    go_wp2_with (go_at_call 55; refine (l1In_any _ _ _ _).mono ?_; rintro e w1 ⟨rfl, rfl⟩)
    go_ret
    exact ⟨ret_bool (by rw [Bool.eq_iff_iff]; simp [inB, sizeB] at h1 ⊢; omega), rfl⟩
  · have h2 : inB m 1 8 = false := by simpa using h1
    clear h1
    go_enter Tryz.func76, Tryz.ntmps76
    go_wp2_with (go_at_call 55; refine (l1In_any _ _ _ _).mono ?_; rintro e w1 ⟨rfl, rfl⟩)
    go_ret
    exact ⟨ret_bool (by rw [Bool.eq_iff_iff]; simp [inB, sizeB] at h2 ⊢; omega), rfl⟩

set_option maxHeartbeats 400000 in
theorem boLeaper_any (a b : Int) (w : World) :
    Calls Tryz.prog 53 #[lpr a b] w fun e w' => e = .returned (.bool (leaperB a b)) ∧ Below w.heap.size w w' := by
  by_cases h1 : inB b 1 5 = true
  · go_enter Tryz.func53, Tryz.ntmps53
    go_wp2_with (go_at_call 55; refine (l1In_any _ _ _ _).mono ?_; rintro e w1 ⟨rfl, rfl⟩)
    go_ret
    exact ⟨ret_bool (by rw [Bool.eq_iff_iff]; simp [inB, leaperB] at h1 ⊢; omega), below_new (Below.refl _ _) _⟩
  · have h2 : inB b 1 5 = false := by simpa using h1
    clear h1
    go_enter Tryz.func53, Tryz.ntmps53
    go_wp2_with (go_at_call 55; refine (l1In_any _ _ _ _).mono ?_; rintro e w1 ⟨rfl, rfl⟩)
    go_ret
    exact ⟨ret_bool (by rw [Bool.eq_iff_iff]; simp [inB, leaperB] at h2 ⊢; omega), below_new (Below.refl _ _) _⟩

set_option maxHeartbeats 400000 in
theorem isLeaper_any (a b : Int) (w : World) :
    Calls Tryz.prog 57 #[lpr a b] w fun e w' => e = .returned (.bool (leaperB a b)) ∧ Below w.heap.size w w' := by
  by_cases h1 : 0 ≤ a
  · by_cases h2 : a ≤ b
    · by_cases h3 : 1 ≤ b
      all_goals
        go_enter Tryz.func57, Tryz.ntmps57
        go_wp2
        go_ret
        exact ⟨ret_bool (by rw [Bool.eq_iff_iff]; simp [leaperB]; omega), below_new (Below.refl _ _) _⟩
    · go_enter Tryz.func57, Tryz.ntmps57
      go_wp2
      go_ret
      exact ⟨ret_bool (by rw [Bool.eq_iff_iff]; simp [leaperB]; omega), below_new (Below.refl _ _) _⟩
  · go_enter Tryz.func57, Tryz.ntmps57
    go_wp2
    go_ret
    exact ⟨ret_bool (by rw [Bool.eq_iff_iff]; simp [leaperB]; omega), below_new (Below.refl _ _) _⟩

end Go.Proofs.YtcfibfbenccimaaGreatDoor

namespace Go.Proofs.YtcfibfbenccimaaGreatDoor
open Go.RowKit

set_option maxHeartbeats 400000 in
theorem l1All_any (A : Option Addr) (n c : Nat) (lo hi : Int) (xs : List Int) (w : World) (ha : Rd w A n xs) :
    Calls Tryz.prog 77 #[.slice A n c, .int .i64 lo, .int .i64 hi] w fun e w' => e = .returned (.bool (inAll lo hi xs)) ∧ Below w.heap.size w w' := by
  have h3 := ha.2.1
  have H1 := Lib.hid ha.1
  go_enter Tryz.func77, Tryz.ntmps77
  go_wp2
  go_loopw [11] (fun i wr => ∃ k : Nat, k ≤ n ∧ i = .int .i64 k ∧ inAll lo hi xs = inAll lo hi (xs.drop k) ∧ Below w.heap.size w wr) (fun i _ => n - (intOf i).toNat)
  case atStart => exact ⟨0, Nat.zero_le _, rfl, rfl, Below.refl _ _⟩
  case round =>
    obtain ⟨k, hk, rfl, hr, hbw⟩ := hrel
    have HR := Lib.hid hr
    clear hr
    by_cases hlt : k < n
    · obtain ⟨b1, o1, x, rfl, hl1, hx, hc1⟩ := (ha.keep hbw).at_ hlt
      have HX := Lib.hid hx
      clear hx
      by_cases hin : inB x lo hi = true
      · go_wp2_with (go_at_call 55; refine (l1In_any _ _ _ _).mono ?_; rintro e w1 ⟨rfl, rfl⟩)
        go_roundw
        case rel => exact ⟨k + 1, by omega, by go_num, by rw [HR.out, inAll_drop HX.out, hin]; rfl, hbw⟩
        case measure => simp [intOf]; omega
      · have hin' : inB x lo hi = false := by simpa using hin
        clear hin
        go_wp2_with (go_at_call 55; refine (l1In_any _ _ _ _).mono ?_; rintro e w1 ⟨rfl, rfl⟩)
        go_ret
        exact ⟨ret_bool (by rw [HR.out, inAll_drop HX.out, hin']; rfl), hbw⟩
    · go_wp2
      go_ret
      exact ⟨ret_bool (by rw [HR.out, List.drop_of_length_le (by have := H1.out; omega)]; rfl), hbw⟩

set_option maxHeartbeats 400000 in
theorem isBoard_any (W H : Int) (A : Option Addr) (n c : Nat) (xs : List Int) (w : World) (ha : Rd w A n xs) :
    Calls Tryz.prog 58 #[brd W H A n c] w fun e w' => e = .returned (.bool (goodB W H xs)) ∧ Below w.heap.size w w' := by
  have h3 := ha.2.1
  have H1 := Lib.hid ha.1
  by_cases hW : sizeB W = true
  · by_cases hH : sizeB H = true
    · have hcl := cells_le (sizeB_iff.1 hW) (sizeB_iff.1 hH)
      obtain ⟨hN1, hN2⟩ := hcl
      by_cases hlen : (n : Int) < W * H
      · go_enter Tryz.func58, Tryz.ntmps58
        go_wp2_with (go_at_call 78; refine (isSize_any _ _).mono ?_; rintro e w1 ⟨rfl, rfl⟩)
        go_loopw [30, 3] (fun i bf wr => ∃ (k : Nat) (q : Int), k ≤ n ∧ i = .int .i64 k ∧ bf = .int .i64 q ∧ risesB (-1) (W * H) xs = risesB q (W * H) (xs.drop k) ∧ Below (w.heap.size + 1) (w.alloc (.cells #[.int .i64 W, .int .i64 H, .slice A n c] 30)) wr) (fun i _ _ => n - (intOf i).toNat)
        case atStart => exact ⟨0, -1, Nat.zero_le _, rfl, rfl, rfl, Below.refl _ _⟩
        case round =>
          obtain ⟨k, q, hk, rfl, rfl, hr, hbw⟩ := hrel
          have HR := Lib.hid hr
          clear hr
          have hb0 := box_cell hbw 0; have hb1 := box_cell hbw 1; have hb2 := box_cell hbw 2
          simp only [List.getElem?_toArray, List.getElem?_cons_zero, List.getElem?_cons_succ] at hb0 hb1 hb2
          by_cases hlt : k < n
          · obtain ⟨b1, o1, x, rfl, hl1, hx, hc1⟩ := (ha.keep (box_below hbw)).at_ hlt
            have HX := Lib.hid hx
            clear hx
            by_cases hxq : x ≤ q
            · go_wp2
              go_ret
              exact ⟨ret_bool (by rw [goodB, hW, hH, HR.out, rises_drop HX.out]; simp; omega), box_below hbw⟩
            · by_cases hxh : W * H ≤ x
              · go_wp2
                go_ret
                exact ⟨ret_bool (by rw [goodB, hW, hH, HR.out, rises_drop HX.out]; simp; omega), box_below hbw⟩
              · go_wp2
                go_roundw
                case rel => exact ⟨k + 1, x, by omega, by go_num, rfl, by rw [HR.out, rises_drop HX.out]; simp; omega, hbw⟩
                case measure => simp [intOf]; omega
          · go_wp2
            go_ret
            exact ⟨ret_bool (by rw [goodB, hW, hH, HR.out, List.drop_of_length_le (by have := H1.out; omega), H1.out]; simp [risesB, hlen]), box_below hbw⟩
      · go_enter Tryz.func58, Tryz.ntmps58
        go_wp2_with (go_at_call 78; refine (isSize_any _ _).mono ?_; rintro e w1 ⟨rfl, rfl⟩)
        go_ret
        exact ⟨ret_bool (by rw [goodB, H1.out]; simp; omega), below_new (Below.refl _ _) _⟩
    · have hH' : sizeB H = false := by simpa using hH
      clear hH
      go_enter Tryz.func58, Tryz.ntmps58
      go_wp2_with (go_at_call 78; refine (isSize_any _ _).mono ?_; rintro e w1 ⟨rfl, rfl⟩)
      go_ret
      exact ⟨ret_bool (by rw [goodB, hH']; simp), below_new (Below.refl _ _) _⟩
  · have hW' : sizeB W = false := by simpa using hW
    clear hW
    go_enter Tryz.func58, Tryz.ntmps58
    go_wp2_with (go_at_call 78; refine (isSize_any _ _).mono ?_; rintro e w1 ⟨rfl, rfl⟩)
    go_ret
    exact ⟨ret_bool (by rw [goodB, hW']; simp), below_new (Below.refl _ _) _⟩

set_option maxHeartbeats 1000000 in
theorem boGood_any (W H : Int) (A : Option Addr) (n c : Nat) (xs : List Int) (w : World) (ha : Rd w A n xs) :
    Calls Tryz.prog 52 #[brd W H A n c] w fun e w' => e = .returned (.bool (goodB W H xs)) ∧ Below w.heap.size w w' := by
  have h3 := ha.2.1
  have H1 := Lib.hid ha.1
  by_cases hWH : (sizeB W && sizeB H) = true
  · have hW : sizeB W = true := by simp at hWH; exact hWH.1
    have hH : sizeB H = true := by simp at hWH; exact hWH.2
    obtain ⟨hN1, hN2⟩ := cells_le (sizeB_iff.1 hW) (sizeB_iff.1 hH)
    by_cases hlen : (n : Int) < W * H
    · by_cases hall : inAll 0 (W * H - 1) xs = true
      · go_enter Tryz.func52, Tryz.ntmps52
        go_wp2_with (first | (go_at_call 76; refine (boSize_any _ _ _).mono ?_; rintro e w1 ⟨rfl, rfl⟩) | (go_at_call 77; refine (l1All_any _ _ _ _ _ _ _ (ha.alloc _)).mono ?_; rintro e w1 ⟨rfl, hb1⟩))
        have hbs : Below (w.heap.size + 1) (w.alloc (.cells #[.int .i64 W, .int .i64 H, .slice A n c] 30)) w1 := by simpa using hb1
        have HBS := Lib.hid hbs
        clear hbs hb1
        go_loopw [3] (fun i wr => ∃ m : Nat, i = .int .i64 ((m : Int) + 1) ∧ (∀ j x y, j < m → xs[j]? = some x → xs[j + 1]? = some y → x < y) ∧ Below (w.heap.size + 1) (w.alloc (.cells #[.int .i64 W, .int .i64 H, .slice A n c] 30)) wr) (fun i _ => n - (intOf i).toNat)
        case atStart => exact ⟨0, rfl, fun j x y h => absurd h (by omega), HBS.out⟩
        case round =>
          clear HBS
          obtain ⟨m, rfl, hr, hbw⟩ := hrel
          have HR := Lib.hid hr
          clear hr
          have hb0 := box_cell hbw 0; have hb1 := box_cell hbw 1; have hb2 := box_cell hbw 2
          simp only [List.getElem?_toArray, List.getElem?_cons_zero, List.getElem?_cons_succ] at hb0 hb1 hb2
          by_cases hlt : m + 1 < n
          · obtain ⟨b1, o1, x, rfl, hl1, hx, hc1⟩ := (ha.keep (box_below hbw)).at_ (k := m) (by omega)
            obtain ⟨b2, o2, y, hA2, hl2, hy, hc2⟩ := (ha.keep (box_below hbw)).at_ (k := m + 1) hlt
            injection hA2 with hA2
            injection hA2 with e1 e2 _
            subst e1 e2
            have HX := Lib.hid hx; have HY := Lib.hid hy
            clear hx hy
            by_cases hxy : y ≤ x
            · go_wp2
              go_quiet (fail)
              go_wp2
              go_ret
              exact ⟨ret_bool (by rw [goodB, hW, hH, rises_false HX.out HY.out hxy]; simp), below_drewN (box_below hbw) _⟩
            · go_wp2
              go_quiet (fail)
              go_wp2
              go_roundw
              case rel => exact ⟨m + 1, by go_num, fun j x' y' hj h1 h2 => by
                rcases Nat.lt_or_ge j m with h | h
                · exact HR.out j x' y' h h1 h2
                · obtain rfl : j = m := by omega
                  rw [HX.out] at h1; rw [HY.out] at h2
                  injection h1 with h1; injection h2 with h2; omega, below_drewN hbw _⟩
              case measure => simp [intOf]; omega
          · go_wp2
            go_ret
            exact ⟨ret_bool (by rw [goodB, hW, hH, H1.out, rises_of_in hall (fun k x y hk hx hy => HR.out k x y (by have := H1.out; omega) hx hy)]; simp [hlen]), box_below hbw⟩
      · have hall' : inAll 0 (W * H - 1) xs = false := by simpa using hall
        clear hall
        go_enter Tryz.func52, Tryz.ntmps52
        go_wp2_with (first | (go_at_call 76; refine (boSize_any _ _ _).mono ?_; rintro e w1 ⟨rfl, rfl⟩) | (go_at_call 77; refine (l1All_any _ _ _ _ _ _ _ (ha.alloc _)).mono ?_; rintro e w1 ⟨rfl, hb1⟩))
        go_ret
        exact ⟨ret_bool (by rw [goodB, hW, hH]; cases hr : risesB (-1) (W * H) xs with | true => rw [rises_in hr] at hall'; cases hall' | false => simp), below_next (below_new (Below.refl _ _) _) hb1⟩
    · go_enter Tryz.func52, Tryz.ntmps52
      go_wp2_with (first | (go_at_call 76; refine (boSize_any _ _ _).mono ?_; rintro e w1 ⟨rfl, rfl⟩) | (go_at_call 77; refine (l1All_any _ _ _ _ _ _ _ (ha.alloc _)).mono ?_; rintro e w1 ⟨rfl, hb1⟩))
      go_ret
      exact ⟨ret_bool (by rw [goodB, H1.out]; simp; omega), below_new (Below.refl _ _) _⟩
  · have hWH' : (sizeB W && sizeB H) = false := by simpa using hWH
    clear hWH
    go_enter Tryz.func52, Tryz.ntmps52
    go_wp2_with (first | (go_at_call 76; refine (boSize_any _ _ _).mono ?_; rintro e w1 ⟨rfl, rfl⟩) | (go_at_call 77; refine (l1All_any _ _ _ _ _ _ _ (ha.alloc _)).mono ?_; rintro e w1 ⟨rfl, hb1⟩))
    go_ret
    exact ⟨ret_bool (by rw [goodB, hWH']; simp), below_new (Below.refl _ _) _⟩

end Go.Proofs.YtcfibfbenccimaaGreatDoor
