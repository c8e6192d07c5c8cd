/-
  Pure: the list of all walks that go on from one over a number of cells; which they are; backwards; a search that counts them.
  Pure: the cells that hang together with the end of a walk and are not on it; whether all cells that are left do.
  Pure: the ways that lead on over all cells of a rest, each visited once, as a plan allows; how many there are, and how many positions are kept.
  Memory words: a queue of ints: a slice that is cut at its head and appended to.
  Memory words: a map from ints that the call owns, read value by value.
  Rows of booleans, rows of slices: memory words of no law (split from P1: imports no chapter 2).
  Memory words: leaps onward, as a map from cells.
  Plain functions and facts: distances by a search in width.
  Plain facts: a search in width, cell by cell.
  Contracts: distances from a cell, in the program.
-/
import Derived.Test.YtnmmgalidkambaaGreatDoorE1
import Derived.Test.YtnmmgalidkambaaGreatDoorApp
import Derived.Test.YtnmmgalidkambaaGreatDoorMem2
import Derived.Deep.RegionLaw
import Derived.Deep.RegionLawGrows
import Derived.Maps.Views
import Derived.Maps.OwnOps
import Derived.Test.YtnmmgalidkambaaGreatDoorB4
import Derived.Test.YtnmmgalidkambaaGreatDoorHelp
import Derived.Test.YtnmmgalidkambaaGreatDoorPure
import Derived.Test.YtnmmgalidkambaaGreatDoorQ1
import Derived.Deep.MidRow
import Derived.Deep.LoopGhost
namespace Go.Proofs.YtnmmgalidkambaaGreatDoor

def endOf (path : List Int) : Int := path.getD (path.length - 1) 0
def nextL (adj : Int → List Int) (path : List Int) (x : Int) : List Int := (adj x).filter fun y => !path.contains y
def allW (adj : Int → List Int) : Nat → List Int → List (List Int)
  | 0, path => [path]
  | k + 1, path => (nextL adj path (endOf path)).flatMap fun y => allW adj k (path ++ [y])
section
variable {adj : Int → List Int}
theorem allW_succ (k : Nat) (path : List Int) : allW adj (k + 1) path = (nextL adj path (endOf path)).flatMap fun y => allW adj k (path ++ [y]) := rfl
theorem nextL_mem {path : List Int} {x y : Int} : y ∈ nextL adj path x ↔ y ∈ adj x ∧ y ∉ path := by
  rw [nextL, List.mem_filter]; simp
theorem allW_form : ∀ {k : Nat} {path t : List Int}, t ∈ allW adj k path → ∃ s, t = path ++ s ∧ s.length = k
  | 0, path, t, h => ⟨[], by rw [List.append_nil]; simpa [allW] using h, rfl⟩
  | k + 1, path, t, h => by
    rw [allW_succ, List.mem_flatMap] at h
    obtain ⟨y, _, hy⟩ := h
    obtain ⟨s, rfl, hs⟩ := allW_form hy
    exact ⟨y :: s, by simp, by simp [hs]⟩
theorem endOf_snoc (path : List Int) (x : Int) : endOf (path ++ [x]) = x := by
  rw [endOf, List.length_append, show path.length + [x].length - 1 = path.length by simp, List.getD_eq_getElem?_getD, List.getElem?_append_right (Nat.le_refl _)]
  simp
theorem endOf_pre {path s : List Int} (h : path ≠ []) : (path ++ s).getD (path.length - 1) 0 = endOf path := by
  have hl : path.length - 1 < path.length := by cases path with | nil => exact absurd rfl h | cons => simp
  rw [endOf, List.getD_eq_getElem?_getD, List.getD_eq_getElem?_getD, List.getElem?_append_left hl]
/-- A walk: no cell twice, each a leap from the one before. -/
def Walk (adj : Int → List Int) (t : List Int) : Prop := t.Nodup ∧ ∀ i, i + 1 < t.length → t.getD (i + 1) 0 ∈ adj (t.getD i 0)
theorem walk_one (s : Int) : Walk adj [s] := ⟨by simp, fun i h => by simp at h⟩
theorem getD_left {u v : List Int} {i : Nat} (h : i < u.length) : (u ++ v).getD i 0 = u.getD i 0 := by
  rw [List.getD_eq_getElem?_getD, List.getD_eq_getElem?_getD, List.getElem?_append_left h]
theorem walk_snoc {path : List Int} {y : Int} (hne : path ≠ []) (h : Walk adj path) (hy : y ∈ nextL adj path (endOf path)) : Walk adj (path ++ [y]) := by
  obtain ⟨h1, h2⟩ := nextL_mem.1 hy
  have hl : 0 < path.length := by cases path with | nil => exact absurd rfl hne | cons => simp
  refine ⟨?_, fun i hi => ?_⟩
  · rw [List.nodup_append]; exact ⟨h.1, by simp, fun a ha b hb => by simp at hb; subst hb; rintro rfl; exact h2 ha⟩
  · rw [List.length_append] at hi
    simp at hi
    rw [getD_left hi]
    by_cases e : i + 1 < path.length
    · rw [getD_left e]; exact h.2 i e
    · have e1 : (path ++ [y]).getD path.length 0 = y := by rw [List.getD_eq_getElem?_getD, List.getElem?_append_right (Nat.le_refl _)]; simp
      have e2 : path.getD i 0 = endOf path := by rw [endOf, show i = path.length - 1 by omega]
      rw [show i + 1 = path.length by omega, e1, e2]; exact h1
theorem walk_take {t : List Int} (h : Walk adj t) (n : Nat) : Walk adj (t.take n) := by
  refine ⟨List.Sublist.nodup (List.take_sublist _ _) h.1, fun i hi => ?_⟩
  rw [List.length_take] at hi
  have e : ∀ j, j < n → (t.take n).getD j 0 = t.getD j 0 := fun j hj => by rw [List.getD_eq_getElem?_getD, List.getD_eq_getElem?_getD, List.getElem?_take, if_pos hj]
  rw [e _ (by omega), e _ (by omega)]
  exact h.2 i (by omega)
theorem mem_allW : ∀ {k : Nat} {path t : List Int}, path ≠ [] → Walk adj path → (t ∈ allW adj k path ↔ Walk adj t ∧ t.length = path.length + k ∧ t.take path.length = path)
  | 0, path, t, hne, hw => by
    rw [allW, List.mem_singleton]
    constructor
    · rintro rfl; exact ⟨hw, rfl, List.take_length⟩
    · rintro ⟨_, h1, h2⟩; rw [← h2, List.take_of_length_le (by omega)]
  | k + 1, path, t, hne, hw => by
    rw [allW_succ, List.mem_flatMap]
    have hl : 0 < path.length := by cases path with | nil => exact absurd rfl hne | cons => simp
    constructor
    · rintro ⟨y, hy, ht⟩
      obtain ⟨h1, h2, h3⟩ := (mem_allW (by simp) (walk_snoc hne hw hy)).1 ht
      refine ⟨h1, by simp at h2; omega, ?_⟩
      have := congrArg (List.take path.length) h3
      rw [List.take_take, Nat.min_eq_left (by simp)] at this
      rw [this, List.take_left']; rfl
    · rintro ⟨h1, h2, h3⟩
      have hlt : path.length < t.length := by omega
      have hsp : t.take (path.length + 1) = path ++ [t[path.length]] := by rw [List.take_add_one, h3, List.getElem?_eq_getElem hlt]; rfl
      have hg : t.getD path.length 0 = t[path.length] := by rw [List.getD_eq_getElem?_getD, List.getElem?_eq_getElem hlt]; rfl
      have hE : t.getD (path.length - 1) 0 = endOf path := by
        have := congrArg (fun l => List.getD l (path.length - 1) 0) h3
        replace this : (t.take path.length).getD (path.length - 1) 0 = path.getD (path.length - 1) 0 := this
        rw [List.getD_eq_getElem?_getD, List.getElem?_take, if_pos (by omega), ← List.getD_eq_getElem?_getD] at this
        exact this
      have hy : t[path.length] ∈ nextL adj path (endOf path) := by
        refine nextL_mem.2 ⟨?_, fun hm => ?_⟩
        · have := h1.2 (path.length - 1) (by omega)
          rw [show path.length - 1 + 1 = path.length by omega, hg, hE] at this
          exact this
        · have hn := (walk_take h1 (path.length + 1)).1
          rw [hsp, List.nodup_append] at hn
          exact hn.2.2 _ hm _ (by simp) rfl
      exact ⟨_, hy, (mem_allW (by simp) (walk_snoc hne hw hy)).2 ⟨h1, by simp; omega, by simpa using hsp⟩⟩
theorem nodup_allW (hadj : ∀ x, (adj x).Nodup) : ∀ (k : Nat) (path : List Int), (allW adj k path).Nodup
  | 0, path => by simp [allW]
  | k + 1, path => by
    rw [allW_succ, List.Nodup, List.pairwise_flatMap]
    refine ⟨fun y _ => nodup_allW hadj k _, ?_⟩
    refine (((hadj _).filter _).imp ?_)
    intro y z hyz t ht u hu e
    subst e
    obtain ⟨s, rfl, _⟩ := allW_form ht
    obtain ⟨s', e', _⟩ := allW_form hu
    rw [List.append_assoc, List.append_assoc] at e'
    have := List.append_cancel_left e'
    simp at this
    exact hyz this.1
theorem order_allW (hadj : ∀ x, (adj x).Pairwise (· < ·)) (k : Nat) (path : List Int) : (allW adj (k + 1) path).Pairwise fun t u => t.getD path.length 0 ≤ u.getD path.length 0 := by
  have key : ∀ {y : Int} {t : List Int}, t ∈ allW adj k (path ++ [y]) → t.getD path.length 0 = y := fun {y t} ht => by
    obtain ⟨s, rfl, _⟩ := allW_form ht
    rw [List.append_assoc, List.getD_eq_getElem?_getD, List.getElem?_append_right (Nat.le_refl _)]; simp
  rw [allW_succ, List.pairwise_flatMap]
  refine ⟨fun y _ => ?_, ((hadj _).filter _).imp ?_⟩
  · refine List.Pairwise.imp_of_mem (R := fun _ _ => True) ?_ (List.pairwise_of_forall fun _ _ => trivial)
    intro t u ht hu _
    rw [key ht, key hu]; exact Int.le_refl _
  · intro y z hyz t ht u hu
    rw [key ht, key hu]; omega

/-! ### Backwards -/
def turnR : List Int → List Int
  | [] => []
  | s :: u => s :: u.reverse
theorem turn_turn (t : List Int) : turnR (turnR t) = t := by cases t with | nil => rfl | cons s u => simp [turnR]
theorem turn_len (t : List Int) : (turnR t).length = t.length := by cases t with | nil => rfl | cons s u => simp [turnR]
theorem turn_at {s : Int} {u : List Int} {i : Nat} (h : i < u.length) : (turnR (s :: u)).getD (i + 1) 0 = (s :: u).getD (u.length - i) 0 := by
  rw [turnR, List.getD_eq_getElem?_getD, List.getD_eq_getElem?_getD, List.getElem?_cons_succ, List.getElem?_reverse h, show u.length - i = (u.length - 1 - i) + 1 by omega, List.getElem?_cons_succ]
/-- The walk is closed: from its last cell a leap leads to its first one. -/
def closedW (adj : Int → List Int) (t : List Int) : Bool := (adj (endOf t)).contains (t.getD 0 0)
theorem closed_iff {t : List Int} : closedW adj t = true ↔ t.getD 0 0 ∈ adj (endOf t) := by rw [closedW, List.contains_iff_mem]
theorem turn_walk (hs : ∀ x y, y ∈ adj x → x ∈ adj y) {t : List Int} (h2 : 2 ≤ t.length) (h : Walk adj t) (hc : closedW adj t = true) : Walk adj (turnR t) ∧ closedW adj (turnR t) = true ∧ endOf (turnR t) = t.getD 1 0 ∧ (turnR t).getD 1 0 = endOf t := by
  cases t with
  | nil => simp at h2
  | cons s u =>
    simp only [List.length_cons] at h2
    have hul : 0 < u.length := by omega
    have hE : endOf (turnR (s :: u)) = (s :: u).getD 1 0 := by
      rw [endOf, turn_len, List.length_cons, show u.length + 1 - 1 = (u.length - 1) + 1 by omega, turn_at (by omega), show u.length - (u.length - 1) = 1 by omega]
    have h1 : (turnR (s :: u)).getD 1 0 = endOf (s :: u) := by
      rw [turn_at hul, endOf, List.length_cons]; rfl
    rw [closed_iff] at hc
    refine ⟨⟨?_, fun i hi => ?_⟩, ?_, hE, h1⟩
    · have := h.1
      rw [turnR, List.nodup_cons] at *
      exact ⟨by simpa using this.1, by rw [List.Nodup, List.pairwise_reverse]; exact this.2.imp fun h => Ne.symm h⟩
    · rw [turn_len, List.length_cons] at hi
      cases i with
      | zero =>
        rw [h1]
        have : (turnR (s :: u)).getD 0 0 = s := rfl
        rw [this]; exact hs _ _ hc
      | succ i =>
        rw [turn_at (by omega), turn_at (by omega)]
        have := h.2 (u.length - (i + 1)) (by rw [List.length_cons]; omega)
        rw [show u.length - (i + 1) + 1 = u.length - i by omega] at this
        exact hs _ _ this
    · rw [closed_iff, hE]
      have := h.2 0 (by rw [List.length_cons]; omega)
      exact hs _ _ this
theorem sub_lenL : ∀ (l m : List (List Int)), l.Nodup → (∀ x ∈ l, x ∈ m) → l.length ≤ m.length
  | [], _, _, _ => Nat.zero_le _
  | x :: t, m, hn, h => by
    rw [List.nodup_cons] at hn
    have := sub_lenL t (m.erase x) hn.2 (fun y hy => (List.mem_erase_of_ne (by rintro rfl; exact hn.1 hy)).2 (h y (List.mem_cons_of_mem _ hy)))
    have hx := h x List.mem_cons_self
    rw [List.length_erase_of_mem hx] at this
    have := List.length_pos_of_mem hx
    rw [List.length_cons]; omega
/-- The walk's second cell is less than its last one: of two directions one. -/
def foreB (t : List Int) : Bool := decide (t.getD 1 0 < endOf t)
theorem ends_ne {t : List Int} (h3 : 3 ≤ t.length) (h : t.Nodup) : t.getD 1 0 ≠ endOf t := by
  rw [endOf, List.getD_eq_getElem?_getD, List.getD_eq_getElem?_getD, List.getElem?_eq_getElem (show 1 < t.length by omega), List.getElem?_eq_getElem (show t.length - 1 < t.length by omega)]
  intro e
  have e' : t[1] = t[t.length - 1] := e
  exact (List.pairwise_iff_getElem.1 h) 1 (t.length - 1) (by omega) (by omega) (by omega) e'
theorem turn_mem (hs : ∀ x y, y ∈ adj x → x ∈ adj y) {s : Int} {k : Nat} (hk : 2 ≤ k) {t : List Int} (h : t ∈ (allW adj k [s]).filter (closedW adj)) : turnR t ∈ (allW adj k [s]).filter (closedW adj) ∧ foreB (turnR t) = !foreB t := by
  rw [List.mem_filter] at h
  obtain ⟨h1, h2, h3⟩ := (mem_allW (by simp) (walk_one s)).1 h.1
  simp at h2 h3
  obtain ⟨w1, w2, w3, w4⟩ := turn_walk hs (by omega) h1 h.2
  refine ⟨List.mem_filter.2 ⟨(mem_allW (by simp) (walk_one s)).2 ⟨w1, by rw [turn_len, h2]; simp, ?_⟩, w2⟩, ?_⟩
  · cases t with
    | nil => simp at h2; omega
    | cons u v => simpa [turnR] using h3
  · rw [foreB, foreB, w3, w4]
    have := ends_ne (by omega) h1.1
    by_cases e : t.getD 1 0 < endOf t
    · rw [decide_eq_true e, decide_eq_false (by omega)]; rfl
    · rw [decide_eq_false e, decide_eq_true (by omega)]; rfl
theorem closed_half (hs : ∀ x y, y ∈ adj x → x ∈ adj y) (hadj : ∀ x, (adj x).Nodup) (s : Int) {k : Nat} (hk : 2 ≤ k) :
    ((allW adj k [s]).filter (closedW adj)).length = 2 * (((allW adj k [s]).filter (closedW adj)).filter foreB).length := by
  have hn : ((allW adj k [s]).filter (closedW adj)).Nodup := (nodup_allW hadj k [s]).filter _
  have hm := fun t (h : t ∈ (allW adj k [s]).filter (closedW adj)) => turn_mem hs hk h
  generalize (allW adj k [s]).filter (closedW adj) = T at hn hm
  have inj : ∀ {l : List (List Int)}, l.Nodup → (l.map turnR).Nodup := fun {l} h => by
    rw [List.Nodup, List.pairwise_map]
    exact h.imp fun {u v} h e => h (by have := congrArg turnR e; rwa [turn_turn, turn_turn] at this)
  have h1 := sub_lenL ((T.filter foreB).map turnR) (T.filter fun t => !foreB t) (inj (hn.filter _)) (fun x hx => by
    obtain ⟨t, ht, rfl⟩ := List.mem_map.1 hx
    obtain ⟨ht1, ht2⟩ := List.mem_filter.1 ht
    obtain ⟨m1, m2⟩ := hm t ht1
    exact List.mem_filter.2 ⟨m1, by rw [m2, ht2]; rfl⟩)
  have h2 := sub_lenL ((T.filter fun t => !foreB t).map turnR) (T.filter foreB) (inj (hn.filter _)) (fun x hx => by
    obtain ⟨t, ht, rfl⟩ := List.mem_map.1 hx
    obtain ⟨ht1, ht2⟩ := List.mem_filter.1 ht
    obtain ⟨m1, m2⟩ := hm t ht1
    exact List.mem_filter.2 ⟨m1, by rw [m2]; exact ht2⟩)
  rw [List.length_map] at h1 h2
  have h3 : T.length = (T.filter foreB).length + (T.filter fun t => !foreB t).length := by
    clear hn hm inj h1 h2
    induction T with
    | nil => rfl
    | cons t T ih =>
      rw [List.filter_cons, List.filter_cons, List.length_cons, ih]
      cases foreB t <;> simp <;> omega
  omega
theorem closed_first (hs : ∀ x y, y ∈ adj x → x ∈ adj y) (hadj : ∀ x, (adj x).Pairwise (· < ·)) (s : Int) {k : Nat} (hk : 2 ≤ k) :
    (((allW adj k [s]).filter (closedW adj)).filter foreB).head? = ((allW adj k [s]).filter (closedW adj)).head? := by
  have ho : ((allW adj k [s]).filter (closedW adj)).Pairwise fun t u => t.getD 1 0 ≤ u.getD 1 0 := by
    obtain ⟨j, rfl⟩ : ∃ j, k = j + 1 := ⟨k - 1, by omega⟩
    exact (order_allW hadj j [s]).filter _
  have hm := fun t (h : t ∈ (allW adj k [s]).filter (closedW adj)) => turn_mem hs hk h
  have hw := fun t (h : t ∈ (allW adj k [s]).filter (closedW adj)) => (show 3 ≤ t.length ∧ Walk adj t ∧ closedW adj t = true from by
    rw [List.mem_filter] at h
    obtain ⟨h1, h2, _⟩ := (mem_allW (by simp) (walk_one s)).1 h.1
    simp at h2
    exact ⟨by omega, h1, h.2⟩)
  generalize (allW adj k [s]).filter (closedW adj) = T at ho hm hw
  cases T with
  | nil => rfl
  | cons t T =>
    have hf : foreB t = true := by
      obtain ⟨m1, m2⟩ := hm t List.mem_cons_self
      obtain ⟨w1, w2, w3⟩ := hw t List.mem_cons_self
      obtain ⟨_, _, _, w4⟩ := turn_walk hs (by omega) w2 w3
      rcases List.mem_cons.1 m1 with e | e
      · rw [e] at m2; cases h : foreB t <;> rw [h] at m2 <;> cases m2
      · have := (List.pairwise_cons.1 ho).1 _ e
        rw [w4] at this
        have hne := ends_ne w1 w2.1
        rw [foreB, decide_eq_true_eq]; omega
    rw [List.filter_cons, if_pos hf]; rfl

/-! ### A search that counts them, or stops at the first one -/
def scanC (first : Bool) (st : Nat × List Int) (t : List Int) : Nat × List Int := if first && decide (0 < st.1) then st else (st.1 + 1, if st.1 = 0 then t else st.2)
theorem scan_stop {st : Nat × List Int} (h : 0 < st.1) : ∀ (l : List (List Int)), l.foldl (scanC true) st = st
  | [] => rfl
  | t :: l => by rw [List.foldl_cons, show scanC true st t = st by simp [scanC, h]]; exact scan_stop h l
theorem scan_count : ∀ (l : List (List Int)) (st : Nat × List Int), (l.foldl (scanC false) st).1 = st.1 + l.length
  | [], _ => rfl
  | t :: l, st => by rw [List.foldl_cons, scan_count l]; simp [scanC]; omega
theorem scan_first (l : List (List Int)) : l.foldl (scanC true) (0, []) = match l with | [] => (0, []) | t :: _ => (1, t) := by
  cases l with
  | nil => rfl
  | cons t l => rw [List.foldl_cons, show scanC true (0, []) t = (1, t) from rfl]; exact scan_stop (st := (1, t)) (show 0 < 1 by decide) l
theorem scan_found : ∀ (l : List (List Int)) (c : Nat) (f : List Int), 0 < c → (l.foldl (scanC false) (c, f)).2 = f
  | [], _, _, _ => rfl
  | t :: l, c, f, h => by
    rw [List.foldl_cons, show scanC false (c, f) t = (c + 1, f) by simp [scanC, show c ≠ 0 by omega]]
    exact scan_found l _ _ (by omega)
end
end Go.Proofs.YtnmmgalidkambaaGreatDoor

namespace Go.Proofs.YtnmmgalidkambaaGreatDoor

def addQ (path Q : List Int) (y : Int) : List Int := if (path ++ Q).contains y then Q else Q ++ [y]
def bfsQ (adj : Int → List Int) (path : List Int) (x : Int) : Nat → List Int
  | 0 => [x]
  | k + 1 => match (bfsQ adj path x k)[k]? with
    | some c => (adj c).foldl (addQ path) (bfsQ adj path x k)
    | none => bfsQ adj path x k
theorem bfsQ_next {adj : Int → List Int} {path : List Int} {x c : Int} {k : Nat} (h : (bfsQ adj path x k)[k]? = some c) : bfsQ adj path x (k + 1) = (adj c).foldl (addQ path) (bfsQ adj path x k) := by rw [bfsQ, h]
theorem addQ_pre {path Q : List Int} {y c : Int} {k : Nat} (h : Q[k]? = some c) : (addQ path Q y)[k]? = some c := by
  rw [addQ]; split
  · exact h
  · rw [List.getElem?_append_left (List.getElem?_eq_some_iff.1 h).1]; exact h
theorem foldQ_pre {path : List Int} {c : Int} {k : Nat} : ∀ (l Q : List Int), Q[k]? = some c → (l.foldl (addQ path) Q)[k]? = some c
  | [], _, h => h
  | y :: l, Q, h => by rw [List.foldl_cons]; exact foldQ_pre l _ (addQ_pre h)
theorem addQ_mem {path Q : List Int} {y : Int} : y ∈ path ∨ y ∈ addQ path Q y := by
  rw [addQ]; split
  · rename_i h; simpa using h
  · exact .inr (by simp)
theorem foldQ_sub {path : List Int} : ∀ (l Q : List Int) {z : Int}, z ∈ Q → z ∈ l.foldl (addQ path) Q
  | [], _, _, h => h
  | y :: l, Q, z, h => by
    rw [List.foldl_cons]
    refine foldQ_sub l _ ?_
    rw [addQ]; split
    · exact h
    · exact List.mem_append_left _ h
theorem foldQ_all {path : List Int} : ∀ (l Q : List Int) {y : Int}, y ∈ l → y ∈ path ∨ y ∈ l.foldl (addQ path) Q
  | y :: l, Q, z, h => by
    rw [List.foldl_cons]
    rcases List.mem_cons.1 h with rfl | h
    · rcases addQ_mem (path := path) (Q := Q) (y := z) with h1 | h1
      · exact .inl h1
      · exact .inr (foldQ_sub l _ h1)
    · exact foldQ_all l _ h
structure QOk (path cells : List Int) (x : Int) (Q : List Int) : Prop where
  form : ∃ R, Q = x :: R ∧ R.Nodup ∧ ∀ y ∈ R, y ∉ path ∧ y ∈ cells
theorem QOk.start {path cells : List Int} {x : Int} : QOk path cells x [x] := ⟨[], rfl, by simp, by simp⟩
theorem QOk.add {path cells : List Int} {x y : Int} {Q : List Int} (h : QOk path cells x Q) (hy : y ∈ cells) : QOk path cells x (addQ path Q y) := by
  obtain ⟨R, rfl, h1, h2⟩ := h.form
  rw [addQ]; split
  · exact h
  · rename_i hn
    have hn' : y ∉ path ∧ y ≠ x ∧ y ∉ R := by simpa using hn
    exact ⟨R ++ [y], rfl, by rw [List.nodup_append]; exact ⟨h1, by simp, fun a ha b hb => by rw [List.mem_singleton.1 hb]; rintro rfl; exact hn'.2.2 ha⟩, fun z hz => by
      rcases List.mem_append.1 hz with h3 | h3
      · exact h2 z h3
      · rw [List.mem_singleton.1 h3]; exact ⟨hn'.1, hy⟩⟩
theorem QOk.fold {path cells : List Int} {x : Int} : ∀ (l : List Int) {Q : List Int}, QOk path cells x Q → (∀ y ∈ l, y ∈ cells) → QOk path cells x (l.foldl (addQ path) Q)
  | [], _, h, _ => h
  | y :: l, _, h, hl => by rw [List.foldl_cons]; exact QOk.fold l (h.add (hl y List.mem_cons_self)) (fun z hz => hl z (List.mem_cons_of_mem _ hz))
theorem QOk.bfs {adj : Int → List Int} {path cells : List Int} {x : Int} (ha : ∀ c, ∀ y ∈ adj c, y ∈ cells) : ∀ k, QOk path cells x (bfsQ adj path x k)
  | 0 => .start
  | k + 1 => by
    rw [bfsQ]
    split
    · exact (QOk.bfs ha k).fold _ (ha _)
    · exact QOk.bfs ha k
theorem bfsQ_done {adj : Int → List Int} {path : List Int} {x : Int} : ∀ (k : Nat) {j : Nat} {c y : Int}, j < k → (bfsQ adj path x k)[j]? = some c → y ∈ adj c → (k ≤ (bfsQ adj path x k).length ∨ True) → (∀ i, i ≤ k → i ≤ (bfsQ adj path x i).length) → y ∈ path ∨ y ∈ bfsQ adj path x k
  | 0, _, _, _, h, _, _, _, _ => absurd h (by omega)
  | k + 1, j, c, y, hj, hc, hy, _, hall => by
    have hk : k < (bfsQ adj path x k).length ∨ (bfsQ adj path x k)[k]? = none := by
      rcases Nat.lt_or_ge k (bfsQ adj path x k).length with h | h
      · exact .inl h
      · exact .inr (List.getElem?_eq_none h)
    rcases hk with hk | hk
    · have h0 : (bfsQ adj path x k)[k]? = some (bfsQ adj path x k)[k] := List.getElem?_eq_getElem hk
      rw [bfsQ_next h0] at hc ⊢
      by_cases e : j = k
      · subst e
        rw [foldQ_pre _ _ h0] at hc
        injection hc with hc
        rw [hc]; exact foldQ_all _ _ hy
      · have hjk : j < (bfsQ adj path x k).length := by omega
        have h1 : (bfsQ adj path x k)[j]? = some (bfsQ adj path x k)[j] := List.getElem?_eq_getElem hjk
        rw [foldQ_pre _ _ h1] at hc
        injection hc with hc
        rcases bfsQ_done k (j := j) (by omega) h1 (by rw [hc]; exact hy) (.inr trivial) (fun i hi => hall i (by omega)) with h2 | h2
        · exact .inl h2
        · exact .inr (foldQ_sub _ _ h2)
    · have e : bfsQ adj path x (k + 1) = bfsQ adj path x k := by rw [bfsQ, hk]
      have h9 := hall (k + 1) (Nat.le_refl _)
      rw [e] at h9
      rw [List.getElem?_eq_none_iff] at hk
      omega
theorem allW_reach {adj : Int → List Int} {path Q : List Int} (hcl : ∀ c ∈ Q, ∀ y ∈ adj c, y ∈ path ∨ y ∈ Q) : ∀ {k : Nat} {p t : List Int}, t ∈ allW adj k p → (∀ z ∈ p, z ∈ path ∨ z ∈ Q) → endOf p ∈ Q → (∀ z ∈ path, z ∈ p) → ∀ z ∈ t, z ∈ path ∨ z ∈ Q
  | 0, p, t, ht, hp, _, _ => by rw [allW, List.mem_singleton] at ht; subst ht; exact hp
  | k + 1, p, t, ht, hp, he, hs => by
    rw [allW_succ, List.mem_flatMap] at ht
    obtain ⟨y, hy, ht⟩ := ht
    obtain ⟨h1, h2⟩ := nextL_mem.1 hy
    have hyQ : y ∈ Q := by
      rcases hcl _ he y h1 with h | h
      · exact absurd (hs y h) h2
      · exact h
    refine allW_reach hcl ht (fun z hz => ?_) (by rw [endOf_snoc]; exact hyQ) (fun z hz => List.mem_append_left _ (hs z hz))
    rcases List.mem_append.1 hz with h | h
    · exact hp z h
    · rw [List.mem_singleton.1 h]; exact .inr hyQ
theorem sub_lenN : ∀ (l m : List Int), l.Nodup → (∀ x ∈ l, x ∈ m) → l.length ≤ m.length
  | [], _, _, _ => Nat.zero_le _
  | x :: t, m, hn, h => by
    rw [List.nodup_cons] at hn
    have := sub_lenN t (m.erase x) hn.2 (fun y hy => (List.mem_erase_of_ne (by rintro rfl; exact hn.1 hy)).2 (h y (List.mem_cons_of_mem _ hy)))
    have hx := h x List.mem_cons_self
    rw [List.length_erase_of_mem hx] at this
    have := List.length_pos_of_mem hx
    rw [List.length_cons]; omega
/-- If not all cells that are left are reached, no walk goes over all of them. -/
theorem can_no {adj : Int → List Int} {path cells Q : List Int} {x : Int} {k : Nat} (hne : path ≠ []) (hw : Walk adj path) (hin : ∀ y ∈ path, y ∈ cells) (hx : endOf path = x) (hQ : QOk path cells x Q)
    (hcl : ∀ c ∈ Q, ∀ y ∈ adj c, y ∈ path ∨ y ∈ Q) (hlen : cells.length = path.length + k) (hn : Q.length ≠ k + 1) : allW adj k path = [] := by
  rw [List.eq_nil_iff_forall_not_mem]
  intro t ht
  obtain ⟨R, rfl, h1, h2⟩ := hQ.form
  have hxp : x ∈ path := by
    rw [← hx, endOf, List.getD_eq_getElem?_getD, List.getElem?_eq_getElem (show path.length - 1 < path.length by cases path with | nil => exact absurd rfl hne | cons => simp)]
    exact List.getElem_mem _
  have h3 := allW_reach hcl ht (fun z hz => .inl hz) (by rw [hx]; simp) (fun z hz => hz)
  have h4 := ((mem_allW hne hw).1 ht).1.1
  obtain ⟨s, rfl, hs⟩ := allW_form ht
  rw [List.nodup_append] at h4
  have h5 := sub_lenN s R h4.2.1 (fun z hz => by
    have hzp : z ∉ path := fun h => h4.2.2 z h z hz rfl
    rcases h3 z (List.mem_append_right _ hz) with h | h
    · exact absurd h hzp
    · rcases List.mem_cons.1 h with rfl | h
      · exact absurd hxp hzp
      · exact h)
  have h6 := sub_lenN (R ++ path) cells (by
    rw [List.nodup_append]
    exact ⟨h1, h4.1, fun a ha b hb e => (h2 a ha).1 (e ▸ hb)⟩) (fun z hz => by
      rcases List.mem_append.1 hz with h | h
      · exact (h2 z h).2
      · exact hin z h)
  rw [List.length_append] at h6
  rw [List.length_cons] at hn
  omega
theorem take_foldQ {path l Q : List Int} {j : Nat} {y : Int} (h : l[j]? = some y) : (l.take (j + 1)).foldl (addQ path) Q = addQ path ((l.take j).foldl (addQ path) Q) y := by
  rw [List.take_add_one, h, List.foldl_append]; rfl
end Go.Proofs.YtnmmgalidkambaaGreatDoor

namespace Go.Proofs.YtnmmgalidkambaaGreatDoor
open Go.RowKit

theorem bit_lt {s i : Nat} (hs : s < 18446744073709551616) (h : s.testBit i = true) : i < 64 := by
  rcases Nat.lt_or_ge i 64 with h1 | h1
  · exact h1
  · rw [Nat.testBit_lt_two_pow (Nat.lt_of_lt_of_le hs (Nat.pow_le_pow_right (show 0 < 2 by decide) h1))] at h; cases h
theorem bitsL_set {s : Nat} (hs : s < 18446744073709551616) : setBits ((bitsL s).map Int.toNat) = s := by
  refine Nat.eq_of_testBit_eq fun i => ?_
  rw [Bool.eq_iff_iff, setBits_test _ _ _ rfl, List.mem_map]
  constructor
  · rintro ⟨y, hy, rfl⟩; exact (bitsL_mem.1 hy).2.2
  · intro h
    exact ⟨(i : Int), bitsL_mem.2 ⟨by omega, by have := bit_lt hs h; omega, by simpa using h⟩, by simp⟩
theorem bitsL_nodup (s : Nat) : ((bitsL s).map Int.toNat).Nodup := by
  rw [List.Nodup, List.pairwise_map]
  refine (bitsL_rise s).imp_of_mem ?_
  intro u v hu hv huv
  have h1 := bitsL_mem.1 hu
  have h2 := bitsL_mem.1 hv
  omega
theorem bitsL_pop {s : Nat} (hs : s < 18446744073709551616) : (bitsL s).length = popN 64 s := by
  have h := (popN_set _ ((bitsL s).map Int.toNat) rfl (fun c hc => by obtain ⟨y, hy, rfl⟩ := List.mem_map.1 hc; have := bitsL_mem.1 hy; omega)).2.2 (bitsL_nodup s)
  rw [bitsL_set hs, List.length_map] at h
  exact h.symm
theorem bitsL_and (x r : Nat) : bitsL (x &&& r) = (bitsL r).filter fun y => x.testBit y.toNat := by
  refine rise_unique (bitsL_rise _) ((bitsL_rise _).filter _) fun y => ?_
  rw [List.mem_filter, bitsL_mem, bitsL_mem, Nat.testBit_and, Bool.and_eq_true]
  exact ⟨fun h => ⟨⟨h.1, h.2.1, h.2.2.2⟩, h.2.2.1⟩, fun h => ⟨h.1.1, h.1.2.1, h.2, h.1.2.2⟩⟩
theorem and_lt {x r : Nat} (h : r < 18446744073709551616) : x &&& r < 18446744073709551616 := Nat.lt_of_le_of_lt Nat.and_le_right h
theorem pop_and {x r : Nat} (hr : r < 18446744073709551616) : (bitsL (x &&& r)).length ≤ popN 64 r := by
  rw [bitsL_and, ← bitsL_pop hr]; exact List.length_filter_le _ _
theorem clr_or {r c : Nat} (hr : r < 18446744073709551616) (h : r.testBit c = true) : clr r c ||| 2 ^ c = r := by
  have hc := bit_lt hr h
  refine Nat.eq_of_testBit_eq fun i => ?_
  rw [Nat.testBit_or, clr_bit hc, Nat.testBit_two_pow]
  by_cases e : c = i
  · subst e; simp [h]
  · rw [show decide (c = i) = false by simpa using e, Bool.or_false]
    cases hb : r.testBit i with
    | false => rfl
    | true => have := bit_lt hr hb; simp; omega
theorem pop_clr {r c : Nat} (hr : r < 18446744073709551616) (h : r.testBit c = true) : popN 64 r = popN 64 (clr r c) + 1 := by
  have hc := bit_lt hr h
  have h1 := popN_or 64 (clr r c) c hc
  rw [clr_or hr h, clr_bit hc] at h1
  rw [h1]; simp
theorem pop_zero {r : Nat} (hr : r < 18446744073709551616) : popN 64 r = 0 ↔ r = 0 := by
  rw [← bitsL_pop hr]
  constructor
  · intro h
    have h0 : bitsL r = [] := List.eq_nil_of_length_eq_zero h
    have := bitsL_set hr
    rw [h0] at this; exact this.symm
  · intro h; subst h; rw [bitsL_zero]; rfl
theorem near_in {x r : Nat} {y : Int} (h : y ∈ bitsL (x &&& r)) : 0 ≤ y ∧ y < 64 ∧ r.testBit y.toNat = true ∧ x.testBit y.toNat = true := by
  obtain ⟨h1, h2, h3⟩ := bitsL_mem.1 h
  rw [Nat.testBit_and, Bool.and_eq_true] at h3
  exact ⟨h1, h2, h3.2, h3.1⟩
theorem clr_lt64 {r c : Nat} (h : r < 18446744073709551616) : clr r c < 18446744073709551616 := Nat.lt_of_le_of_lt (clr_le _ _) h

/-! ### The ways -/
def cntR (G P : Nat → Nat) (last : Nat) : Nat → Nat → Nat → Nat
  | 0, c, _ => if (P last).testBit c then 1 else 0
  | k + 1, c, r => if (P (last - (k + 1))).testBit c then ((bitsL (G c &&& r)).map fun y => cntR G P last k y.toNat (clr r y.toNat)).sum else 0
def fac : Nat → Nat
  | 0 => 1
  | k + 1 => (k + 1) * fac k
/-- How many positions a count may keep. -/
def kept : Nat → Nat
  | 0 => 0
  | k + 1 => 1 + (k + 1) * kept k
theorem fac_pos : ∀ k, 1 ≤ fac k
  | 0 => Nat.le_refl _
  | k + 1 => Nat.mul_pos (by omega) (fac_pos k)
theorem fac_mono {j k : Nat} (h : j ≤ k) : fac j ≤ fac k := by
  induction k with
  | zero => rw [show j = 0 by omega]; exact Nat.le_refl _
  | succ k ih =>
    rcases Nat.lt_or_ge j (k + 1) with h1 | h1
    · exact Nat.le_trans (ih (by omega)) (by rw [fac]; exact Nat.le_mul_of_pos_left _ (by omega))
    · rw [show j = k + 1 by omega]; exact Nat.le_refl _
theorem kept_mono {j k : Nat} (h : j ≤ k) : kept j ≤ kept k := by
  induction k with
  | zero => rw [show j = 0 by omega]; exact Nat.le_refl _
  | succ k ih =>
    rcases Nat.lt_or_ge j (k + 1) with h1 | h1
    · refine Nat.le_trans (ih (by omega)) ?_
      rw [kept]; have := Nat.le_mul_of_pos_left (kept k) (show 0 < k + 1 by omega); omega
    · rw [show j = k + 1 by omega]; exact Nat.le_refl _
theorem fac_19 {k : Nat} (h : k ≤ 19) : fac k ≤ 121645100408832000 := Nat.le_trans (fac_mono h) (by decide +kernel)
theorem kept_19 {k : Nat} (h : k ≤ 19) : kept k ≤ 330665665962404000 := Nat.le_trans (kept_mono h) (by decide +kernel)
theorem sum_bd {f : Int → Nat} {B : Nat} : ∀ {l : List Int}, (∀ y ∈ l, f y ≤ B) → (l.map f).sum ≤ l.length * B
  | [], _ => by simp
  | x :: t, h => by
    rw [List.map_cons, List.sum_cons, List.length_cons, Nat.succ_mul]
    have := sum_bd (l := t) (fun y hy => h y (List.mem_cons_of_mem _ hy))
    have := h x List.mem_cons_self
    omega
theorem cntR_le (G P : Nat → Nat) (last : Nat) (k : Nat) : ∀ (c r : Nat), r < 18446744073709551616 → popN 64 r = k → cntR G P last k c r ≤ fac k := by
  induction k with
  | zero =>
    intro c r _ _
    rw [cntR, fac]; split <;> omega
  | succ k ih =>
    intro c r hr hk
    rw [cntR]; split
    · refine Nat.le_trans (sum_bd (B := fac k) fun y hy => ?_) ?_
      · have h := near_in hy
        have h2 := pop_clr hr h.2.2.1
        exact ih _ _ (clr_lt64 hr) (by omega)
      · rw [fac]; exact Nat.mul_le_mul_right _ (by rw [← hk]; exact pop_and hr)
    · exact Nat.zero_le _
theorem cntR_no {G P : Nat → Nat} {last k c r : Nat} (h : (P (last - k)).testBit c = false) : cntR G P last k c r = 0 := by
  cases k with
  | zero => rw [Nat.sub_zero] at h; rw [cntR, h]; rfl
  | succ k => rw [cntR, h]; rfl
theorem cntR_end {G P : Nat → Nat} {last c r : Nat} (h : (P (last - 0)).testBit c = true) : cntR G P last 0 c r = 1 := by
  rw [Nat.sub_zero] at h; rw [cntR, h]; rfl
theorem cntR_sum {G P : Nat → Nat} {last k c r : Nat} (h : (P (last - (k + 1))).testBit c = true) : cntR G P last (k + 1) c r = ((bitsL (G c &&& r)).map fun y => cntR G P last k y.toNat (clr r y.toNat)).sum := by
  rw [cntR, h]; rfl
theorem cntR_dead {G P : Nat → Nat} {last k c r : Nat} (h : G c &&& r = 0) : cntR G P last (k + 1) c r = 0 := by
  rw [cntR, h, bitsL_zero]; split <;> rfl
theorem one_bit {s : Nat} (hs : s < 18446744073709551616) (h : popN 64 s = 1) : bitsL s = [((Lib.ctz 64 s : Nat) : Int)] := by
  have h0 : s ≠ 0 := fun e => by rw [(pop_zero hs).2 e] at h; cases h
  have h1 := bitsL_step h0 hs
  have h2 := bitsL_pop hs
  rw [h1, h, List.length_cons] at h2
  rw [h1, List.eq_nil_of_length_eq_zero (show (bitsL (clr s (Lib.ctz 64 s))).length = 0 by omega)]
theorem cntR_one {G P : Nat → Nat} {last k c r : Nat} (hr : r < 18446744073709551616) (hP : (P (last - (k + 1))).testBit c = true) (h : popN 64 (G c &&& r) = 1) :
    cntR G P last (k + 1) c r = cntR G P last k (Lib.ctz 64 (G c &&& r)) (clr r (Lib.ctz 64 (G c &&& r))) := by
  rw [cntR_sum hP, one_bit (and_lt hr) h]; simp
theorem ctz_in {x r : Nat} (hr : r < 18446744073709551616) (h : x &&& r ≠ 0) : Lib.ctz 64 (x &&& r) < 64 ∧ r.testBit (Lib.ctz 64 (x &&& r)) = true := by
  obtain ⟨h1, h2, _⟩ := ctz_facts h (and_lt hr)
  rw [Nat.testBit_and, Bool.and_eq_true] at h2
  exact ⟨h1, h2.2⟩
end Go.Proofs.YtnmmgalidkambaaGreatDoor

namespace Go.Proofs.YtnmmgalidkambaaGreatDoor
open Go.RowKit

section
variable {E : TypeId} {w w' : World} {lo g k0 n c : Nat} {xs : List Int}
theorem ownI_block {N C : Nat} {ys : List Int} (h : OwnI E w lo (some ⟨g, 0, none⟩) N C ys) : ∃ cur, w.heap[g]? = some (.cells cur E (0, 0)) ∧ lo ≤ g ∧ N ≤ C ∧ C ≤ maxLen ∧ cur.size = C ∧ cur.toList.take N = ys.map (Value.int .i64) := by
  rcases h.2 with ⟨hv, _⟩ | ⟨g', cap, cur, hv, hb, hg, hnc, hm, hcs, ht⟩
  · injection hv with h1; cases h1
  · injection hv with h1 h2 h3
    injection h1 with h1
    injection h1 with h1
    subst h1 h3
    exact ⟨cur, hg, hb, hnc, hm, by simpa using hcs, by simpa using ht⟩
theorem OwnI.cut {N C M : Nat} {ys : List Int} (h : OwnI E w lo (some ⟨g, 0, none⟩) N C ys) (hM : M ≤ N) : OwnI E w lo (some ⟨g, 0, none⟩) M C (ys.take M) := by
  obtain ⟨cur, hg, hb, hnc, hm, hcs, ht⟩ := ownI_block h
  have hl := h.len
  refine ⟨by simp; omega, .inr ⟨g, C, cur, rfl, hb, hg, by omega, hm, by simpa using hcs, ?_⟩⟩
  rw [Nat.mul_one, List.map_take, ← ht, List.take_take, Nat.min_eq_left hM]
theorem OwnI.extend {N C : Nat} {ys : List Int} (h : OwnI E w lo (some ⟨g, 0, none⟩) N C ys) (hN : N < C) (q : Int) :
    OwnI E (w.setCell ⟨g, N, none⟩ (.int .i64 q)) lo (some ⟨g, 0, none⟩) (N + 1) C (ys ++ [q]) ∧ w.grownBy (w.setCell ⟨g, N, none⟩ (.int .i64 q)) (some g) := by
  obtain ⟨cur, hg, hb, hnc, hm, hcs, ht⟩ := ownI_block h
  have hl := h.len
  refine ⟨⟨by simp [hl], .inr ⟨g, C, _, rfl, hb, heap_setCell_same w g N cur E (.int .i64 q) hg, by omega, hm, by simpa using hcs, ?_⟩⟩, (World.ownsRow.stored h N (.int .i64 q)).2⟩
  rw [Nat.mul_one, List.map_append, ← ht]
  simp only [Array.toList_setIfInBounds]
  apply List.ext_getElem?
  intro j
  rw [List.getElem?_take]
  by_cases h1 : j < N
  · rw [if_pos (by omega), List.getElem?_set_ne (by omega), List.getElem?_append_left (by rw [List.length_take, Array.length_toList]; omega), List.getElem?_take, if_pos h1]
  · by_cases h2 : j = N
    · subst h2
      rw [if_pos (by omega), List.getElem?_set_self (by rw [Array.length_toList]; omega), List.getElem?_append_right (by rw [List.length_take]; omega)]
      simp [hcs, Nat.min_eq_left (Nat.le_of_lt hN)]
    · rw [if_neg (by omega), List.getElem?_eq_none (by simp [hcs]; omega)]

/-- The slice '.slice (some ⟨g, k0⟩) n c' is a queue that reads as xs. -/
def QAt (E : TypeId) (w : World) (lo g k0 n c : Nat) (xs : List Int) : Prop :=
  ∃ (C : Nat) (done : List Int), done.length = k0 ∧ OwnI E w lo (some ⟨g, 0, none⟩) (k0 + n) C (done ++ xs) ∧ k0 + c ≤ C ∧ n ≤ c
theorem QAt.len (h : QAt E w lo g k0 n c xs) : xs.length = n := by
  obtain ⟨C, done, h1, h2, _⟩ := h
  have := h2.len; rw [List.length_append] at this; omega
theorem QAt.le (h : QAt E w lo g k0 n c xs) : n ≤ c ∧ c ≤ 9223372036854775807 := by
  obtain ⟨C, done, h1, h2, h3, h4⟩ := h
  obtain ⟨_, _, _, _, h5, _⟩ := ownI_block h2
  unfold maxLen at h5; exact ⟨h4, by omega⟩
theorem QAt.lt (h : QAt E w lo g k0 n c xs) : lo ≤ g ∧ g < w.heap.size := by
  obtain ⟨C, done, h1, h2, _⟩ := h
  obtain ⟨cur, hg, hb, _⟩ := ownI_block h2
  exact ⟨hb, (Array.getElem?_eq_some_iff.1 hg).1⟩
theorem QAt.cell (h : QAt E w lo g k0 n c xs) {j : Nat} {x : Int} (hx : xs[j]? = some x) : w.cell? ⟨g, k0 + j, none⟩ = some (.int .i64 x) := by
  obtain ⟨C, done, h1, h2, _⟩ := h
  exact h2.cell (by rw [List.getElem?_append_right (by omega), h1, show k0 + j - k0 = j by omega, hx])
theorem QAt.other {row : Option Nat} (h : QAt E w lo g k0 n c xs) (hg : w.grownBy w' row) (hne : some g ≠ row) : QAt E w' lo g k0 n c xs := by
  obtain ⟨C, done, h1, h2, h3, h4⟩ := h
  exact ⟨C, done, h1, h2.other hg (fun a ha => by injection ha with ha; rw [← ha]; exact hne), h3, h4⟩
theorem QAt.keep (h : QAt E w lo g k0 n c xs) (hb : Below w.heap.size w w') : QAt E w' lo g k0 n c xs := by
  obtain ⟨C, done, h1, h2, h3, h4⟩ := h
  exact ⟨C, done, h1, h2.keep hb, h3, h4⟩
theorem QAt.start {C : Nat} (h : OwnI E w lo (some ⟨g, 0, none⟩) n C xs) : QAt E w lo g 0 n C xs :=
  ⟨C, [], rfl, by simpa using h, by omega, by obtain ⟨_, _, _, h5, _⟩ := ownI_block h; exact h5⟩
theorem QAt.pop_last {x : Int} (h : QAt E w lo g k0 1 1 [x]) : QAt E w lo g k0 0 0 [] := by
  obtain ⟨C, done, h1, h2, h3, h4⟩ := h
  refine ⟨C, done, h1, ?_, by omega, Nat.le_refl _⟩
  have := h2.cut (M := k0) (by omega)
  rw [List.take_append_of_le_length (by omega), List.take_of_length_le (by omega)] at this
  simpa using this
theorem QAt.pop {x : Int} {t : List Int} (h : QAt E w lo g k0 (n + 1) (c + 1) (x :: t)) : QAt E w lo g (k0 + 1) n c t := by
  obtain ⟨C, done, h1, h2, h3, h4⟩ := h
  refine ⟨C, done ++ [x], by simp [h1], ?_, by omega, by omega⟩
  rw [List.append_assoc, List.singleton_append, show k0 + 1 + n = k0 + (n + 1) by omega]
  exact h2

theorem wpList_appQ {P : Program} {ops : Array Oper} {rest : List Oper} {o : Oper} {a : Act} {Q : Exit → Act → World → Prop} (hgd : o.guard = none) (s x : Operand) (T : TypeId)
    (ho : o.op = .call { callee := .builtin .append, args := #[s, x], argTypes := #[T, T] }) (i0 : TypeInfo)
    (hT : P.underlying T = some (.slice E)) (hi : P.info? E = some i0) (hz0 : i0.zero = some (.int .i64 0)) (hz1 : i0.size = 1) (hz2 : i0.bytes = 8)
    (q : Int) (hs : a.eval s = .slice (some ⟨g, k0, none⟩) n c) (hq : QAt E w lo g k0 n c xs) (hx : a.eval x = .slice (some ⟨w.heap.size, 0, none⟩) 1 1) (hn : n ≤ 1000) (hlo : lo ≤ w.heap.size)
    (h : ∀ g' k0' c' w', QAt E w' lo g' k0' (n + 1) c' (xs ++ [q]) → w.grownBy w' (some g) → (g' = g ∨ w.heap.size ≤ g') → wpList P ops Q rest (a.put o.dst (.slice (some ⟨g', k0', none⟩) (n + 1) c')) w') :
    wpList P ops Q (o :: rest) a (w.alloc (.cells #[.int .i64 q] E)) := by
  have hgl := hq.lt
  have hxl := hq.len
  have hle := hq.le
  obtain ⟨C, done, hd, hown, hC, hnc⟩ := hq
  have hnews : ∀ j u, [Value.int .i64 q][j]? = some u → (w.alloc (.cells #[.int .i64 q] E)).cell? ((⟨w.heap.size, 0, none⟩ : Addr).add j) = some u := by
    intro j u hj
    match j, hj with
    | 0, hj =>
      simp at hj; subst hj
      exact cell_of_row (w.alloc (.cells #[.int .i64 q] E)) w.heap.size 0 #[.int .i64 q] E (0, 0) (heap_alloc_new w _)
  have hone : ∀ u ∈ [Value.int .i64 q], u.oneCell' = true := by intro u hu; simp at hu; subst hu; rfl
  have hw : Region.wanted o (yielded ops a.tmps) = true := by simp [Region.wanted, hgd]
  have hal : Below w.heap.size w (w.alloc (.cells #[.int .i64 q] E)) := (Below.refl _ _).alloc (Nat.le_refl _) _
  have hown1 := hown.keep hal
  refine wpList_plain hgd fun K hK => ?_
  by_cases hr : n < c
  · have hstep := step_append_room (P := P) (ops := ops) (K := K) (Q := Q) (E := True) hgd s x T ho E i0 1 hT hi hz1 g k0 n c hs ⟨w.heap.size, 0, none⟩ 1 1 [.int .i64 q] hx rfl hnews hone (by omega) (w := w.alloc (.cells #[.int .i64 q] E))
      (fun j hj => by
        obtain rfl : j = 0 := by simpa using hj
        obtain ⟨cur, hg, _, _, _, hcs, _⟩ := ownI_block hown1
        refine ⟨?_, frozen_of_row _ g _ cur E hg⟩
        rw [cell_of_row _ g _ cur E (0, 0) hg, Array.getElem?_eq_getElem (by omega)]; rfl)
      (by
        obtain ⟨e1, e2⟩ := hown1.extend (by omega) q
        rw [show k0 + n * 1 = k0 + n by omega]
        refine hK _ _ (h g k0 c _ ⟨C, done, hd, ?_, hC, by omega⟩ (grown_next (grown_of_below hal _) e2) (.inl rfl))
        rw [← List.append_assoc, show k0 + (n + 1) = k0 + n + 1 by omega]
        exact e1)
    rwa [if_pos hw] at hstep
  · have hstep := step_append_grows (P := P) (ops := ops) (K := K) (Q := Q) (E := True) hgd s x T ho E i0 (.int .i64 0) 1 8 hT hi hz0 hz1 hz2 rfl (by decide) (some ⟨g, k0, none⟩) n c (xs.map (Value.int .i64)) hs (fun h => by cases h) (by simp [hxl])
      (fun b hb j u hj => by
        injection hb with hb; subst hb
        rw [List.getElem?_map] at hj
        have e : (⟨g, k0, none⟩ : Addr).add j = ⟨g, k0 + j, none⟩ := by unfold Addr.add; split <;> simp_all
        rw [e]
        cases hxj : xs[j]? with
        | none => rw [hxj] at hj; cases hj
        | some y =>
          rw [hxj] at hj
          injection hj with hj; subst hj
          exact hown1.cell (by rw [List.getElem?_append_right (by omega), hd, show k0 + j - k0 = j by omega, hxj]))
      ⟨w.heap.size, 0, none⟩ 1 1 [.int .i64 q] hx rfl hnews hone (by omega) (by unfold maxLen; omega) (by omega) (w := w.alloc (.cells #[.int .i64 q] E))
      (fun v' w' hown' hgr => by
        have e : xs.map (Value.int .i64) ++ [.int .i64 q] = (xs ++ [q]).map (Value.int .i64) := by simp
        rw [e] at hown'
        obtain ⟨A', c', rfl, hO⟩ := own_form hown'
        obtain ⟨g', rfl, h1, h2⟩ := hO.some_ (k := 0) (by omega)
        simp at h1
        refine hK _ _ (h g' 0 c' w' (QAt.start (hO.lower (by simp; omega))) ?_ (.inr (by omega)))
        exact ⟨hgr.os.trans hal.os, hgr.tape.trans hal.tape, hgr.output.trans hal.output, Nat.le_trans hal.size hgr.size, fun i hi _ => (hgr.block i (Nat.lt_of_lt_of_le hi hal.size) (by simp)).trans (hal.block i hi)⟩)
    rwa [if_pos hw] at hstep
end

end Go.Proofs.YtnmmgalidkambaaGreatDoor

namespace Go.Proofs.YtnmmgalidkambaaGreatDoor
open Go.RowKit Go.Maps

/-- An element reads as itself. -/
def rawR (v : Value) : Option (DataW Value × List MemPlace) := some (.held v, [])
/-- Block b of w is a map from ints with at most n entries; under x it gives f x (z: what it gives where there is no entry). -/
def MapI (P : Program) (k : TypeId) (w : World) (b n : Nat) (z : Value) (f : Int → Value) : Prop :=
  ∃ D : DataW Value, w.ownsMap P k rawR b n D ∧ IsMap D ∧ ∀ x, D.atKey (.int .i64 x) (.held z) = .held (f x)

section
variable {P : Program} {k e t : TypeId} {w w' : World} {b n : Nat} {z : Value} {f : Int → Value}
theorem MapI.made (P : Program) (k : TypeId) (w : World) (z : Value) : MapI P k (w.alloc (.map #[] 0)) w.heap.size 0 z (fun _ => z) :=
  ⟨_, World.ownsMap_made _ _ _ _, isMap_empty, fun _ => rfl⟩
theorem MapI.lt (h : MapI P k w b n z f) : b < w.heap.size := by obtain ⟨D, h, _⟩ := h; exact h.lt
theorem MapI.other {row : Option Nat} (h : MapI P k w b n z f) (hg : w.grownBy w' row) (hne : some b ≠ row) : MapI P k w' b n z f := by
  obtain ⟨D, h1, h2, h3⟩ := h
  exact ⟨D, h1.kept hg hne, h2, h3⟩
theorem MapI.keep (h : MapI P k w b n z f) (hb : Below w.heap.size w w') : MapI P k w' b n z f := h.other (grown_of_below hb none) (by simp)
theorem MapI.lookup (h : MapI P k w b n z f) (hk : P.underlying k = some (.int .i64)) (ht : P.underlying t = some (.map k e)) (hz : (zeroValue e).run P w = .ok z w) {x : Int} (hx : (Lit.int .i64 x).wf = true) :
    (Instr.lookup t (.map (some b)) (.int .i64 x) false).run P w = .ok (f x) w := by
  obtain ⟨D, h1, h2, h3⟩ := h
  obtain ⟨v, ps, hr, hv⟩ := h1.lookup (int_keyed hk) ht hz (show rawR z = some (.held z, []) from rfl) (keyOf_int_mk hk hx)
  rw [h3 x] at hv
  injection hv with hv
  injection hv with hv _
  injection hv with hv
  rw [hr, hv]
theorem wpList_update {ops : Array Oper} {rest : List Oper} {o : Oper} {a : Act} {Q : Exit → Act → World → Prop}
    (hg : o.guard = none) (m x v : Operand) (hop : o.op = Op.mapUpdate t m x v) (hk : P.underlying k = some (.int .i64)) (ht : P.underlying t = some (.map k e))
    (hm : a.eval m = .map (some b)) (hown : MapI P k w b n z f) (hn : n < 1000000) (q : Int) (val : Value) (hx : a.eval x = .int .i64 q) (hv : a.eval v = val) (hq : (Lit.int .i64 q).wf = true)
    (hK : ∀ w', MapI P k w' b (n + 1) z (fun y => if y = q then val else f y) → w.grownBy w' (some b) → wpList P ops Q rest (a.put o.dst undef) w') :
    wpList P ops Q (o :: rest) a w := by
  obtain ⟨D, h1, h2, h3⟩ := hown
  refine wpList_mapUpdate_own w hg m x v t hop k e (int_keyed hk) ht rawR b n D hm h1 (by unfold maxLen; omega) _ _ (.int .i64 q) hx hv (keyOf_int_mk hk hq) (.held val) [] rfl ?_
  intro w' hw hgr
  refine hK w' ⟨_, hw, h2.put _ _, fun y => ?_⟩ hgr
  show _ = DataW.held (if y = q then val else f y)
  by_cases e : y = q
  · subst e
    rw [if_pos rfl]
    exact atKey_put_same h2 (by trivial) _ _
  · rw [if_neg e, atKey_put_other (fun h => e (by injection h)) _ _]
    exact h3 y
end

end Go.Proofs.YtnmmgalidkambaaGreatDoor

namespace Go.Proofs.YtnmmgalidkambaaGreatDoor
open Go.RowKit

/-! ### A row of booleans that the call owns -/
def OwnB (E : TypeId) (w : World) (lo : Nat) (A : Option Addr) (n c : Nat) (xs : List Bool) : Prop := w.ownsRow lo E 1 (.slice A n c) n (xs.map Value.bool)
section
variable {E : TypeId} {w w' : World} {lo : Nat} {A : Option Addr} {n c : Nat} {xs : List Bool}
theorem OwnB.len (h : OwnB E w lo A n c xs) : xs.length = n := by simpa [OwnB] using h.1
theorem OwnB.cell {g k : Nat} {x : Bool} (h : OwnB E w lo (some ⟨g, 0, none⟩) n c xs) (hx : xs[k]? = some x) : w.cell? ⟨g, k, none⟩ = some (.bool x) := by
  have hl := h.len
  have hk : k < n := by
    rcases Nat.lt_or_ge k xs.length with h' | h'
    · omega
    · rw [List.getElem?_eq_none h'] at hx; cases hx
  rw [World.ownsRow.cellAt h k (by omega), List.getElem?_map, hx]; rfl
theorem OwnB.frozen {g : Nat} (h : OwnB E w lo (some ⟨g, 0, none⟩) n c xs) (k : Nat) : w.frozen? ⟨g, k, none⟩ = false := World.ownsRow.frozenAt h k
theorem OwnB.stored {g : Nat} (h : OwnB E w lo (some ⟨g, 0, none⟩) n c xs) (k : Nat) (x : Bool) :
    OwnB E (w.setCell ⟨g, k, none⟩ (.bool x)) lo (some ⟨g, 0, none⟩) n c (xs.set k x) ∧ w.grownBy (w.setCell ⟨g, k, none⟩ (.bool x)) (some g) := by
  have := World.ownsRow.stored h k (.bool x)
  rw [← List.map_set] at this
  exact this
theorem OwnB.keep (h : OwnB E w lo A n c xs) (hb : Below w.heap.size w w') : OwnB E w' lo A n c xs := by
  refine ⟨h.1, ?_⟩
  rcases h.2 with hn | ⟨g, cap, cur, hv, hlo, hg, r⟩
  · exact .inl hn
  · exact .inr ⟨g, cap, cur, hv, hlo, (hb.block g (Array.getElem?_eq_some_iff.1 hg).1).trans hg, r⟩
theorem OwnB.other {row : Option Nat} (h : OwnB E w lo A n c xs) (hg : w.grownBy w' row) (hne : ∀ a, A = some a → some a.block ≠ row) : OwnB E w' lo A n c xs := by
  refine ⟨h.1, ?_⟩
  rcases h.2 with hn | ⟨g, cap, cur, hv, hlo, hgg, r⟩
  · exact .inl hn
  · refine .inr ⟨g, cap, cur, hv, hlo, ?_, r⟩
    injection hv with h1
    rw [hg.block g (Array.getElem?_eq_some_iff.1 hgg).1 (hne _ h1)]
    exact hgg
end
theorem infoBl : (Tryz.prog.info? 4).map (fun i => (i.zero, i.size, i.bytes)) = some (some (.bool false), 1, 1) := by kernel_rfl
/-- f 0, f 1, .. : N of them. -/
def boolRow (f : Nat → Bool) (N : Nat) : List Bool := (List.range N).map f
theorem boolRow_at {f : Nat → Bool} {N i : Nat} (h : i < N) : (boolRow f N)[i]? = some (f i) := by simp [boolRow, h]
theorem boolRow_congr {f g : Nat → Bool} {N : Nat} (h : ∀ i, i < N → f i = g i) : boolRow f N = boolRow g N := by
  apply List.map_congr_left; intro i hi; exact h i (List.mem_range.1 hi)
theorem boolRow_set (f : Nat → Bool) (N k : Nat) (b : Bool) : (boolRow f N).set k b = boolRow (fun i => if i = k then b else f i) N := by
  apply List.ext_getElem?
  intro i
  rw [List.getElem?_set]
  by_cases hi : i < N
  · by_cases e : k = i
    · subst e; rw [if_pos rfl, if_pos (by simpa [boolRow] using hi), boolRow_at hi, if_pos rfl]
    · rw [if_neg e, boolRow_at hi, boolRow_at hi, if_neg (fun h => e h.symm)]
  · rw [List.getElem?_eq_none (by simpa [boolRow] using hi), List.getElem?_eq_none (by simpa [boolRow] using hi)]
    split
    · rw [if_neg (by simp [boolRow]; omega)]
    · rfl

/-! ### Blocks that are told apart by what they hold -/
theorem row_block {w : World} {lo : Nat} {E : TypeId} {k : Nat} {a : Addr} {n c : Nat} {xs : List Value} (h : w.ownsRow lo E k (.slice (some a) n c) n xs) : ∃ cur, w.heap[a.block]? = some (.cells cur E (0, 0)) := by
  rcases h.2 with ⟨hv, _⟩ | ⟨g, cap, cur, hv, _, hg, _⟩
  · cases hv
  · injection hv with h1
    injection h1 with h1
    subst h1
    exact ⟨cur, hg⟩
theorem rows_apart {w : World} {lo lo' : Nat} {E E' : TypeId} {k k' : Nat} {a a' : Addr} {n c n' c' : Nat} {xs ys : List Value} (hne : E ≠ E') (h : w.ownsRow lo E k (.slice (some a) n c) n xs) (h' : w.ownsRow lo' E' k' (.slice (some a') n' c') n' ys) : a.block ≠ a'.block := by
  obtain ⟨c1, h1⟩ := row_block h
  obtain ⟨c2, h2⟩ := row_block h'
  intro e
  rw [e, h2] at h1
  injection h1 with h1
  injection h1 with _ h1 _
  exact hne h1.symm
theorem map_apart {w : World} {lo : Nat} {E : TypeId} {k : Nat} {a : Addr} {n c : Nat} {xs : List Value} {P : Program} {kt : TypeId} {mb m : Nat} {z : Value} {f : Int → Value} (h : w.ownsRow lo E k (.slice (some a) n c) n xs) (hm : MapI P kt w mb m z f) : a.block ≠ mb := by
  obtain ⟨c1, h1⟩ := row_block h
  obtain ⟨D, ⟨es, cl, h2, _⟩, _⟩ := hm
  intro e
  rw [e, h2] at h1
  cases h1

/-! ### A row of slices, each a row of its own -/
abbrev SlV := Option Addr × Nat × Nat
def encS (v : SlV) : List Value := [.slice v.1 v.2.1 v.2.2]
/-- The slice '.slice A n c' holds slices that read as the lists ps, each in a block of the call's own. -/
def PartsAt (w : World) (lo top : Nat) (A : Option Addr) (n c : Nat) (ps : List (List Int)) : Prop :=
  ∃ vs : List SlV, OwnK encS 1 22 w lo A n c vs ∧ ps.length = n ∧ (∀ (i : Nat) (v : SlV) (p : List Int), vs[i]? = some v → ps[i]? = some p → OwnI 3 w lo v.1 v.2.1 v.2.2 p) ∧
    (∀ (i j : Nat) (v u : SlV), i < j → vs[i]? = some v → vs[j]? = some u → ∀ x y, v.1 = some x → u.1 = some y → x.block < y.block) ∧
    ∀ (i : Nat) (v : SlV), vs[i]? = some v → ∀ x, v.1 = some x → x.block < top
theorem PartsAt.none_ (w : World) (lo top : Nat) : PartsAt w lo top none 0 0 [] := ⟨[], OwnK.none_ _ _ _ _ _, rfl, fun i v p h => by simp at h, fun i j v u _ h => by simp at h, fun i v h => by simp at h⟩
theorem PartsAt.other {w w' : World} {lo top : Nat} {A : Option Addr} {n c : Nat} {ps : List (List Int)} {row : Option Nat} (h : PartsAt w lo top A n c ps) (hg : w.grownBy w' row)
    (hA : ∀ a, A = some a → some a.block ≠ row) (hI : ∀ (a : Addr) (m k : Nat) (p : List Int), OwnI 3 w lo (some a) m k p → some a.block ≠ row) : PartsAt w' lo top A n c ps := by
  obtain ⟨vs, h1, h2, h3, h4, h5⟩ := h
  refine ⟨vs, h1.other hg hA, h2, fun i v p hv hp => (h3 i v p hv hp).other hg (fun a ha => ?_), h4, h5⟩
  have h5 := h3 i v p hv hp
  rw [ha] at h5
  exact hI a _ _ _ h5
theorem PartsAt.keep {w w' : World} {lo top : Nat} {A : Option Addr} {n c : Nat} {ps : List (List Int)} (h : PartsAt w lo top A n c ps) (hb : Below w.heap.size w w') : PartsAt w' lo top A n c ps :=
  h.other (grown_of_below hb none) (fun _ _ => by simp) (fun _ _ _ _ _ => by simp)
theorem PartsAt.lower {w : World} {lo lo' top : Nat} {A : Option Addr} {n c : Nat} {ps : List (List Int)} (h : PartsAt w lo top A n c ps) (hl : lo' ≤ lo) : PartsAt w lo' top A n c ps := by
  obtain ⟨vs, h1, h2, h3, h4, h5⟩ := h
  exact ⟨vs, h1.lower hl, h2, fun i v p hv hp => (h3 i v p hv hp).lower hl, h4, h5⟩
theorem PartsAt.len {w : World} {lo top : Nat} {A : Option Addr} {n c : Nat} {ps : List (List Int)} (h : PartsAt w lo top A n c ps) : ps.length = n := by obtain ⟨_, _, h, _⟩ := h; exact h
/-- A write into a row of booleans leaves it alone. -/
theorem PartsAt.bools {w w' : World} {lo lo' top : Nat} {A : Option Addr} {n c : Nat} {ps : List (List Int)} {gb m k : Nat} {bs : List Bool} (h : PartsAt w lo top A n c ps) (hB : OwnB 4 w lo' (some ⟨gb, 0, none⟩) m k bs) (hg : w.grownBy w' (some gb)) : PartsAt w' lo top A n c ps := by
  have h0 := h
  obtain ⟨vs, h1, _⟩ := h0
  refine h.other hg (fun a ha => ?_) (fun a m' k' p hp => ?_)
  · subst ha
    have := rows_apart (by decide : 22 ≠ 4) h1.2 hB
    simpa using this
  · have := rows_apart (by decide : 3 ≠ 4) hp hB
    simpa using this
/-- An update of a map leaves it alone. -/
theorem PartsAt.maps {w w' : World} {lo top : Nat} {A : Option Addr} {n c : Nat} {ps : List (List Int)} {P : Program} {kt : TypeId} {mb m : Nat} {z : Value} {f : Int → Value} (h : PartsAt w lo top A n c ps) (hM : MapI P kt w mb m z f) (hg : w.grownBy w' (some mb)) : PartsAt w' lo top A n c ps := by
  have h0 := h
  obtain ⟨vs, h1, _⟩ := h0
  refine h.other hg (fun a ha => ?_) (fun a m' k' p hp => ?_)
  · subst ha
    have := map_apart h1.2 hM
    simpa using this
  · have := map_apart hp hM
    simpa using this
theorem own_keepLo {E : TypeId} {k : Nat} {w w' : World} {lo L : Nat} {v : Value} {n : Nat} {xs : List Value} (h : w.ownsRow lo E k v n xs) (hb : Below L w w') (hL : ∀ b, v.ownBlock = some b → b < L) : w'.ownsRow lo E k v n xs := by
  refine ⟨h.1, ?_⟩
  rcases h.2 with hn | ⟨g, cap, cur, hv, hlo, hg, r⟩
  · exact .inl hn
  · exact .inr ⟨g, cap, cur, hv, hlo, (hb.block g (hL g (by rw [hv]; rfl))).trans hg, r⟩
theorem OwnB.keepLo {E : TypeId} {w w' : World} {lo L g n c : Nat} {xs : List Bool} (h : OwnB E w lo (some ⟨g, 0, none⟩) n c xs) (hb : Below L w w') (hL : g < L) : OwnB E w' lo (some ⟨g, 0, none⟩) n c xs :=
  own_keepLo h hb (fun b hb => by simp [Value.ownBlock] at hb; omega)
theorem PartsAt.keepLo {w w' : World} {lo top L : Nat} {A : Option Addr} {n c : Nat} {ps : List (List Int)} (h : PartsAt w lo top A n c ps) (hb : Below L w w') (hA : ∀ a, A = some a → a.block < L) (ht : top ≤ L) : PartsAt w' lo top A n c ps := by
  obtain ⟨vs, h1, h2, h3, h4, h5⟩ := h
  refine ⟨vs, ⟨h1.1, own_keepLo h1.2 hb (fun b hb => ?_)⟩, h2, fun i v p hv hp => own_keepLo (h3 i v p hv hp) hb (fun b hb => ?_), h4, h5⟩
  · rcases A with _ | a
    · simp [Value.ownBlock] at hb
    · simp [Value.ownBlock] at hb; rw [← hb]; exact hA a rfl
  · obtain ⟨v1, v2, v3⟩ := v
    rcases v1 with _ | a
    · simp [Value.ownBlock] at hb
    · simp [Value.ownBlock] at hb; have := h5 i _ hv a rfl; omega
theorem PartsAt.lt {w : World} {lo top : Nat} {A : Option Addr} {n c : Nat} {ps : List (List Int)} (h : PartsAt w lo top A n c ps) : ∀ a, A = some a → a.block < w.heap.size := fun a ha => by
  obtain ⟨vs, h1, _⟩ := h
  subst ha
  obtain ⟨cur, h⟩ := row_block h1.2
  exact (Array.getElem?_eq_some_iff.1 h).1
theorem grown_below {a b c : World} {row : Option Nat} (h : a.grownBy b row) (k : Below a.heap.size b c) : a.grownBy c row :=
  ⟨k.os.trans h.os, k.tape.trans h.tape, k.output.trans h.output, Nat.le_trans h.size k.size, fun i hi hne => (k.block i hi).trans (h.block i hi hne)⟩
/-- append of one slice, whose row lies behind all the others. -/
theorem wpList_appS {ops : Array Oper} {rest : List Oper} {o : Oper} {a : Act} {Q : Exit → Act → World → Prop} {w : World} (hgd : o.guard = none) (s x : Operand)
    (ho : o.op = .call { callee := .builtin .append, args := #[s, x], argTypes := #[48, 48] }) (lo top : Nat) (A : Option Addr) (n c : Nat) (ps : List (List Int)) (A3 : Option Addr) (n3 c3 : Nat) (p : List Int)
    (hs : a.eval s = .slice A n c) (hown : PartsAt w lo top A n c ps) (hp : OwnI 3 w lo A3 n3 c3 p) (hpn : ∀ y, A3 = some y → top ≤ y.block) (htop : top ≤ w.heap.size)
    (hx : a.eval x = .slice (some ⟨w.heap.size, 0, none⟩) 1 1)
    (hn : n ≤ 100000) (hlo : lo ≤ w.heap.size)
    (h : ∀ A' c' w', PartsAt w' lo w.heap.size A' (n + 1) c' (ps ++ [p]) → Below lo w w' → (∀ (gb lo' m k : Nat) (bs : List Bool), OwnB 4 w lo' (some ⟨gb, 0, none⟩) m k bs → OwnB 4 w' lo' (some ⟨gb, 0, none⟩) m k bs) →
      (∀ (P : Program) (kt : TypeId) (mb m : Nat) (z : Value) (f : Int → Value), MapI P kt w mb m z f → MapI P kt w' mb m z f) → (∀ (lo' : Nat) (a' : Addr) (m k : Nat) (q : List Int), OwnI 3 w lo' (some a') m k q → OwnI 3 w' lo' (some a') m k q) →
      wpList Tryz.prog ops Q rest (a.put o.dst (.slice A' (n + 1) c')) w') :
    wpList Tryz.prog ops Q (o :: rest) a (w.alloc (.cells #[.slice A3 n3 c3] 22)) := by
  obtain ⟨vs, h1, h2, h3, h4, h5⟩ := hown
  have hal : Below w.heap.size w (w.alloc (.cells #[.slice A3 n3 c3] 22)) := below_new (Below.refl _ _) _
  have hz : (Tryz.prog.info? 22).map (fun i => (i.zero, i.size, i.bytes)) = some (some (.slice none 0 0), 1, 24) := by kernel_rfl
  obtain ⟨i0, hi, hz0, hz1, hz2⟩ := info_parts hz
  refine wpList_appK (enc := encS) (k := 1) (E := 22) hgd s x 48 ho i0 (.slice none 0 0) 24 Tryz.underlying48 hi hz0 hz1 hz2 rfl (by decide) (by decide) (fun _ => rfl) (fun v u hu => ?_) [(A3, n3, c3)] ⟨w.heap.size, 0, none⟩ 1 1 hs (h1.keep hal) hx rfl (fun j u hj => ?_) (by omega) (by simp; omega) ?_
  · simp [encS] at hu; subst hu; rfl
  · match j, hj with
    | 0, hj =>
      simp [encS] at hj; subst hj
      exact cell_of_row (w.alloc (.cells #[.slice A3 n3 c3] 22)) w.heap.size 0 #[.slice A3 n3 c3] 22 (0, 0) (heap_alloc_new w _)
    | j + 1, hj => simp [encS] at hj
  · intro A' c' w' hK hgr hbl
    have hgw : w.grownBy w' (rowOf A) := grown_next (grown_of_below hal _) (by rcases A with _ | b <;> exact hgr)
    have keepI : ∀ (lo' : Nat) (a' : Addr) (m k : Nat) (q : List Int), OwnI 3 w lo' (some a') m k q → OwnI 3 w' lo' (some a') m k q := fun lo' a' m k q hq => hq.other hgw (fun a ha => by
      injection ha with ha
      subst ha
      rcases A with _ | b
      · simp [rowOf]
      · have := rows_apart (by decide : 3 ≠ 22) hq h1.2
        simpa [rowOf] using this)
    have keepN : ∀ (lo' : Nat) (v : Option Addr) (m k : Nat) (q : List Int), OwnI 3 w lo' v m k q → OwnI 3 w' lo' v m k q := fun lo' v m k q hq => by
      rcases v with _ | v
      · exact hq.other hgw (fun a ha => by cases ha)
      · exact keepI lo' v m k q hq
    refine h A' c' w' ⟨vs ++ [(A3, n3, c3)], hK, by rw [List.length_append, h2]; rfl, fun i v q hv hq => ?_, fun i j v u hij hv hu y z hy hz => ?_, fun i v hv y hy => ?_⟩ ((Below.refl _ _).alloc hlo _ |>.trans hbl) (fun gb lo' m k bs hB => hB.other hgw (fun a ha => ?_)) (fun P kt mb m z f hM => hM.other hgw ?_) keepI
    · have hvl : vs.length = n := h1.len
      by_cases e : i < n
      · rw [List.getElem?_append_left (by omega)] at hv
        rw [List.getElem?_append_left (by omega)] at hq
        exact keepN _ _ _ _ _ (h3 i v q hv hq)
      · rw [List.getElem?_append_right (by omega)] at hv
        rw [List.getElem?_append_right (by omega)] at hq
        have e0 : i - n = 0 := by
          rcases Nat.eq_zero_or_pos (i - n) with h | h
          · exact h
          · rw [hvl, List.getElem?_eq_none (by simp; omega)] at hv; cases hv
        rw [hvl, e0] at hv
        rw [h2, e0] at hq
        simp at hv hq
        subst hv; subst hq
        exact keepN _ _ _ _ _ hp
    · have hvl : vs.length = n := h1.len
      have hj : j < (vs ++ [(A3, n3, c3)]).length := (List.getElem?_eq_some_iff.1 hu).1
      rw [List.length_append, hvl] at hj
      simp only [List.length_cons, List.length_nil] at hj
      rw [List.getElem?_append_left (by omega)] at hv
      by_cases e : j < n
      · rw [List.getElem?_append_left (by omega)] at hu
        exact h4 i j v u hij hv hu y z hy hz
      · rw [List.getElem?_append_right (by omega), hvl, show j - n = 0 by omega] at hu
        simp at hu; subst hu
        have := h5 i v hv y hy
        have := hpn z hz
        omega
    · have hvl : vs.length = n := h1.len
      by_cases e : i < n
      · rw [List.getElem?_append_left (by omega)] at hv
        have := h5 i v hv y hy
        omega
      · have hj : i < (vs ++ [(A3, n3, c3)]).length := (List.getElem?_eq_some_iff.1 hv).1
        rw [List.length_append, hvl] at hj
        simp only [List.length_cons, List.length_nil] at hj
        rw [List.getElem?_append_right (by omega), hvl, show i - n = 0 by omega] at hv
        simp at hv; subst hv
        rcases hp.form with ⟨h, _⟩ | ⟨g, h, _, h2, _⟩
        · rw [h] at hy; cases hy
        · rw [h] at hy; injection hy with hy; rw [← hy]; exact h2
    · injection ha with ha
      subst ha
      rcases A with _ | b
      · simp [rowOf]
      · have := rows_apart (by decide : 4 ≠ 22) hB h1.2
        simpa [rowOf] using this
    · rcases A with _ | b
      · simp [rowOf]
      · have := map_apart h1.2 hM
        intro e; injection e with e; exact this e.symm

end Go.Proofs.YtnmmgalidkambaaGreatDoor

namespace Go.Proofs.YtnmmgalidkambaaGreatDoor
open Go.RowKit

/-- The slice value v reads as l, in a block of its own from lo on that is not mb. -/
def RowAt (w : World) (lo mb : Nat) (v : Value) (l : List Int) : Prop := ∃ A n c, v = .slice A n c ∧ Rd w A n l ∧ n ≤ 64 ∧ ∀ y, A = some y → lo ≤ y.block ∧ y.block < w.heap.size ∧ y.block ≠ mb
theorem RowAt.keep {w w' : World} {lo mb : Nat} {v : Value} {l : List Int} (h : RowAt w lo mb v l) (hb : Below w.heap.size w w') : RowAt w' lo mb v l := by
  obtain ⟨A, n, c, rfl, h1, h2, h3⟩ := h
  exact ⟨A, n, c, rfl, h1.keep hb, h2, fun y hy => ⟨(h3 y hy).1, Nat.lt_of_lt_of_le (h3 y hy).2.1 hb.size, (h3 y hy).2.2⟩⟩
theorem RowAt.other {w w' : World} {lo mb : Nat} {v : Value} {l : List Int} (h : RowAt w lo mb v l) (hg : w.grownBy w' (some mb)) : RowAt w' lo mb v l := by
  obtain ⟨A, n, c, rfl, h1, h2, h3⟩ := h
  exact ⟨A, n, c, rfl, h1.other hg (fun y hy => by have := (h3 y hy).2.2; simpa using this), h2, fun y hy => ⟨(h3 y hy).1, Nat.lt_of_lt_of_le (h3 y hy).2.1 hg.size, (h3 y hy).2.2⟩⟩
/-- Block mb is a map that has for each of the cells the row adj gives. -/
def OnMap (w : World) (lo mb : Nat) (cells : List Int) (adj : Int → List Int) : Prop :=
  lo ≤ mb ∧ ∃ (n : Nat) (f : Int → Value), n ≤ 144 ∧ MapI Tryz.prog 3 w mb n (.slice none 0 0) f ∧ ∀ x ∈ cells, RowAt w lo mb (f x) (adj x)
theorem OnMap.keep {w w' : World} {lo mb : Nat} {cells : List Int} {adj : Int → List Int} (h : OnMap w lo mb cells adj) (hb : Below w.heap.size w w') : OnMap w' lo mb cells adj := by
  obtain ⟨h0, n, f, h1, h2, h3⟩ := h
  exact ⟨h0, n, f, h1, h2.keep hb, fun x hx => (h3 x hx).keep hb⟩
theorem OnMap.lt {w : World} {lo mb : Nat} {cells : List Int} {adj : Int → List Int} (h : OnMap w lo mb cells adj) : mb < w.heap.size := by
  obtain ⟨_, n, f, _, h2, _⟩ := h; exact h2.lt
theorem wf_small {x : Int} (h : 0 ≤ x ∧ x ≤ 144) : (Lit.int .i64 x).wf = true := by
  have := Go.RowKit.wrap64_wf x
  rwa [show wrap64 x = x by unfold wrap64; omega] at this
theorem zero_ints : ∀ w, (zeroValue 22).run Tryz.prog w = .ok (.slice none 0 0) w := fun _ => by kernel_rfl
end Go.Proofs.YtnmmgalidkambaaGreatDoor

namespace Go.Proofs.YtnmmgalidkambaaGreatDoor

def visit (d : Int) : List Int → List Int × List Int → List Int × List Int
  | [], s => s
  | x :: t, (far, q) => if far.getD x.toNat 0 < 0 then visit d t (far.set x.toNat (d + 1), q ++ [x]) else visit d t (far, q)
def bfsStep (adj : Int → List Int) (s : List Int × List Int) (k : Nat) : List Int × List Int :=
  match s.2[k]? with
  | none => s
  | some c => visit (s.1.getD c.toNat 0) (adj c) s
def bfsTo (adj : Int → List Int) (N : Nat) (start : Int) : Nat → List Int × List Int
  | 0 => ((List.replicate N (-1)).set start.toNat 0, [start])
  | k + 1 => bfsStep adj (bfsTo adj N start k) k
theorem visit_len (d : Int) : ∀ (l : List Int) (s : List Int × List Int), (visit d l s).1.length = s.1.length
  | [], _ => rfl
  | x :: t, (far, q) => by
    rw [visit]
    split
    · rw [visit_len d t]; simp
    · rw [visit_len d t]
/-- What holds of far and queue. -/
structure BfsOk (N : Nat) (B : Int) (far q : List Int) : Prop where
  len : far.length = N
  range : ∀ x ∈ q, 0 ≤ x ∧ x < N
  lo : ∀ (i : Nat) (v : Int), far[i]? = some v → -1 ≤ v ∧ v ≤ B
  seen : ∀ x ∈ q, 0 ≤ far.getD x.toNat 0
  nodup : q.Nodup
theorem getD_set_same {far : List Int} {i : Nat} {v : Int} (h : i < far.length) : (far.set i v).getD i 0 = v := by
  simp [List.getD_eq_getElem?_getD, h]
theorem getD_set_ne {far : List Int} {i j : Nat} {v : Int} (h : i ≠ j) : (far.set i v).getD j 0 = far.getD j 0 := by
  simp [List.getD_eq_getElem?_getD, h]
theorem BfsOk.push {N : Nat} {B d x : Int} {far q : List Int} (h : BfsOk N B far q) (hx : 0 ≤ x ∧ x < N) (hd : 0 ≤ d + 1 ∧ d + 1 ≤ B) (hf : far.getD x.toNat 0 < 0) : BfsOk N B (far.set x.toNat (d + 1)) (q ++ [x]) where
  len := by simp [h.len]
  range := fun y hy => by
    rcases List.mem_append.1 hy with hy | hy
    · exact h.range y hy
    · simp at hy; subst hy; exact hx
  lo := fun i v hv => by
    rw [List.getElem?_set] at hv
    split at hv
    · split at hv
      · injection hv with hv; omega
      · cases hv
    · exact h.lo i v hv
  seen := fun y hy => by
    by_cases e : x.toNat = y.toNat
    · rw [← e, getD_set_same (by rw [h.len]; omega)]; exact hd.1
    · rw [getD_set_ne e]
      rcases List.mem_append.1 hy with hy | hy
      · exact h.seen y hy
      · simp at hy; subst hy; exact absurd rfl e
  nodup := by
    rw [List.nodup_append]
    refine ⟨h.nodup, by simp, fun y hy z hz e => ?_⟩
    simp at hz; subst hz; subst e
    have := h.seen _ hy; omega
theorem BfsOk.mono {N : Nat} {B B' : Int} {far q : List Int} (h : BfsOk N B far q) (hB : B ≤ B') : BfsOk N B' far q :=
  ⟨h.len, h.range, fun i v hv => by have := h.lo i v hv; omega, h.seen, h.nodup⟩
theorem visit_ok {N : Nat} {B d : Int} (hd : 0 ≤ d + 1 ∧ d + 1 ≤ B) : ∀ (l far q : List Int), (∀ x ∈ l, 0 ≤ x ∧ x < N) → BfsOk N B far q → BfsOk N B (visit d l (far, q)).1 (visit d l (far, q)).2
  | [], far, q, _, h => h
  | x :: t, far, q, hl, h => by
    rw [visit]
    split
    · rename_i hf
      exact visit_ok hd t _ _ (fun y hy => hl y (List.mem_cons_of_mem _ hy)) (h.push (hl x List.mem_cons_self) hd hf)
    · exact visit_ok hd t _ _ (fun y hy => hl y (List.mem_cons_of_mem _ hy)) h
theorem bfs_ok {adj : Int → List Int} {N : Nat} {start : Int} (hs : 0 ≤ start ∧ start < N) (ha : ∀ c : Int, 0 ≤ c ∧ c < N → ∀ x ∈ adj c, 0 ≤ x ∧ x < N) : ∀ k : Nat, BfsOk N k (bfsTo adj N start k).1 (bfsTo adj N start k).2
  | 0 => {
      len := by simp [bfsTo]
      range := fun x hx => by simp [bfsTo] at hx; subst hx; exact hs
      lo := fun i v hv => by
        simp only [bfsTo, List.getElem?_set, List.length_replicate] at hv
        split at hv
        · split at hv
          · injection hv with hv; omega
          · cases hv
        · rw [List.getElem?_replicate] at hv
          split at hv
          · injection hv with hv; omega
          · cases hv
      seen := fun x hx => by
        simp [bfsTo] at hx; subst hx
        rw [bfsTo, getD_set_same (by simp; omega)]; omega
      nodup := by simp [bfsTo] }
  | k + 1 => by
    have h := bfs_ok hs ha k
    rw [bfsTo, bfsStep]
    split
    · exact h.mono (by omega)
    · rename_i c hc
      have hm := List.mem_of_getElem? hc
      have hr := h.range c hm
      have h0 := h.seen c hm
      have hlt : c.toNat < (bfsTo adj N start k).1.length := by rw [h.len]; omega
      have h1 := h.lo c.toNat ((bfsTo adj N start k).1.getD c.toNat 0) (by rw [List.getD_eq_getElem?_getD, List.getElem?_eq_getElem hlt]; rfl)
      exact visit_ok ⟨by omega, by omega⟩ _ _ _ (ha c hr) (h.mono (by omega))
theorem nodup_sub : ∀ (l m : List Nat), l.Nodup → (∀ x ∈ l, x ∈ m) → l.length ≤ m.length
  | [], _, _, _ => by simp
  | x :: l, m, hn, h => by
    rw [List.nodup_cons] at hn
    have hx := h x List.mem_cons_self
    have := nodup_sub l (m.erase x) hn.2 (fun y hy => (List.mem_erase_of_ne (fun e => hn.1 (by rw [← e]; exact hy))).2 (h y (List.mem_cons_of_mem _ hy)))
    rw [List.length_erase_of_mem hx] at this
    have := List.length_pos_of_mem hx
    simp only [List.length_cons]; omega
theorem nodup_len {N : Nat} {q : List Int} (hn : q.Nodup) (hr : ∀ x ∈ q, 0 ≤ x ∧ x < N) : q.length ≤ N := by
  have h : (q.map Int.toNat).Nodup := by
    rw [List.Nodup, List.pairwise_map]
    exact hn.imp_of_mem fun {a b} ha hb hne => by have := hr a ha; have := hr b hb; omega
  have h2 : ∀ x ∈ q.map Int.toNat, x ∈ List.range N := fun x hx => by
    obtain ⟨y, hy, rfl⟩ := List.mem_map.1 hx
    have := hr y hy; simp; omega
  have := nodup_sub _ _ h h2
  simpa using this
theorem bfs_q_len {adj : Int → List Int} {N : Nat} {start : Int} (hs : 0 ≤ start ∧ start < N) (ha : ∀ c : Int, 0 ≤ c ∧ c < N → ∀ x ∈ adj c, 0 ≤ x ∧ x < N) (k : Nat) : (bfsTo adj N start k).2.length ≤ N :=
  nodup_len (bfs_ok hs ha k).nodup (bfs_ok hs ha k).range
/-- Behind the queue's end nothing turns. -/
theorem bfs_stays {adj : Int → List Int} {N : Nat} {start : Int} {k : Nat} (h : (bfsTo adj N start k).2.length ≤ k) : ∀ j, k ≤ j → bfsTo adj N start j = bfsTo adj N start k := by
  intro j hj
  induction j with
  | zero => obtain rfl : k = 0 := by omega
            rfl
  | succ j ih =>
    by_cases e : k = j + 1
    · rw [e]
    · have ih := ih (by omega)
      rw [bfsTo, ih, bfsStep, List.getElem?_eq_none (by omega)]
def farL (adj : Int → List Int) (N : Nat) (start : Int) : List Int := (bfsTo adj N start N).1
theorem far_of_end {adj : Int → List Int} {N : Nat} {start : Int} (hs : 0 ≤ start ∧ start < N) (ha : ∀ c : Int, 0 ≤ c ∧ c < N → ∀ x ∈ adj c, 0 ≤ x ∧ x < N) {k : Nat} (h : (bfsTo adj N start k).2.length ≤ k) : (bfsTo adj N start k).1 = farL adj N start := by
  rcases Nat.le_total k N with hk | hk
  · rw [farL, bfs_stays h N hk]
  · rw [farL, bfs_stays (bfs_q_len hs ha N) k hk]
/-! ### On more places -/
theorem visit_pad (d : Int) (M : Nat) : ∀ (l far q : List Int), (∀ x ∈ l, 0 ≤ x ∧ x < (far.length : Int)) → visit d l (far ++ List.replicate M (-1), q) = ((visit d l (far, q)).1 ++ List.replicate M (-1), (visit d l (far, q)).2)
  | [], _, _, _ => rfl
  | x :: t, far, q, h => by
    have hx := h x List.mem_cons_self
    have e : (far ++ List.replicate M (-1)).getD x.toNat 0 = far.getD x.toNat 0 := by
      rw [List.getD_eq_getElem?_getD, List.getD_eq_getElem?_getD, List.getElem?_append_left (by omega)]
    have ht := fun y hy => h y (List.mem_cons_of_mem x hy)
    rw [visit, visit, e]
    split
    · rw [List.set_append_left _ _ (by omega), visit_pad d M t _ _ (by simpa using ht)]
    · rw [visit_pad d M t _ _ ht]
theorem bfs_pad {adj : Int → List Int} {N M : Nat} {start : Int} (hs : 0 ≤ start ∧ start < N) (ha : ∀ c : Int, 0 ≤ c ∧ c < N → ∀ x ∈ adj c, 0 ≤ x ∧ x < N) : ∀ k : Nat, bfsTo adj (N + M) start k = ((bfsTo adj N start k).1 ++ List.replicate M (-1), (bfsTo adj N start k).2)
  | 0 => by
    simp only [bfsTo]
    rw [← List.replicate_append_replicate, List.set_append_left _ _ (by simp; omega)]
  | k + 1 => by
    have h := bfs_ok hs ha k
    rw [bfsTo, bfsTo, bfs_pad hs ha k, bfsStep, bfsStep]
    split
    · rename_i e; simp only at e; simp [e]
    · rename_i c e
      simp only at e
      simp only [e]
      have hr := h.range c (List.mem_of_getElem? e)
      rw [List.getD_eq_getElem?_getD, List.getElem?_append_left (by rw [h.len]; omega), ← List.getD_eq_getElem?_getD]
      exact visit_pad _ M _ _ _ (by rw [h.len]; exact ha c hr)
theorem far_pad {adj : Int → List Int} {N M : Nat} {start : Int} (hs : 0 ≤ start ∧ start < N) (ha : ∀ c : Int, 0 ≤ c ∧ c < N → ∀ x ∈ adj c, 0 ≤ x ∧ x < N) : farL adj (N + M) start = farL adj N start ++ List.replicate M (-1) := by
  rw [farL, bfs_pad hs ha, bfs_stays (bfs_q_len hs ha N) (N + M) (by omega)]; rfl

end Go.Proofs.YtnmmgalidkambaaGreatDoor

namespace Go.Proofs.YtnmmgalidkambaaGreatDoor

theorem visit_append (d : Int) : ∀ (l m : List Int) (s : List Int × List Int), visit d (l ++ m) s = visit d m (visit d l s)
  | [], _, _ => rfl
  | x :: t, m, (far, q) => by
    rw [List.cons_append, visit, visit]
    split <;> exact visit_append d t m _
theorem visit_one {d x : Int} {far q : List Int} : visit d [x] (far, q) = if far.getD x.toNat 0 < 0 then (far.set x.toNat (d + 1), q ++ [x]) else (far, q) := by
  rw [visit]; split <;> rfl
theorem visit_keeps {d : Int} {i : Nat} : ∀ (l : List Int) (far q : List Int), 0 ≤ far.getD i 0 → (visit d l (far, q)).1.getD i 0 = far.getD i 0
  | [], _, _, _ => rfl
  | x :: t, far, q, h => by
    rw [visit]
    split
    · rename_i hx
      have hne : x.toNat ≠ i := fun e => by rw [e] at hx; omega
      rw [visit_keeps t _ _ (by rw [getD_set_ne hne]; exact h), getD_set_ne hne]
    · exact visit_keeps t _ _ h
theorem visit_len_le {d : Int} : ∀ (l : List Int) (far q : List Int), q.length ≤ (visit d l (far, q)).2.length
  | [], _, _ => Nat.le_refl _
  | x :: t, far, q => by
    rw [visit]
    split
    · exact Nat.le_trans (by simp) (visit_len_le t _ _)
    · exact visit_len_le t _ _
theorem bfs_next {adj : Int → List Int} {N k : Nat} {start c : Int} (h : (bfsTo adj N start k).2[k]? = some c) : bfsTo adj N start (k + 1) = visit ((bfsTo adj N start k).1.getD c.toNat 0) (adj c) (bfsTo adj N start k) := by
  rw [bfsTo, bfsStep, h]
theorem BfsOk.at_ {N : Nat} {B : Int} {far q : List Int} (h : BfsOk N B far q) {i : Nat} (hi : i < N) : ∃ v, far[i]? = some v ∧ far.getD i 0 = v ∧ -1 ≤ v ∧ v ≤ B := by
  have hl : i < far.length := by rw [h.len]; exact hi
  refine ⟨far[i], List.getElem?_eq_getElem hl, by rw [List.getD_eq_getElem?_getD, List.getElem?_eq_getElem hl]; rfl, ?_⟩
  exact h.lo i _ (List.getElem?_eq_getElem hl)
theorem minus_set {N k : Nat} (h : k < N) : (List.replicate k (-1 : Int) ++ List.replicate (N - k) 0).set k (-1) = List.replicate (k + 1) (-1) ++ List.replicate (N - (k + 1)) 0 := by
  rw [List.set_append_right _ _ (by simp), List.length_replicate, Nat.sub_self]
  obtain ⟨m, hm⟩ : ∃ m, N - k = m + 1 := ⟨N - k - 1, by omega⟩
  rw [hm, List.replicate_succ, List.set_cons_zero, show N - (k + 1) = m by omega, show k + 1 = k + 1 from rfl, List.replicate_succ', List.append_assoc]
  rfl

theorem visit_cells {cells : List Int} {d : Int} : ∀ (l far q : List Int), (∀ x ∈ l, x ∈ cells) → (∀ x ∈ q, x ∈ cells) → ∀ x ∈ (visit d l (far, q)).2, x ∈ cells
  | [], _, _, _, h => h
  | y :: t, far, q, hl, h => by
    rw [visit]
    split
    · exact visit_cells t _ _ (fun z hz => hl z (List.mem_cons_of_mem _ hz)) (fun z hz => by
        rcases List.mem_append.1 hz with hz | hz
        · exact h z hz
        · simp at hz; subst hz; exact hl _ List.mem_cons_self)
    · exact visit_cells t _ _ (fun z hz => hl z (List.mem_cons_of_mem _ hz)) h
theorem bfs_cells {cells : List Int} {adj : Int → List Int} {N : Nat} {start : Int} (hs : start ∈ cells) (ha : ∀ x, ∀ y ∈ adj x, y ∈ cells) : ∀ k : Nat, ∀ x ∈ (bfsTo adj N start k).2, x ∈ cells
  | 0, x, hx => by simp [bfsTo] at hx; subst hx; exact hs
  | k + 1, x, hx => by
    rw [bfsTo, bfsStep] at hx
    split at hx
    · exact bfs_cells hs ha k x hx
    · exact visit_cells _ _ _ (ha _) (bfs_cells hs ha k) x hx

end Go.Proofs.YtnmmgalidkambaaGreatDoor

namespace Go.Proofs.YtnmmgalidkambaaGreatDoor
open Go.RowKit

theorem size_setCell' (w : World) (p : Addr) (v : Value) : (w.setCell p v).heap.size = w.heap.size := by simp
theorem cell_keep' {w w' : World} {b i : Nat} {v : Value} (h : w.cell? ⟨b, i, none⟩ = some v) (lt : b < w.heap.size) (hb : Below w.heap.size w w') : w'.cell? ⟨b, i, none⟩ = some v := cell_keep h lt hb
theorem range_of_own {E : TypeId} {w : World} {lo g n c : Nat} {xs : List Int} (h : OwnI E w lo (some ⟨g, 0, none⟩) n c xs) : w.rangeAt g 0 (xs.map (Value.int .i64)) := fun j v hv => by
  rw [List.getElem?_map] at hv
  cases hx : xs[j]? with
  | none => rw [hx] at hv; cases hv
  | some y => rw [hx] at hv; injection hv with hv; rw [← hv, Nat.zero_add]; exact h.cell hx
theorem there_of_own {E : TypeId} {w : World} {lo g n c : Nat} {xs : List Int} (h : OwnI E w lo (some ⟨g, 0, none⟩) n c xs) : w.there g 0 n := fun j hj => by
  have hl := h.len
  have hx : xs[j]? = some xs[j] := List.getElem?_eq_getElem (by omega)
  exact ⟨by rw [Nat.zero_add, h.cell hx]; rfl, h.frozen _⟩
theorem OwnI.setAll {E : TypeId} {lo g n c : Nat} : ∀ (ys : List Int) (o : Nat) {w : World} {xs : List Int}, OwnI E w lo (some ⟨g, 0, none⟩) n c xs → o + ys.length ≤ n →
    OwnI E (w.setCells g o (ys.map (Value.int .i64))) lo (some ⟨g, 0, none⟩) n c (xs.take o ++ ys ++ xs.drop (o + ys.length)) ∧ w.grownBy (w.setCells g o (ys.map (Value.int .i64))) (some g)
  | [], o, w, xs, h, _ => ⟨by simpa [World.setCells] using h, grown_refl _ _⟩
  | y :: ys, o, w, xs, h, ho => by
    have hl := h.len
    simp only [List.length_cons] at ho
    obtain ⟨h1, g1⟩ := h.stored o y
    obtain ⟨h2, g2⟩ := OwnI.setAll ys (o + 1) h1 (by omega)
    refine ⟨?_, grown_next g1 g2⟩
    have e : (xs.set o y).take (o + 1) ++ ys ++ (xs.set o y).drop (o + 1 + ys.length) = xs.take o ++ (y :: ys) ++ xs.drop (o + (ys.length + 1)) := by
      rw [List.take_add_one, List.getElem?_set_self (by omega), List.take_set_of_le (Nat.le_refl _), List.drop_set_of_lt (by omega)]
      simp [show o + 1 + ys.length = o + (ys.length + 1) by omega]
    rw [e] at h2
    exact h2
theorem full_block {E : TypeId} {w : World} {lo g n : Nat} {xs : List Int} (h : OwnI E w lo (some ⟨g, 0, none⟩) n n xs) (_hn : True := trivial) : w.heap[g]? = some (.cells (xs.map (Value.int .i64)).toArray E (0, 0)) := by
  obtain ⟨cur, hg, _, _, _, hcs, ht⟩ := ownI_block h
  rw [hg, ← ht, List.take_of_length_le (by rw [Array.length_toList]; omega)]
end Go.Proofs.YtnmmgalidkambaaGreatDoor
