/-
  Plain functions and facts on numbers and lists: what leapers and boards are. No program is named here.
  Plain functions and facts: the cells of a board in order.
-/

namespace Go.Proofs.YtnmmgalidkambaaGreatDoor

def sizeB (n : Int) : Bool := decide (1 ≤ n ∧ n ≤ 8)
def leaperB (a b : Int) : Bool := decide (0 ≤ a ∧ a ≤ b ∧ 1 ≤ b ∧ b ≤ 5)
def inB (n lo hi : Int) : Bool := decide (lo ≤ n ∧ n ≤ hi)
/-- Strictly increasing, all above lo and below hi. -/
def risesB (lo hi : Int) : List Int → Bool
  | [] => true
  | h :: t => decide (lo < h ∧ h < hi) && risesB h hi t
def goodB (W H : Int) (hs : List Int) : Bool := sizeB W && sizeB H && decide ((hs.length : Int) < W * H) && risesB (-1) (W * H) hs

theorem sizeB_iff {n : Int} : sizeB n = true ↔ 1 ≤ n ∧ n ≤ 8 := by simp [sizeB]
theorem leaperB_iff {a b : Int} : leaperB a b = true ↔ 0 ≤ a ∧ a ≤ b ∧ 1 ≤ b ∧ b ≤ 5 := by simp [leaperB]
theorem inB_iff {n lo hi : Int} : inB n lo hi = true ↔ lo ≤ n ∧ n ≤ hi := by simp [inB]
theorem inB_false {n lo hi : Int} : inB n lo hi = false ↔ n < lo ∨ hi < n := by simp [inB]; omega
theorem sizeB_false {n : Int} : sizeB n = false ↔ n < 1 ∨ 8 < n := by simp [sizeB]; omega
theorem goodB_iff {W H : Int} {hs : List Int} : goodB W H hs = true ↔ (1 ≤ W ∧ W ≤ 8) ∧ (1 ≤ H ∧ H ≤ 8) ∧ (hs.length : Int) < W * H ∧ risesB (-1) (W * H) hs = true := by
  simp [goodB, sizeB, and_assoc]

theorem risesB_mono {lo lo' hi : Int} {hs : List Int} (h : risesB lo hi hs = true) (hl : lo' ≤ lo) : risesB lo' hi hs = true := by
  cases hs with
  | nil => rfl
  | cons a t => simp [risesB] at h ⊢; exact ⟨by omega, h.2⟩
theorem risesB_mem {lo hi : Int} {hs : List Int} (h : risesB lo hi hs = true) : ∀ x ∈ hs, lo < x ∧ x < hi := by
  induction hs generalizing lo with
  | nil => intro x hx; cases hx
  | cons a t ih =>
    simp [risesB] at h
    intro x hx
    rcases List.mem_cons.1 hx with rfl | hx
    · exact h.1
    · have := ih h.2 x hx; omega
theorem risesB_pairwise {lo hi : Int} {hs : List Int} (h : risesB lo hi hs = true) : hs.Pairwise (· < ·) := by
  induction hs generalizing lo with
  | nil => exact List.Pairwise.nil
  | cons a t ih =>
    simp [risesB] at h
    exact List.Pairwise.cons (fun x hx => (risesB_mem h.2 x hx).1) (ih h.2)
theorem risesB_of {lo hi : Int} {hs : List Int} (hp : hs.Pairwise (· < ·)) (hm : ∀ x ∈ hs, lo < x ∧ x < hi) : risesB lo hi hs = true := by
  induction hs generalizing lo with
  | nil => rfl
  | cons a t ih =>
    rw [List.pairwise_cons] at hp
    simp only [risesB, Bool.and_eq_true, decide_eq_true_eq]
    exact ⟨hm a (List.mem_cons_self), ih hp.2 (fun x hx => ⟨hp.1 x hx, (hm x (List.mem_cons_of_mem _ hx)).2⟩)⟩
theorem drop_cons_of {xs : List Int} {k : Nat} {x : Int} (hx : xs[k]? = some x) : xs.drop k = x :: xs.drop (k + 1) := by
  have hl : k < xs.length := by
    rcases Nat.lt_or_ge k xs.length with h | h
    · exact h
    · rw [List.getElem?_eq_none h] at hx; cases hx
  rw [List.getElem?_eq_getElem hl] at hx
  rw [List.drop_eq_getElem_cons hl]; injection hx with hx; rw [hx]

/-- Both sizes are small: so is the number of cells. -/
theorem cells_le {W H : Int} (hW : 1 ≤ W ∧ W ≤ 8) (hH : 1 ≤ H ∧ H ≤ 8) : 1 ≤ W * H ∧ W * H ≤ 64 := by
  obtain ⟨h1, h2⟩ := hW
  obtain ⟨h3, h4⟩ := hH
  constructor
  · have := Int.mul_le_mul h1 h3 (by omega) (by omega); omega
  · have := Int.mul_le_mul h2 h4 (by omega) (by omega); omega

/-- The model's way: all in range, and each greater than the one before. -/
def inAll (lo hi : Int) (xs : List Int) : Bool := xs.all fun x => inB x lo hi
theorem inAll_iff {lo hi : Int} {xs : List Int} : inAll lo hi xs = true ↔ ∀ x ∈ xs, lo ≤ x ∧ x ≤ hi := by simp [inAll, inB]
theorem inAll_drop {lo hi x : Int} {xs : List Int} {k : Nat} (hx : xs[k]? = some x) : inAll lo hi (xs.drop k) = (inB x lo hi && inAll lo hi (xs.drop (k + 1))) := by
  rw [drop_cons_of hx]; rfl
theorem pairwise_of_steps {xs : List Int} (h : ∀ k x y, xs[k]? = some x → xs[k + 1]? = some y → x < y) : xs.Pairwise (· < ·) := by
  induction xs with
  | nil => exact List.Pairwise.nil
  | cons a t ih =>
    have ht : t.Pairwise (· < ·) := ih fun k x y hx hy => h (k + 1) x y hx hy
    cases t with
    | nil => exact List.pairwise_singleton _ _
    | cons b t =>
      have hab : a < b := h 0 a b rfl rfl
      refine List.Pairwise.cons (fun x hx => ?_) ht
      rcases List.mem_cons.1 hx with rfl | hx
      · exact hab
      · exact Int.lt_trans hab ((List.pairwise_cons.1 ht).1 x hx)
theorem steps_of_pairwise {xs : List Int} (h : xs.Pairwise (· < ·)) {k : Nat} {x y : Int} (hx : xs[k]? = some x) (hy : xs[k + 1]? = some y) : x < y := by
  obtain ⟨h1, rfl⟩ := List.getElem?_eq_some_iff.1 hx
  obtain ⟨h2, rfl⟩ := List.getElem?_eq_some_iff.1 hy
  exact (List.pairwise_iff_getElem.1 h) k (k + 1) h1 h2 (by omega)
/-- After the range, the steps decide. -/
theorem rises_in {hi : Int} {xs : List Int} (h : risesB (-1) hi xs = true) : inAll 0 (hi - 1) xs = true :=
  inAll_iff.2 fun x hx => by have := risesB_mem h x hx; omega
theorem rises_false {hi x y : Int} {xs : List Int} {k : Nat} (hx : xs[k]? = some x) (hy : xs[k + 1]? = some y) (hxy : y ≤ x) : risesB (-1) hi xs = false := by
  rw [Bool.eq_false_iff]
  intro h
  have := steps_of_pairwise (risesB_pairwise h) hx hy
  omega
theorem rises_of_in {hi : Int} {xs : List Int} (h : inAll 0 (hi - 1) xs = true) (hs : ∀ k x y, k + 1 < xs.length → xs[k]? = some x → xs[k + 1]? = some y → x < y) : risesB (-1) hi xs = true := by
  refine risesB_of (pairwise_of_steps fun k x y hx hy => hs k x y ?_ hx hy) (fun x hx => by have := inAll_iff.1 h x hx; omega)
  exact (List.getElem?_eq_some_iff.1 hy).1
theorem rises_drop {lo hi x : Int} {xs : List Int} {k : Nat} (hx : xs[k]? = some x) : risesB lo hi (xs.drop k) = (decide (lo < x ∧ x < hi) && risesB x hi (xs.drop (k + 1))) := by
  rw [drop_cons_of hx]; rfl

/-! ### Which cells are there -/
def hasB (W H : Int) (hs : List Int) (c : Int) : Bool := decide (0 ≤ c ∧ c < W * H) && !hs.contains c
theorem hasB_iff {W H c : Int} {hs : List Int} : hasB W H hs c = true ↔ (0 ≤ c ∧ c < W * H) ∧ c ∉ hs := by simp [hasB]
theorem has_step {xs : List Int} {k : Nat} {x c : Int} (hx : xs[k]? = some x) (hne : x ≠ c) : (xs.drop k).contains c = (xs.drop (k + 1)).contains c := by
  rw [drop_cons_of hx, List.contains_cons]
  have : (c == x) = false := by simpa using fun h => hne h.symm
  rw [this, Bool.false_or]
theorem has_hit {xs : List Int} {k : Nat} {c : Int} (hx : xs[k]? = some c) : (xs.drop k).contains c = true := by
  rw [drop_cons_of hx, List.contains_cons]; simp

end Go.Proofs.YtnmmgalidkambaaGreatDoor

namespace Go.Proofs.YtnmmgalidkambaaGreatDoor

def upTo (n : Nat) : List Int := (List.range n).map fun i : Nat => (i : Int)
theorem upTo_succ (n : Nat) : upTo (n + 1) = upTo n ++ [(n : Int)] := by simp [upTo, List.range_succ]
theorem upTo_mem {n : Nat} {x : Int} : x ∈ upTo n ↔ 0 ≤ x ∧ x < n := by
  simp only [upTo, List.mem_map, List.mem_range]
  constructor
  · rintro ⟨i, hi, rfl⟩; omega
  · intro h; exact ⟨x.toNat, by omega, by omega⟩
theorem upTo_pairwise (n : Nat) : (upTo n).Pairwise (· < ·) := by
  rw [upTo, List.pairwise_map]
  exact List.pairwise_lt_range.imp (fun h => by omega)
/-- The cells that are there below k, increasing. -/
def cellsTo (W H : Int) (hs : List Int) (k : Nat) : List Int := (upTo k).filter (hasB W H hs)
def cellsL (W H : Int) (hs : List Int) : List Int := cellsTo W H hs (W * H).toNat
theorem cellsTo_yes {W H : Int} {hs : List Int} {k : Nat} (h : hasB W H hs k = true) : cellsTo W H hs (k + 1) = cellsTo W H hs k ++ [(k : Int)] := by
  rw [cellsTo, upTo_succ, List.filter_append, List.filter_cons, if_pos h]; rfl
theorem cellsTo_no {W H : Int} {hs : List Int} {k : Nat} (h : hasB W H hs k = false) : cellsTo W H hs (k + 1) = cellsTo W H hs k := by
  rw [cellsTo, upTo_succ, List.filter_append, List.filter_cons, if_neg (by simp [h])]; simp [cellsTo]
theorem cellsTo_len {W H : Int} {hs : List Int} (k : Nat) : (cellsTo W H hs k).length ≤ k := by
  have := List.length_filter_le (hasB W H hs) (upTo k)
  simpa [cellsTo, upTo] using this
theorem cellsL_mem {W H x : Int} {hs : List Int} : x ∈ cellsL W H hs ↔ hasB W H hs x = true := by
  rw [cellsL, cellsTo, List.mem_filter, upTo_mem]
  constructor
  · exact fun h => h.2
  · intro h; have := hasB_iff.1 h; exact ⟨by omega, h⟩
theorem cellsL_pairwise (W H : Int) (hs : List Int) : (cellsL W H hs).Pairwise (· < ·) := (upTo_pairwise _).filter _


theorem filter_not_mem_len : ∀ (hs l : List Int), hs.Pairwise (· < ·) → l.Nodup → (∀ x ∈ hs, x ∈ l) → (l.filter fun x => !hs.contains x).length + hs.length = l.length
  | [], l, _, _, _ => by simp
  | h :: hs, l, hp, hd, hm => by
    rw [List.pairwise_cons] at hp
    have ih := filter_not_mem_len hs l hp.2 hd (fun x hx => hm x (List.mem_cons_of_mem _ hx))
    have hh : h ∉ hs := fun hx => absurd (hp.1 h hx) (by omega)
    have hl : h ∈ l.filter fun x => !hs.contains x := by
      rw [List.mem_filter]; exact ⟨hm h (List.mem_cons_self), by simpa using hh⟩
    have e : (l.filter fun x => !(h :: hs).contains x) = (l.filter fun x => !hs.contains x).filter fun x => !(x == h) := by
      rw [List.filter_filter]
      apply List.filter_congr
      intro x _
      rw [List.contains_cons, Bool.not_or]
    have hd2 : (l.filter fun x => !hs.contains x).Nodup := hd.filter _
    have e2 : ((l.filter fun x => !hs.contains x).filter fun x => !(x == h)) = (l.filter fun x => !hs.contains x).erase h := by
      rw [hd2.erase_eq_filter]; rfl
    rw [e, e2, List.length_erase_of_mem hl]
    have : 0 < (l.filter fun x => !hs.contains x).length := List.length_pos_of_mem hl
    simp only [List.length_cons]
    omega
theorem cellsL_len {W H : Int} {hs : List Int} (hg : goodB W H hs = true) : ((cellsL W H hs).length : Int) = W * H - hs.length := by
  obtain ⟨hW, hH, hlen, hri⟩ := goodB_iff.1 hg
  have hN := cells_le hW hH
  have e : cellsL W H hs = (upTo (W * H).toNat).filter fun x => !hs.contains x := by
    rw [cellsL, cellsTo]
    apply List.filter_congr
    intro x hx
    have := upTo_mem.1 hx
    simp [hasB]; omega
  have h := filter_not_mem_len hs (upTo (W * H).toNat) (risesB_pairwise hri) ((upTo_pairwise _).imp (fun h => by omega)) (fun x hx => by
    have := risesB_mem hri x hx
    exact upTo_mem.2 ⟨by omega, by omega⟩)
  have hl : (upTo (W * H).toNat).length = (W * H).toNat := by simp [upTo]
  rw [e]; omega

end Go.Proofs.YtnmmgalidkambaaGreatDoor
