/-
  Pure: numbers tell at most one walk (for WalkOfNumbers).
-/
import Derived.Test.YtmghjohpmlhdlaaK6
import Derived.Lib.Slices
namespace Go.Proofs.Ytmghjohpmlhdlaa
open Go.RowKit

def posN (l : List Int) : Nat := (l.filter fun x => decide (0 < x)).length
theorem posN_cons (x : Int) (l : List Int) : posN (x :: l) = (if 0 < x then 1 else 0) + posN l := by
  unfold posN
  by_cases h : 0 < x <;> simp [h]; omega
theorem posN_set : ∀ (l : List Int) (c : Nat) (y v : Int), l[c]? = some y → posN (l.set c v) + (if 0 < y then 1 else 0) = posN l + (if 0 < v then 1 else 0)
  | [], _, _, _, h => by simp at h
  | x :: t, 0, y, v, h => by
    have : x = y := by simpa using h
    subst this
    rw [List.set_cons_zero, posN_cons, posN_cons]; omega
  | x :: t, c + 1, y, v, h => by
    have := posN_set t c y v (by simpa using h)
    rw [List.set_cons_succ, posN_cons, posN_cons]; omega
theorem posN_snoc (l : List Int) (x : Int) : posN (l ++ [x]) = posN l + if 0 < x then 1 else 0 := by
  unfold posN
  by_cases h : 0 < x <;> simp [List.filter_append, h]
theorem posN_le (l : List Int) : posN l ≤ l.length := List.length_filter_le _ _
/-- Cells of a list without repetition whose numbers are positive are no more than the positive numbers. -/
theorem pos_bound : ∀ (p l : List Int), p.Nodup → (∀ x ∈ p, 0 ≤ x ∧ ∃ y, l[x.toNat]? = some y ∧ 0 < y) → p.length ≤ posN l
  | [], _, _, _ => Nat.zero_le _
  | x :: t, l, hn, h => by
    obtain ⟨hx0, y, hy, hy0⟩ := h x List.mem_cons_self
    rw [List.nodup_cons] at hn
    have h1 := posN_set l x.toNat y 0 hy
    rw [if_pos hy0] at h1
    have h2 := pos_bound t (l.set x.toNat 0) hn.2 (fun z hz => by
      obtain ⟨hz0, u, hu, hu0⟩ := h z (List.mem_cons_of_mem _ hz)
      refine ⟨hz0, u, ?_, hu0⟩
      have hne : x.toNat ≠ z.toNat := by
        intro e
        have : x = z := by omega
        exact hn.1 (this ▸ hz)
      rw [List.getElem?_set_ne hne]; exact hu)
    simp at h1
    rw [List.length_cons]; omega

/-- A list of cells has these numbers. -/
structure Tells (n : Nat) (l p : List Int) : Prop where
  nodup : p.Nodup
  rng : ∀ x ∈ p, 0 ≤ x ∧ x < (n : Int)
  len : l.length = n
  num : ∀ (i : Nat) (x : Int), p[i]? = some x → l[x.toNat]? = some ((i : Int) + 1)
  zero : ∀ c : Nat, c < n → (c : Int) ∉ p → l[c]? = some 0
theorem Tells.le {n : Nat} {l p : List Int} (h : Tells n l p) : p.length ≤ n := by
  have := pos_bound p (List.replicate n 1) h.nodup (fun x hx => by
    have := h.rng x hx
    exact ⟨this.1, 1, by rw [List.getElem?_replicate, if_pos (by omega)], by decide⟩)
  have h2 := posN_le (List.replicate n (1 : Int))
  rw [List.length_replicate] at h2; omega
/-- Each number is 0, or tells one cell. -/
theorem Tells.at_ {n c : Nat} {l p : List Int} (h : Tells n l p) (hc : c < n) : l[c]? = some 0 ∨ ∃ i : Nat, p[i]? = some (c : Int) ∧ l[c]? = some ((i : Int) + 1) := by
  by_cases hm : (c : Int) ∈ p
  · obtain ⟨i, hi⟩ := List.mem_iff_getElem?.1 hm
    exact .inr ⟨i, hi, by have := h.num i _ hi; simpa using this⟩
  · exact .inl (h.zero c hc hm)
theorem Tells.uniq {n : Nat} {l p q : List Int} (h : Tells n l p) (k : Tells n l q) : p = q := by
  have key : ∀ {p q : List Int}, Tells n l p → Tells n l q → ∀ (i : Nat) (x : Int), p[i]? = some x → q[i]? = some x := by
    intro p q h k i x hx
    have hm := h.rng x (List.mem_of_getElem? hx)
    have hn := h.num i x hx
    have hx2 : x = ((x.toNat : Nat) : Int) := by omega
    rcases k.at_ (c := x.toNat) (by omega) with h0 | ⟨j, hj, hl⟩
    · rw [hn] at h0; injection h0 with h0; omega
    · rw [hn] at hl; injection hl with hl
      have : i = j := by omega
      rw [this, hj, ← hx2]
  apply List.ext_getElem?
  intro i
  cases hp : p[i]? with
  | some x => exact (key h k i x hp).symm
  | none =>
    cases hq : q[i]? with
    | none => rfl
    | some x => rw [key k h i x hq] at hp; cases hp
theorem numL_at : ∀ (p : List Int) (i : Nat) (L : List Int), p.Nodup → (∀ x ∈ p, 0 ≤ x ∧ x < (L.length : Int)) →
    (∀ (j : Nat) (x : Int), p[j]? = some x → (numL i p L)[x.toNat]? = some ((i : Int) + (j : Int) + 1)) ∧ (∀ c : Nat, (c : Int) ∉ p → (numL i p L)[c]? = L[c]?)
  | [], _, _, _, _ => ⟨fun j x h => by simp at h, fun _ _ => rfl⟩
  | x :: t, i, L, hn, hr => by
    rw [List.nodup_cons] at hn
    have hx := hr x List.mem_cons_self
    obtain ⟨h1, h2⟩ := numL_at t (i + 1) (L.set x.toNat ((i : Int) + 1)) hn.2 (fun y hy => by rw [List.length_set]; exact hr y (List.mem_cons_of_mem _ hy))
    constructor
    · intro j y hy
      cases j with
      | zero =>
        have : x = y := by simpa using hy
        subst this
        rw [numL, h2 x.toNat (by rw [show ((x.toNat : Nat) : Int) = x by omega]; exact hn.1), List.getElem?_set_self (by omega)]
        simp
      | succ j =>
        rw [numL, h1 j y (by simpa using hy)]
        congr 1; omega
    · intro c hc
      rw [numL, h2 c (fun h => hc (List.mem_cons_of_mem _ h)), List.getElem?_set_ne]
      intro e
      exact hc (by rw [← e, show ((x.toNat : Nat) : Int) = x by omega]; exact List.mem_cons_self)
theorem tells_of {n : Nat} {l p : List Int} (hn : p.Nodup) (hr : ∀ x ∈ p, 0 ≤ x ∧ x < (n : Int)) (h : numL 0 p (List.replicate n 0) = l) : Tells n l p := by
  obtain ⟨h1, h2⟩ := numL_at p 0 (List.replicate n 0) hn (by rw [List.length_replicate]; exact hr)
  rw [h] at h1 h2
  refine ⟨hn, hr, by rw [← h, numL_len, List.length_replicate], fun i x hx => by rw [h1 i x hx]; simp, fun c hc hm => ?_⟩
  rw [h2 c hm, List.getElem?_replicate, if_pos hc]
theorem Tells.numL {n : Nat} {l p : List Int} (h : Tells n l p) : numL 0 p (List.replicate n 0) = l := by
  obtain ⟨h1, h2⟩ := numL_at p 0 (List.replicate n 0) h.nodup (by rw [List.length_replicate]; exact h.rng)
  have hl : (Go.Proofs.Ytmghjohpmlhdlaa.numL 0 p (List.replicate n 0)).length = n := by rw [numL_len, List.length_replicate]
  apply List.ext_getElem?
  intro c
  by_cases hc : c < n
  · rcases h.at_ hc with h0 | ⟨i, hi, hv⟩
    · by_cases hm : (c : Int) ∈ p
      · obtain ⟨i, hi⟩ := List.mem_iff_getElem?.1 hm
        have := h.num i _ hi
        simp only [Int.toNat_natCast] at this
        rw [h0] at this; injection this with this; omega
      · rw [h2 c hm, h0, List.getElem?_replicate, if_pos hc]
    · have := h1 i _ hi
      simp only [Int.toNat_natCast] at this
      rw [this, hv]; simp
  · rw [List.getElem?_eq_none (by omega), List.getElem?_eq_none (by have := h.len; omega)]
theorem posN_zeros (n : Nat) : posN (List.replicate n (0 : Int)) = 0 := by
  induction n with
  | zero => rfl
  | succ n ih => rw [List.replicate_succ, posN_cons, ih]; simp
theorem posN_num : ∀ (p : List Int) (i : Nat) (L : List Int), p.Nodup → (∀ x ∈ p, 0 ≤ x ∧ L[x.toNat]? = some 0) → posN (numL i p L) = posN L + p.length
  | [], _, _, _, _ => rfl
  | x :: t, i, L, hn, h => by
    rw [List.nodup_cons] at hn
    have hx := h x List.mem_cons_self
    have h1 := posN_set L x.toNat 0 ((i : Int) + 1) hx.2
    rw [if_neg (by omega), if_pos (by omega)] at h1
    rw [numL, posN_num t (i + 1) _ hn.2 (fun y hy => ⟨(h y (List.mem_cons_of_mem _ hy)).1, by
      have hne : x.toNat ≠ y.toNat := by
        intro e
        have h2 := (h y (List.mem_cons_of_mem _ hy)).1
        have : x = y := by omega
        exact hn.1 (this ▸ hy)
      rw [List.getElem?_set_ne hne]; exact (h y (List.mem_cons_of_mem _ hy)).2⟩), List.length_cons]
    omega
theorem Tells.pos {n : Nat} {l p : List Int} (h : Tells n l p) : posN l = p.length := by
  have := posN_num p 0 (List.replicate n 0) h.nodup (fun x hx => by
    have := h.rng x hx
    exact ⟨this.1, by rw [List.getElem?_replicate, if_pos (by omega)]⟩)
  rw [h.numL, posN_zeros] at this; omega
theorem Tells.bd {n : Nat} {l p : List Int} (h : Tells n l p) : ∀ x ∈ l, 0 ≤ x ∧ x ≤ (posN l : Int) := by
  intro x hx
  obtain ⟨c, hc⟩ := List.mem_iff_getElem?.1 hx
  have hcn : c < n := by rw [← h.len]; exact (List.getElem?_eq_some_iff.1 hc).1
  rcases h.at_ hcn with h0 | ⟨i, hi, hv⟩
  · rw [hc] at h0; injection h0 with h0; omega
  · rw [hc] at hv; injection hv with hv
    have : i < p.length := (List.getElem?_eq_some_iff.1 hi).1
    rw [h.pos]; omega

/-! ### the program's way: the first index of each number -/
def idxs (l : List Int) (k : Nat) : List Int := (List.range k).map fun i : Nat => Lib.idxOf l ((i : Int) + 1)
theorem idxs_succ (l : List Int) (k : Nat) : idxs l (k + 1) = idxs l k ++ [Lib.idxOf l ((k : Int) + 1)] := by simp [idxs, List.range_succ]
theorem idxs_len (l : List Int) (k : Nat) : (idxs l k).length = k := by simp [idxs]
theorem Tells.idx {n i : Nat} {l p : List Int} {x : Int} (h : Tells n l p) (hx : p[i]? = some x) : Lib.idxOf l ((i : Int) + 1) = x := by
  have hr := h.rng x (List.mem_of_getElem? hx)
  have hn := h.num i x hx
  have := Lib.idxOf_hit l n x.toNat ((i : Int) + 1) (by omega) (by rw [h.len]; exact Nat.le_refl _) (by rw [List.getD_eq_getElem?_getD, hn]; rfl) (fun j hj e => by
    rcases h.at_ (c := j) (by omega) with h0 | ⟨i', hi, hv⟩
    · rw [List.getD_eq_getElem?_getD, h0] at e; simp at e; omega
    · rw [List.getD_eq_getElem?_getD, hv] at e
      simp at e
      have : i' = i := by omega
      rw [this, hx] at hi; injection hi with hi; omega)
  rw [List.take_of_length_le (by rw [h.len]; exact Nat.le_refl _)] at this
  rw [this]; omega
theorem Tells.miss {n i : Nat} {l p : List Int} (h : Tells n l p) (hi : p.length ≤ i) : Lib.idxOf l ((i : Int) + 1) = -1 := by
  have := Lib.idxOf_miss l n ((i : Int) + 1) (fun j hj e => by
    rcases h.at_ hj with h0 | ⟨i', hi', hv⟩
    · rw [List.getD_eq_getElem?_getD, h0] at e; simp at e; omega
    · rw [List.getD_eq_getElem?_getD, hv] at e
      simp at e
      have : i' < p.length := (List.getElem?_eq_some_iff.1 hi').1
      omega)
  rw [List.take_of_length_le (by rw [h.len]; exact Nat.le_refl _)] at this
  exact this
theorem Tells.idxs {n k : Nat} {l p : List Int} (h : Tells n l p) (h1 : ∀ i : Nat, i < k → 0 ≤ Lib.idxOf l ((i : Int) + 1)) (h2 : k = n ∨ Lib.idxOf l ((k : Int) + 1) < 0) : Go.Proofs.Ytmghjohpmlhdlaa.idxs l k = p := by
  have hle := h.le
  have hk1 : k ≤ p.length := by
    rcases Nat.lt_or_ge p.length k with hlt | hge
    · have := h1 p.length hlt
      rw [h.miss (Nat.le_refl _)] at this; omega
    · exact hge
  have hk2 : k = p.length := by
    rcases h2 with h2 | h2
    · omega
    · rcases Nat.lt_or_ge k p.length with hlt | hge
      · obtain ⟨x, hx⟩ : ∃ x, p[k]? = some x := ⟨_, List.getElem?_eq_getElem hlt⟩
        rw [h.idx hx] at h2
        have := h.rng x (List.mem_of_getElem? hx); omega
      · omega
  apply List.ext_getElem?
  intro i
  by_cases hi : i < k
  · obtain ⟨x, hx⟩ : ∃ x, p[i]? = some x := ⟨_, List.getElem?_eq_getElem (by omega)⟩
    rw [hx, Go.Proofs.Ytmghjohpmlhdlaa.idxs, List.getElem?_map, List.getElem?_range hi]
    simp [h.idx hx]
  · rw [List.getElem?_eq_none (by rw [idxs_len]; omega), List.getElem?_eq_none (by omega)]

/-! ### the model's way: each cell is written at its number's place -/
def wrL : Nat → List Int → List Int → List Int
  | _, [], P => P
  | c, x :: t, P => wrL (c + 1) t (if 0 < x then P.set (x - 1).toNat (c : Int) else P)
theorem wrL_snoc : ∀ (l : List Int) (c : Nat) (P : List Int) (x : Int), wrL c (l ++ [x]) P = if 0 < x then (wrL c l P).set (x - 1).toNat ((c + l.length : Nat) : Int) else wrL c l P
  | [], c, P, x => by simp [wrL]
  | y :: t, c, P, x => by
    rw [List.cons_append, wrL, wrL, wrL_snoc t, List.length_cons, show c + 1 + t.length = c + (t.length + 1) by omega]
theorem wrL_len : ∀ (l : List Int) (c : Nat) (P : List Int), (wrL c l P).length = P.length
  | [], _, _ => rfl
  | x :: t, c, P => by rw [wrL, wrL_len t]; split <;> simp
theorem wrL_rng {n : Nat} : ∀ (l : List Int) (c : Nat) (P : List Int), c + l.length ≤ n → (∀ y ∈ P, 0 ≤ y ∧ y < (n : Int)) → ∀ y ∈ wrL c l P, 0 ≤ y ∧ y < (n : Int)
  | [], _, _, _, h, y, hy => h y hy
  | x :: t, c, P, hc, h, y, hy => by
    rw [List.length_cons] at hc
    rw [wrL] at hy
    refine wrL_rng t (c + 1) _ (by omega) (fun z hz => ?_) y hy
    split at hz
    · rcases List.mem_or_eq_of_mem_set hz with h1 | h1
      · exact h z h1
      · omega
    · exact h z hz
theorem wr_miss (i : Nat) : ∀ (l : List Int) (c : Nat) (P : List Int), (∀ x ∈ l, x ≠ (i : Int) + 1) → (wrL c l P)[i]? = P[i]?
  | [], _, _, _ => rfl
  | x :: t, c, P, h => by
    have hx := h x List.mem_cons_self
    rw [wrL, wr_miss i t _ _ (fun y hy => h y (List.mem_cons_of_mem _ hy))]
    split
    · rw [List.getElem?_set_ne (by omega)]
    · rfl
theorem wr_hit (i : Nat) : ∀ (l : List Int) (c : Nat) (P : List Int) (j : Nat), i < P.length → l[j]? = some ((i : Int) + 1) → (∀ j', j < j' → l[j']? ≠ some ((i : Int) + 1)) → (wrL c l P)[i]? = some ((c + j : Nat) : Int)
  | [], _, _, _, _, h, _ => by simp at h
  | x :: t, c, P, 0, hP, h, hn => by
    have hx : x = (i : Int) + 1 := by simpa using h
    rw [wrL, wr_miss i t _ _ (fun y hy e => by
      obtain ⟨j, hj⟩ := List.mem_iff_getElem?.1 hy
      exact hn (j + 1) (by omega) (by rw [List.getElem?_cons_succ, hj, e]))]
    rw [if_pos (by omega), show (x - 1).toNat = i by omega, List.getElem?_set_self hP]; rfl
  | x :: t, c, P, j + 1, hP, h, hn => by
    rw [wrL, wr_hit i t (c + 1) _ j (by split <;> simp [hP]) (by simpa using h) (fun j' hj' => by have := hn (j' + 1) (by omega); simpa using this)]
    congr 2; omega
theorem Tells.wr {n : Nat} {l p : List Int} (h : Tells n l p) : wrL 0 l (List.replicate (posN l) 0) = p := by
  apply List.ext_getElem?
  intro i
  by_cases hi : i < p.length
  · obtain ⟨x, hx⟩ : ∃ x, p[i]? = some x := ⟨_, List.getElem?_eq_getElem hi⟩
    have hr := h.rng x (List.mem_of_getElem? hx)
    rw [wr_hit i l 0 _ x.toNat (by rw [List.length_replicate, h.pos]; exact hi) (h.num i x hx) (fun j' hj' e => by
      have hjn : j' < n := by rw [← h.len]; exact (List.getElem?_eq_some_iff.1 e).1
      rcases h.at_ hjn with h0 | ⟨i', hi', hv⟩
      · rw [h0] at e; injection e with e; omega
      · rw [hv] at e; injection e with e
        have : i' = i := by omega
        rw [this, hx] at hi'; injection hi' with hi'; omega), hx]
    congr 1; omega
  · rw [List.getElem?_eq_none (by rw [wrL_len, List.length_replicate, h.pos]; omega), List.getElem?_eq_none (by omega)]
/-- What the model has checked is enough. -/
theorem tells_wr {n : Nat} {l q : List Int} (hl : l.length = n) (hn : q.Nodup) (hq : q.length = posN l) (h0 : ∀ x ∈ l, 0 ≤ x) (hr : ∀ x ∈ q, 0 ≤ x ∧ x < (n : Int)) (hc : ∀ (i : Nat) (x : Int), q[i]? = some x → l[x.toNat]? = some ((i : Int) + 1)) : Tells n l q := by
  refine ⟨hn, hr, hl, hc, fun c hcn hm => ?_⟩
  obtain ⟨y, hy⟩ : ∃ y, l[c]? = some y := ⟨_, List.getElem?_eq_getElem (by omega)⟩
  have hy0 := h0 y (List.mem_of_getElem? hy)
  rcases Int.lt_or_eq_of_le hy0 with hp | he
  · have := pos_bound (q ++ [(c : Int)]) l (by
      rw [List.nodup_append]
      refine ⟨hn, by simp, fun a ha b hb e => ?_⟩
      have : b = (c : Int) := by simpa using hb
      exact hm (this ▸ e ▸ ha)) (fun x hx => by
      rcases List.mem_append.1 hx with hx | hx
      · obtain ⟨i, hi⟩ := List.mem_iff_getElem?.1 hx
        exact ⟨(hr x hx).1, _, hc i x hi, by omega⟩
      · have : x = (c : Int) := by simpa using hx
        subst this
        exact ⟨by omega, y, by simpa using hy, hp⟩)
    rw [List.length_append] at this; simp at this; omega
  · rw [hy, ← he]

/-! ### the answer -/
def IsWom (W H : Int) (xs : List Int) (a b : Int) (l p : List Int) : Prop := twoV W H xs a b = true ∧ walkB W H xs a b p = true ∧ Tells (W * H).toNat l p
noncomputable def okWom (W H : Int) (xs : List Int) (a b : Int) (l : List Int) : Bool := @decide (∃ p, IsWom W H xs a b l p) (Classical.propDecidable _)
noncomputable def womV (W H : Int) (xs : List Int) (a b : Int) (l : List Int) : List Int := @dite _ (∃ p, IsWom W H xs a b l p) (Classical.propDecidable _) (fun h => h.choose) (fun _ => [])
theorem wom_yes {W H a b : Int} {xs l p : List Int} (h : IsWom W H xs a b l p) : okWom W H xs a b l = true ∧ womV W H xs a b l = p := by
  have hex : ∃ p, IsWom W H xs a b l p := ⟨p, h⟩
  refine ⟨?_, ?_⟩
  · unfold okWom; exact @decide_eq_true _ (Classical.propDecidable _) hex
  · unfold womV; rw [dif_pos hex]; exact (hex.choose_spec.2.2).uniq h.2.2
theorem wom_no {W H a b : Int} {xs l : List Int} (h : ∀ p, ¬ IsWom W H xs a b l p) : okWom W H xs a b l = false ∧ womV W H xs a b l = [] := by
  have hex : ¬ ∃ p, IsWom W H xs a b l p := fun ⟨p, hp⟩ => h p hp
  refine ⟨?_, ?_⟩
  · unfold okWom; exact @decide_eq_false _ (Classical.propDecidable _) hex
  · unfold womV; rw [dif_neg hex]
theorem len_WalkOfNumbers (W H : Int) (xs : List Int) (a b : Int) (l : List Int) : (womV W H xs a b l).length ≤ 1000000 := by
  by_cases hex : ∃ p, IsWom W H xs a b l p
  · obtain ⟨p, hp⟩ := hex
    rw [(wom_yes hp).2]
    have := path_len (walk_path hp.2.1); omega
  · rw [(wom_no (fun p hp => hex ⟨p, hp⟩)).2]; simp

end Go.Proofs.Ytmghjohpmlhdlaa
