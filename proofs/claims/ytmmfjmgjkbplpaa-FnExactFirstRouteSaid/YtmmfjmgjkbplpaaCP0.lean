/-
  Pure: paths counted by their leaps.
-/
import Derived.Test.YtmmfjmgjkbplpaaQ1
namespace Go.Proofs.Ytmmfjmgjkbplpaa
open Go.RowKit

/-- What comes to y from those of the cells for which P holds. -/
def partW (cells : List Int) (adj : Int → List Int) (P : Int → Bool) (F : Int → Int) (y : Int) : Int := ((cells.filter fun c => P c && (adj c).contains y).map F).sum
def stepW (cells : List Int) (adj : Int → List Int) (F : Int → Int) (y : Int) : Int := partW cells adj (fun _ => true) F y
/-- How many paths of k leaps lead from s to y. -/
def waysK (cells : List Int) (adj : Int → List Int) (s : Int) : Nat → Int → Int
  | 0, y => if y = s then 1 else 0
  | k + 1, y => stepW cells adj (waysK cells adj s k) y
theorem partW_cons (c : Int) (t : List Int) (adj : Int → List Int) (P : Int → Bool) (F : Int → Int) (y : Int) : partW (c :: t) adj P F y = (if P c && (adj c).contains y then F c else 0) + partW t adj P F y := by
  unfold partW
  rw [List.filter_cons]
  split <;> simp [*]
theorem partW_none (adj : Int → List Int) {P : Int → Bool} (F : Int → Int) (y : Int) : ∀ (cells : List Int), (∀ c ∈ cells, P c = false) → partW cells adj P F y = 0
  | [], _ => rfl
  | c :: t, h => by
    rw [partW_cons, h c List.mem_cons_self, partW_none adj F y t (fun d hd => h d (List.mem_cons_of_mem _ hd))]; simp
theorem partW_congr {adj : Int → List Int} {P R : Int → Bool} {F : Int → Int} {y : Int} : ∀ {cells : List Int}, (∀ c ∈ cells, P c = R c) → partW cells adj P F y = partW cells adj R F y
  | [], _ => rfl
  | c :: t, h => by
    rw [partW_cons, partW_cons, h c List.mem_cons_self, partW_congr (fun d hd => h d (List.mem_cons_of_mem _ hd))]
/-- One more cell. -/
theorem partW_more {adj : Int → List Int} {P R : Int → Bool} {F : Int → Int} {x y : Int} : ∀ {cells : List Int}, cells.Nodup → x ∈ cells → P x = false → R x = true → (∀ c ∈ cells, c ≠ x → R c = P c) → partW cells adj R F y = partW cells adj P F y + if (adj x).contains y then F x else 0
  | [], _, h, _, _, _ => by cases h
  | c :: t, hn, hx, hP, hR, ho => by
    rw [List.nodup_cons] at hn
    rw [partW_cons, partW_cons]
    by_cases e : c = x
    · subst e
      rw [hP, hR, partW_congr (fun d hd => ho d (List.mem_cons_of_mem _ hd) (fun e => hn.1 (e ▸ hd)))]
      simp only [Bool.true_and, Bool.false_and]
      rw [if_neg (by simp : ¬ (false = true))]
      omega
    · have hxt : x ∈ t := by rcases List.mem_cons.1 hx with h | h; exact absurd h.symm e; exact h
      rw [ho c List.mem_cons_self e, partW_more hn.2 hxt hP hR (fun d hd => ho d (List.mem_cons_of_mem _ hd))]
      omega
/-- Cells that bring nothing may be left out. -/
theorem partW_all {adj : Int → List Int} {P : Int → Bool} {F : Int → Int} {y : Int} : ∀ {cells : List Int}, (∀ c ∈ cells, P c = false → F c = 0) → partW cells adj P F y = stepW cells adj F y
  | [], _ => rfl
  | c :: t, h => by
    rw [stepW, partW_cons, partW_cons, partW_all (fun d hd => h d (List.mem_cons_of_mem _ hd)), stepW]
    cases hP : P c with
    | true => rfl
    | false => rw [h c List.mem_cons_self hP]; simp
theorem sum_bd {F : Int → Int} {M : Int} (hF : ∀ c, 0 ≤ F c ∧ F c ≤ M) : ∀ (l : List Int), 0 ≤ (l.map F).sum ∧ (l.map F).sum ≤ l.length * M
  | [] => by simp
  | c :: t => by
    have h1 := sum_bd hF t
    have h2 := hF c
    rw [List.map_cons, List.sum_cons, List.length_cons]
    have : ((t.length + 1 : Nat) : Int) * M = t.length * M + M := by rw [show ((t.length + 1 : Nat) : Int) = (t.length : Int) + 1 by omega, Int.add_mul]; omega
    omega
theorem partW_bd {cells : List Int} {adj : Int → List Int} {F : Int → Int} {M : Int} (hin : ∀ y, (cells.filter fun c => (adj c).contains y).length ≤ 8) (hF : ∀ c, 0 ≤ F c ∧ F c ≤ M) (P : Int → Bool) (y : Int) : 0 ≤ partW cells adj P F y ∧ partW cells adj P F y ≤ 8 * M := by
  have h1 := sum_bd hF (cells.filter fun c => P c && (adj c).contains y)
  have h2 : (cells.filter fun c => P c && (adj c).contains y).length ≤ 8 := by
    refine Nat.le_trans ?_ (hin y)
    rw [show (cells.filter fun c => P c && (adj c).contains y) = (cells.filter fun c => (adj c).contains y).filter P by rw [List.filter_filter]]
    exact List.length_filter_le _ _
  have hM : 0 ≤ M := by have := hF 0; omega
  have h3 : ((cells.filter fun c => P c && (adj c).contains y).length : Int) * M ≤ 8 * M := Int.mul_le_mul_of_nonneg_right (by omega) hM
  unfold partW
  omega
theorem waysK_bd {cells : List Int} {adj : Int → List Int} (hin : ∀ y, (cells.filter fun c => (adj c).contains y).length ≤ 8) (s : Int) : ∀ (k : Nat) (y : Int), 0 ≤ waysK cells adj s k y ∧ waysK cells adj s k y ≤ (8 ^ k : Nat)
  | 0, y => by rw [waysK]; split <;> simp
  | k + 1, y => by
    have h := partW_bd hin (waysK_bd hin s k) (fun _ => true) y
    rw [waysK, stepW, Nat.pow_succ]
    omega
theorem waysK_out {cells : List Int} {adj : Int → List Int} {s : Int} (hs : s ∈ cells) (hadj : ∀ c, ∀ y ∈ adj c, y ∈ cells) : ∀ (k : Nat) (y : Int), y ∉ cells → waysK cells adj s k y = 0
  | 0, y, h => by
    have hne : ¬ y = s := by intro e; subst e; exact h hs
    rw [waysK, if_neg hne]
  | k + 1, y, h => by
    rw [waysK, stepW, partW, show (cells.filter fun c => true && (adj c).contains y) = [] from List.filter_eq_nil_iff.2 (fun c hc hy => h (hadj c y (by simpa using hy)))]
    rfl

/-! ### Rows that hold F 0, F 1, .. -/
def listOf (N : Nat) (F : Int → Int) : List Int := (List.range N).map fun y : Nat => F (y : Int)
theorem listOf_len (N : Nat) (F : Int → Int) : (listOf N F).length = N := by simp [listOf]
theorem listOf_get {N j : Nat} (F : Int → Int) (h : j < N) : (listOf N F)[j]? = some (F (j : Int)) := by
  rw [listOf, List.getElem?_map, List.getElem?_range h]; rfl
theorem listOf_congr {N : Nat} {F G : Int → Int} (h : ∀ j : Nat, j < N → F (j : Int) = G (j : Int)) : listOf N F = listOf N G := by
  rw [listOf, listOf]
  exact List.map_congr_left (fun j hj => h j (List.mem_range.1 hj))
theorem listOf_set {N j : Nat} (F : Int → Int) (v : Int) (h : j < N) : (listOf N F).set j v = listOf N (fun y => if y = (j : Int) then v else F y) := by
  refine List.ext_getElem? fun i => ?_
  by_cases hi : i < N
  · rw [List.getElem?_set, listOf_len, listOf_get _ hi, listOf_get _ hi]
    by_cases e : j = i
    · subst e; rw [if_pos rfl, if_pos h, if_pos rfl]
    · rw [if_neg e, if_neg (by omega)]
  · rw [List.getElem?_eq_none (by rw [List.length_set, listOf_len]; omega), List.getElem?_eq_none (by rw [listOf_len]; omega)]
theorem listOf_zero (N : Nat) : List.replicate N (0 : Int) = listOf N (fun _ => 0) := by
  refine List.ext_getElem? fun i => ?_
  by_cases hi : i < N
  · rw [List.getElem?_replicate, if_pos hi, listOf_get _ hi]
  · rw [List.getElem?_eq_none (by rw [List.length_replicate]; omega), List.getElem?_eq_none (by rw [listOf_len]; omega)]
/-- What a row's first j cells have brought: each of them x. -/
def addRow (B : Int → Int) (row : List Int) (x : Int) (j : Nat) (y : Int) : Int := B y + if (row.take j).contains y then x else 0
theorem addRow_zero (B : Int → Int) (row : List Int) (x : Int) : addRow B row x 0 = B := by funext y; simp [addRow]
theorem addRow_all (B : Int → Int) (row : List Int) (x : Int) {j : Nat} (h : row.length ≤ j) (y : Int) : addRow B row x j y = B y + if row.contains y then x else 0 := by rw [addRow, List.take_of_length_le h]
theorem addRow_next {B : Int → Int} {row : List Int} {x z : Int} {j : Nat} (hn : row.Nodup) (hz : row[j]? = some z) : addRow B row x (j + 1) = fun y => if y = z then addRow B row x j z + x else addRow B row x j y := by
  have hnot : z ∉ row.take j := by
    intro hm
    obtain ⟨i, hi, he⟩ := List.getElem_of_mem hm
    rw [List.length_take] at hi
    rw [List.getElem_take] at he
    have hj := (List.getElem?_eq_some_iff.1 hz)
    obtain ⟨hjl, hj⟩ := hj
    have := (List.getElem_inj (i := i) (j := j) (h₀ := by omega) (h₁ := hjl) hn).1 (he.trans hj.symm)
    omega
  funext y
  unfold addRow
  rw [List.take_add_one, hz]
  by_cases e : y = z
  · subst e
    rw [if_pos (by simp), if_pos rfl, if_neg (by simpa using hnot)]; omega
  · rw [if_neg e]
    simp [e]

/-! ### At most eight leaps lead to a cell -/
theorem sub_len : ∀ (l m : List Int), l.Nodup → (∀ x ∈ l, x ∈ m) → l.length ≤ m.length
  | [], _, _, _ => Nat.zero_le _
  | x :: t, m, hn, hs => by
    rw [List.nodup_cons] at hn
    have hx := hs x List.mem_cons_self
    have h := sub_len t (m.erase x) hn.2 (fun y hy => (List.mem_erase_of_ne (fun e => hn.1 (by rw [← e]; exact hy))).2 (hs y (List.mem_cons_of_mem _ hy)))
    rw [List.length_erase_of_mem hx] at h
    have := List.length_pos_of_mem hx
    rw [List.length_cons]; omega
def eight (W a b q : Int) : List Int := [W * (q / W + b) + (q % W + a), W * (q / W + b) + (q % W - a), W * (q / W - b) + (q % W + a), W * (q / W - b) + (q % W - a), W * (q / W + a) + (q % W + b), W * (q / W + a) + (q % W - b), W * (q / W - a) + (q % W + b), W * (q / W - a) + (q % W - b)]
theorem leap_eight {W a b p q : Int} (h : leapB W a b p q = true) : p ∈ eight W a b q := by
  rw [leapB, decide_eq_true_eq] at h
  have hp := Int.mul_ediv_add_emod p W
  have key : ∀ (u v : Int), absV (p % W - q % W) = u → absV (p / W - q / W) = v → p = W * (q / W + v) + (q % W + u) ∨ p = W * (q / W + v) + (q % W - u) ∨ p = W * (q / W - v) + (q % W + u) ∨ p = W * (q / W - v) + (q % W - u) := by
    intro u v hu hv
    unfold absV at hu hv
    have h1 : p % W = q % W + u ∨ p % W = q % W - u := by split at hu <;> omega
    have h2 : p / W = q / W + v ∨ p / W = q / W - v := by split at hv <;> omega
    rcases h1 with h1 | h1 <;> rcases h2 with h2 | h2 <;> rw [h1, h2] at hp <;> simp [← hp]
  unfold eight
  rcases h with ⟨h1, h2⟩ | ⟨h1, h2⟩
  · rcases key a b h1 h2 with h | h | h | h <;> simp [← h]
  · rcases key b a h1 h2 with h | h | h | h <;> simp [← h]
theorem leaps_in8 (W H : Int) (xs : List Int) (a b y : Int) : ((cellsL W H xs).filter fun c => (leapsL W H xs a b c).contains y).length ≤ 8 := by
  refine sub_len _ (eight W a b y) ?_ (fun c hc => ?_)
  · exact ((cellsL_pairwise W H xs).imp (fun h => by omega)).filter _
  · have h := (List.mem_filter.1 hc).2
    rw [List.contains_iff_mem, leapsL, List.mem_filter] at h
    exact leap_eight h.2
theorem leapsL_nodup (W H : Int) (xs : List Int) (a b c : Int) : (leapsL W H xs a b c).Nodup := ((cellsL_pairwise W H xs).imp (fun h => by omega)).filter _
theorem cellsL_nodup (W H : Int) (xs : List Int) : (cellsL W H xs).Nodup := (cellsL_pairwise W H xs).imp (fun h => by omega)

end Go.Proofs.Ytmmfjmgjkbplpaa
