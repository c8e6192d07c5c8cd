/-
  Plain functions and facts: crossings of lines between spots; how many pairs cross.
-/
import Derived.Test.YtbpgkigoboobeaaGreatMem
namespace Go.Proofs.YtbpgkigoboobeaaGreat

def crossS (a b c : Int × Int) : Int := (b.1 - a.1) * (c.2 - a.2) - (b.2 - a.2) * (c.1 - a.1)
def turnS (a b c : Int × Int) : Int := (b.1 - a.1) * (c.2 - b.2) - (b.2 - a.2) * (c.1 - b.1)
theorem turn_cross (a b c : Int × Int) : turnS a b c = crossS a b c := by unfold turnS crossS; grind
theorem cross_swap (a b c : Int × Int) : crossS b a c = - crossS a b c := by unfold crossS; grind
def onS (a b c : Int × Int) : Bool := decide (crossS a b c = 0) && (decide ((a.1 - c.1) * (b.1 - c.1) ≤ 0) && decide ((a.2 - c.2) * (b.2 - c.2) ≤ 0))
def passS (a b c : Int × Int) : Bool := decide (turnS a b c = 0) && decide ((a.1 - c.1) * (b.1 - c.1) + (a.2 - c.2) * (b.2 - c.2) < 0)
def partsS (a b c d : Int × Int) : Bool := decide (turnS a b c * turnS a b d < 0)
def crosS (a b c d : Int × Int) : Bool := (decide (a = c ∧ b = d) || (partsS a b c d && partsS c d a b)) || (passS a b c || (passS a b d || (passS c d a || passS c d b)))
def sgnV (x : Int) : Int := if 0 < x then 1 else if x < 0 then -1 else 0
theorem sgn_mul {x y : Int} : sgnV x * sgnV y < 0 ↔ x * y < 0 := by
  unfold sgnV
  rcases Int.lt_trichotomy x 0 with hx | hx | hx <;> rcases Int.lt_trichotomy y 0 with hy | hy | hy
  · have := Int.mul_pos_of_neg_of_neg hx hy; simp [hx, hy, Int.not_lt.2 (Int.le_of_lt hx), Int.not_lt.2 (Int.le_of_lt hy)]; omega
  · subst hy; simp
  · have := Int.mul_neg_of_neg_of_pos hx hy; simp [hx, hy, Int.not_lt.2 (Int.le_of_lt hx)]; omega
  · subst hx; simp
  · subst hx; simp
  · subst hx; simp
  · have := Int.mul_neg_of_pos_of_neg hx hy; simp [hx, hy, Int.not_lt.2 (Int.le_of_lt hy)]; omega
  · subst hy; simp
  · have := Int.mul_pos hx hy; simp [hx, hy]; omega
theorem pass_on {a b c : Int × Int} (h : a ≠ b) : passS a b c = (onS a b c && (decide (c ≠ a) && decide (c ≠ b))) := by
  obtain ⟨a1, a2⟩ := a
  obtain ⟨b1, b2⟩ := b
  obtain ⟨c1, c2⟩ := c
  rw [Bool.eq_iff_iff]
  simp only [passS, onS, Bool.and_eq_true, decide_eq_true_eq, turn_cross]
  have hc : crossS (a1, a2) (b1, b2) (c1, c2) = (a2 - c2) * (b1 - c1) - (a1 - c1) * (b2 - c2) ∨ crossS (a1, a2) (b1, b2) (c1, c2) = (a1 - c1) * (b2 - c2) - (a2 - c2) * (b1 - c1) := by unfold crossS; first | (left; grind) | (right; grind)
  have hab : ¬ (a1 = b1 ∧ a2 = b2) := fun ⟨h1, h2⟩ => h (by rw [h1, h2])
  constructor
  · rintro ⟨h1, h2⟩
    have h3 : (a1 - c1) * (b2 - c2) = (a2 - c2) * (b1 - c1) := by omega
    have h4 : ((a1 - c1) * (b1 - c1)) * ((a2 - c2) * (b2 - c2)) = ((a1 - c1) * (b2 - c2)) * ((a1 - c1) * (b2 - c2)) := by
      have : ((a1 - c1) * (b1 - c1)) * ((a2 - c2) * (b2 - c2)) = ((a1 - c1) * (b2 - c2)) * ((a2 - c2) * (b1 - c1)) := by grind
      rw [this, ← h3]
    have h5 : 0 ≤ ((a1 - c1) * (b2 - c2)) * ((a1 - c1) * (b2 - c2)) := by
      rcases Int.le_total 0 ((a1 - c1) * (b2 - c2)) with h | h
      · exact Int.mul_nonneg h h
      · exact Int.mul_nonneg_of_nonpos_of_nonpos h h
    have hca : (c1, c2) ≠ (a1, a2) := fun e => by injection e with e1 e2; subst e1 e2; simp at h2
    have hcb : (c1, c2) ≠ (b1, b2) := fun e => by injection e with e1 e2; subst e1 e2; simp at h2
    clear hc h3
    generalize (a1 - c1) * (b1 - c1) = u at *
    generalize (a2 - c2) * (b2 - c2) = v at *
    have hu : u ≤ 0 := by
      rcases Int.lt_or_le 0 u with h | h
      · have := Int.mul_neg_of_pos_of_neg h (show v < 0 by omega); omega
      · exact h
    have hv : v ≤ 0 := by
      rcases Int.lt_or_le 0 v with h | h
      · have := Int.mul_neg_of_neg_of_pos (show u < 0 by omega) h; omega
      · exact h
    exact ⟨⟨h1, hu, hv⟩, hca, hcb⟩
  · rintro ⟨⟨h1, h2, h3⟩, h4, h5⟩
    refine ⟨h1, ?_⟩
    have h6 : (a1 - c1) * (b2 - c2) = (a2 - c2) * (b1 - c1) := by omega
    have hca : ¬ (a1 - c1 = 0 ∧ a2 - c2 = 0) := fun ⟨e1, e2⟩ => h4 (by rw [show c1 = a1 by omega, show c2 = a2 by omega])
    have hcb : ¬ (b1 - c1 = 0 ∧ b2 - c2 = 0) := fun ⟨e1, e2⟩ => h5 (by rw [show c1 = b1 by omega, show c2 = b2 by omega])
    clear hc h1 h4 h5 hab h
    rcases Int.lt_or_le ((a1 - c1) * (b1 - c1) + (a2 - c2) * (b2 - c2)) 0 with h | h
    · exact h
    · exfalso
      have e1 : (a1 - c1) * (b1 - c1) = 0 := by omega
      have e2 : (a2 - c2) * (b2 - c2) = 0 := by omega
      generalize a1 - c1 = p at *
      generalize a2 - c2 = q at *
      generalize b1 - c1 = r at *
      generalize b2 - c2 = s at *
      rcases Int.mul_eq_zero.1 e1 with z | z <;> rcases Int.mul_eq_zero.1 e2 with y | y
      · exact hca ⟨z, y⟩
      · subst z y
        have : q * r = 0 := by omega
        rcases Int.mul_eq_zero.1 this with z | z <;> subst z <;> simp at hca hcb
      · subst z y
        have : p * s = 0 := by omega
        rcases Int.mul_eq_zero.1 this with z | z <;> subst z <;> simp at hca hcb
      · exact hcb ⟨z, y⟩
theorem parts_sgn {a b c d : Int × Int} : partsS a b c d = decide (sgnV (crossS a b c) * sgnV (crossS a b d) < 0) := by
  rw [partsS, turn_cross, turn_cross]; exact decide_eq_decide.2 sgn_mul.symm
theorem parts_swap (a b c d : Int × Int) : partsS b a c d = partsS a b c d := by
  simp only [partsS, turn_cross, cross_swap a b]; rw [Int.neg_mul_neg]
theorem parts_swap2 (a b c d : Int × Int) : partsS a b d c = partsS a b c d := by
  simp only [partsS]; rw [Int.mul_comm]
theorem on_swap (a b c : Int × Int) : onS b a c = onS a b c := by
  simp only [onS, cross_swap a b, Int.mul_comm (b.1 - c.1), Int.mul_comm (b.2 - c.2)]
  congr 1
  exact decide_eq_decide.2 (by omega)
def spotS (W q : Int) : Int × Int := (q % W, q / W)
theorem spotS_inj {W p q : Int} (h : spotS W p = spotS W q) : p = q := by
  injection h with h1 h2
  have e1 := Int.emod_add_mul_ediv p W
  have e2 := Int.emod_add_mul_ediv q W
  rw [h1, h2] at e1; omega
/-- The model's: two leaps cross. -/
def doB (W p q r s : Int) : Bool :=
  (decide ((p = r ∧ q = s) ∨ (p = s ∧ q = r))) ||
  (((onS (spotS W p) (spotS W q) (spotS W r) && (decide (r ≠ p) && decide (r ≠ q))) || (onS (spotS W p) (spotS W q) (spotS W s) && (decide (s ≠ p) && decide (s ≠ q)))) ||
  (((onS (spotS W r) (spotS W s) (spotS W p) && (decide (p ≠ r) && decide (p ≠ s))) || (onS (spotS W r) (spotS W s) (spotS W q) && (decide (q ≠ r) && decide (q ≠ s)))) ||
  (partsS (spotS W p) (spotS W q) (spotS W r) (spotS W s) && partsS (spotS W r) (spotS W s) (spotS W p) (spotS W q))))
def crosL (W p q r s : Int) : Bool := crosS (spotS W (min p q)) (spotS W (max p q)) (spotS W (min r s)) (spotS W (max r s))
theorem spotS_ne {W p q : Int} (h : p ≠ q) : spotS W p ≠ spotS W q := fun e => h (spotS_inj e)
theorem dec_spot {W p q : Int} : decide (spotS W p = spotS W q) = decide (p = q) := decide_eq_decide.2 ⟨spotS_inj, fun e => by rw [e]⟩
theorem do_swap (W p q r s : Int) : doB W q p r s = doB W p q r s := by
  unfold doB
  rw [on_swap (spotS W p), on_swap (spotS W p), parts_swap (spotS W p), parts_swap2 (spotS W r) (spotS W s) (spotS W p)]
  rw [show decide ((q = r ∧ p = s) ∨ (q = s ∧ p = r)) = decide ((p = r ∧ q = s) ∨ (p = s ∧ q = r)) from decide_eq_decide.2 (by omega)]
  rw [Bool.and_comm (decide (r ≠ q)), Bool.and_comm (decide (s ≠ q)), Bool.or_comm (onS (spotS W r) (spotS W s) (spotS W q) && _)]
theorem do_swap2 (W p q r s : Int) : doB W p q s r = doB W p q r s := by
  unfold doB
  rw [on_swap (spotS W r), on_swap (spotS W r), parts_swap2 (spotS W p) (spotS W q) (spotS W r), parts_swap (spotS W r) (spotS W s) (spotS W p)]
  rw [show decide ((p = s ∧ q = r) ∨ (p = r ∧ q = s)) = decide ((p = r ∧ q = s) ∨ (p = s ∧ q = r)) from decide_eq_decide.2 (by omega)]
  rw [Bool.and_comm (decide (p ≠ s)), Bool.and_comm (decide (q ≠ s)), Bool.or_comm (onS (spotS W p) (spotS W q) (spotS W s) && _)]
theorem cros_key {W p q r s : Int} (h3 : p < q) (h4 : r < s) : crosS (spotS W p) (spotS W q) (spotS W r) (spotS W s) = doB W p q r s := by
  have h1 : p ≠ q := by omega
  have h2 : r ≠ s := by omega
  have he : decide ((p = r ∧ q = s) ∨ (p = s ∧ q = r)) = decide (spotS W p = spotS W r ∧ spotS W q = spotS W s) :=
    decide_eq_decide.2 ⟨fun h => by rcases h with ⟨e1, e2⟩ | ⟨e1, e2⟩; · exact ⟨by rw [e1], by rw [e2]⟩
                                    · omega, fun h => .inl ⟨spotS_inj h.1, spotS_inj h.2⟩⟩
  have hd : ∀ x y : Int, decide (spotS W x ≠ spotS W y) = decide (x ≠ y) := fun x y => decide_eq_decide.2 ⟨fun h e => h (by rw [e]), fun h e => h (spotS_inj e)⟩
  rw [crosS, doB, he]
  simp only [pass_on (spotS_ne (W := W) h1), pass_on (spotS_ne (W := W) h2), hd]
  ac_rfl
theorem cros_do {W p q r s : Int} (hpq : p ≠ q) (hrs : r ≠ s) : crosL W p q r s = doB W p q r s := by
  rw [crosL]
  rcases Int.lt_or_le p q with h1 | h1 <;> rcases Int.lt_or_le r s with h2 | h2
  · rw [Int.min_eq_left (by omega), Int.max_eq_right (by omega), Int.min_eq_left (by omega), Int.max_eq_right (by omega), cros_key h1 h2]
  · rw [Int.min_eq_left (by omega), Int.max_eq_right (by omega), Int.min_eq_right (by omega), Int.max_eq_left (by omega), cros_key h1 (by omega), do_swap2]
  · rw [Int.min_eq_right (by omega), Int.max_eq_left (by omega), Int.min_eq_left (by omega), Int.max_eq_right (by omega), cros_key (by omega) h2, do_swap]
  · rw [Int.min_eq_right (by omega), Int.max_eq_left (by omega), Int.min_eq_right (by omega), Int.max_eq_left (by omega), cros_key (by omega) (by omega), do_swap, do_swap2]

abbrev Ln := (Int × Int) × (Int × Int)
def noLn : Ln := ((0, 0), (0, 0))
def lnL (W p q : Int) : Ln := (spotS W (min p q), spotS W (max p q))
def cr (l m : Ln) : Bool := crosS l.1 l.2 m.1 m.2
theorem cr_do {W p q r s : Int} (hpq : p ≠ q) (hrs : r ≠ s) : cr (lnL W p q) (lnL W r s) = doB W p q r s := cros_do hpq hrs
def linesTo (W : Int) (ps : List Int) (k : Nat) : List Ln := (List.range k).map fun i => lnL W (ps.getD i 0) (ps.getD (i + 1) 0)
def linesL (W : Int) (ps : List Int) : List Ln := linesTo W ps (ps.length - 1)
theorem linesTo_len (W : Int) (ps : List Int) (k : Nat) : (linesTo W ps k).length = k := by simp [linesTo]
theorem linesL_len (W : Int) (ps : List Int) : (linesL W ps).length = ps.length - 1 := linesTo_len _ _ _
theorem linesTo_succ (W : Int) (ps : List Int) (k : Nat) : linesTo W ps (k + 1) = linesTo W ps k ++ [lnL W (ps.getD k 0) (ps.getD (k + 1) 0)] := by
  rw [linesTo, List.range_succ, List.map_append]; rfl
theorem linesL_at {W : Int} {ps : List Int} {i : Nat} (h : i < ps.length - 1) : (linesL W ps)[i]? = some (lnL W (ps.getD i 0) (ps.getD (i + 1) 0)) := by
  rw [linesL, linesTo, List.getElem?_map, List.getElem?_range h]; rfl
/-- Round the list: its lines with that from the last cell to the first one. -/
def roundP (ps : List Int) : List Int := ps ++ [ps.getD 0 0]
theorem roundP_len (ps : List Int) : (roundP ps).length = ps.length + 1 := by simp [roundP]
theorem roundP_at {ps : List Int} {i : Nat} (h : i < ps.length) : (roundP ps).getD i 0 = ps.getD i 0 := by
  rw [roundP, List.getD_eq_getElem?_getD, List.getElem?_append_left h, List.getD_eq_getElem?_getD]
theorem roundP_last (ps : List Int) : (roundP ps).getD ps.length 0 = ps.getD 0 0 := by
  rw [roundP, List.getD_eq_getElem?_getD, List.getElem?_append_right (Nat.le_refl _)]; simp
theorem linesL_round {W : Int} {ps : List Int} (h : 1 ≤ ps.length) : linesL W (roundP ps) = linesL W ps ++ [lnL W (ps.getD (ps.length - 1) 0) (ps.getD 0 0)] := by
  have e : ps.length = (ps.length - 1) + 1 := by omega
  rw [linesL, roundP_len, Nat.add_sub_cancel, e, linesTo_succ, ← e, roundP_last, roundP_at (by omega)]
  congr 1
  rw [linesL, linesTo, linesTo]
  refine List.map_congr_left fun i hi => ?_
  have := List.mem_range.1 hi
  rw [roundP_at (by omega), roundP_at (by omega)]

/-! ### Pairs that are counted -/
def rwR (R : Nat → Nat → Bool) (i j : Nat) : Nat := ((List.range j).filter (R i)).length
def cntR (R : Nat → Nat → Bool) : Nat → Nat
  | 0 => 0
  | i + 1 => cntR R i + rwR R i i
theorem rwR_le (R : Nat → Nat → Bool) (i j : Nat) : rwR R i j ≤ j := by
  have := List.length_filter_le (R i) (List.range j); rw [List.length_range] at this; exact this
theorem rwR_yes {R : Nat → Nat → Bool} {i j : Nat} (h : R i j = true) : rwR R i (j + 1) = rwR R i j + 1 := by
  rw [rwR, List.range_succ, List.filter_append, List.length_append]; simp [h, rwR]
theorem rwR_no {R : Nat → Nat → Bool} {i j : Nat} (h : R i j = false) : rwR R i (j + 1) = rwR R i j := by
  rw [rwR, List.range_succ, List.filter_append, List.length_append]; simp [h, rwR]
theorem cntR_le (R : Nat → Nat → Bool) : ∀ n, cntR R n ≤ n * n
  | 0 => Nat.le_refl _
  | n + 1 => by have h1 := cntR_le R n; have h2 := rwR_le R n n; rw [cntR, Nat.succ_mul_succ_eq]; omega
theorem cntR_congr {R S : Nat → Nat → Bool} : ∀ n, (∀ i j, j < i → i < n → R i j = S i j) → cntR R n = cntR S n
  | 0, _ => rfl
  | n + 1, h => by
    rw [cntR, cntR, cntR_congr n (fun i j h1 h2 => h i j h1 (by omega)), rwR, rwR]
    congr 2
    exact List.filter_congr fun j hj => h n j (List.mem_range.1 hj) (by omega)
def lnR (L : List Ln) (i j : Nat) : Bool := cr (L.getD i noLn) (L.getD j noLn)
def pathR (W : Int) (ps : List Int) (i j : Nat) : Bool := doB W (ps.getD i 0) (ps.getD (i + 1) 0) (ps.getD j 0) (ps.getD (j + 1) 0)
def crossN (W : Int) (ps : List Int) : Nat := cntR (pathR W ps) (ps.length - 1)
theorem lnR_path {W : Int} {ps : List Int} (h : ∀ i, i + 1 < ps.length → ps.getD i 0 ≠ ps.getD (i + 1) 0) : cntR (lnR (linesL W ps)) (linesL W ps).length = crossN W ps := by
  rw [linesL_len, crossN]
  refine cntR_congr _ fun i j h1 h2 => ?_
  rw [lnR, pathR, List.getD_eq_getElem?_getD, List.getD_eq_getElem?_getD, linesL_at h2, linesL_at (by omega)]
  exact cr_do (h i (by omega)) (h j (by omega))

end Go.Proofs.YtbpgkigoboobeaaGreat
