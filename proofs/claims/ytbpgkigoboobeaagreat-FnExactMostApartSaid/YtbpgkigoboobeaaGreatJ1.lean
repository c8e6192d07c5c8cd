/-
  Plain functions and facts: inside a ring, its area, turns of a path.
-/
import Derived.Test.YtbpgkigoboobeaaGreatJ0
namespace Go.Proofs.YtbpgkigoboobeaaGreat

/-! ### Inside a ring -/
def xorL (l : List Bool) : Bool := l.foldr xor false
theorem xorL_append (l m : List Bool) : xorL (l ++ m) = xor (xorL l) (xorL m) := by
  induction l with
  | nil => simp [xorL]
  | cons x t ih => simp only [xorL, List.cons_append, List.foldr_cons] at ih ⊢; rw [ih, Bool.xor_assoc]
theorem xorL_one (x : Bool) : xorL [x] = x := by simp [xorL]
def endsS (l : Ln) (s : Int × Int) : Bool := decide (s = l.1) || decide (s = l.2)
def hitS (l : Ln) (s : Int × Int) : Bool := endsS l s || passS l.1 l.2 s
def rightS (s : Int × Int) (l : Ln) : Bool := (decide (l.1.2 ≤ s.2) && decide (s.2 < l.2.2)) && decide (0 < turnS l.1 l.2 s)
def parB (L : List Ln) (s : Int × Int) : Bool := xorL (L.map (rightS s))
def insB (L : List Ln) (s : Int × Int) : Bool := L.all (fun l => !hitS l s) && parB L s
def lowM (W p q : Int) : Int := if q / W < p / W then q else p
def highM (W p q : Int) : Int := if q / W < p / W then p else q
def rightM (W p q c : Int) : Bool := (decide (lowM W p q / W ≤ c / W) && decide (c / W < highM W p q / W)) && decide (0 < crossS (spotS W (lowM W p q)) (spotS W (highM W p q)) (spotS W c))
def prevP (ps : List Int) (i : Nat) : Int := ps.getD ((i + ps.length - 1) % ps.length) 0
def onTo (W : Int) (ps : List Int) (c : Int) (k : Nat) : Bool := (List.range k).any fun i => onS (spotS W (prevP ps i)) (spotS W (ps.getD i 0)) (spotS W c)
def inTo (W : Int) (ps : List Int) (c : Int) (k : Nat) : Bool := xorL ((List.range k).map fun i => rightM W (prevP ps i) (ps.getD i 0) c)
theorem onTo_succ (W : Int) (ps : List Int) (c : Int) (k : Nat) : onTo W ps c (k + 1) = (onTo W ps c k || onS (spotS W (prevP ps k)) (spotS W (ps.getD k 0)) (spotS W c)) := by
  rw [onTo, List.range_succ, List.any_append]; simp [onTo]
theorem inTo_succ (W : Int) (ps : List Int) (c : Int) (k : Nat) : inTo W ps c (k + 1) = xor (inTo W ps c k) (rightM W (prevP ps k) (ps.getD k 0) c) := by
  rw [inTo, List.range_succ, List.map_append, xorL_append]; simp [inTo, xorL_one]
theorem on_ends (a b : Int × Int) : onS a b a = true ∧ onS a b b = true := by
  simp [onS, crossS]; grind
theorem hit_on {W p q c : Int} (h : p ≠ q) : hitS (lnL W p q) (spotS W c) = onS (spotS W p) (spotS W q) (spotS W c) := by
  have key : ∀ a b s : Int × Int, a ≠ b → ((decide (s = a) || decide (s = b)) || passS a b s) = onS a b s := fun a b s hab => by
    rw [pass_on hab]
    by_cases h1 : s = a
    · subst h1; simp [(on_ends s b).1]
    · by_cases h2 : s = b
      · subst h2; simp [(on_ends a s).2]
      · simp [h1, h2]
  rw [hitS, endsS, lnL]
  rcases Int.lt_or_le p q with h1 | h1
  · rw [Int.min_eq_left (by omega), Int.max_eq_right (by omega), key _ _ _ (spotS_ne h)]
  · rw [Int.min_eq_right (by omega), Int.max_eq_left (by omega), key _ _ _ (spotS_ne (Ne.symm h)), on_swap]
theorem right_eq {W p q c : Int} (hW : 1 ≤ W) : rightS (spotS W c) (lnL W p q) = rightM W p q c := by
  have hdm : ∀ x y : Int, x ≤ y → x / W ≤ y / W := fun x y h => Int.ediv_le_ediv (by omega) h
  rw [rightS, rightM, lnL, lowM, highM]
  simp only [turn_cross]
  rcases Int.lt_or_le p q with h1 | h1
  · rw [Int.min_eq_left (by omega), Int.max_eq_right (by omega)]
    have := hdm p q (by omega)
    rw [if_neg (by omega), if_neg (by omega)]; rfl
  · rw [Int.min_eq_right (by omega), Int.max_eq_left (by omega)]
    have := hdm q p (by omega)
    by_cases h2 : q / W < p / W
    · rw [if_pos h2, if_pos h2]; rfl
    · rw [if_neg h2, if_neg h2]
      have e : p / W = q / W := by omega
      rw [show (spotS W q).2 = q / W from rfl, show (spotS W p).2 = p / W from rfl, show (spotS W c).2 = c / W from rfl]
      rw [show (decide (q / W ≤ c / W) && decide (c / W < p / W)) = false by rw [Bool.and_eq_false_iff, decide_eq_false_iff_not, decide_eq_false_iff_not]; omega]
      rw [show (decide (p / W ≤ c / W) && decide (c / W < q / W)) = false by rw [Bool.and_eq_false_iff, decide_eq_false_iff_not, decide_eq_false_iff_not]; omega]
      rfl
theorem prevP_succ {ps : List Int} {i : Nat} (h : i < ps.length) : prevP ps (i + 1) = ps.getD i 0 := by
  rw [prevP, show i + 1 + ps.length - 1 = i + ps.length by omega, Nat.add_mod_right, Nat.mod_eq_of_lt h]
theorem prevP_zero {ps : List Int} (h : 1 ≤ ps.length) : prevP ps 0 = ps.getD (ps.length - 1) 0 := by
  rw [prevP, Nat.zero_add, Nat.mod_eq_of_lt (by omega)]
theorem ins_ring {W c : Int} {ps : List Int} (hW : 1 ≤ W) (hn : 1 ≤ ps.length) (h : ∀ i, i + 1 < ps.length → ps.getD i 0 ≠ ps.getD (i + 1) 0) (hl : ps.getD (ps.length - 1) 0 ≠ ps.getD 0 0) :
    insB (linesL W (roundP ps)) (spotS W c) = (inTo W ps c ps.length && !onTo W ps c ps.length) := by
  obtain ⟨n, hn'⟩ : ∃ n, ps.length = n + 1 := ⟨ps.length - 1, by omega⟩
  have e1 : parB (linesL W (roundP ps)) (spotS W c) = inTo W ps c ps.length := by
    rw [parB, linesL_round hn, List.map_append, xorL_append, List.map_cons, List.map_nil, xorL_one, right_eq hW, inTo, hn', List.range_succ_eq_map, List.map_cons]
    rw [show ∀ (x : Bool) l, xorL (x :: l) = xor x (xorL l) from fun _ _ => rfl, prevP_zero hn, Bool.xor_comm, hn', Nat.add_sub_cancel]
    congr 1
    rw [linesL, linesTo, hn', Nat.add_sub_cancel, List.map_map, List.map_map]
    congr 1
    refine List.map_congr_left fun i hi => ?_
    have := List.mem_range.1 hi
    show rightS _ _ = rightM W (prevP ps (i + 1)) (ps.getD (i + 1) 0) c
    rw [right_eq hW, prevP_succ (by omega)]
  have e2 : (linesL W (roundP ps)).all (fun l => !hitS l (spotS W c)) = !onTo W ps c ps.length := by
    rw [linesL_round hn, List.all_append, List.all_cons, List.all_nil, Bool.and_true, hit_on hl, onTo, hn', List.range_succ_eq_map, List.any_cons, prevP_zero hn, Bool.not_or, Bool.and_comm, hn', Nat.add_sub_cancel]
    congr 1
    rw [linesL, linesTo, hn', Nat.add_sub_cancel, List.all_map, List.any_map, List.not_any_eq_all_not]
    rw [Bool.eq_iff_iff, List.all_eq_true, List.all_eq_true]
    refine forall_congr' fun i => forall_congr' fun hi => ?_
    have := List.mem_range.1 hi
    show (!hitS _ _) = true ↔ (!onS (spotS W (prevP ps (i + 1))) (spotS W (ps.getD (i + 1) 0)) (spotS W c)) = true
    rw [hit_on (h i (by omega)), prevP_succ (by omega)]
  rw [insB, e1, e2, Bool.and_comm]
/-! ### Areas and turns -/
theorem cross_bd {a b c : Int × Int} (ha : (0 ≤ a.1 ∧ a.1 ≤ 64) ∧ (0 ≤ a.2 ∧ a.2 ≤ 64)) (hb : (0 ≤ b.1 ∧ b.1 ≤ 64) ∧ (0 ≤ b.2 ∧ b.2 ≤ 64)) (hc : (0 ≤ c.1 ∧ c.1 ≤ 64) ∧ (0 ≤ c.2 ∧ c.2 ≤ 64)) : -8192 ≤ crossS a b c ∧ crossS a b c ≤ 8192 := by
  have key : ∀ x y : Int, (-64 ≤ x ∧ x ≤ 64) → (-64 ≤ y ∧ y ≤ 64) → -4096 ≤ x * y ∧ x * y ≤ 4096 := fun x y hx hy => by
    constructor
    · have h1 := Int.mul_nonneg (show 0 ≤ 64 + x by omega) (show 0 ≤ 64 + y by omega)
      have h2 := Int.mul_nonneg (show 0 ≤ 64 - x by omega) (show 0 ≤ 64 - y by omega)
      rw [Int.add_mul, Int.mul_add, Int.mul_add] at h1
      rw [Int.sub_mul, Int.mul_sub, Int.mul_sub] at h2
      omega
    · have h1 := Int.mul_nonneg (show 0 ≤ 64 + x by omega) (show 0 ≤ 64 - y by omega)
      have h2 := Int.mul_nonneg (show 0 ≤ 64 - x by omega) (show 0 ≤ 64 + y by omega)
      rw [Int.add_mul, Int.mul_sub, Int.mul_sub] at h1
      rw [Int.sub_mul, Int.mul_add, Int.mul_add] at h2
      omega
  have h1 := key (b.1 - a.1) (c.2 - a.2) (by omega) (by omega)
  have h2 := key (b.2 - a.2) (c.1 - a.1) (by omega) (by omega)
  unfold crossS; omega
def triV (W : Int) (p q r : Int) : Int := crossS (spotS W p) (spotS W q) (spotS W r)
theorem spot_bd {W q : Int} (hW : 1 ≤ W ∧ W ≤ 8) (hq : 0 ≤ q ∧ q ≤ 64) : (0 ≤ (spotS W q).1 ∧ (spotS W q).1 ≤ 64) ∧ (0 ≤ (spotS W q).2 ∧ (spotS W q).2 ≤ 64) := by
  have h1 := Int.emod_nonneg q (show W ≠ 0 by omega)
  have h2 := Int.emod_lt_of_pos q (show 0 < W by omega)
  have h3 := Int.ediv_nonneg hq.1 (show 0 ≤ W by omega)
  have h4 := Int.ediv_le_self W hq.1
  exact ⟨⟨h1, by show q % W ≤ 64; omega⟩, ⟨h3, by show q / W ≤ 64; omega⟩⟩
theorem tri_bd {W p q r : Int} (hW : 1 ≤ W ∧ W ≤ 8) (hp : 0 ≤ p ∧ p ≤ 64) (hq : 0 ≤ q ∧ q ≤ 64) (hr : 0 ≤ r ∧ r ≤ 64) : -8192 ≤ triV W p q r ∧ triV W p q r ≤ 8192 :=
  cross_bd (spot_bd hW hp) (spot_bd hW hq) (spot_bd hW hr)
def areaTo (W : Int) (ps : List Int) : Nat → Int
  | 0 => 0
  | k + 1 => areaTo W ps k + triV W (ps.getD 0 0) (ps.getD (k + 1) 0) (ps.getD (k + 2) 0)
def areaV (W : Int) (ps : List Int) : Int := areaTo W ps (ps.length - 2)
theorem getD_64 {ps : List Int} (h : ∀ x ∈ ps, 0 ≤ x ∧ x < 64) (i : Nat) : 0 ≤ ps.getD i 0 ∧ ps.getD i 0 ≤ 64 := by
  rw [List.getD_eq_getElem?_getD]
  cases hx : ps[i]? with
  | none => simp
  | some x => have := h x (List.mem_of_getElem? hx); simp; omega
theorem areaTo_bd {W : Int} {ps : List Int} (hW : 1 ≤ W ∧ W ≤ 8) (h : ∀ x ∈ ps, 0 ≤ x ∧ x < 64) : ∀ k : Nat, -(8192 * (k : Int)) ≤ areaTo W ps k ∧ areaTo W ps k ≤ 8192 * (k : Int)
  | 0 => by simp [areaTo]
  | k + 1 => by
    have h1 := areaTo_bd hW h k
    have h2 := tri_bd hW (getD_64 h 0) (getD_64 h (k + 1)) (getD_64 h (k + 2))
    rw [areaTo]; omega
def turnsTo (W : Int) (ps : List Int) (P : Int → Bool) (k : Nat) : Nat := ((List.range k).filter fun i => P (triV W (ps.getD i 0) (ps.getD (i + 1) 0) (ps.getD (i + 2) 0))).length
theorem turnsTo_succ (W : Int) (ps : List Int) (P : Int → Bool) (k : Nat) : turnsTo W ps P (k + 1) = turnsTo W ps P k + (if P (triV W (ps.getD k 0) (ps.getD (k + 1) 0) (ps.getD (k + 2) 0)) then 1 else 0) := by
  rw [turnsTo, List.range_succ, List.filter_append, List.length_append, List.filter_cons, List.filter_nil]
  split <;> rfl
theorem turnsTo_le (W : Int) (ps : List Int) (P : Int → Bool) (k : Nat) : turnsTo W ps P k ≤ k := by
  rw [turnsTo]; have := List.length_filter_le (fun i => P (triV W (ps.getD i 0) (ps.getD (i + 1) 0) (ps.getD (i + 2) 0))) (List.range k); rw [List.length_range] at this; exact this
def posB (x : Int) : Bool := decide (0 < x)
def zeroB (x : Int) : Bool := decide (x = 0)
def negB (x : Int) : Bool := decide (x < 0)

end Go.Proofs.YtbpgkigoboobeaaGreat
