/-
  Plain functions and facts: orbits around: one step again and again.
-/
import Derived.Test.YtaliknhfcdmohaaO0
namespace Go.Proofs.Ytaliknhfcdmohaa
open Go.RowKit

/-- After how many steps a place of n comes again. -/
def perA (n x : Int) : Nat := n.toNat / Nat.gcd n.toNat x.natAbs
def orbN (W H x y : Int) : Nat := perA W x / Nat.gcd (perA W x) (perA H y) * perA H y
def posA (W H q x y : Int) (k : Nat) : Int := ((q / W + k * y) % H) * W + (q % W + k * x) % W
def orbL (W H q x y : Int) (k : Nat) : List Int := (List.range k).map (posA W H q x y)
theorem dvd_gcd_div {n a k : Nat} (hn : 0 < n) : n ∣ k * a ↔ n / Nat.gcd n a ∣ k := by
  have hg : 0 < Nat.gcd n a := Nat.gcd_pos_of_pos_left _ hn
  obtain ⟨m, hm⟩ := Nat.gcd_dvd_left n a
  obtain ⟨b, hb⟩ := Nat.gcd_dvd_right n a
  have e1 : n / Nat.gcd n a = m := by
    conv => lhs; lhs; rw [hm]
    exact Nat.mul_div_cancel_left _ hg
  have e2 : a / Nat.gcd n a = b := by
    conv => lhs; lhs; rw [hb]
    exact Nat.mul_div_cancel_left _ hg
  have hc : Nat.Coprime m b := by
    have := Nat.coprime_div_gcd_div_gcd hg
    rw [e1, e2] at this; exact this
  rw [e1]
  constructor
  · intro h
    have h2 : Nat.gcd n a * m ∣ Nat.gcd n a * (k * b) := by
      rw [← hm, Nat.mul_left_comm, ← hb]; exact h
    exact hc.dvd_of_dvd_mul_right (Nat.dvd_of_mul_dvd_mul_left hg h2)
  · rintro ⟨c, rfl⟩
    refine ⟨c * b, ?_⟩
    have e3 : m * c * a = m * c * (Nat.gcd n a * b) := by rw [← hb]
    have e4 : n * (c * b) = Nat.gcd n a * m * (c * b) := by rw [← hm]
    rw [e3, e4]
    grind
theorem add_mod_same {n q z : Int} : (q % n + z) % n = q % n ↔ n ∣ z := by
  rw [Int.emod_add_emod]
  constructor
  · intro h
    have := Int.emod_emod_of_dvd (q + z - q) (Int.dvd_refl n)
    have h2 : (q + z - q) % n = 0 := Int.emod_eq_emod_iff_emod_sub_eq_zero.1 h
    rw [show q + z - q = z by omega] at h2
    exact Int.dvd_of_emod_eq_zero h2
  · rintro ⟨c, rfl⟩
    rw [Int.add_mul_emod_self_left]
theorem per_iff {n q x : Int} {k : Nat} (hn : 1 ≤ n) : (q % n + k * x) % n = q % n ↔ perA n x ∣ k := by
  rw [add_mod_same, perA, ← dvd_gcd_div (by omega), ← Int.natAbs_dvd_natAbs, Int.natAbs_mul, Int.natAbs_natCast, show n.natAbs = n.toNat by omega]
theorem perA_rng {n x : Int} (hn : 1 ≤ n ∧ n ≤ 12) : 1 ≤ perA n x ∧ perA n x ≤ 12 := by
  have h1 : 0 < n.toNat := by omega
  have hg : 0 < Nat.gcd n.toNat x.natAbs := Nat.gcd_pos_of_pos_left _ h1
  have h2 : Nat.gcd n.toNat x.natAbs ≤ n.toNat := Nat.le_of_dvd h1 (Nat.gcd_dvd_left _ _)
  have h3 := Nat.div_pos h2 hg
  have h4 := Nat.div_le_self n.toNat (Nat.gcd n.toNat x.natAbs)
  unfold perA
  omega
theorem orbN_lcm (W H x y : Int) : orbN W H x y = Nat.lcm (perA W x) (perA H y) := by
  rw [orbN, Nat.lcm, Nat.mul_comm (perA W x) (perA H y), Nat.mul_div_assoc _ (Nat.gcd_dvd_left _ _), Nat.mul_comm]
theorem orbN_rng {W H x y : Int} (hg : goodA W H = true) : 1 ≤ orbN W H x y ∧ orbN W H x y ≤ 144 := by
  obtain ⟨hW, hH⟩ := goodA_iff.1 hg
  have h1 := perA_rng (x := x) hW
  have h2 := perA_rng (x := y) hH
  rw [orbN_lcm]
  refine ⟨Nat.lcm_pos (by omega) (by omega), ?_⟩
  refine Nat.le_trans (Nat.le_of_dvd (Nat.mul_pos (by omega) (by omega)) (Nat.lcm_dvd_mul _ _)) ?_
  have := Nat.mul_le_mul h1.2 h2.2
  omega
theorem posA_parts {W H q x y : Int} {k : Nat} (hW : 1 ≤ W) : posA W H q x y k % W = (q % W + k * x) % W ∧ posA W H q x y k / W = (q / W + k * y) % H :=
  mod_of ⟨Int.emod_nonneg _ (by omega), Int.emod_lt_of_pos _ (by omega)⟩
theorem posA_iff {W H q x y : Int} {k : Nat} (hg : goodA W H = true) (hq : 0 ≤ q ∧ q < W * H) : posA W H q x y k = q ↔ orbN W H x y ∣ k := by
  obtain ⟨⟨hW, _⟩, hH, _⟩ := goodA_iff.1 hg
  obtain ⟨hd1, hd2⟩ := div_bdA (W := W) (H := H) hW hq
  have hdm : (q / W) % H = q / W := Int.emod_eq_of_lt hd1 hd2
  obtain ⟨e1, e2⟩ := posA_parts (W := W) (H := H) (q := q) (x := x) (y := y) (k := k) hW
  rw [orbN_lcm, Nat.lcm_dvd_iff, ← per_iff (q := q) hW, ← per_iff (n := H) (q := q / W) hH, hdm]
  constructor
  · intro h
    rw [h] at e1 e2
    exact ⟨e1.symm, e2.symm⟩
  · rintro ⟨h1, h2⟩
    rw [posA, h1, h2]; exact num_of W q
theorem posA_zero {W H q x y : Int} (hg : goodA W H = true) (hq : 0 ≤ q ∧ q < W * H) : posA W H q x y 0 = q := (posA_iff hg hq).2 (Nat.dvd_zero _)
theorem posA_rng {W H q x y : Int} {k : Nat} (hg : goodA W H = true) : 0 ≤ posA W H q x y k ∧ posA W H q x y k < W * H := by
  obtain ⟨⟨hW, _⟩, hH, _⟩ := goodA_iff.1 hg
  exact numA (inA_iff.2 ⟨⟨Int.emod_nonneg _ (by omega), Int.emod_lt_of_pos _ (by omega)⟩, Int.emod_nonneg _ (by omega), Int.emod_lt_of_pos _ (by omega)⟩)
theorem posA_step {W H q x y : Int} {k : Nat} (hg : goodA W H = true) : stepA W H true true (posA W H q x y k) x y = posA W H q x y (k + 1) := by
  obtain ⟨⟨hW, _⟩, hH, _⟩ := goodA_iff.1 hg
  obtain ⟨e1, e2⟩ := posA_parts (W := W) (H := H) (q := q) (x := x) (y := y) (k := k) hW
  rw [stepA, e1, e2]
  have h1 : q % W + ↑k * x + x = q % W + ((k + 1 : Nat) : Int) * x := by rw [Int.natCast_add, Int.add_mul]; omega
  have h2 : q / W + ↑k * y + y = q / W + ((k + 1 : Nat) : Int) * y := by rw [Int.natCast_add, Int.add_mul]; omega
  have c1 : colA true W ((q % W + ↑k * x) % W + x) = (q % W + ((k + 1 : Nat) : Int) * x) % W := by rw [colA, if_pos rfl, Int.emod_add_emod, h1]
  have c2 : colA true H ((q / W + ↑k * y) % H + y) = (q / W + ((k + 1 : Nat) : Int) * y) % H := by rw [colA, if_pos rfl, Int.emod_add_emod, h2]
  rw [c1, c2, if_pos]
  · rfl
  · exact inA_iff.2 ⟨⟨Int.emod_nonneg _ (by omega), Int.emod_lt_of_pos _ (by omega)⟩, Int.emod_nonneg _ (by omega), Int.emod_lt_of_pos _ (by omega)⟩
theorem stepA_one {W H q x y : Int} (hg : goodA W H = true) (hq : 0 ≤ q ∧ q < W * H) : stepA W H true true q x y = posA W H q x y 1 := by
  have h := posA_step (q := q) (x := x) (y := y) (k := 0) hg
  rw [posA_zero hg hq] at h; exact h
/-- Before the orbit's length no cell is the first one again. -/
theorem posA_ne {W H q x y : Int} {k : Nat} (hg : goodA W H = true) (hq : 0 ≤ q ∧ q < W * H) (h0 : 1 ≤ k) (hk : k < orbN W H x y) : posA W H q x y k ≠ q := fun h => by
  have := Nat.le_of_dvd (by omega) ((posA_iff hg hq).1 h)
  omega
theorem posA_end {W H q x y : Int} (hg : goodA W H = true) (hq : 0 ≤ q ∧ q < W * H) : posA W H q x y (orbN W H x y) = q := (posA_iff hg hq).2 (Nat.dvd_refl _)
theorem orbL_succ (W H q x y : Int) (k : Nat) : orbL W H q x y (k + 1) = orbL W H q x y k ++ [posA W H q x y k] := by rw [orbL, List.range_succ, List.map_append]; rfl
theorem orbL_len (W H q x y : Int) (k : Nat) : (orbL W H q x y k).length = k := by simp [orbL]
def joinB (W H : Int) (ac up : Bool) (x y : Int) : Bool := goodA W H && ac && up && byA x y
theorem joinB_iff {W H x y : Int} {ac up : Bool} : joinB W H ac up x y = true ↔ goodA W H = true ∧ ac = true ∧ up = true ∧ byA x y = true := by
  simp [joinB, Bool.and_eq_true, and_assoc]
def orbLenV (W H : Int) (ac up : Bool) (x y : Int) : Int := if joinB W H ac up x y then (orbN W H x y : Int) else 0
def orbCntV (W H : Int) (ac up : Bool) (x y : Int) : Int := if joinB W H ac up x y then (W * H) / (orbN W H x y : Int) else 0

end Go.Proofs.Ytaliknhfcdmohaa
