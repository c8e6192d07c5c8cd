/-
  Contracts: CanReachFar.
-/
import Derived.Test.YtaliknhfcdmohaaF2
namespace Go.Proofs.Ytaliknhfcdmohaa
open Go.RowKit

/-- Whether a cell of the plane can be reached. -/
def reachB (a b x y : Int) : Bool := (x.tmod (gcdV a b) == 0 && y.tmod (gcdV a b) == 0) && ((a / gcdV a b + b / gcdV a b) % 2 == 1 || (x.tdiv (gcdV a b) + y.tdiv (gcdV a b)).tmod 2 == 0)
def farIn (x y : Int) : Bool := inB x (-100) 100 && inB y (-100) 100
def canV (a b x y : Int) : Bool := leaperB a b && farIn x y && reachB a b x y
theorem far_eq {x y : Int} : farIn x y = decide (-100 ≤ x ∧ x ≤ 100 ∧ -100 ≤ y ∧ y ≤ 100) := by rw [Bool.eq_iff_iff]; simp [farIn, inB]; omega
theorem tdiv_small {x k : Int} (hx : -1000 ≤ x ∧ x ≤ 1000) : -1000 ≤ x.tdiv k ∧ x.tdiv k ≤ 1000 := by
  have h1 := Int.natAbs_tdiv_le_natAbs x k
  omega
theorem tdiv_add_of {x y k : Int} (hx : x.tmod k = 0) (hy : y.tmod k = 0) (hk : 1 ≤ k) : (x + y).tdiv k = x.tdiv k + y.tdiv k := by
  obtain ⟨p, rfl⟩ := Int.dvd_of_tmod_eq_zero hx
  obtain ⟨q, rfl⟩ := Int.dvd_of_tmod_eq_zero hy
  rw [← Int.mul_add, Int.mul_tdiv_cancel_left _ (by omega), Int.mul_tdiv_cancel_left _ (by omega), Int.mul_tdiv_cancel_left _ (by omega)]
theorem odd_iff {a b : Int} (h : leaperB a b = true) : ((a / gcdV a b) % 2 == 1 && (b / gcdV a b) % 2 == 1) = !((a / gcdV a b + b / gcdV a b) % 2 == 1) := by
  obtain ⟨l1, l2, l3, l4⟩ := leaperB_iff.1 h
  have ha : a = 0 ∨ a = 1 ∨ a = 2 ∨ a = 3 ∨ a = 4 ∨ a = 5 := by omega
  have hb : b = 1 ∨ b = 2 ∨ b = 3 ∨ b = 4 ∨ b = 5 := by omega
  clear h
  rcases ha with rfl | rfl | rfl | rfl | rfl | rfl <;> rcases hb with rfl | rfl | rfl | rfl | rfl <;> first | rfl | decide | omega
theorem quo_rng {a b : Int} (h : leaperB a b = true) : (0 ≤ a / gcdV a b ∧ a / gcdV a b ≤ 5) ∧ (0 ≤ b / gcdV a b ∧ b / gcdV a b ≤ 5) := by
  have h1 := gcdV_rng h
  obtain ⟨l1, l2, l3, l4⟩ := leaperB_iff.1 h
  exact ⟨⟨Int.ediv_nonneg l1 (by omega), Int.le_trans (Int.ediv_le_self _ l1) (by omega)⟩, ⟨Int.ediv_nonneg (by omega) (by omega), Int.le_trans (Int.ediv_le_self _ (by omega)) l4⟩⟩

end Go.Proofs.Ytaliknhfcdmohaa
