/-
  Contracts: whether a spot is there.
-/
import Derived.Test.YtaliknhfcdmohaaQ1
import Derived.Test.YtaliknhfcdmohaaB9
import Derived.Deep.RegionHeld3
namespace Go.Proofs.Ytaliknhfcdmohaa
open Go.RowKit

set_option maxHeartbeats 400000 in
theorem number_gen (x y W : Int) (w : World) (hx : -5000 ≤ x ∧ x ≤ 5000) (hyW : -5000 ≤ y * W ∧ y * W ≤ 5000) :
    Calls Try.prog 59 #[lpr x y, .int .i64 W] w fun e w' => e = .returned (.int .i64 (y * W + x)) ∧ Below w.heap.size w w' := by
  obtain ⟨hx1, hx2⟩ := hx
  obtain ⟨hy1, hy2⟩ := hyW
  go_enter Try.func59, Try.ntmps59
  go_wp2
  go_ret
  exact ⟨rfl, below_new (Below.refl _ _) _⟩

theorem mul_bd {y W : Int} (hy : -100 ≤ y ∧ y ≤ 100) (hW : 1 ≤ W ∧ W ≤ 8) : -1000 ≤ y * W ∧ y * W ≤ 1000 := by
  have h : W = 1 ∨ W = 2 ∨ W = 3 ∨ W = 4 ∨ W = 5 ∨ W = 6 ∨ W = 7 ∨ W = 8 := by omega
  rcases h with rfl | rfl | rfl | rfl | rfl | rfl | rfl | rfl <;> omega

theorem spotB_no {W H : Int} {xs : List Int} {x y : Int} (hW : 1 ≤ W ∧ W ≤ 8) (h : ¬ (0 ≤ x ∧ x < W ∧ 0 ≤ y ∧ y < H)) : spotB W H xs x y = false := by
  cases hs : spotB W H xs x y with
  | false => rfl
  | true =>
    obtain ⟨⟨h1, h2⟩, h3⟩ := spotB_iff.1 hs
    have h4 := (hasB_iff.1 h3).1
    exact absurd ⟨h1, h2, by
      rcases Int.lt_or_le y 0 with hy | hy
      · have h5 : y * W ≤ -1 * W := Int.mul_le_mul_of_nonneg_right (by omega) (by omega)
        omega
      · exact hy, by
      rcases Int.lt_or_le y H with hy | hy
      · exact hy
      · have h5 : H * W ≤ y * W := Int.mul_le_mul_of_nonneg_right hy (by omega)
        rw [Int.mul_comm H W] at h5
        omega⟩ h
end Go.Proofs.Ytaliknhfcdmohaa
