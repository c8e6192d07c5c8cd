/-
  Contracts: CanReachFar.
-/
import Derived.Test.YtaliknhfcdmohaaF3
namespace Go.Proofs.Ytaliknhfcdmohaa
open Go.RowKit

def withinB (x y m : Int) : Bool := decide (-m ≤ x ∧ x ≤ m ∧ -m ≤ y ∧ y ≤ m)
theorem within_far {x y : Int} : withinB x y 100 = farIn x y := by rw [far_eq, withinB]

set_option maxHeartbeats 1000000 in
theorem isWithin_any (x y m : Int) (w : World) (hm1 : 0 ≤ m) (hm2 : m ≤ 1000) :
    Calls Try.prog 56 #[lpr x y, .int .i64 m] w fun e w' => e = .returned (.bool (withinB x y m)) ∧ Below w.heap.size w w' := by
  by_cases h1 : -m ≤ x
  rotate_left
  · go_enter Try.func56, Try.ntmps56
    go_wp2
    go_ret
    exact ⟨ret_bool (by simp [withinB]; omega), below_new (Below.refl _ _) _⟩
  by_cases h2 : x ≤ m
  rotate_left
  · go_enter Try.func56, Try.ntmps56
    go_wp2
    go_ret
    exact ⟨ret_bool (by simp [withinB]; omega), below_new (Below.refl _ _) _⟩
  by_cases h3 : -m ≤ y
  rotate_left
  · go_enter Try.func56, Try.ntmps56
    go_wp2
    go_ret
    exact ⟨ret_bool (by simp [withinB]; omega), below_new (Below.refl _ _) _⟩
  · go_enter Try.func56, Try.ntmps56
    go_wp2
    go_ret
    exact ⟨ret_bool (by rw [Bool.eq_iff_iff]; simp [withinB]; omega), below_new (Below.refl _ _) _⟩

end Go.Proofs.Ytaliknhfcdmohaa
