/-
  Contracts: whether a number lies in bounds; whether it is one of leaps.
-/
import Derived.Test.YtmmfjmgjkbplpaaB3
namespace Go.Proofs.Ytmmfjmgjkbplpaa
open Go.RowKit

theorem l1In_b (n lo hi : Int) (w : World) : Calls Try.prog 22 #[.int .i64 n, .int .i64 lo, .int .i64 hi] w fun e w' => e = .returned (.bool (inB n lo hi)) ∧ Below w.heap.size w w' :=
  (l1In_any n lo hi w).mono fun _ _ h => ⟨h.1, h.2 ▸ Below.refl _ _⟩
set_option maxRecDepth 100000 in
set_option maxHeartbeats 400000 in
theorem isNumberOfLeaps_any (q : Int) (w : World) :
    Calls Try.prog 26 #[.int .i64 q] w fun e w' => e = .returned (.bool (inB q 0 12)) ∧ Below w.heap.size w w' := by
  by_cases h1 : 0 ≤ q
  · go_enter Try.func26, Try.ntmps26
    go_wp2
    all_goals go_ret
    all_goals exact ⟨ret_bool (by simp [inB]; omega), Below.refl _ _⟩
  · go_enter Try.func26, Try.ntmps26
    go_wp2
    all_goals go_ret
    all_goals exact ⟨ret_bool (by simp [inB]; omega), Below.refl _ _⟩

end Go.Proofs.Ytmmfjmgjkbplpaa
