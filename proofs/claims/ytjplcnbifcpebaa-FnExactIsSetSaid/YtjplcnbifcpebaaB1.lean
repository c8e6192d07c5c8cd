/-
  Contracts: leapers, sizes, boards, in the program and in its model.
-/
import Derived.Test.YtjplcnbifcpebaaHelp
import Derived.Test.YtjplcnbifcpebaaPure
namespace Go.Proofs.Ytjplcnbifcpebaa
open Go.RowKit

set_option maxHeartbeats 400000 in
theorem l1In_any (n lo hi : Int) (w : World) :
    Calls Try.prog 21 #[.int .i64 n, .int .i64 lo, .int .i64 hi] w fun e w' => e = .returned (.bool (inB n lo hi)) ∧ w = w' := by
  by_cases h1 : lo ≤ n
  · go_enter Try.func21, Try.ntmps21
    go_wp2
    go_ret
    exact ⟨ret_bool (by simp [inB, h1]), rfl⟩
  · go_enter Try.func21, Try.ntmps21
    go_wp2
    go_ret
    exact ⟨ret_bool (by simp [inB]; omega), rfl⟩

set_option maxHeartbeats 400000 in
theorem isSize_any (n : Int) (w : World) :
    Calls Try.prog 19 #[.int .i64 n] w fun e w' => e = .returned (.bool (sizeB n)) ∧ w = w' := by
  by_cases h1 : 1 ≤ n
  · go_enter Try.func19, Try.ntmps19
    go_wp2
    go_ret
    exact ⟨ret_bool (by simp [sizeB, h1]), rfl⟩
  · go_enter Try.func19, Try.ntmps19
    go_wp2
    go_ret
    exact ⟨ret_bool (by simp [sizeB]; omega), rfl⟩

set_option maxHeartbeats 400000 in
theorem boSize_any (m n : Int) (w : World) :
    Calls Try.prog 16 #[.int .i64 m, .int .i64 n] w fun e w' => e = .returned (.bool (sizeB m && sizeB n)) ∧ w = w' := by
  by_cases h1 : inB m 1 8 = true
  · go_enter Try.func16, Try.ntmps16
    go_wp2_with (go_at_call 21; refine (l1In_any _ _ _ _).mono ?_; rintro e w1 ⟨rfl, rfl⟩)
    go_ret
    exact ⟨ret_bool (by rw [Bool.eq_iff_iff]; simp [inB, sizeB] at h1 ⊢; omega), rfl⟩
  · have h2 : inB m 1 8 = false := by simpa using h1
    clear h1
    go_enter Try.func16, Try.ntmps16
    go_wp2_with (go_at_call 21; refine (l1In_any _ _ _ _).mono ?_; rintro e w1 ⟨rfl, rfl⟩)
    go_ret
    exact ⟨ret_bool (by rw [Bool.eq_iff_iff]; simp [inB, sizeB] at h2 ⊢; omega), rfl⟩

end Go.Proofs.Ytjplcnbifcpebaa
