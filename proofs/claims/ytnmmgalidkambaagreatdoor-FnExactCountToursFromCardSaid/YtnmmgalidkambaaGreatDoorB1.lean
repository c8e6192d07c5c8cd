/-
  Contracts: leapers, sizes, boards, in the program and in its model.
-/
import Derived.Test.YtnmmgalidkambaaGreatDoorHelp
import Derived.Test.YtnmmgalidkambaaGreatDoorPure
namespace Go.Proofs.YtnmmgalidkambaaGreatDoor
open Go.RowKit

set_option maxHeartbeats 400000 in
theorem l1In_any (n lo hi : Int) (w : World) :
    Calls Tryz.prog 58 #[.int .i64 n, .int .i64 lo, .int .i64 hi] w fun e w' => e = .returned (.bool (inB n lo hi)) ∧ w = w' := by
  by_cases h1 : lo ≤ n
  · go_enter Tryz.func58, Tryz.ntmps58
    go_wp2
    go_ret
    exact ⟨ret_bool (by simp [inB, h1]), rfl⟩
  · go_enter Tryz.func58, Tryz.ntmps58
    go_wp2
    go_ret
    exact ⟨ret_bool (by simp [inB]; omega), rfl⟩

set_option maxHeartbeats 400000 in
theorem isSize_any (n : Int) (w : World) :
    Calls Tryz.prog 83 #[.int .i64 n] w fun e w' => e = .returned (.bool (sizeB n)) ∧ w = w' := by
  by_cases h1 : 1 ≤ n
  · go_enter Tryz.func83, Tryz.ntmps83
    go_wp2
    go_ret
    exact ⟨ret_bool (by simp [sizeB, h1]), rfl⟩
  · go_enter Tryz.func83, Tryz.ntmps83
    go_wp2
    go_ret
    exact ⟨ret_bool (by simp [sizeB]; omega), rfl⟩

set_option maxHeartbeats 400000 in
theorem boSize_any (m n : Int) (w : World) :
    Calls Tryz.prog 81 #[.int .i64 m, .int .i64 n] w fun e w' => e = .returned (.bool (sizeB m && sizeB n)) ∧ w = w' := by
  by_cases h1 : inB m 1 8 = true
  · go_enter Tryz.func81, Tryz.ntmps81
    go_wp2_with (go_at_call 58; refine (l1In_any _ _ _ _).mono ?_; rintro e w1 ⟨rfl, rfl⟩)
    go_ret
    exact ⟨ret_bool (by rw [Bool.eq_iff_iff]; simp [inB, sizeB] at h1 ⊢; omega), rfl⟩
  · have h2 : inB m 1 8 = false := by simpa using h1
    clear h1
    go_enter Tryz.func81, Tryz.ntmps81
    go_wp2_with (go_at_call 58; refine (l1In_any _ _ _ _).mono ?_; rintro e w1 ⟨rfl, rfl⟩)
    go_ret
    exact ⟨ret_bool (by rw [Bool.eq_iff_iff]; simp [inB, sizeB] at h2 ⊢; omega), rfl⟩

set_option maxHeartbeats 400000 in
theorem boLeaper_any (a b : Int) (w : World) :
    Calls Tryz.prog 63 #[lpr a b] w fun e w' => e = .returned (.bool (leaperB a b)) ∧ Below w.heap.size w w' := by
  by_cases h1 : inB b 1 5 = true
  · go_enter Tryz.func63, Tryz.ntmps63
    go_wp2_with (go_at_call 58; refine (l1In_any _ _ _ _).mono ?_; rintro e w1 ⟨rfl, rfl⟩)
    go_ret
    exact ⟨ret_bool (by rw [Bool.eq_iff_iff]; simp [inB, leaperB] at h1 ⊢; omega), below_new (Below.refl _ _) _⟩
  · have h2 : inB b 1 5 = false := by simpa using h1
    clear h1
    go_enter Tryz.func63, Tryz.ntmps63
    go_wp2_with (go_at_call 58; refine (l1In_any _ _ _ _).mono ?_; rintro e w1 ⟨rfl, rfl⟩)
    go_ret
    exact ⟨ret_bool (by rw [Bool.eq_iff_iff]; simp [inB, leaperB] at h2 ⊢; omega), below_new (Below.refl _ _) _⟩

set_option maxHeartbeats 400000 in
theorem isLeaper_any (a b : Int) (w : World) :
    Calls Tryz.prog 65 #[lpr a b] w fun e w' => e = .returned (.bool (leaperB a b)) ∧ Below w.heap.size w w' := by
  by_cases h1 : 0 ≤ a
  · by_cases h2 : a ≤ b
    · by_cases h3 : 1 ≤ b
      all_goals
        go_enter Tryz.func65, Tryz.ntmps65
        go_wp2
        go_ret
        exact ⟨ret_bool (by rw [Bool.eq_iff_iff]; simp [leaperB]; omega), below_new (Below.refl _ _) _⟩
    · go_enter Tryz.func65, Tryz.ntmps65
      go_wp2
      go_ret
      exact ⟨ret_bool (by rw [Bool.eq_iff_iff]; simp [leaperB]; omega), below_new (Below.refl _ _) _⟩
  · go_enter Tryz.func65, Tryz.ntmps65
    go_wp2
    go_ret
    exact ⟨ret_bool (by rw [Bool.eq_iff_iff]; simp [leaperB]; omega), below_new (Below.refl _ _) _⟩

end Go.Proofs.YtnmmgalidkambaaGreatDoor
