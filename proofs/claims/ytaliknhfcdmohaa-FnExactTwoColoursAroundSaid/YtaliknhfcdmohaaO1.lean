/-
  Contracts: boards around, their cells and steps: what is asked, and where a step leads, in the model and in the program.
-/
import Derived.Test.YtaliknhfcdmohaaO0
import Derived.Test.YtaliknhfcdmohaaS5
import Derived.Test.YtaliknhfcdmohaaF4
namespace Go.Proofs.Ytaliknhfcdmohaa
open Go.RowKit

abbrev ard (W H : Int) (ac up : Bool) : Value := .agg #[.int .i64 W, .int .i64 H, .bool ac, .bool up]

set_option maxHeartbeats 400000 in
theorem toAround_any (W H : Int) (ac up : Bool) (w : World) :
    Calls Try.prog 18 #[ard W H ac up] w fun e w' => e = .returned (ard W H ac up) ∧ Below w.heap.size w w' := by
  go_enter Try.func18, Try.ntmps18
  go_wp2
  exact bodyPost_ret (v := ard W H ac up) (by simp [results, Try.results18, go_sem]) rfl ⟨rfl, (by repeat (first | exact Below.refl _ _ | refine Below.setCell ?_ (by simp) _ | refine Below.setCell ?_ (by simp; omega) _ | refine below_new ?_ _ | refine Below.drew ?_))⟩

set_option maxHeartbeats 400000 in
theorem arGood_any (W H : Int) (ac up : Bool) (w : World) :
    Calls Try.prog 50 #[ard W H ac up] w fun e w' => e = .returned (.bool (goodA W H)) ∧ Below w.heap.size w w' := by
  cases h1 : inB W 1 12
  all_goals
    go_enter Try.func50, Try.ntmps50
    go_wp2_with (go_at_call 85; refine (l1In_any _ _ _ _).mono ?_; rintro e w1 ⟨rfl, rfl⟩)
    go_ret
    exact ⟨ret_bool (by rw [goodA, h1]; simp), below_new (Below.refl _ _) _⟩

set_option maxHeartbeats 400000 in
theorem spec_IsAround (W H : Int) (ac up : Bool) (w : World) :
    Calls Try.prog 17 #[ard W H ac up] w fun e w' => e = .returned (.bool (goodA W H)) ∧ Below w.heap.size w w' := by
  go_enter Try.func17, Try.ntmps17
  go_wp2_with (go_at_call 50; refine (arGood_any _ _ _ _ _).mono ?_; rintro e w1 ⟨rfl, hb⟩)
  go_ret
  exact ⟨rfl, below_box hb⟩

set_option maxHeartbeats 400000 in
theorem isSizeAround_any (n : Int) (w : World) :
    Calls Try.prog 51 #[.int .i64 n] w fun e w' => e = .returned (.bool (inB n 1 12)) ∧ w = w' := by
  by_cases h1 : 1 ≤ n
  · go_enter Try.func51, Try.ntmps51
    go_wp2
    go_ret
    exact ⟨ret_bool (by simp [inB, h1]), rfl⟩
  · go_enter Try.func51, Try.ntmps51
    go_wp2
    go_ret
    exact ⟨ret_bool (by simp [inB]; omega), rfl⟩

set_option maxHeartbeats 400000 in
theorem impl_IsAround (W H : Int) (ac up : Bool) (w : World) :
    Calls Try.prog 19 #[ard W H ac up] w fun e w' => e = .returned (.bool (goodA W H)) ∧ Below w.heap.size w w' := by
  cases h1 : inB W 1 12
  all_goals
    go_enter Try.func19, Try.ntmps19
    go_wp2_with (go_at_call 51; refine (isSizeAround_any _ _).mono ?_; rintro e w1 ⟨rfl, rfl⟩)
    go_ret
    exact ⟨ret_bool (by rw [goodA, h1]; simp), below_new (Below.refl _ _) _⟩

set_option maxHeartbeats 400000 in
theorem arBy_any (x y : Int) (w : World) :
    Calls Try.prog 53 #[.int .i64 x, .int .i64 y] w fun e w' => e = .returned (.bool (byA x y)) ∧ w = w' := by
  cases h1 : inB x (-20) 20
  all_goals
    go_enter Try.func53, Try.ntmps53
    go_wp2_with (go_at_call 85; refine (l1In_any _ _ _ _).mono ?_; rintro e w1 ⟨rfl, rfl⟩)
    go_ret
    exact ⟨ret_bool (by rw [byA, h1]; simp), rfl⟩

set_option maxHeartbeats 400000 in
theorem isIn_any (x y W H : Int) (w : World) :
    Calls Try.prog 90 #[lpr x y, .int .i64 W, .int .i64 H] w fun e w' => e = .returned (.bool (inA W H x y)) ∧ Below w.heap.size w w' := by
  by_cases h1 : 0 ≤ x
  rotate_left
  · go_enter Try.func90, Try.ntmps90
    go_wp2
    go_ret
    exact ⟨ret_bool (by simp [inA, inB]; omega), below_new (Below.refl _ _) _⟩
  by_cases h2 : x < W
  rotate_left
  · go_enter Try.func90, Try.ntmps90
    go_wp2
    go_ret
    exact ⟨ret_bool (by simp [inA, inB]; omega), below_new (Below.refl _ _) _⟩
  by_cases h3 : 0 ≤ y
  rotate_left
  · go_enter Try.func90, Try.ntmps90
    go_wp2
    go_ret
    exact ⟨ret_bool (by simp [inA, inB]; omega), below_new (Below.refl _ _) _⟩
  · go_enter Try.func90, Try.ntmps90
    go_wp2
    go_ret
    exact ⟨ret_bool (by rw [Bool.eq_iff_iff, inA_iff]; simp; omega), below_new (Below.refl _ _) _⟩

set_option maxHeartbeats 400000 in
theorem wrapped_any (p n : Int) (w : World) (hn : 1 ≤ n ∧ n ≤ 12) (hp : -1000 ≤ p ∧ p ≤ 1000) :
    Calls Try.prog 89 #[.int .i64 p, .int .i64 n] w fun e w' => e = .returned (.int .i64 (p % n)) ∧ w = w' := by
  obtain ⟨hn1, hn2⟩ := hn
  obtain ⟨hp1, hp2⟩ := hp
  obtain ⟨t, ht⟩ : ∃ t, p.tmod n = t := ⟨_, rfl⟩
  have h1 : -12 ≤ t ∧ t ≤ 12 ∧ 0 ≤ t + n := by have := Int.lt_tmod_of_pos p (show 0 < n by omega); have := Int.tmod_lt_of_pos p (show 0 < n by omega); omega
  obtain ⟨u1, u2, u3⟩ := h1
  have hr : (t + n) % n = p % n := by have := wrap_tmod (p := p) hn1; rw [ht, Int.tmod_eq_emod_of_nonneg u3] at this; exact this
  go_enter Try.func89, Try.ntmps89
  go_wp2
  go_ret
  exact ⟨by show Ending.returned (Value.int IntKind.i64 ((t + n) % n)) = _; rw [hr], rfl⟩

set_option maxHeartbeats 400000 in
theorem numbered_any (q W : Int) (w : World) (hW : 1 ≤ W ∧ W ≤ 12) (hq : 0 ≤ q ∧ q ≤ 144) :
    Calls Try.prog 58 #[.int .i64 q, .int .i64 W] w fun e w' => e = .returned (lpr (q % W) (q / W)) ∧ Below w.heap.size w w' := by
  obtain ⟨hW1, hW2⟩ := hW
  obtain ⟨hq1, hq2⟩ := hq
  go_enter Try.func58, Try.ntmps58
  go_wp2
  go_region
  all_goals go_wp2
  exact bodyPost_ret (v := lpr (q % W) (q / W)) (by simp [results, Try.results58, go_sem]) rfl ⟨rfl, (by repeat (first | exact Below.refl _ _ | refine Below.setCell ?_ (by simp) _ | refine Below.drew ?_ | refine below_drewN ?_ _ | refine below_new ?_ _))⟩

end Go.Proofs.Ytaliknhfcdmohaa
