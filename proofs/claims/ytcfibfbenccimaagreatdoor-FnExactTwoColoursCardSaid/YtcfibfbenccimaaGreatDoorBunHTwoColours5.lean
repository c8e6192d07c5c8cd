/-
  Contracts: whether a spot is there.
  Contracts: spots added and taken away, the opposite one.
  Contracts: the leaps from a cell, in the program.
  Contracts: the cells to which a leaper leaps, in the program, in order.
  Steps of regions that append (U0), with what stands ahead of them.
  Contracts: the cells to which a leaper leaps, in the program, in order.
-/
import Derived.Test.YtcfibfbenccimaaGreatDoorBunHTwoColours3
import Derived.Test.YtcfibfbenccimaaGreatDoorBunHTwoColours2
import Derived.Deep.RegionHeld3
import Derived.Test.YtcfibfbenccimaaGreatDoorBunHTwoColours4
import Derived.Deep.RegionWith
import Derived.Deep.DeepCutAuto
import Derived.Sort.OwnSortedInts
namespace Go.Proofs.YtcfibfbenccimaaGreatDoor
open Go.RowKit

set_option maxHeartbeats 400000 in
theorem number_gen (x y W : Int) (w : World) (hx : -5000 ≤ x ∧ x ≤ 5000) (hyW : -5000 ≤ y * W ∧ y * W ≤ 5000) :
    Calls Tryz.prog 85 #[lpr x y, .int .i64 W] w fun e w' => e = .returned (.int .i64 (y * W + x)) ∧ Below w.heap.size w w' := by
  obtain ⟨hx1, hx2⟩ := hx
  obtain ⟨hy1, hy2⟩ := hyW
  go_enter Tryz.func85, Tryz.ntmps85
  go_wp2
  go_ret
  exact ⟨rfl, below_new (Below.refl _ _) _⟩

theorem mul_bd {y W : Int} (hy : -100 ≤ y ∧ y ≤ 100) (hW : 1 ≤ W ∧ W ≤ 8) : -1000 ≤ y * W ∧ y * W ≤ 1000 := by
  have h : W = 1 ∨ W = 2 ∨ W = 3 ∨ W = 4 ∨ W = 5 ∨ W = 6 ∨ W = 7 ∨ W = 8 := by omega
  rcases h with rfl | rfl | rfl | rfl | rfl | rfl | rfl | rfl <;> omega

theorem spotB_no {W H : Int} {xs : List Int} {x y : Int} (hW : 1 ≤ W ∧ W ≤ 8) (h : ¬ (0 ≤ x ∧ x < W ∧ 0 ≤ y ∧ y < H)) : spotB W H xs x y = false := by
  cases hs : spotB W H xs x y with
  | false => rfl
  | true =>
    obtain ⟨⟨h1, h2⟩, h3⟩ := spotB_iff.1 hs
    have h4 := (hasB_iff.1 h3).1
    exact absurd ⟨h1, h2, by
      rcases Int.lt_or_le y 0 with hy | hy
      · have h5 : y * W ≤ -1 * W := Int.mul_le_mul_of_nonneg_right (by omega) (by omega)
        omega
      · exact hy, by
      rcases Int.lt_or_le y H with hy | hy
      · exact hy
      · have h5 : H * W ≤ y * W := Int.mul_le_mul_of_nonneg_right hy (by omega)
        rw [Int.mul_comm H W] at h5
        omega⟩ h
set_option maxHeartbeats 400000 in
theorem isInS_any (x y W H : Int) (w : World) :
    Calls Tryz.prog 114 #[lpr x y, .int .i64 W, .int .i64 H] w fun e w' => e = .returned (.bool (decide (0 ≤ x ∧ x < W ∧ 0 ≤ y ∧ y < H))) ∧ Below w.heap.size w w' := by
  by_cases h0 : 0 ≤ x
  rotate_left
  · go_enter Tryz.func114, Tryz.ntmps114
    go_wp2
    go_ret
    exact ⟨ret_bool (by simp; omega), below_new (Below.refl _ _) _⟩
  by_cases h1 : x < W
  rotate_left
  · go_enter Tryz.func114, Tryz.ntmps114
    go_wp2
    go_ret
    exact ⟨ret_bool (by simp; omega), below_new (Below.refl _ _) _⟩
  by_cases h2 : 0 ≤ y
  rotate_left
  · go_enter Tryz.func114, Tryz.ntmps114
    go_wp2
    go_ret
    exact ⟨ret_bool (by simp; omega), below_new (Below.refl _ _) _⟩
  by_cases h3 : y < H
  rotate_left
  · go_enter Tryz.func114, Tryz.ntmps114
    go_wp2
    go_ret
    exact ⟨ret_bool (by simp; omega), below_new (Below.refl _ _) _⟩
  go_enter Tryz.func114, Tryz.ntmps114
  go_wp2
  go_ret
  exact ⟨ret_bool (by simp; omega), below_new (Below.refl _ _) _⟩

set_option maxRecDepth 100000 in
set_option maxHeartbeats 2000000 in
theorem isSpotThere_gen (W H : Int) (A : Option Addr) (n c : Nat) (xs : List Int) (x y : Int) (w : World) (ha : Rd w A n xs) (hg : goodB W H xs = true) :
    Calls Tryz.prog 97 #[brd W H A n c, lpr x y] w fun e w' => e = .returned (.bool (spotB W H xs x y)) ∧ Below w.heap.size w w' := by
  obtain ⟨W2, hW2⟩ : ∃ W2, W2 = (w.alloc (.cells #[.int .i64 W, .int .i64 H, .slice A n c] 30)).alloc (.cells #[.int .i64 x, .int .i64 y] 94) := ⟨_, rfl⟩
  have hsz : W2.heap.size = w.heap.size + 2 := by rw [hW2]; simp
  have a0 : W2.cell? ⟨w.heap.size, 0, none⟩ = some (.int .i64 W) := by rw [hW2]; go_simp
  have a1 : W2.cell? ⟨w.heap.size, 1, none⟩ = some (.int .i64 H) := by rw [hW2]; go_simp
  have a2 : W2.cell? ⟨w.heap.size, 2, none⟩ = some (.slice A n c) := by rw [hW2]; go_simp
  have al : w.heap.size < W2.heap.size := by omega
  have s0 : W2.cell? ⟨w.heap.size + 1, 0, none⟩ = some (.int .i64 x) := by rw [hW2]; go_simp
  have s1 : W2.cell? ⟨w.heap.size + 1, 1, none⟩ = some (.int .i64 y) := by rw [hW2]; go_simp
  have sl : w.heap.size + 1 < W2.heap.size := by omega
  have B := Lib.hid (show Below w.heap.size w W2 by rw [hW2]; repeat (first | exact Below.refl _ _ | refine below_new ?_ _))
  clear hsz
  have R := Lib.hid (ha.keep B.out)
  have HG := Lib.hid hg
  obtain ⟨hWW, hHH, -, -⟩ := goodB_iff.1 hg
  have HWW := Lib.hid hWW; have HHH := Lib.hid hHH
  clear hg hWW hHH ha
  by_cases h : 0 ≤ x ∧ x < W ∧ 0 ≤ y ∧ y < H
  · obtain ⟨h1, h2, h3, h4⟩ := h
    have h : 0 ≤ x ∧ x < W ∧ 0 ≤ y ∧ y < H := ⟨h1, h2, h3, h4⟩
    have hs : spotB W H xs x y = hasB W H xs (y * W + x) := by rw [Bool.eq_iff_iff, spotB_iff]; simp [h1, h2]
    go_enter Tryz.func97, Tryz.ntmps97
    go_wp2_with fail
    rw [← hW2]
    clear hW2
    refine wp_region_held_drew (S := fun w' => w'.cell? ⟨w.heap.size, 0, none⟩ = some (.int .i64 W) ∧ w'.cell? ⟨w.heap.size, 1, none⟩ = some (.int .i64 H) ∧ w'.cell? ⟨w.heap.size, 2, none⟩ = some (.slice A n c) ∧ w'.cell? ⟨w.heap.size + 1, 0, none⟩ = some (.int .i64 x) ∧ w'.cell? ⟨w.heap.size + 1, 1, none⟩ = some (.int .i64 y)) (by kernel_rfl) ?_ (fun hHeld => ?_)
    · (try dsimp only)
      exact ⟨a0, a1, a2, s0, s1⟩
    refine wpAnyH_take (i := 0) (oi := ⟨_, _, _, _, _, _⟩) (v := ?_) rfl (by kernel_rfl) (by kernel_rfl) (by kernel_rfl) (fun _ _ _ h => h) (Or.inl ⟨by rfl, ?_⟩) (by assumption) ?_
    rotate_left
    · intro w hSw
      (try dsimp only at hSw)
      go_simp
      (try with_reducible rfl)
    (try simp only [Act.put, List.setIfInBounds_toArray, List.set_cons_zero, List.set_cons_succ])
    refine wpAnyH_take (i := 1) (oi := ⟨_, _, _, _, _, _⟩) (v := ?_) rfl (by kernel_rfl) (by kernel_rfl) (by kernel_rfl) (fun _ _ _ h => h) (Or.inl ⟨by rfl, ?_⟩) (by assumption) ?_
    rotate_left
    · intro w hSw
      (try dsimp only at hSw)
      go_simp
      (try with_reducible rfl)
    (try simp only [Act.put, List.setIfInBounds_toArray, List.set_cons_zero, List.set_cons_succ])
    refine wpAnyH_take (i := 3) (oi := ⟨_, _, _, _, _, _⟩) (v := ?_) rfl (by kernel_rfl) (by kernel_rfl) (by kernel_rfl) (fun _ _ _ h => h) (Or.inl ⟨by rfl, ?_⟩) (by assumption) ?_
    rotate_left
    · intro w hSw
      (try dsimp only at hSw)
      go_simp
      (try with_reducible rfl)
    (try simp only [Act.put, List.setIfInBounds_toArray, List.set_cons_zero, List.set_cons_succ])
    refine wpAnyH_take (i := 2) (oi := ⟨_, _, _, _, _, _⟩) (v := ?_) rfl (by kernel_rfl) (by kernel_rfl) (by kernel_rfl) (fun _ _ _ h => h) (Or.inl ⟨by rfl, ?_⟩) (by assumption) ?_
    rotate_left
    · intro w hSw
      (try dsimp only at hSw)
      go_simp
      (try with_reducible rfl)
    (try simp only [Act.put, List.setIfInBounds_toArray, List.set_cons_zero, List.set_cons_succ])
    refine wpAnyH_take (i := 4) (oi := ⟨_, _, _, _, _, _⟩) (v := ?_) rfl (by kernel_rfl) (by kernel_rfl) (by kernel_rfl) (fun _ _ _ h => h) (Or.inl ⟨by rfl, ?_⟩) (by assumption) ?_
    rotate_left
    · intro w hSw
      (try dsimp only at hSw)
      go_simp
      (try with_reducible rfl)
    (try simp only [Act.put, List.setIfInBounds_toArray, List.set_cons_zero, List.set_cons_succ])
    refine wpAnyH_ready (rs := [5]) (by kernel_rfl) (by simp) ?_
    refine AllReadyH.cons (o := ⟨_, _, _, _, _, _⟩) rfl (fun K hK => ?_) AllReadyH.nil
    go_simp
    (go_at_call 114; refine (isInS_any x y W H _).mono ?_; rw [show decide (0 ≤ x ∧ x < W ∧ 0 ≤ y ∧ y < H) = true by simpa using h]; rintro e wv ⟨rfl, hb⟩; (repeat (first | replace hb := below_undrew hb | replace hb := below_undrewN hb)); replace a0 := cell_keep a0 al hb; replace a1 := cell_keep a1 al hb; replace a2 := cell_keep a2 al hb; replace al := lt_keep al hb; replace s0 := cell_keep s0 sl hb; replace s1 := cell_keep s1 sl hb; replace sl := lt_keep sl hb; replace R := Lib.hid (R.out.keep hb); replace B := Lib.hid (below_next B.out hb); clear hb)
    (try go_wp2_with fail)
    refine hK.out _ _ ?_ (fun hHeld => ?_)
    · (try dsimp only)
      exact ⟨a0, a1, a2, s0, s1⟩
    clear hK K
    (try simp only [Act.put, List.setIfInBounds_toArray, List.set_cons_zero, List.set_cons_succ])
    refine wpAnyH_take (i := 6) (oi := ⟨_, _, _, _, _, _⟩) (v := ?_) rfl (by kernel_rfl) (by kernel_rfl) (by kernel_rfl) (fun _ _ _ h => h) (Or.inl ⟨by rfl, ?_⟩) (by assumption) ?_
    rotate_left
    · intro w hSw
      (try dsimp only at hSw)
      go_simp
      (try with_reducible rfl)
    (try simp only [Act.put, List.setIfInBounds_toArray, List.set_cons_zero, List.set_cons_succ])
    refine wpAnyH_take (i := 7) (oi := ⟨_, _, _, _, _, _⟩) (v := ?_) rfl (by kernel_rfl) (by kernel_rfl) (by kernel_rfl) (fun _ _ _ h => h) (Or.inl ⟨by rfl, ?_⟩) (by assumption) ?_
    rotate_left
    · intro w hSw
      (try dsimp only at hSw)
      go_simp
      (try with_reducible rfl)
    (try simp only [Act.put, List.setIfInBounds_toArray, List.set_cons_zero, List.set_cons_succ])
    refine wpAnyH_take (i := 8) (oi := ⟨_, _, _, _, _, _⟩) (v := ?_) rfl (by kernel_rfl) (by kernel_rfl) (by kernel_rfl) (fun _ _ _ h => h) (Or.inl ⟨by rfl, ?_⟩) (by assumption) ?_
    rotate_left
    · intro w hSw
      (try dsimp only at hSw)
      go_simp
      (try with_reducible rfl)
    (try simp only [Act.put, List.setIfInBounds_toArray, List.set_cons_zero, List.set_cons_succ])
    refine wpAnyH_take (i := 9) (oi := ⟨_, _, _, _, _, _⟩) (v := ?_) rfl (by kernel_rfl) (by kernel_rfl) (by kernel_rfl) (fun _ _ _ h => h) (Or.inl ⟨by rfl, ?_⟩) (by assumption) ?_
    rotate_left
    · intro w hSw
      (try dsimp only at hSw)
      go_simp
      (try with_reducible rfl)
    (try simp only [Act.put, List.setIfInBounds_toArray, List.set_cons_zero, List.set_cons_succ])
    refine wpAnyH_take (i := 10) (oi := ⟨_, _, _, _, _, _⟩) (v := ?_) rfl (by kernel_rfl) (by kernel_rfl) (by kernel_rfl) (fun _ _ _ h => h) (Or.inl ⟨by rfl, ?_⟩) (by assumption) ?_
    rotate_left
    · intro w hSw
      (try dsimp only at hSw)
      go_simp
      (try with_reducible rfl)
    (try simp only [Act.put, List.setIfInBounds_toArray, List.set_cons_zero, List.set_cons_succ])
    refine wpAnyH_ready (rs := [11]) (by kernel_rfl) (by simp) ?_
    refine AllReadyH.cons (o := ⟨_, _, _, _, _, _⟩) rfl (fun K hK => ?_) AllReadyH.nil
    go_simp
    (go_at_call 85; refine (number_gen x y W _ (by have := HWW.out; omega) (by have := mul_bd (y := y) (W := W) (by have := HHH.out; omega) HWW.out; omega)).mono ?_; rintro e wv ⟨rfl, hb⟩; (repeat (first | replace hb := below_undrew hb | replace hb := below_undrewN hb)); replace a0 := cell_keep a0 al hb; replace a1 := cell_keep a1 al hb; replace a2 := cell_keep a2 al hb; replace al := lt_keep al hb; replace s0 := cell_keep s0 sl hb; replace s1 := cell_keep s1 sl hb; replace sl := lt_keep sl hb; replace R := Lib.hid (R.out.keep hb); replace B := Lib.hid (below_next B.out hb); clear hb)
    (try go_wp2_with fail)
    refine hK.out _ _ ?_ (fun hHeld => ?_)
    · (try dsimp only)
      exact ⟨a0, a1, a2, s0, s1⟩
    clear hK K
    (try simp only [Act.put, List.setIfInBounds_toArray, List.set_cons_zero, List.set_cons_succ])
    refine wpAnyH_ready (rs := [12]) (by kernel_rfl) (by simp) ?_
    refine AllReadyH.cons (o := ⟨_, _, _, _, _, _⟩) rfl (fun K hK => ?_) AllReadyH.nil
    go_simp
    (go_at_call 81; refine (isThere_any W H A n c (y * W + x) xs _ (by exact R.out) HG.out).mono ?_; rintro e wv ⟨rfl, hb⟩; (repeat (first | replace hb := below_undrew hb | replace hb := below_undrewN hb)); replace a0 := cell_keep a0 al hb; replace a1 := cell_keep a1 al hb; replace a2 := cell_keep a2 al hb; replace al := lt_keep al hb; replace s0 := cell_keep s0 sl hb; replace s1 := cell_keep s1 sl hb; replace sl := lt_keep sl hb; replace R := Lib.hid (R.out.keep hb); replace B := Lib.hid (below_next B.out hb); clear hb)
    (try go_wp2_with fail)
    refine hK.out _ _ ?_ (fun hHeld => ?_)
    · (try dsimp only)
      exact ⟨a0, a1, a2, s0, s1⟩
    clear hK K
    (try simp only [Act.put, List.setIfInBounds_toArray, List.set_cons_zero, List.set_cons_succ])
    refine wpAnyH_take (i := 13) (oi := ⟨_, _, _, _, _, _⟩) (v := ?_) rfl (by kernel_rfl) (by kernel_rfl) (by kernel_rfl) (fun _ _ _ h => h) (Or.inl ⟨by rfl, ?_⟩) (by assumption) ?_
    rotate_left
    · intro w hSw
      (try dsimp only at hSw)
      go_simp
      (try with_reducible rfl)
    (try simp only [Act.put, List.setIfInBounds_toArray, List.set_cons_zero, List.set_cons_succ])
    refine wpAnyH_take (i := 14) (oi := ⟨_, _, _, _, _, _⟩) (v := ?_) rfl (by kernel_rfl) (by kernel_rfl) (by kernel_rfl) (fun _ _ _ h => h) (Or.inl ⟨by rfl, ?_⟩) (by assumption) ?_
    rotate_left
    · intro w hSw
      (try dsimp only at hSw)
      go_simp
      (try with_reducible rfl)
    (try simp only [Act.put, List.setIfInBounds_toArray, List.set_cons_zero, List.set_cons_succ])
    refine wpAnyH_done (by kernel_rfl) ?_ _
    clear hHeld
    (try go_wp2_with fail)
    go_ret
    exact ⟨ret_bool (by rw [hs]), (by repeat (first | exact B.out | refine below_drewN ?_ _ | refine Below.drew ?_))⟩
  
  · have hs := spotB_no (xs := xs) HWW.out h
    go_enter Tryz.func97, Tryz.ntmps97
    go_wp2_with fail
    rw [← hW2]
    clear hW2
    refine wp_region_held_drew (S := fun w' => w'.cell? ⟨w.heap.size, 0, none⟩ = some (.int .i64 W) ∧ w'.cell? ⟨w.heap.size, 1, none⟩ = some (.int .i64 H) ∧ w'.cell? ⟨w.heap.size, 2, none⟩ = some (.slice A n c) ∧ w'.cell? ⟨w.heap.size + 1, 0, none⟩ = some (.int .i64 x) ∧ w'.cell? ⟨w.heap.size + 1, 1, none⟩ = some (.int .i64 y)) (by kernel_rfl) ?_ (fun hHeld => ?_)
    · (try dsimp only)
      exact ⟨a0, a1, a2, s0, s1⟩
    refine wpAnyH_take (i := 0) (oi := ⟨_, _, _, _, _, _⟩) (v := ?_) rfl (by kernel_rfl) (by kernel_rfl) (by kernel_rfl) (fun _ _ _ h => h) (Or.inl ⟨by rfl, ?_⟩) (by assumption) ?_
    rotate_left
    · intro w hSw
      (try dsimp only at hSw)
      go_simp
      (try with_reducible rfl)
    (try simp only [Act.put, List.setIfInBounds_toArray, List.set_cons_zero, List.set_cons_succ])
    refine wpAnyH_take (i := 1) (oi := ⟨_, _, _, _, _, _⟩) (v := ?_) rfl (by kernel_rfl) (by kernel_rfl) (by kernel_rfl) (fun _ _ _ h => h) (Or.inl ⟨by rfl, ?_⟩) (by assumption) ?_
    rotate_left
    · intro w hSw
      (try dsimp only at hSw)
      go_simp
      (try with_reducible rfl)
    (try simp only [Act.put, List.setIfInBounds_toArray, List.set_cons_zero, List.set_cons_succ])
    refine wpAnyH_take (i := 3) (oi := ⟨_, _, _, _, _, _⟩) (v := ?_) rfl (by kernel_rfl) (by kernel_rfl) (by kernel_rfl) (fun _ _ _ h => h) (Or.inl ⟨by rfl, ?_⟩) (by assumption) ?_
    rotate_left
    · intro w hSw
      (try dsimp only at hSw)
      go_simp
      (try with_reducible rfl)
    (try simp only [Act.put, List.setIfInBounds_toArray, List.set_cons_zero, List.set_cons_succ])
    refine wpAnyH_take (i := 2) (oi := ⟨_, _, _, _, _, _⟩) (v := ?_) rfl (by kernel_rfl) (by kernel_rfl) (by kernel_rfl) (fun _ _ _ h => h) (Or.inl ⟨by rfl, ?_⟩) (by assumption) ?_
    rotate_left
    · intro w hSw
      (try dsimp only at hSw)
      go_simp
      (try with_reducible rfl)
    (try simp only [Act.put, List.setIfInBounds_toArray, List.set_cons_zero, List.set_cons_succ])
    refine wpAnyH_take (i := 4) (oi := ⟨_, _, _, _, _, _⟩) (v := ?_) rfl (by kernel_rfl) (by kernel_rfl) (by kernel_rfl) (fun _ _ _ h => h) (Or.inl ⟨by rfl, ?_⟩) (by assumption) ?_
    rotate_left
    · intro w hSw
      (try dsimp only at hSw)
      go_simp
      (try with_reducible rfl)
    (try simp only [Act.put, List.setIfInBounds_toArray, List.set_cons_zero, List.set_cons_succ])
    refine wpAnyH_ready (rs := [5]) (by kernel_rfl) (by simp) ?_
    refine AllReadyH.cons (o := ⟨_, _, _, _, _, _⟩) rfl (fun K hK => ?_) AllReadyH.nil
    go_simp
    (go_at_call 114; refine (isInS_any x y W H _).mono ?_; rw [show decide (0 ≤ x ∧ x < W ∧ 0 ≤ y ∧ y < H) = false by simpa using h]; rintro e wv ⟨rfl, hb⟩; (repeat (first | replace hb := below_undrew hb | replace hb := below_undrewN hb)); replace a0 := cell_keep a0 al hb; replace a1 := cell_keep a1 al hb; replace a2 := cell_keep a2 al hb; replace al := lt_keep al hb; replace s0 := cell_keep s0 sl hb; replace s1 := cell_keep s1 sl hb; replace sl := lt_keep sl hb; replace R := Lib.hid (R.out.keep hb); replace B := Lib.hid (below_next B.out hb); clear hb)
    (try go_wp2_with fail)
    refine hK.out _ _ ?_ (fun hHeld => ?_)
    · (try dsimp only)
      exact ⟨a0, a1, a2, s0, s1⟩
    clear hK K
    (try simp only [Act.put, List.setIfInBounds_toArray, List.set_cons_zero, List.set_cons_succ])
    refine wpAnyH_take (i := 6) (oi := ⟨_, _, _, _, _, _⟩) (v := ?_) rfl (by kernel_rfl) (by kernel_rfl) (by kernel_rfl) (fun _ _ _ h => h) (Or.inl ⟨by rfl, ?_⟩) (by assumption) ?_
    rotate_left
    · intro w hSw
      (try dsimp only at hSw)
      go_simp
      (try with_reducible rfl)
    (try simp only [Act.put, List.setIfInBounds_toArray, List.set_cons_zero, List.set_cons_succ])
    refine wpAnyH_take (i := 7) (oi := ⟨_, _, _, _, _, _⟩) (v := undef) rfl (by kernel_rfl) (by kernel_rfl) (by kernel_rfl) (fun _ _ _ h => h) (Or.inr ⟨by rfl, rfl⟩) (by assumption) ?_
    (try simp only [Act.put, List.setIfInBounds_toArray, List.set_cons_zero, List.set_cons_succ])
    refine wpAnyH_take (i := 8) (oi := ⟨_, _, _, _, _, _⟩) (v := undef) rfl (by kernel_rfl) (by kernel_rfl) (by kernel_rfl) (fun _ _ _ h => h) (Or.inr ⟨by rfl, rfl⟩) (by assumption) ?_
    (try simp only [Act.put, List.setIfInBounds_toArray, List.set_cons_zero, List.set_cons_succ])
    refine wpAnyH_take (i := 9) (oi := ⟨_, _, _, _, _, _⟩) (v := undef) rfl (by kernel_rfl) (by kernel_rfl) (by kernel_rfl) (fun _ _ _ h => h) (Or.inr ⟨by rfl, rfl⟩) (by assumption) ?_
    (try simp only [Act.put, List.setIfInBounds_toArray, List.set_cons_zero, List.set_cons_succ])
    refine wpAnyH_take (i := 10) (oi := ⟨_, _, _, _, _, _⟩) (v := undef) rfl (by kernel_rfl) (by kernel_rfl) (by kernel_rfl) (fun _ _ _ h => h) (Or.inr ⟨by rfl, rfl⟩) (by assumption) ?_
    (try simp only [Act.put, List.setIfInBounds_toArray, List.set_cons_zero, List.set_cons_succ])
    refine wpAnyH_take (i := 11) (oi := ⟨_, _, _, _, _, _⟩) (v := undef) rfl (by kernel_rfl) (by kernel_rfl) (by kernel_rfl) (fun _ _ _ h => h) (Or.inr ⟨by rfl, rfl⟩) (by assumption) ?_
    (try simp only [Act.put, List.setIfInBounds_toArray, List.set_cons_zero, List.set_cons_succ])
    refine wpAnyH_take (i := 12) (oi := ⟨_, _, _, _, _, _⟩) (v := undef) rfl (by kernel_rfl) (by kernel_rfl) (by kernel_rfl) (fun _ _ _ h => h) (Or.inr ⟨by rfl, rfl⟩) (by assumption) ?_
    (try simp only [Act.put, List.setIfInBounds_toArray, List.set_cons_zero, List.set_cons_succ])
    refine wpAnyH_take (i := 13) (oi := ⟨_, _, _, _, _, _⟩) (v := ?_) rfl (by kernel_rfl) (by kernel_rfl) (by kernel_rfl) (fun _ _ _ h => h) (Or.inl ⟨by rfl, ?_⟩) (by assumption) ?_
    rotate_left
    · intro w hSw
      (try dsimp only at hSw)
      go_simp
      (try with_reducible rfl)
    (try simp only [Act.put, List.setIfInBounds_toArray, List.set_cons_zero, List.set_cons_succ])
    refine wpAnyH_take (i := 14) (oi := ⟨_, _, _, _, _, _⟩) (v := ?_) rfl (by kernel_rfl) (by kernel_rfl) (by kernel_rfl) (fun _ _ _ h => h) (Or.inl ⟨by rfl, ?_⟩) (by assumption) ?_
    rotate_left
    · intro w hSw
      (try dsimp only at hSw)
      go_simp
      (try with_reducible rfl)
    (try simp only [Act.put, List.setIfInBounds_toArray, List.set_cons_zero, List.set_cons_succ])
    refine wpAnyH_done (by kernel_rfl) ?_ _
    clear hHeld
    (try go_wp2_with fail)
    go_ret
    exact ⟨ret_bool (by rw [hs]), (by repeat (first | exact B.out | refine below_drewN ?_ _ | refine Below.drew ?_))⟩

theorem isSpotThere_any (W H : Int) (A : Option Addr) (n c : Nat) (xs : List Int) (x y : Int) (w : World) (ha : Rd w A n xs) (hg : goodB W H xs = true) (_ : -300 ≤ x ∧ x ≤ 300) (_ : -3000 ≤ y * W ∧ y * W ≤ 3000) :
    Calls Tryz.prog 97 #[brd W H A n c, lpr x y] w fun e w' => e = .returned (.bool (spotB W H xs x y)) ∧ Below w.heap.size w w' := isSpotThere_gen W H A n c xs x y w ha hg

end Go.Proofs.YtcfibfbenccimaaGreatDoor

namespace Go.Proofs.YtcfibfbenccimaaGreatDoor
open Go.RowKit

set_option maxHeartbeats 400000 in
theorem plus_any (x y u v : Int) (w : World) (hx : -100 ≤ x ∧ x ≤ 100) (hy : -100 ≤ y ∧ y ≤ 100) (hu : -100 ≤ u ∧ u ≤ 100) (hv : -100 ≤ v ∧ v ≤ 100) :
    Calls Tryz.prog 98 #[lpr x y, lpr u v] w fun e w' => e = .returned (lpr (x + u) (y + v)) ∧ Below w.heap.size w w' := by
  obtain ⟨hx1, hx2⟩ := hx
  obtain ⟨hy1, hy2⟩ := hy
  obtain ⟨hu1, hu2⟩ := hu
  obtain ⟨hv1, hv2⟩ := hv
  have hw1 : IntKind.i64.wrap (x + u) = x + u := IntWalk.i64_in _ (by omega)
  have hw2 : IntKind.i64.wrap (y + v) = y + v := IntWalk.i64_in _ (by omega)
  go_enter Tryz.func98, Tryz.ntmps98
  go_wp2
  exact bodyPost_ret (v := lpr (x + u) (y + v)) (by simp [results, Tryz.results98, go_sem]) rfl ⟨rfl, (by repeat (first | exact Below.refl _ _ | refine Below.setCell ?_ (by simp) _ | refine below_new ?_ _ | refine Below.drew ?_))⟩

end Go.Proofs.YtcfibfbenccimaaGreatDoor

namespace Go.Proofs.YtcfibfbenccimaaGreatDoor
open Go.RowKit

abbrev lpv (x y dx dy : Int) : Value := .agg #[.int .i64 x, .int .i64 y, .int .i64 dx, .int .i64 dy]
def encL (x y : Int) (p : Int × Int) : List Value := [.int .i64 x, .int .i64 y, .int .i64 p.1, .int .i64 p.2]
theorem encL_len (x y : Int) (p : Int × Int) : (encL x y p).length = 4 := rfl
theorem encL_one (x y : Int) (p : Int × Int) : ∀ u ∈ encL x y p, u.oneCell' = true := fun u hu => by simp [encL] at hu; rcases hu with rfl | rfl | rfl | rfl <;> rfl
theorem infoL : (Tryz.prog.info? 96).map (fun i => (i.zero, i.size, i.bytes)) = some (some (.agg #[.int .i64 0, .int .i64 0, .int .i64 0, .int .i64 0]), 4, 32) := by kernel_rfl

set_option maxHeartbeats 400000 in
theorem end_any (x y dx dy : Int) (w : World) (hx : -100 ≤ x ∧ x ≤ 100) (hy : -100 ≤ y ∧ y ≤ 100) (hdx : -100 ≤ dx ∧ dx ≤ 100) (hdy : -100 ≤ dy ∧ dy ≤ 100) :
    Calls Tryz.prog 84 #[lpv x y dx dy] w fun e w' => e = .returned (lpr (x + dx) (y + dy)) ∧ Below w.heap.size w w' := by
  have HX := Lib.hid hx; have HY := Lib.hid hy; have HDX := Lib.hid hdx; have HDY := Lib.hid hdy
  clear hx hy hdx hdy
  obtain ⟨W3, hW3⟩ : ∃ W3, W3 = (w.alloc (.cells #[.int .i64 x, .int .i64 y, .int .i64 dx, .int .i64 dy] 96)).alloc (.cells #[.int .i64 0, .int .i64 0] 94) := ⟨_, rfl⟩
  have B := Lib.hid (show Below w.heap.size w W3 by rw [hW3]; exact below_new (below_new (Below.refl _ _) _) _)
  have s0 : W3.cell? ⟨w.heap.size + 1, 0, none⟩ = some (.int .i64 0) := by rw [hW3]; go_simp
  have s1 : W3.cell? ⟨w.heap.size + 1, 1, none⟩ = some (.int .i64 0) := by rw [hW3]; go_simp
  have z0 : W3.frozen? ⟨w.heap.size + 1, 0, none⟩ = false := by rw [hW3]; go_simp
  have z1 : W3.frozen? ⟨w.heap.size + 1, 1, none⟩ = false := by rw [hW3]; go_simp
  have hsz : W3.heap.size = w.heap.size + 2 := by rw [hW3]; simp
  go_enter Tryz.func84, Tryz.ntmps84
  go_wp2_with fail
  refine (plus_any x y dx dy _ HX.out HY.out HDX.out HDY.out).mono ?_
  rintro e wv ⟨rfl, hb⟩
  rw [← hW3] at hb
  have hl : w.heap.size + 1 < W3.heap.size := by omega
  have t0 := cell_keep s0 hl hb; have t1 := cell_keep s1 hl hb
  have f0 := ((bcell hb).2 _ 0 hl).trans z0; have f1 := ((bcell hb).2 _ 1 hl).trans z1
  replace hl := lt_keep hl hb
  replace B := Lib.hid (below_next B.out hb)
  clear hb hW3 s0 s1 z0 z1 hsz
  go_wp2
  exact bodyPost_ret (v := lpr (x + dx) (y + dy)) (by simp [results, Tryz.results84, go_sem, t0, t1]) rfl ⟨rfl, (by repeat (first | exact B.out | refine Below.setCell ?_ (by simp; try omega) _ | refine Below.drew ?_))⟩

theorem goes_yes {W H a b q : Int} {xs : List Int} {k : Nat} {p : Int × Int} (hx : (stepsL a b)[k]? = some p) (h : spotB W H xs (q % W + p.1) (q / W + p.2) = true) :
    ((stepsL a b).take (k + 1)).filter (fun p => spotB W H xs (q % W + p.1) (q / W + p.2)) = ((stepsL a b).take k).filter (fun p => spotB W H xs (q % W + p.1) (q / W + p.2)) ++ [p] := by
  rw [List.take_add_one, hx, List.filter_append]; simp [h]
theorem goes_no {W H a b q : Int} {xs : List Int} {k : Nat} {p : Int × Int} (hx : (stepsL a b)[k]? = some p) (h : spotB W H xs (q % W + p.1) (q / W + p.2) = false) :
    ((stepsL a b).take (k + 1)).filter (fun p => spotB W H xs (q % W + p.1) (q / W + p.2)) = ((stepsL a b).take k).filter (fun p => spotB W H xs (q % W + p.1) (q / W + p.2)) := by
  rw [List.take_add_one, hx, List.filter_append]; simp [h]
theorem below_undrewN' {w w' : World} {k : Nat} (h : Below (w.drewN k).heap.size (w.drewN k) w') : Below w.heap.size w w' := ⟨h.os, h.tape, h.output, h.size, h.block⟩
theorem keep5 {w w' : World} {β γ : Nat} {u0 u1 u2 u3 u4 : Value} (h0 : w.cell? ⟨β, 0, none⟩ = some u0) (h1 : w.cell? ⟨β, 1, none⟩ = some u1) (h2 : w.cell? ⟨β, 2, none⟩ = some u2) (h3 : w.cell? ⟨γ, 0, none⟩ = some u3) (h4 : w.cell? ⟨γ, 1, none⟩ = some u4) (hl : β < w.heap.size) (hm : γ < w.heap.size) (hb : Below w.heap.size w w') :
    w'.cell? ⟨β, 0, none⟩ = some u0 ∧ w'.cell? ⟨β, 1, none⟩ = some u1 ∧ w'.cell? ⟨β, 2, none⟩ = some u2 ∧ w'.cell? ⟨γ, 0, none⟩ = some u3 ∧ w'.cell? ⟨γ, 1, none⟩ = some u4 := ⟨cell_keep h0 hl hb, cell_keep h1 hl hb, cell_keep h2 hl hb, cell_keep h3 hm hb, cell_keep h4 hm hb⟩
def LeapAt (wr : World) (g : Nat) (x y dx dy : Int) : Prop := wr.cell? ⟨g, 0, none⟩ = some (.int .i64 x) ∧ wr.cell? ⟨g, 1, none⟩ = some (.int .i64 y) ∧ wr.cell? ⟨g, 2, none⟩ = some (.int .i64 dx) ∧ wr.cell? ⟨g, 3, none⟩ = some (.int .i64 dy) ∧ g < wr.heap.size

set_option maxRecDepth 100000 in
set_option maxHeartbeats 2000000 in
theorem leapsAt_any (W H : Int) (A : Option Addr) (n c : Nat) (xs : List Int) (a b q : Int) (w : World) (ha : Rd w A n xs) (hg : goodB W H xs = true) (hl : leaperB a b = true) (hq : 0 ≤ q ∧ q < W * H) :
    Calls Tryz.prog 83 #[brd W H A n c, lpr a b, .int .i64 q] w fun e w' => ∃ A' n' c', e = .returned (.slice A' n' c') ∧ OwnK (encL (q % W) (q / W)) 4 96 w' w.heap.size A' n' c' (goesL W H xs a b q) ∧ Below w.heap.size w w' := by
  obtain ⟨hW, hH, _, _⟩ := goodB_iff.1 hg
  have HW := Lib.hid hW; have HN := Lib.hid (cells_le hW hH); have HQ := Lib.hid hq
  have HM := Lib.hid (mod_bd (c := q) hW); have HD := Lib.hid (div7 hW hH hq)
  have HG := Lib.hid hg; have HL := Lib.hid hl
  obtain ⟨i0, hi, hz0, hz1, hz2⟩ := info_parts infoL
  have HI := Lib.hid hi; have HZ0 := Lib.hid hz0; have HZ1 := Lib.hid hz1; have HZ2 := Lib.hid hz2
  clear hW hH hg hl hq hi hz0 hz1 hz2
  obtain ⟨W2, hW2⟩ : ∃ W2, W2 = (w.alloc (.cells #[.int .i64 W, .int .i64 H, .slice A n c] 30)).alloc (.cells #[.int .i64 a, .int .i64 b] 32) := ⟨_, rfl⟩
  have a0 : W2.cell? ⟨w.heap.size, 0, none⟩ = some (.int .i64 W) := by rw [hW2]; go_simp
  have a1 : W2.cell? ⟨w.heap.size, 1, none⟩ = some (.int .i64 H) := by rw [hW2]; go_simp
  have a2 : W2.cell? ⟨w.heap.size, 2, none⟩ = some (.slice A n c) := by rw [hW2]; go_simp
  have l0 : W2.cell? ⟨w.heap.size + 1, 0, none⟩ = some (.int .i64 a) := by rw [hW2]; go_simp
  have l1 : W2.cell? ⟨w.heap.size + 1, 1, none⟩ = some (.int .i64 b) := by rw [hW2]; go_simp
  have hsz : w.heap.size + 2 ≤ W2.heap.size := by rw [hW2]; simp
  have B := Lib.hid (show Below w.heap.size w W2 by rw [hW2]; exact below_new (below_new (Below.refl _ _) _) _)
  have R := Lib.hid (ha.keep B.out)
  have ga : w.heap.size < W2.heap.size := by omega
  go_enter Tryz.func83, Tryz.ntmps83
  go_wp2_with fail
  rw [← hW2]
  clear hW2
  refine (stepsOf_any a b _ HL.out).mono ?_
  rintro e ws ⟨A1, n1, c1, rfl, hst, hb⟩
  replace R := Lib.hid (R.out.keep hb)
  replace a0 := cell_keep a0 ga hb; replace a1 := cell_keep a1 ga hb; replace a2 := cell_keep a2 ga hb; replace ga := lt_keep ga hb
  have hB0 := B.out.size
  replace B := Lib.hid (below_next B.out hb)
  have hs1 := hb.size
  have ST := Lib.hid hst
  have SL := Lib.hid hst.len
  have S8 : Hid (n1 ≤ 8) := Lib.hid (by have := stepsL_len HL.out; have := hst.len; omega)
  clear hst hb l0 l1
  have n8 := S8.out
  go_wp2
  go_loopw [7, 14] (fun v i wr => ∃ (k n' c' : Nat) (A' : Option Addr), k ≤ n1 ∧ i = .int .i64 k ∧ v = .slice A' n' c' ∧ OwnK (encL (q % W) (q / W)) 4 96 wr ws.heap.size A' n' c' (((stepsL a b).take k).filter fun p => spotB W H xs (q % W + p.1) (q / W + p.2)) ∧ Below ws.heap.size ws wr) (fun _ i _ => n1 - (intOf i).toNat)
  case atStart => exact ⟨0, 0, 0, none, by omega, rfl, rfl, OwnK.none_ _ _ _ _ _, Below.refl _ _⟩
  case round =>
    obtain ⟨k, n', c', A', hk, rfl, rfl, hown, hbw⟩ := hrel
    by_cases hlt : k < n1
    · obtain ⟨⟨dx, dy⟩, hx⟩ : ∃ p, (stepsL a b)[k]? = some p := ⟨_, List.getElem?_eq_getElem (show k < (stepsL a b).length by have := SL.out; omega)⟩
      obtain ⟨g1, rfl, _, hg1⟩ := ST.out.some_ hlt
      obtain ⟨x0, x1⟩ := pair_at ST.out hx
      have hbd := stepsL_bd HL.out (List.mem_of_getElem? hx)
      simp only at x0 x1 hbd
      have HX := Lib.hid hx; have HBD := Lib.hid hbd
      have hn' : n' ≤ 8 := by have := hown.len; have := List.length_filter_le (fun p : Int × Int => spotB W H xs (q % W + p.1) (q / W + p.2)) ((stepsL a b).take k); rw [List.length_take] at this; omega
      replace x0 := cell_keep x0 hg1 hbw; replace x1 := cell_keep x1 hg1 hbw
      have b0 := cell_keep a0 ga hbw; have b1 := cell_keep a1 ga hbw; have b2 := cell_keep a2 ga hbw
      have gb := lt_keep ga hbw
      have RR := Lib.hid (R.out.keep hbw)
      have HO := Lib.hid hown; have HB := Lib.hid hbw
      have hsw := hbw.size
      clear hx hbd hown hbw
      go_upto_region 5 with fail
      obtain ⟨W3, hW3⟩ : ∃ W3, W3 = wr.alloc (.cells #[.int .i64 dx, .int .i64 dy] 94) := ⟨_, rfl⟩
      have d0 : W3.cell? ⟨wr.heap.size, 0, none⟩ = some (.int .i64 dx) := by rw [hW3]; go_simp
      have d1 : W3.cell? ⟨wr.heap.size, 1, none⟩ = some (.int .i64 dy) := by rw [hW3]; go_simp
      have hb3 : Below wr.heap.size wr W3 := by rw [hW3]; exact below_new (Below.refl _ _) _
      replace b0 := cell_keep b0 gb hb3; replace b1 := cell_keep b1 gb hb3; replace b2 := cell_keep b2 gb hb3; replace gb := lt_keep gb hb3
      have gd : wr.heap.size < W3.heap.size := by rw [hW3]; simp
      replace RR := Lib.hid (RR.out.keep hb3); replace HO := Lib.hid (HO.out.keep hb3); replace HB := Lib.hid (HB.out.trans (hb3.mono hsw))
      have hsw3 : ws.heap.size ≤ W3.heap.size := by omega
      rw [← hW3]
      clear hW3 hb3 x0 x1
      have hAD : ∀ (w : World) (k : Nat) (o : Obj), (w.drewN k).alloc o = (w.alloc o).drewN k := fun _ _ _ => rfl
      have hSD : ∀ (w : World) (k : Nat) (p : Addr) (u : Value), (w.drewN k).setCell p u = (w.setCell p u).drewN k := fun _ _ _ _ => rfl
      go_cut [10] (fun s10 wx => ∃ gp : Nat, s10 = .pointer (some ⟨gp, 0, none⟩) ∧ LeapAt wx gp (q % W) (q / W) dx dy ∧ Below W3.heap.size W3 wx)
      case first =>
        go_region_held3 (fun w' => w'.cell? ⟨w.heap.size, 0, none⟩ = some (.int .i64 W) ∧ w'.cell? ⟨w.heap.size, 1, none⟩ = some (.int .i64 H) ∧ w'.cell? ⟨w.heap.size, 2, none⟩ = some (.slice A n c) ∧ w'.cell? ⟨wr.heap.size, 0, none⟩ = some (.int .i64 dx) ∧ w'.cell? ⟨wr.heap.size, 1, none⟩ = some (.int .i64 dy)) (first | exact ⟨b0, b1, b2, d0, d1⟩ | exact keep5 b0 b1 b2 d0 d1 gb gd (by repeat (first | exact Below.refl _ _ | refine below_drewN ?_ _ | refine Below.drew ?_ | refine Below.setCell ?_ (by simp) _ | refine Below.setCell ?_ (by simp; omega) _ | refine below_new ?_ _)))
          (first
            | (go_at_call 96; refine (spotOf_exact W H A n c q _ ?_ ?_).mono ?_; (exact HW.out); (have := HQ.out; have := HN.out; omega); rintro e wv ⟨rfl, m, rfl⟩))
        all_goals (go_wp2_with fail; go_meet; exact ⟨_, rfl, ⟨by go_simp, by go_simp, by go_simp, by go_simp, by simp; try omega⟩, (by repeat (first | exact Below.refl _ _ | refine below_drewN ?_ _ | refine Below.drew ?_ | refine Below.setCell ?_ (by simp) _ | refine Below.setCell ?_ (by simp; omega) _ | refine below_new ?_ _))⟩)
      case rest =>
        obtain ⟨gp, rfl, hlp, hbx⟩ := hcut
        obtain ⟨p0, p1, p2, p3, gl⟩ := hlp
        have c0 := cell_keep b0 gb hbx; have c1' := cell_keep b1 gb hbx; have c2 := cell_keep b2 gb hbx; have gc := lt_keep gb hbx
        have RX := Lib.hid (RR.out.keep hbx)
        replace HO := Lib.hid (HO.out.keep hbx)
        replace HB := Lib.hid (HB.out.trans (hbx.mono hsw3))
        have hsx := Nat.le_trans hsw3 hbx.size
        have HMUL : Hid (-3000 ≤ (q / W + dy) * W ∧ (q / W + dy) * W ≤ 3000) := Lib.hid (by have := mul_bd (y := q / W + dy) (by have := HD.out; have := HBD.out; omega) HW.out; omega)
        clear hAD hSD hbx b0 b1 b2 gb d0 d1 gd RR hsw3
        cases hs : spotB W H xs (q % W + dx) (q / W + dy) with
        | true =>
          have HS := Lib.hid hs
          clear hs
          go_wp2_with fail
          go_region_held3 (fun w' => w'.cell? ⟨w.heap.size, 0, none⟩ = some (.int .i64 W) ∧ w'.cell? ⟨w.heap.size, 1, none⟩ = some (.int .i64 H) ∧ w'.cell? ⟨w.heap.size, 2, none⟩ = some (.slice A n c) ∧ w'.cell? ⟨gp, 0, none⟩ = some (.int .i64 (q % W)) ∧ w'.cell? ⟨gp, 1, none⟩ = some (.int .i64 (q / W)) ∧ w'.cell? ⟨gp, 2, none⟩ = some (.int .i64 dx) ∧ w'.cell? ⟨gp, 3, none⟩ = some (.int .i64 dy)) (first | exact ⟨c0, c1', c2, p0, p1, p2, p3⟩)
            (first
              | (go_at_call 84; refine (end_any (q % W) (q / W) dx dy _ ?_ ?_ ?_ ?_).mono ?_; (have := HM.out; omega); (have := HD.out; omega); (have := HBD.out; omega); (have := HBD.out; omega); rintro e wv ⟨rfl, hb⟩; (repeat (first | replace hb := below_undrew hb | replace hb := below_undrewN' hb)); replace RX := Lib.hid (RX.out.keep hb); replace HO := Lib.hid (HO.out.keep hb); replace c0 := cell_keep c0 gc hb; replace c1' := cell_keep c1' gc hb; replace c2 := cell_keep c2 gc hb; replace gc := lt_keep gc hb; replace p0 := cell_keep p0 gl hb; replace p1 := cell_keep p1 gl hb; replace p2 := cell_keep p2 gl hb; replace p3 := cell_keep p3 gl hb; replace gl := lt_keep gl hb; replace HB := Lib.hid (HB.out.trans (hb.mono (by omega))); replace hsx := Nat.le_trans hsx hb.size; clear hb)
              | (go_at_call 97; refine (isSpotThere_any W H A n c xs (q % W + dx) (q / W + dy) _ ?_ ?_ ?_ ?_).mono ?_; (exact RX.out); (exact HG.out); (have := HM.out; have := HBD.out; omega); (exact HMUL.out); rw [HS.out]; rintro e wv ⟨rfl, hb⟩; (repeat (first | replace hb := below_undrew hb | replace hb := below_undrewN' hb)); replace RX := Lib.hid (RX.out.keep hb); replace HO := Lib.hid (HO.out.keep hb); replace c0 := cell_keep c0 gc hb; replace c1' := cell_keep c1' gc hb; replace c2 := cell_keep c2 gc hb; replace gc := lt_keep gc hb; replace p0 := cell_keep p0 gl hb; replace p1 := cell_keep p1 gl hb; replace p2 := cell_keep p2 gl hb; replace p3 := cell_keep p3 gl hb; replace gl := lt_keep gl hb; replace HB := Lib.hid (HB.out.trans (hb.mono (by omega))); replace hsx := Nat.le_trans hsx hb.size; clear hb))

          all_goals go_wp2_with (at_builtin; refine wpList_appKn rfl (.tmp 27) (.tmp 29) 91 rfl i0 (.agg #[.int .i64 0, .int .i64 0, .int .i64 0, .int .i64 0]) 32 Tryz.underlying91 HI.out HZ0.out HZ1.out HZ2.out rfl (by decide) (by decide) (encL_len (q % W) (q / W)) (encL_one (q % W) (q / W)) ws.heap.size A' n' c' 1 (((stepsL a b).take k).filter fun p => spotB W H xs (q % W + p.1) (q / W + p.2)) [(dx, dy)] _ (by rfl) rfl HO.out rfl rfl (by omega) (by omega) ?_; intro A2 c3 w2 hown2 hb2)
          all_goals
            have HO2 := Lib.hid hown2; have HB2 := Lib.hid (HB.out.trans hb2)
            clear hown2 hb2
            go_wp2
            go_roundw
            case rel => exact ⟨k + 1, n' + 1, c3, A2, by omega, by go_num, rfl, by rw [goes_yes HX.out HS.out]; exact HO2.out, HB2.out⟩
            case measure => simp [intOf]; omega
        | false =>
          have HS := Lib.hid hs
          clear hs
          go_wp2_with fail
          go_region_held3 (fun w' => w'.cell? ⟨w.heap.size, 0, none⟩ = some (.int .i64 W) ∧ w'.cell? ⟨w.heap.size, 1, none⟩ = some (.int .i64 H) ∧ w'.cell? ⟨w.heap.size, 2, none⟩ = some (.slice A n c) ∧ w'.cell? ⟨gp, 0, none⟩ = some (.int .i64 (q % W)) ∧ w'.cell? ⟨gp, 1, none⟩ = some (.int .i64 (q / W)) ∧ w'.cell? ⟨gp, 2, none⟩ = some (.int .i64 dx) ∧ w'.cell? ⟨gp, 3, none⟩ = some (.int .i64 dy)) (first | exact ⟨c0, c1', c2, p0, p1, p2, p3⟩)
            (first
              | (go_at_call 84; refine (end_any (q % W) (q / W) dx dy _ ?_ ?_ ?_ ?_).mono ?_; (have := HM.out; omega); (have := HD.out; omega); (have := HBD.out; omega); (have := HBD.out; omega); rintro e wv ⟨rfl, hb⟩; (repeat (first | replace hb := below_undrew hb | replace hb := below_undrewN' hb)); replace RX := Lib.hid (RX.out.keep hb); replace HO := Lib.hid (HO.out.keep hb); replace c0 := cell_keep c0 gc hb; replace c1' := cell_keep c1' gc hb; replace c2 := cell_keep c2 gc hb; replace gc := lt_keep gc hb; replace p0 := cell_keep p0 gl hb; replace p1 := cell_keep p1 gl hb; replace p2 := cell_keep p2 gl hb; replace p3 := cell_keep p3 gl hb; replace gl := lt_keep gl hb; replace HB := Lib.hid (HB.out.trans (hb.mono (by omega))); replace hsx := Nat.le_trans hsx hb.size; clear hb)
              | (go_at_call 97; refine (isSpotThere_any W H A n c xs (q % W + dx) (q / W + dy) _ ?_ ?_ ?_ ?_).mono ?_; (exact RX.out); (exact HG.out); (have := HM.out; have := HBD.out; omega); (exact HMUL.out); rw [HS.out]; rintro e wv ⟨rfl, hb⟩; (repeat (first | replace hb := below_undrew hb | replace hb := below_undrewN' hb)); replace RX := Lib.hid (RX.out.keep hb); replace HO := Lib.hid (HO.out.keep hb); replace c0 := cell_keep c0 gc hb; replace c1' := cell_keep c1' gc hb; replace c2 := cell_keep c2 gc hb; replace gc := lt_keep gc hb; replace p0 := cell_keep p0 gl hb; replace p1 := cell_keep p1 gl hb; replace p2 := cell_keep p2 gl hb; replace p3 := cell_keep p3 gl hb; replace gl := lt_keep gl hb; replace HB := Lib.hid (HB.out.trans (hb.mono (by omega))); replace hsx := Nat.le_trans hsx hb.size; clear hb))

          all_goals go_wp2
          all_goals go_roundw
          case rel => exact ⟨k + 1, n', c', A', by omega, by go_num, rfl, by rw [goes_no HX.out HS.out]; exact HO.out, HB.out⟩
          case measure => simp [intOf]; omega
    · go_wp2
      go_ret
      have e : k = n1 := by omega
      have e2 : (stepsL a b).take k = stepsL a b := List.take_of_length_le (by have := SL.out; omega)
      rw [e2] at hown
      exact ⟨A', n', c', rfl, hown.lower (by omega), B.out.trans (hbw.mono (by omega))⟩

end Go.Proofs.YtcfibfbenccimaaGreatDoor

namespace Go.Proofs.YtcfibfbenccimaaGreatDoor
open Go.RowKit

/-- append of one int as one step of a region that draws. -/
theorem step_app1 {P : Program} {w : World} {ops : Array Oper} {o : Oper} {a : Act} {K : Act → World → Prop} {Q : Exit → Act → World → Prop} {E0 : Prop} (hgd : o.guard = none) (s x : Operand) (T E : TypeId)
    (ho : o.op = .call { callee := .builtin .append, args := #[s, x], argTypes := #[T, T] }) (i0 : TypeInfo)
    (hT : P.underlying T = some (.slice E)) (hi : P.info? E = some i0) (hz0 : i0.zero = some (.int .i64 0)) (hz1 : i0.size = 1) (hz2 : i0.bytes = 8)
    (lo : Nat) (A : Option Addr) (n c : Nat) (xs : List Int) (q : Int) (hs : a.eval s = .slice A n c) (hown : OwnI E w lo A n c xs) (hx : a.eval x = .slice (some ⟨w.heap.size, 0, none⟩) 1 1)
    (hn : n ≤ 1000000) (hlo : lo ≤ w.heap.size)
    (hK : ∀ A' c' w', OwnI E w' lo A' (n + 1) c' (xs ++ [q]) → Below lo w w' → (∀ b o, b < w.heap.size → (∀ y, A = some y → y.block ≠ b) → w'.cell? ⟨b, o, none⟩ = w.cell? ⟨b, o, none⟩) → K (a.put o.dst (.slice A' (n + 1) c')) w') :
    if Region.wanted o (yielded ops a.tmps) = true then Oper.wp P o a (w.alloc (.cells #[.int .i64 q] E)) K Q else E0 := by
  have hw : Region.wanted o (yielded ops a.tmps) = true := by simp [Region.wanted, hgd]
  rw [if_pos hw]
  refine wp_append_own (w.alloc (.cells #[.int .i64 q] E)) s x T ho lo E i0 (.int .i64 0) 1 8 hT hi hz0 hz1 hz2 rfl (by decide) (.slice A n c) n (xs.map (Value.int .i64)) hs (World.ownsRow.alloc hown _)
    ⟨w.heap.size, 0, none⟩ 1 1 [.int .i64 q] hx rfl ?_ ?_ (by unfold maxLen; omega) (by omega) (by simp; omega) ?_
  · intro j u hj
    match j, hj with
    | 0, hj =>
      simp at hj; subst hj
      exact cell_of_row (w.alloc (.cells #[.int .i64 q] E)) w.heap.size 0 #[.int .i64 q] E (0, 0) (heap_alloc_new w _)
  · intro u hu; simp at hu; subst hu; rfl
  · intro v' w' hown' hgrow _
    have e : xs.map (Value.int .i64) ++ [.int .i64 q] = (xs ++ [q]).map (Value.int .i64) := by simp
    rw [e] at hown'
    obtain ⟨A', c', rfl, hO⟩ := own_form hown'
    refine hK A' c' w' hO ?_ ?_
    · have hb : Below lo w (w.alloc (.cells #[.int .i64 q] E)) := (Below.refl _ _).alloc hlo _
      refine hb.grown hgrow (by simp; omega) (fun k hk => ?_)
      exact (World.ownsRow.lt hown k hk).1
    · intro b o hb hne
      have h1 := World.cell?_of_block (a := ⟨b, o, none⟩) (hgrow.block b (by simp; omega) (by
        rcases A with _ | y
        · simp [Value.ownBlock]
        · have := hne y rfl; simp [Value.ownBlock]; omega))
      exact h1.trans (((Below.refl w.heap.size w).alloc (Nat.le_refl _) _).cell (p := ⟨b, o, none⟩) hb)

/-- slices.Sort of a row of ints of the call's own. -/
theorem sortI_any (lo : Nat) (A : Option Addr) (n c : Nat) (xs : List Int) (w : World) (hown : OwnI 3 w lo A n c xs) (hn : n ≤ 1000000) (hlo : lo ≤ w.heap.size) :
    Calls Tryz.prog 86 #[.slice A n c] w fun e w' => e = .returned (.tuple #[]) ∧ (∃ ys, OwnI 3 w' lo A n c ys ∧ ys.Perm xs ∧ ys.Pairwise (· ≤ ·)) ∧ Below lo w w' := by
  have hl := hown.len
  by_cases h0 : n = 0
  · subst h0
    obtain rfl : xs = [] := List.eq_nil_of_length_eq_zero hl
    exact (Tryz.slices_Sort_int_none A c w).mono fun e w' ⟨he, hw⟩ => ⟨he, ⟨[], by rw [hw]; exact hown, List.Perm.refl _, List.Pairwise.nil⟩, by rw [hw]; exact Below.refl _ _⟩
  · obtain ⟨g, rfl, hg1, hg2⟩ := hown.some_ (k := 0) (by omega)
    have hr := hown.2
    rcases hr with ⟨hv, _⟩ | ⟨g', cap, cur, hv, hb, hg, hnc, hm, hcs, htake⟩
    · injection hv with h1; cases h1
    · injection hv with h1 h2 h3
      injection h1 with h1
      injection h1 with h1
      subst h1 h3
      have hh : Go.Sort.Holds (Value.int .i64) w g 0 xs.toArray := holds_of_blockI hg (by rw [Nat.mul_one] at htake; rw [hl]; exact htake)
      have hp : (xs.mergeSort fun x y => decide (x ≤ y)).Perm xs := List.mergeSort_perm _ _
      have hcon := Tryz.slices_Sort_int g 0 c xs w hh hg2 (by omega)
      rw [hl] at hcon
      refine hcon.mono ?_
      rintro e w' ⟨rfl, m, os, rfl⟩
      refine ⟨rfl, ⟨_, ?_, hp, ?_⟩, below_of_grown (grownBy_sortedI _) hlo (fun g' h => by injection h with h; omega)⟩
      · have := ownsRow_sortedI (n := m) (os := os) (ss := xs) (ts := xs.mergeSort fun x y => decide (x ≤ y)) hp.length_eq hb hg (by rw [hl]; exact hnc) hm hcs
        rw [hl] at this
        exact this
      · have h := List.pairwise_mergeSort (le := fun x y : Int => decide (x ≤ y)) (by intro a b c; simp; omega) (by intro a b; simp; omega) xs
        exact h.imp (fun h => by simpa using h)

end Go.Proofs.YtcfibfbenccimaaGreatDoor



namespace Go.Proofs.YtcfibfbenccimaaGreatDoor
open Go.RowKit

theorem leap_at {E : TypeId} {x y : Int} {w : World} {lo g n c : Nat} {xs : List (Int × Int)} (h : OwnK (encL x y) 4 E w lo (some ⟨g, 0, none⟩) n c xs) {i : Nat} {p : Int × Int} (hx : xs[i]? = some p) :
    w.cell? ⟨g, i * 4, none⟩ = some (.int .i64 x) ∧ w.cell? ⟨g, i * 4 + 1, none⟩ = some (.int .i64 y) ∧ w.cell? ⟨g, i * 4 + 2, none⟩ = some (.int .i64 p.1) ∧ w.cell? ⟨g, i * 4 + 3, none⟩ = some (.int .i64 p.2) :=
  ⟨OwnK.cell (j := 0) (encL_len x y) h hx rfl, OwnK.cell (j := 1) (encL_len x y) h hx rfl, OwnK.cell (j := 2) (encL_len x y) h hx rfl, OwnK.cell (j := 3) (encL_len x y) h hx rfl⟩
theorem goesL_len8 {W H a b q : Int} {xs : List Int} (hl : leaperB a b = true) : (goesL W H xs a b q).length ≤ 8 :=
  Nat.le_trans (List.length_filter_le _ _) (stepsL_len hl)
theorem goesL_bd {W H a b q : Int} {xs : List Int} {p : Int × Int} (hl : leaperB a b = true) (hp : p ∈ goesL W H xs a b q) : -5 ≤ p.1 ∧ p.1 ≤ 5 ∧ -5 ≤ p.2 ∧ p.2 ≤ 5 :=
  stepsL_bd hl (List.mem_filter.1 hp).1

theorem keepL {w w' : World} {β γ : Nat} {u0 u1 u2 u3 u4 : Value} (h0 : w.cell? ⟨β, 0, none⟩ = some u0) (h1 : w.cell? ⟨γ, 0, none⟩ = some u1) (h2 : w.cell? ⟨γ, 1, none⟩ = some u2) (h3 : w.cell? ⟨γ, 2, none⟩ = some u3) (h4 : w.cell? ⟨γ, 3, none⟩ = some u4) (hl : β < w.heap.size) (hm : γ < w.heap.size) (hb : Below w.heap.size w w') :
    w'.cell? ⟨β, 0, none⟩ = some u0 ∧ w'.cell? ⟨γ, 0, none⟩ = some u1 ∧ w'.cell? ⟨γ, 1, none⟩ = some u2 ∧ w'.cell? ⟨γ, 2, none⟩ = some u3 ∧ w'.cell? ⟨γ, 3, none⟩ = some u4 := ⟨cell_keep h0 hl hb, cell_keep h1 hm hb, cell_keep h2 hm hb, cell_keep h3 hm hb, cell_keep h4 hm hb⟩

set_option maxRecDepth 100000 in
set_option maxHeartbeats 2000000 in
theorem leapCells_any (W H : Int) (A : Option Addr) (n c : Nat) (xs : List Int) (a b q : Int) (w : World) (ha : Rd w A n xs) (hg : goodB W H xs = true) (hl : leaperB a b = true) (hq : 0 ≤ q ∧ q < W * H) :
    Calls Tryz.prog 62 #[brd W H A n c, lpr a b, .int .i64 q] w fun e w' => ∃ A' n' c', e = .returned (.slice A' n' c') ∧ OwnI 3 w' w.heap.size A' n' c' (leapsL W H xs a b q) ∧ Below w.heap.size w w' := by
  obtain ⟨hW, hH, _, _⟩ := goodB_iff.1 hg
  have HW := Lib.hid hW; have HN := Lib.hid (cells_le hW hH); have HQ := Lib.hid hq
  have HM := Lib.hid (mod_bd (c := q) hW); have HD := Lib.hid (div7 hW hH hq)
  have HG := Lib.hid hg; have HL := Lib.hid hl
  obtain ⟨i0, hi, hz0, hz1, hz2⟩ := info_parts infoI
  have HI := Lib.hid hi; have HZ0 := Lib.hid hz0; have HZ1 := Lib.hid hz1; have HZ2 := Lib.hid hz2
  clear hW hH hg hl hq hi hz0 hz1 hz2
  obtain ⟨W2, hW2⟩ : ∃ W2, W2 = (w.alloc (.cells #[.int .i64 W, .int .i64 H, .slice A n c] 30)).alloc (.cells #[.int .i64 a, .int .i64 b] 32) := ⟨_, rfl⟩
  have a0 : W2.cell? ⟨w.heap.size, 0, none⟩ = some (.int .i64 W) := by rw [hW2]; go_simp
  have hsz : w.heap.size + 2 ≤ W2.heap.size := by rw [hW2]; simp
  have B := Lib.hid (show Below w.heap.size w W2 by rw [hW2]; exact below_new (below_new (Below.refl _ _) _) _)
  have R := Lib.hid (ha.keep B.out)
  have ga : w.heap.size < W2.heap.size := by omega
  go_enter Tryz.func62, Tryz.ntmps62
  go_wp2_with fail
  rw [← hW2]
  clear hW2
  refine (leapsAt_any W H A n c xs a b q _ R.out HG.out HL.out HQ.out).mono ?_
  rintro e ws ⟨A1, n1, c1, rfl, hst, hb⟩
  replace a0 := cell_keep a0 ga hb; replace ga := lt_keep ga hb
  have hB0 := B.out.size
  replace B := Lib.hid (below_next B.out hb)
  have hs1 := hb.size
  have ST := Lib.hid hst
  have SL := Lib.hid hst.len
  have n8 : n1 ≤ 8 := by have := goesL_len8 (W := W) (H := H) (xs := xs) (q := q) HL.out; have := hst.len; omega
  obtain ⟨G, hG⟩ : ∃ G, goesL W H xs a b q = G := ⟨_, rfl⟩
  rw [hG] at ST SL
  have HGG := Lib.hid hG
  clear hst hb hG R
  go_wp2
  go_loopw [7, 15] (fun v i wr => ∃ (k c' : Nat) (A' : Option Addr), k ≤ n1 ∧ i = .int .i64 k ∧ v = .slice A' k c' ∧ OwnI 3 wr ws.heap.size A' k c' ((G.take k).map (endN W q)) ∧ Below ws.heap.size ws wr) (fun _ i _ => n1 - (intOf i).toNat)
  case atStart => exact ⟨0, 0, none, by omega, rfl, rfl, OwnI.none_ _ _ _, Below.refl _ _⟩
  case round =>
    obtain ⟨k, c', A', hk, rfl, rfl, hown, hbw⟩ := hrel
    by_cases hlt : k < n1
    · obtain ⟨⟨dx, dy⟩, hx⟩ : ∃ p, G[k]? = some p := ⟨_, List.getElem?_eq_getElem (show k < G.length by have := SL.out; omega)⟩
      obtain ⟨g1, rfl, _, hg1⟩ := ST.out.some_ hlt
      obtain ⟨x0, x1, x2, x3⟩ := leap_at ST.out hx
      have hbd := goesL_bd HL.out (W := W) (H := H) (xs := xs) (q := q) (p := (dx, dy)) (by rw [HGG.out]; exact List.mem_of_getElem? hx)
      simp only at x2 x3 hbd
      have HX := Lib.hid hx; have HBD := Lib.hid hbd
      replace x0 := cell_keep x0 hg1 hbw; replace x1 := cell_keep x1 hg1 hbw; replace x2 := cell_keep x2 hg1 hbw; replace x3 := cell_keep x3 hg1 hbw
      have b0 := cell_keep a0 ga hbw
      have gb := lt_keep ga hbw
      have HO := Lib.hid hown; have HB := Lib.hid hbw
      have hsw := hbw.size
      have hAn : Hid (∀ y, A' = some y → y.block < wr.heap.size) := Lib.hid (fun y hy => by
        rcases hown.form with ⟨h, _⟩ | ⟨g, h, _, h2, _⟩
        · rw [h] at hy; cases hy
        · rw [h] at hy; injection hy with hy; rw [← hy]; exact h2)
      have hAlo : Hid (∀ y, A' = some y → ws.heap.size ≤ y.block) := Lib.hid (fun y hy => by
        rcases hown.form with ⟨h, _⟩ | ⟨g, h, h2, _, _⟩
        · rw [h] at hy; cases hy
        · rw [h] at hy; injection hy with hy; rw [← hy]; exact h2)
      clear hx hbd hown hbw
      go_upto_region 5 with fail
      obtain ⟨W3, hW3⟩ : ∃ W3, W3 = wr.alloc (.cells #[.int .i64 (q % W), .int .i64 (q / W), .int .i64 dx, .int .i64 dy] 96) := ⟨_, rfl⟩
      obtain ⟨gp, hgp⟩ : ∃ gp, gp = wr.heap.size := ⟨_, rfl⟩
      have p0 : W3.cell? ⟨gp, 0, none⟩ = some (.int .i64 (q % W)) := by rw [hW3, hgp]; go_simp
      have p1 : W3.cell? ⟨gp, 1, none⟩ = some (.int .i64 (q / W)) := by rw [hW3, hgp]; go_simp
      have p2 : W3.cell? ⟨gp, 2, none⟩ = some (.int .i64 dx) := by rw [hW3, hgp]; go_simp
      have p3 : W3.cell? ⟨gp, 3, none⟩ = some (.int .i64 dy) := by rw [hW3, hgp]; go_simp
      have hb3 : Below wr.heap.size wr W3 := by rw [hW3]; exact below_new (Below.refl _ _) _
      replace b0 := cell_keep b0 gb hb3; replace gb := lt_keep gb hb3
      have gl : gp < W3.heap.size := by rw [hW3, hgp]; simp
      replace HO := Lib.hid (HO.out.keep hb3); replace HB := Lib.hid (HB.out.trans (hb3.mono hsw))
      have hgs : ws.heap.size ≤ gp := by omega
      replace hsw : ws.heap.size ≤ W3.heap.size := by omega
      have hne : Hid (∀ y, A' = some y → y.block ≠ gp) := Lib.hid (fun y hy => by have := hAn.out y hy; omega)
      have hne0 : Hid (∀ y, A' = some y → y.block ≠ w.heap.size) := Lib.hid (fun y hy => by have := hAlo.out y hy; omega)
      rw [← hW3, ← hgp]
      clear hW3 hb3 x0 x1 x2 x3 hgp
      have HMUL : Hid (-3000 ≤ (q / W + dy) * W ∧ (q / W + dy) * W ≤ 3000) := Lib.hid (by have := mul_bd (y := q / W + dy) (by have := HD.out; have := HBD.out; omega) HW.out; omega)
      go_region_held3 (fun w' => w'.cell? ⟨w.heap.size, 0, none⟩ = some (.int .i64 W) ∧ w'.cell? ⟨gp, 0, none⟩ = some (.int .i64 (q % W)) ∧ w'.cell? ⟨gp, 1, none⟩ = some (.int .i64 (q / W)) ∧ w'.cell? ⟨gp, 2, none⟩ = some (.int .i64 dx) ∧ w'.cell? ⟨gp, 3, none⟩ = some (.int .i64 dy)) (first | exact ⟨b0, p0, p1, p2, p3⟩ | exact keepL b0 p0 p1 p2 p3 gb gl (below_new (Below.refl _ _) _))
        (first
          | (go_at_call 84; refine (end_any (q % W) (q / W) dx dy _ ?_ ?_ ?_ ?_).mono ?_; (have := HM.out; omega); (have := HD.out; omega); (have := HBD.out; omega); (have := HBD.out; omega); rintro e wv ⟨rfl, hb⟩; (repeat (first | replace hb := below_undrew hb | replace hb := below_undrewN' hb)); replace HO := Lib.hid (HO.out.keep hb); replace b0 := cell_keep b0 gb hb; replace gb := lt_keep gb hb; replace p0 := cell_keep p0 gl hb; replace p1 := cell_keep p1 gl hb; replace p2 := cell_keep p2 gl hb; replace p3 := cell_keep p3 gl hb; replace gl := lt_keep gl hb; replace HB := Lib.hid (HB.out.trans (hb.mono (by omega))); replace hsw := Nat.le_trans hsw hb.size; clear hb)
          | (go_at_call 85; refine (number_gen (q % W + dx) (q / W + dy) W _ ?_ ?_).mono ?_; (have := HM.out; have := HBD.out; omega); (have := HMUL.out; omega); rintro e wv ⟨rfl, hb⟩; (repeat (first | replace hb := below_undrew hb | replace hb := below_undrewN' hb)); replace HO := Lib.hid (HO.out.keep hb); replace b0 := cell_keep b0 gb hb; replace gb := lt_keep gb hb; replace p0 := cell_keep p0 gl hb; replace p1 := cell_keep p1 gl hb; replace p2 := cell_keep p2 gl hb; replace p3 := cell_keep p3 gl hb; replace gl := lt_keep gl hb; replace HB := Lib.hid (HB.out.trans (hb.mono (by omega))); replace hsw := Nat.le_trans hsw hb.size; clear hb)
          | (refine step_app1 rfl (.tmp 19) (.tmp 25) 22 3 rfl i0 Tryz.underlying22 HI.out HZ0.out HZ1.out HZ2.out ws.heap.size A' k c' ((G.take k).map (endN W q)) ((q / W + dy) * W + (q % W + dx)) rfl HO.out rfl (by omega) hsw ?_; intro A2 c3 w2 hown2 hb2 hfar; replace b0 := (hfar _ _ gb hne0.out).trans b0; replace p0 := (hfar _ _ gl hne.out).trans p0; replace p1 := (hfar _ _ gl hne.out).trans p1; replace p2 := (hfar _ _ gl hne.out).trans p2; replace p3 := (hfar _ _ gl hne.out).trans p3; have HO2 := Lib.hid hown2; replace HB := Lib.hid (HB.out.trans hb2); clear hown2 hb2 hfar HO))
      all_goals go_wp2
      all_goals go_roundw
      case rel => exact ⟨k + 1, c3, A2, by omega, by go_num, rfl, by rw [List.take_add_one, HX.out, List.map_append]; exact HO2.out, HB.out⟩
      case measure => simp [intOf]; omega
    · have e : k = n1 := by omega
      subst e
      have e2 : G.take k = G := List.take_of_length_le (by have := SL.out; omega)
      rw [e2] at hown
      have HO := Lib.hid hown; have HB := Lib.hid hbw
      have hsw := hbw.size
      clear hown hbw e2
      go_wp2_with fail
      refine (sortI_any ws.heap.size A' k c' (G.map (endN W q)) wr HO.out (by omega) hsw).mono ?_
      rintro e wv ⟨rfl, ⟨ys, hys, hperm, hsort⟩, hb⟩
      have e3 : ys = leapsL W H xs a b q := ends_sorted (W := W) (H := H) (hs := xs) (c := q) HW.out.1 HL.out (by rw [HGG.out]; exact hperm) hsort
      rw [e3] at hys
      have HY := Lib.hid hys; have HB2 := Lib.hid (HB.out.trans hb)
      clear hys hb hperm hsort e3 HB HO
      go_wp2
      go_ret
      exact ⟨A', k, c', rfl, HY.out.lower (by omega), B.out.trans (HB2.out.mono (by omega))⟩

end Go.Proofs.YtcfibfbenccimaaGreatDoor
