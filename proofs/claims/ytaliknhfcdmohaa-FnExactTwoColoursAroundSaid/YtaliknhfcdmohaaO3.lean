/-
  Contracts: where a step around leads, in the program.
-/
import Derived.Test.YtaliknhfcdmohaaO2
import Derived.Test.YtaliknhfcdmohaaYS
namespace Go.Proofs.Ytaliknhfcdmohaa
open Go.RowKit

set_option maxRecDepth 100000 in
set_option maxHeartbeats 2000000 in
theorem after_any (W H : Int) (ac up : Bool) (fx fy u v : Int) (w : World) (hg : goodA W H = true) (hf : 0 ≤ fx ∧ fx ≤ 12) (hf2 : 0 ≤ fy ∧ fy ≤ 12) (hu : -20 ≤ u ∧ u ≤ 20) (hv : -20 ≤ v ∧ v ≤ 20) :
    Calls Try.prog 57 #[ard W H ac up, lpr fx fy, lpr u v] w fun e w' => e = .returned (.tuple #[lpr (colA ac W (fx + u)) (colA up H (fy + v)), .bool (inA W H (colA ac W (fx + u)) (colA up H (fy + v)))]) ∧ Below w.heap.size w w' := by
  obtain ⟨⟨hW1, hW2⟩, hH1, hH2⟩ := goodA_iff.1 hg
  obtain ⟨f1, f2⟩ := hf
  obtain ⟨f3, f4⟩ := hf2
  obtain ⟨u1, u2⟩ := hu
  obtain ⟨v1, v2⟩ := hv
  obtain ⟨W2, hW2'⟩ : ∃ W2, W2 = (((w.alloc (.cells #[.int .i64 W, .int .i64 H, .bool ac, .bool up] 25)).alloc (.cells #[.int .i64 fx, .int .i64 fy] 59)).alloc (.cells #[.int .i64 u, .int .i64 v] 59)).alloc (.cells #[.int .i64 0, .int .i64 0] 59) := ⟨_, rfl⟩
  have a0 : W2.cell? ⟨w.heap.size, 0, none⟩ = some (.int .i64 W) := by rw [hW2']; go_simp
  have a1 : W2.cell? ⟨w.heap.size, 1, none⟩ = some (.int .i64 H) := by rw [hW2']; go_simp
  have a2 : W2.cell? ⟨w.heap.size, 2, none⟩ = some (.bool ac) := by rw [hW2']; go_simp
  have a3 : W2.cell? ⟨w.heap.size, 3, none⟩ = some (.bool up) := by rw [hW2']; go_simp
  have b0 : W2.cell? ⟨w.heap.size + 1, 0, none⟩ = some (.int .i64 fx) := by rw [hW2']; go_simp
  have b1 : W2.cell? ⟨w.heap.size + 1, 1, none⟩ = some (.int .i64 fy) := by rw [hW2']; go_simp
  have c0 : W2.cell? ⟨w.heap.size + 2, 0, none⟩ = some (.int .i64 u) := by rw [hW2']; go_simp
  have c1 : W2.cell? ⟨w.heap.size + 2, 1, none⟩ = some (.int .i64 v) := by rw [hW2']; go_simp
  have RB := Lib.hid (show SpotBox W2 (w.heap.size + 1 + 1 + 1) 0 0 by rw [hW2', SpotBox, show w.heap.size + 1 + 1 + 1 = (((w.alloc (.cells #[.int .i64 W, .int .i64 H, .bool ac, .bool up] 25)).alloc (.cells #[.int .i64 fx, .int .i64 fy] 59)).alloc (.cells #[.int .i64 u, .int .i64 v] 59)).heap.size by simp]; exact heap_alloc_new _ _)
  have al : w.heap.size < W2.heap.size := by rw [hW2']; simp; omega
  have B := Lib.hid (show Below w.heap.size w W2 by rw [hW2']; repeat (first | exact Below.refl _ _ | refine below_new ?_ _))
  have HS2 := Lib.hid (show W2.heap.size = w.heap.size + 4 by rw [hW2']; simp)
  obtain ⟨X, hX⟩ : ∃ X, fx + u = X := ⟨_, rfl⟩
  obtain ⟨Y, hY⟩ : ∃ Y, fy + v = Y := ⟨_, rfl⟩
  rw [hX, hY]
  have HXb := Lib.hid (show -100 ≤ X ∧ X ≤ 100 by omega)
  have HYb := Lib.hid (show -100 ≤ Y ∧ Y ≤ 100 by omega)
  cases ac <;> cases up
  · rw [show colA false W X = X from rfl]
    rw [show colA false H Y = Y from rfl]
    go_enter Try.func57, Try.ntmps57
    go_wp2_with fail
    rw [← hW2']
    clear hW2'
    refine (plus_any fx fy u v _ ⟨by omega, by omega⟩ ⟨by omega, by omega⟩ ⟨by omega, by omega⟩ ⟨by omega, by omega⟩).mono ?_
    rw [hX, hY]
    rintro e wv ⟨rfl, hb⟩
    replace a0 := cell_keep a0 al hb; replace a1 := cell_keep a1 al hb; replace a2 := cell_keep a2 al hb; replace a3 := cell_keep a3 al hb
    replace RB := Lib.hid (RB.out.keep hb)
    replace al := lt_keep al hb
    replace B := Lib.hid (below_next B.out hb)
    have RL := Lib.hid RB.out.lt
    clear hb b0 b1 c0 c1
    go_wp2_with fail
    obtain ⟨W5, hW5⟩ : ∃ W5, W5 = wv.alloc (.cells #[.int .i64 X, .int .i64 Y] 59) := ⟨_, rfl⟩
    obtain ⟨gt, hgt⟩ : ∃ gt, gt = wv.heap.size := ⟨_, rfl⟩
    have hb : Below wv.heap.size wv W5 := by rw [hW5]; exact below_new (Below.refl _ _) _
    replace a0 := cell_keep a0 al hb; replace a1 := cell_keep a1 al hb; replace al := lt_keep al hb
    replace RB := Lib.hid (RB.out.keep hb)
    replace B := Lib.hid (below_next B.out hb)
    have t0 : W5.cell? ⟨gt, 0, none⟩ = some (.int .i64 X) := by rw [hW5, hgt]; go_simp
    have t1 : W5.cell? ⟨gt, 1, none⟩ = some (.int .i64 Y) := by rw [hW5, hgt]; go_simp
    have tl : gt < W5.heap.size := by rw [hW5, hgt]; simp
    have HGT := Lib.hid (show w.heap.size + 1 + 1 + 1 < gt by rw [hgt]; exact RL.out)
    rw [← hW5, ← hgt]
    clear hW5 hgt hb a2 a3
    refine wp_region_held_drew (S := fun w' => w'.cell? ⟨w.heap.size, 0, none⟩ = some (.int .i64 W) ∧ w'.cell? ⟨w.heap.size, 1, none⟩ = some (.int .i64 H) ∧ w'.cell? ⟨gt, 0, none⟩ = some (.int .i64 X) ∧ w'.cell? ⟨gt, 1, none⟩ = some (.int .i64 Y)) (by kernel_rfl) ?_ (fun hHeld => ?_)
    · (try dsimp only)
      exact ⟨a0, a1, t0, t1⟩
    refine wpAnyH_take (i := 0) (oi := ⟨_, _, _, _, _, _⟩) (v := ?_) rfl (by kernel_rfl) (by kernel_rfl) (by kernel_rfl) (fun _ _ _ h => h) (Or.inl ⟨by rfl, ?_⟩) (by assumption) ?_
    rotate_left
    · intro w hSw
      (try dsimp only at hSw)
      go_simp
      (try with_reducible rfl)
    (try simp only [Act.put, List.setIfInBounds_toArray, List.set_cons_zero, List.set_cons_succ])
    refine wpAnyH_take (i := 1) (oi := ⟨_, _, _, _, _, _⟩) (v := ?_) rfl (by kernel_rfl) (by kernel_rfl) (by kernel_rfl) (fun _ _ _ h => h) (Or.inl ⟨by rfl, ?_⟩) (by assumption) ?_
    rotate_left
    · intro w hSw
      (try dsimp only at hSw)
      go_simp
      (try with_reducible rfl)
    (try simp only [Act.put, List.setIfInBounds_toArray, List.set_cons_zero, List.set_cons_succ])
    refine wpAnyH_take (i := 2) (oi := ⟨_, _, _, _, _, _⟩) (v := ?_) rfl (by kernel_rfl) (by kernel_rfl) (by kernel_rfl) (fun _ _ _ h => h) (Or.inl ⟨by rfl, ?_⟩) (by assumption) ?_
    rotate_left
    · intro w hSw
      (try dsimp only at hSw)
      go_simp
      (try with_reducible rfl)
    (try simp only [Act.put, List.setIfInBounds_toArray, List.set_cons_zero, List.set_cons_succ])
    refine wpAnyH_take (i := 3) (oi := ⟨_, _, _, _, _, _⟩) (v := ?_) rfl (by kernel_rfl) (by kernel_rfl) (by kernel_rfl) (fun _ _ _ h => h) (Or.inl ⟨by rfl, ?_⟩) (by assumption) ?_
    rotate_left
    · intro w hSw
      (try dsimp only at hSw)
      go_simp
      (try with_reducible rfl)
    (try simp only [Act.put, List.setIfInBounds_toArray, List.set_cons_zero, List.set_cons_succ])
    refine wpAnyH_take (i := 4) (oi := ⟨_, _, _, _, _, _⟩) (v := ?_) rfl (by kernel_rfl) (by kernel_rfl) (by kernel_rfl) (fun _ _ _ h => h) (Or.inl ⟨by rfl, ?_⟩) (by assumption) ?_
    rotate_left
    · intro w hSw
      (try dsimp only at hSw)
      go_simp
      (try with_reducible rfl)
    (try simp only [Act.put, List.setIfInBounds_toArray, List.set_cons_zero, List.set_cons_succ])
    refine wpAnyH_take (i := 5) (oi := ⟨_, _, _, _, _, _⟩) (v := ?_) rfl (by kernel_rfl) (by kernel_rfl) (by kernel_rfl) (fun _ _ _ h => h) (Or.inl ⟨by rfl, ?_⟩) (by assumption) ?_
    rotate_left
    · intro w hSw
      (try dsimp only at hSw)
      go_simp
      (try with_reducible rfl)
    (try simp only [Act.put, List.setIfInBounds_toArray, List.set_cons_zero, List.set_cons_succ])
    refine wpAnyH_ready (rs := [6]) (by kernel_rfl) (by simp) ?_
    refine AllReadyH.cons (o := ⟨_, _, _, _, _, _⟩) rfl (fun K hK => ?_) AllReadyH.nil
    go_simp
    (go_at_call 90; refine (isIn_any _ _ _ _ _).mono ?_; rintro e wx ⟨rfl, hb⟩; (repeat (first | replace hb := below_undrew hb | replace hb := below_undrewN hb)); replace a0 := cell_keep a0 al hb; replace a1 := cell_keep a1 al hb; replace t0 := cell_keep t0 tl hb; replace t1 := cell_keep t1 tl hb; replace al := lt_keep al hb; replace tl := lt_keep tl hb; replace RB := Lib.hid (RB.out.keep hb); replace B := Lib.hid (below_next B.out hb); clear hb)
    (try go_wp2_with fail)
    refine hK.out _ _ ?_ (fun hHeld => ?_)
    · (try dsimp only)
      exact ⟨a0, a1, t0, t1⟩
    clear hK K
    (try simp only [Act.put, List.setIfInBounds_toArray, List.set_cons_zero, List.set_cons_succ])
    refine wpAnyH_ready (rs := [7]) (by kernel_rfl) (by simp) ?_
    refine AllReadyH.cons (o := ⟨_, _, _, _, _, _⟩) rfl (fun K hK => ?_) AllReadyH.nil
    have z0 := RB.out.c0; have z1 := RB.out.c1
    have f0 : wx.frozen? ⟨w.heap.size + 1 + 1 + 1, 0, none⟩ = false := frozen_of_row wx _ 0 _ _ RB.out
    have f1 : wx.frozen? ⟨w.heap.size + 1 + 1 + 1, 1, none⟩ = false := frozen_of_row wx _ 1 _ _ RB.out
    go_simp
    obtain ⟨W6, hW6⟩ : ∃ W6, W6 = (wx.setCell ⟨w.heap.size + 1 + 1 + 1, 0, none⟩ (.int .i64 X)).setCell ⟨w.heap.size + 1 + 1 + 1, 1, none⟩ (.int .i64 Y) := ⟨_, rfl⟩
    have RB6 := Lib.hid (show SpotBox W6 (w.heap.size + 1 + 1 + 1) X Y by rw [hW6]; exact RB.out.set _ _)
    have B6 := Lib.hid (show Below w.heap.size w W6 by rw [hW6]; exact Below.setCell (Below.setCell B.out (p := ⟨w.heap.size + 1 + 1 + 1, 0, none⟩) (by simp; omega) _) (p := ⟨w.heap.size + 1 + 1 + 1, 1, none⟩) (by simp; omega) _)
    have hgr : wx.grownBy W6 (some (w.heap.size + 1 + 1 + 1)) := by rw [hW6]; exact grown_next (grownSet _ ⟨w.heap.size + 1 + 1 + 1, 0, none⟩ _) (grownSet _ ⟨w.heap.size + 1 + 1 + 1, 1, none⟩ _)
    have d0 : W6.cell? ⟨w.heap.size, 0, none⟩ = some (.int .i64 W) := hgr.cell a0 (by simp; omega)
    have d1 : W6.cell? ⟨w.heap.size, 1, none⟩ = some (.int .i64 H) := hgr.cell a1 (by simp; omega)
    have d2 : W6.cell? ⟨gt, 0, none⟩ = some (.int .i64 X) := hgr.cell t0 (by have := HGT.out; simp; omega)
    have d3 : W6.cell? ⟨gt, 1, none⟩ = some (.int .i64 Y) := hgr.cell t1 (by have := HGT.out; simp; omega)
    rw [← hW6]
    clear hW6 z0 z1 f0 f1 t0 t1 tl a0 a1 al B RB hgr
    refine hK.out _ _ ?_ (fun hHeld => ?_)
    · (try dsimp only)
      exact ⟨d0, d1, d2, d3⟩
    clear hK K
    (try simp only [Act.put, List.setIfInBounds_toArray, List.set_cons_zero, List.set_cons_succ])
    refine wpAnyH_take (i := 8) (oi := ⟨_, _, _, _, _, _⟩) (v := ?_) rfl (by kernel_rfl) (by kernel_rfl) (by kernel_rfl) (fun _ _ _ h => h) (Or.inl ⟨by rfl, ?_⟩) (by assumption) ?_
    rotate_left
    · intro w hSw
      (try dsimp only at hSw)
      go_simp
      (try with_reducible rfl)
    (try simp only [Act.put, List.setIfInBounds_toArray, List.set_cons_zero, List.set_cons_succ])
    refine wpAnyH_done (by kernel_rfl) ?_ _
    clear hHeld d0 d1 d2 d3
    have r0 := RB6.out.c0; have r1 := RB6.out.c1
    go_wp2
    exact bodyPost_ret (v := .tuple #[lpr X Y, .bool (inA W H X Y)]) (by simp [results, Try.results57, go_sem, r0, r1]) rfl ⟨rfl, (by repeat (first | exact B6.out | refine below_drewN ?_ _ | refine Below.drew ?_))⟩
  · rw [show colA false W X = X from rfl]
    obtain ⟨R, hR⟩ : ∃ R, Y % H = R := ⟨_, rfl⟩
    rw [show colA true H Y = R from hR]
    go_enter Try.func57, Try.ntmps57
    go_wp2_with fail
    rw [← hW2']
    clear hW2'
    refine (plus_any fx fy u v _ ⟨by omega, by omega⟩ ⟨by omega, by omega⟩ ⟨by omega, by omega⟩ ⟨by omega, by omega⟩).mono ?_
    rw [hX, hY]
    rintro e wv ⟨rfl, hb⟩
    replace a0 := cell_keep a0 al hb; replace a1 := cell_keep a1 al hb; replace a2 := cell_keep a2 al hb; replace a3 := cell_keep a3 al hb
    replace RB := Lib.hid (RB.out.keep hb)
    replace al := lt_keep al hb
    replace B := Lib.hid (below_next B.out hb)
    have RL := Lib.hid RB.out.lt
    clear hb b0 b1 c0 c1
    go_wp2_with fail
    refine (wrapped_any Y H _ ⟨hH1, hH2⟩ (by have := HYb.out; omega)).mono ?_
    rw [hR]
    rintro e w9 ⟨rfl, rfl⟩
    go_wp2_with fail
    obtain ⟨W5, hW5⟩ : ∃ W5, W5 = wv.alloc (.cells #[.int .i64 X, .int .i64 R] 59) := ⟨_, rfl⟩
    obtain ⟨gt, hgt⟩ : ∃ gt, gt = wv.heap.size := ⟨_, rfl⟩
    have hb : Below wv.heap.size wv W5 := by rw [hW5]; exact below_new (Below.refl _ _) _
    replace a0 := cell_keep a0 al hb; replace a1 := cell_keep a1 al hb; replace al := lt_keep al hb
    replace RB := Lib.hid (RB.out.keep hb)
    replace B := Lib.hid (below_next B.out hb)
    have t0 : W5.cell? ⟨gt, 0, none⟩ = some (.int .i64 X) := by rw [hW5, hgt]; go_simp
    have t1 : W5.cell? ⟨gt, 1, none⟩ = some (.int .i64 R) := by rw [hW5, hgt]; go_simp
    have tl : gt < W5.heap.size := by rw [hW5, hgt]; simp
    have HGT := Lib.hid (show w.heap.size + 1 + 1 + 1 < gt by rw [hgt]; exact RL.out)
    rw [← hW5, ← hgt]
    clear hW5 hgt hb a2 a3
    refine wp_region_held_drew (S := fun w' => w'.cell? ⟨w.heap.size, 0, none⟩ = some (.int .i64 W) ∧ w'.cell? ⟨w.heap.size, 1, none⟩ = some (.int .i64 H) ∧ w'.cell? ⟨gt, 0, none⟩ = some (.int .i64 X) ∧ w'.cell? ⟨gt, 1, none⟩ = some (.int .i64 R)) (by kernel_rfl) ?_ (fun hHeld => ?_)
    · (try dsimp only)
      exact ⟨a0, a1, t0, t1⟩
    refine wpAnyH_take (i := 0) (oi := ⟨_, _, _, _, _, _⟩) (v := ?_) rfl (by kernel_rfl) (by kernel_rfl) (by kernel_rfl) (fun _ _ _ h => h) (Or.inl ⟨by rfl, ?_⟩) (by assumption) ?_
    rotate_left
    · intro w hSw
      (try dsimp only at hSw)
      go_simp
      (try with_reducible rfl)
    (try simp only [Act.put, List.setIfInBounds_toArray, List.set_cons_zero, List.set_cons_succ])
    refine wpAnyH_take (i := 1) (oi := ⟨_, _, _, _, _, _⟩) (v := ?_) rfl (by kernel_rfl) (by kernel_rfl) (by kernel_rfl) (fun _ _ _ h => h) (Or.inl ⟨by rfl, ?_⟩) (by assumption) ?_
    rotate_left
    · intro w hSw
      (try dsimp only at hSw)
      go_simp
      (try with_reducible rfl)
    (try simp only [Act.put, List.setIfInBounds_toArray, List.set_cons_zero, List.set_cons_succ])
    refine wpAnyH_take (i := 2) (oi := ⟨_, _, _, _, _, _⟩) (v := ?_) rfl (by kernel_rfl) (by kernel_rfl) (by kernel_rfl) (fun _ _ _ h => h) (Or.inl ⟨by rfl, ?_⟩) (by assumption) ?_
    rotate_left
    · intro w hSw
      (try dsimp only at hSw)
      go_simp
      (try with_reducible rfl)
    (try simp only [Act.put, List.setIfInBounds_toArray, List.set_cons_zero, List.set_cons_succ])
    refine wpAnyH_take (i := 3) (oi := ⟨_, _, _, _, _, _⟩) (v := ?_) rfl (by kernel_rfl) (by kernel_rfl) (by kernel_rfl) (fun _ _ _ h => h) (Or.inl ⟨by rfl, ?_⟩) (by assumption) ?_
    rotate_left
    · intro w hSw
      (try dsimp only at hSw)
      go_simp
      (try with_reducible rfl)
    (try simp only [Act.put, List.setIfInBounds_toArray, List.set_cons_zero, List.set_cons_succ])
    refine wpAnyH_take (i := 4) (oi := ⟨_, _, _, _, _, _⟩) (v := ?_) rfl (by kernel_rfl) (by kernel_rfl) (by kernel_rfl) (fun _ _ _ h => h) (Or.inl ⟨by rfl, ?_⟩) (by assumption) ?_
    rotate_left
    · intro w hSw
      (try dsimp only at hSw)
      go_simp
      (try with_reducible rfl)
    (try simp only [Act.put, List.setIfInBounds_toArray, List.set_cons_zero, List.set_cons_succ])
    refine wpAnyH_take (i := 5) (oi := ⟨_, _, _, _, _, _⟩) (v := ?_) rfl (by kernel_rfl) (by kernel_rfl) (by kernel_rfl) (fun _ _ _ h => h) (Or.inl ⟨by rfl, ?_⟩) (by assumption) ?_
    rotate_left
    · intro w hSw
      (try dsimp only at hSw)
      go_simp
      (try with_reducible rfl)
    (try simp only [Act.put, List.setIfInBounds_toArray, List.set_cons_zero, List.set_cons_succ])
    refine wpAnyH_ready (rs := [6]) (by kernel_rfl) (by simp) ?_
    refine AllReadyH.cons (o := ⟨_, _, _, _, _, _⟩) rfl (fun K hK => ?_) AllReadyH.nil
    go_simp
    (go_at_call 90; refine (isIn_any _ _ _ _ _).mono ?_; rintro e wx ⟨rfl, hb⟩; (repeat (first | replace hb := below_undrew hb | replace hb := below_undrewN hb)); replace a0 := cell_keep a0 al hb; replace a1 := cell_keep a1 al hb; replace t0 := cell_keep t0 tl hb; replace t1 := cell_keep t1 tl hb; replace al := lt_keep al hb; replace tl := lt_keep tl hb; replace RB := Lib.hid (RB.out.keep hb); replace B := Lib.hid (below_next B.out hb); clear hb)
    (try go_wp2_with fail)
    refine hK.out _ _ ?_ (fun hHeld => ?_)
    · (try dsimp only)
      exact ⟨a0, a1, t0, t1⟩
    clear hK K
    (try simp only [Act.put, List.setIfInBounds_toArray, List.set_cons_zero, List.set_cons_succ])
    refine wpAnyH_ready (rs := [7]) (by kernel_rfl) (by simp) ?_
    refine AllReadyH.cons (o := ⟨_, _, _, _, _, _⟩) rfl (fun K hK => ?_) AllReadyH.nil
    have z0 := RB.out.c0; have z1 := RB.out.c1
    have f0 : wx.frozen? ⟨w.heap.size + 1 + 1 + 1, 0, none⟩ = false := frozen_of_row wx _ 0 _ _ RB.out
    have f1 : wx.frozen? ⟨w.heap.size + 1 + 1 + 1, 1, none⟩ = false := frozen_of_row wx _ 1 _ _ RB.out
    go_simp
    obtain ⟨W6, hW6⟩ : ∃ W6, W6 = (wx.setCell ⟨w.heap.size + 1 + 1 + 1, 0, none⟩ (.int .i64 X)).setCell ⟨w.heap.size + 1 + 1 + 1, 1, none⟩ (.int .i64 R) := ⟨_, rfl⟩
    have RB6 := Lib.hid (show SpotBox W6 (w.heap.size + 1 + 1 + 1) X R by rw [hW6]; exact RB.out.set _ _)
    have B6 := Lib.hid (show Below w.heap.size w W6 by rw [hW6]; exact Below.setCell (Below.setCell B.out (p := ⟨w.heap.size + 1 + 1 + 1, 0, none⟩) (by simp; omega) _) (p := ⟨w.heap.size + 1 + 1 + 1, 1, none⟩) (by simp; omega) _)
    have hgr : wx.grownBy W6 (some (w.heap.size + 1 + 1 + 1)) := by rw [hW6]; exact grown_next (grownSet _ ⟨w.heap.size + 1 + 1 + 1, 0, none⟩ _) (grownSet _ ⟨w.heap.size + 1 + 1 + 1, 1, none⟩ _)
    have d0 : W6.cell? ⟨w.heap.size, 0, none⟩ = some (.int .i64 W) := hgr.cell a0 (by simp; omega)
    have d1 : W6.cell? ⟨w.heap.size, 1, none⟩ = some (.int .i64 H) := hgr.cell a1 (by simp; omega)
    have d2 : W6.cell? ⟨gt, 0, none⟩ = some (.int .i64 X) := hgr.cell t0 (by have := HGT.out; simp; omega)
    have d3 : W6.cell? ⟨gt, 1, none⟩ = some (.int .i64 R) := hgr.cell t1 (by have := HGT.out; simp; omega)
    rw [← hW6]
    clear hW6 z0 z1 f0 f1 t0 t1 tl a0 a1 al B RB hgr
    refine hK.out _ _ ?_ (fun hHeld => ?_)
    · (try dsimp only)
      exact ⟨d0, d1, d2, d3⟩
    clear hK K
    (try simp only [Act.put, List.setIfInBounds_toArray, List.set_cons_zero, List.set_cons_succ])
    refine wpAnyH_take (i := 8) (oi := ⟨_, _, _, _, _, _⟩) (v := ?_) rfl (by kernel_rfl) (by kernel_rfl) (by kernel_rfl) (fun _ _ _ h => h) (Or.inl ⟨by rfl, ?_⟩) (by assumption) ?_
    rotate_left
    · intro w hSw
      (try dsimp only at hSw)
      go_simp
      (try with_reducible rfl)
    (try simp only [Act.put, List.setIfInBounds_toArray, List.set_cons_zero, List.set_cons_succ])
    refine wpAnyH_done (by kernel_rfl) ?_ _
    clear hHeld d0 d1 d2 d3
    have r0 := RB6.out.c0; have r1 := RB6.out.c1
    go_wp2
    exact bodyPost_ret (v := .tuple #[lpr X R, .bool (inA W H X R)]) (by simp [results, Try.results57, go_sem, r0, r1]) rfl ⟨rfl, (by repeat (first | exact B6.out | refine below_drewN ?_ _ | refine Below.drew ?_))⟩
  · obtain ⟨P, hP⟩ : ∃ P, X % W = P := ⟨_, rfl⟩
    rw [show colA true W X = P from hP]
    rw [show colA false H Y = Y from rfl]
    go_enter Try.func57, Try.ntmps57
    go_wp2_with fail
    rw [← hW2']
    clear hW2'
    refine (plus_any fx fy u v _ ⟨by omega, by omega⟩ ⟨by omega, by omega⟩ ⟨by omega, by omega⟩ ⟨by omega, by omega⟩).mono ?_
    rw [hX, hY]
    rintro e wv ⟨rfl, hb⟩
    replace a0 := cell_keep a0 al hb; replace a1 := cell_keep a1 al hb; replace a2 := cell_keep a2 al hb; replace a3 := cell_keep a3 al hb
    replace RB := Lib.hid (RB.out.keep hb)
    replace al := lt_keep al hb
    replace B := Lib.hid (below_next B.out hb)
    have RL := Lib.hid RB.out.lt
    clear hb b0 b1 c0 c1
    go_wp2_with fail
    refine (wrapped_any X W _ ⟨hW1, hW2⟩ (by have := HXb.out; omega)).mono ?_
    rw [hP]
    rintro e w9 ⟨rfl, rfl⟩
    go_wp2_with fail
    obtain ⟨W5, hW5⟩ : ∃ W5, W5 = wv.alloc (.cells #[.int .i64 P, .int .i64 Y] 59) := ⟨_, rfl⟩
    obtain ⟨gt, hgt⟩ : ∃ gt, gt = wv.heap.size := ⟨_, rfl⟩
    have hb : Below wv.heap.size wv W5 := by rw [hW5]; exact below_new (Below.refl _ _) _
    replace a0 := cell_keep a0 al hb; replace a1 := cell_keep a1 al hb; replace al := lt_keep al hb
    replace RB := Lib.hid (RB.out.keep hb)
    replace B := Lib.hid (below_next B.out hb)
    have t0 : W5.cell? ⟨gt, 0, none⟩ = some (.int .i64 P) := by rw [hW5, hgt]; go_simp
    have t1 : W5.cell? ⟨gt, 1, none⟩ = some (.int .i64 Y) := by rw [hW5, hgt]; go_simp
    have tl : gt < W5.heap.size := by rw [hW5, hgt]; simp
    have HGT := Lib.hid (show w.heap.size + 1 + 1 + 1 < gt by rw [hgt]; exact RL.out)
    rw [← hW5, ← hgt]
    clear hW5 hgt hb a2 a3
    refine wp_region_held_drew (S := fun w' => w'.cell? ⟨w.heap.size, 0, none⟩ = some (.int .i64 W) ∧ w'.cell? ⟨w.heap.size, 1, none⟩ = some (.int .i64 H) ∧ w'.cell? ⟨gt, 0, none⟩ = some (.int .i64 P) ∧ w'.cell? ⟨gt, 1, none⟩ = some (.int .i64 Y)) (by kernel_rfl) ?_ (fun hHeld => ?_)
    · (try dsimp only)
      exact ⟨a0, a1, t0, t1⟩
    refine wpAnyH_take (i := 0) (oi := ⟨_, _, _, _, _, _⟩) (v := ?_) rfl (by kernel_rfl) (by kernel_rfl) (by kernel_rfl) (fun _ _ _ h => h) (Or.inl ⟨by rfl, ?_⟩) (by assumption) ?_
    rotate_left
    · intro w hSw
      (try dsimp only at hSw)
      go_simp
      (try with_reducible rfl)
    (try simp only [Act.put, List.setIfInBounds_toArray, List.set_cons_zero, List.set_cons_succ])
    refine wpAnyH_take (i := 1) (oi := ⟨_, _, _, _, _, _⟩) (v := ?_) rfl (by kernel_rfl) (by kernel_rfl) (by kernel_rfl) (fun _ _ _ h => h) (Or.inl ⟨by rfl, ?_⟩) (by assumption) ?_
    rotate_left
    · intro w hSw
      (try dsimp only at hSw)
      go_simp
      (try with_reducible rfl)
    (try simp only [Act.put, List.setIfInBounds_toArray, List.set_cons_zero, List.set_cons_succ])
    refine wpAnyH_take (i := 2) (oi := ⟨_, _, _, _, _, _⟩) (v := ?_) rfl (by kernel_rfl) (by kernel_rfl) (by kernel_rfl) (fun _ _ _ h => h) (Or.inl ⟨by rfl, ?_⟩) (by assumption) ?_
    rotate_left
    · intro w hSw
      (try dsimp only at hSw)
      go_simp
      (try with_reducible rfl)
    (try simp only [Act.put, List.setIfInBounds_toArray, List.set_cons_zero, List.set_cons_succ])
    refine wpAnyH_take (i := 3) (oi := ⟨_, _, _, _, _, _⟩) (v := ?_) rfl (by kernel_rfl) (by kernel_rfl) (by kernel_rfl) (fun _ _ _ h => h) (Or.inl ⟨by rfl, ?_⟩) (by assumption) ?_
    rotate_left
    · intro w hSw
      (try dsimp only at hSw)
      go_simp
      (try with_reducible rfl)
    (try simp only [Act.put, List.setIfInBounds_toArray, List.set_cons_zero, List.set_cons_succ])
    refine wpAnyH_take (i := 4) (oi := ⟨_, _, _, _, _, _⟩) (v := ?_) rfl (by kernel_rfl) (by kernel_rfl) (by kernel_rfl) (fun _ _ _ h => h) (Or.inl ⟨by rfl, ?_⟩) (by assumption) ?_
    rotate_left
    · intro w hSw
      (try dsimp only at hSw)
      go_simp
      (try with_reducible rfl)
    (try simp only [Act.put, List.setIfInBounds_toArray, List.set_cons_zero, List.set_cons_succ])
    refine wpAnyH_take (i := 5) (oi := ⟨_, _, _, _, _, _⟩) (v := ?_) rfl (by kernel_rfl) (by kernel_rfl) (by kernel_rfl) (fun _ _ _ h => h) (Or.inl ⟨by rfl, ?_⟩) (by assumption) ?_
    rotate_left
    · intro w hSw
      (try dsimp only at hSw)
      go_simp
      (try with_reducible rfl)
    (try simp only [Act.put, List.setIfInBounds_toArray, List.set_cons_zero, List.set_cons_succ])
    refine wpAnyH_ready (rs := [6]) (by kernel_rfl) (by simp) ?_
    refine AllReadyH.cons (o := ⟨_, _, _, _, _, _⟩) rfl (fun K hK => ?_) AllReadyH.nil
    go_simp
    (go_at_call 90; refine (isIn_any _ _ _ _ _).mono ?_; rintro e wx ⟨rfl, hb⟩; (repeat (first | replace hb := below_undrew hb | replace hb := below_undrewN hb)); replace a0 := cell_keep a0 al hb; replace a1 := cell_keep a1 al hb; replace t0 := cell_keep t0 tl hb; replace t1 := cell_keep t1 tl hb; replace al := lt_keep al hb; replace tl := lt_keep tl hb; replace RB := Lib.hid (RB.out.keep hb); replace B := Lib.hid (below_next B.out hb); clear hb)
    (try go_wp2_with fail)
    refine hK.out _ _ ?_ (fun hHeld => ?_)
    · (try dsimp only)
      exact ⟨a0, a1, t0, t1⟩
    clear hK K
    (try simp only [Act.put, List.setIfInBounds_toArray, List.set_cons_zero, List.set_cons_succ])
    refine wpAnyH_ready (rs := [7]) (by kernel_rfl) (by simp) ?_
    refine AllReadyH.cons (o := ⟨_, _, _, _, _, _⟩) rfl (fun K hK => ?_) AllReadyH.nil
    have z0 := RB.out.c0; have z1 := RB.out.c1
    have f0 : wx.frozen? ⟨w.heap.size + 1 + 1 + 1, 0, none⟩ = false := frozen_of_row wx _ 0 _ _ RB.out
    have f1 : wx.frozen? ⟨w.heap.size + 1 + 1 + 1, 1, none⟩ = false := frozen_of_row wx _ 1 _ _ RB.out
    go_simp
    obtain ⟨W6, hW6⟩ : ∃ W6, W6 = (wx.setCell ⟨w.heap.size + 1 + 1 + 1, 0, none⟩ (.int .i64 P)).setCell ⟨w.heap.size + 1 + 1 + 1, 1, none⟩ (.int .i64 Y) := ⟨_, rfl⟩
    have RB6 := Lib.hid (show SpotBox W6 (w.heap.size + 1 + 1 + 1) P Y by rw [hW6]; exact RB.out.set _ _)
    have B6 := Lib.hid (show Below w.heap.size w W6 by rw [hW6]; exact Below.setCell (Below.setCell B.out (p := ⟨w.heap.size + 1 + 1 + 1, 0, none⟩) (by simp; omega) _) (p := ⟨w.heap.size + 1 + 1 + 1, 1, none⟩) (by simp; omega) _)
    have hgr : wx.grownBy W6 (some (w.heap.size + 1 + 1 + 1)) := by rw [hW6]; exact grown_next (grownSet _ ⟨w.heap.size + 1 + 1 + 1, 0, none⟩ _) (grownSet _ ⟨w.heap.size + 1 + 1 + 1, 1, none⟩ _)
    have d0 : W6.cell? ⟨w.heap.size, 0, none⟩ = some (.int .i64 W) := hgr.cell a0 (by simp; omega)
    have d1 : W6.cell? ⟨w.heap.size, 1, none⟩ = some (.int .i64 H) := hgr.cell a1 (by simp; omega)
    have d2 : W6.cell? ⟨gt, 0, none⟩ = some (.int .i64 P) := hgr.cell t0 (by have := HGT.out; simp; omega)
    have d3 : W6.cell? ⟨gt, 1, none⟩ = some (.int .i64 Y) := hgr.cell t1 (by have := HGT.out; simp; omega)
    rw [← hW6]
    clear hW6 z0 z1 f0 f1 t0 t1 tl a0 a1 al B RB hgr
    refine hK.out _ _ ?_ (fun hHeld => ?_)
    · (try dsimp only)
      exact ⟨d0, d1, d2, d3⟩
    clear hK K
    (try simp only [Act.put, List.setIfInBounds_toArray, List.set_cons_zero, List.set_cons_succ])
    refine wpAnyH_take (i := 8) (oi := ⟨_, _, _, _, _, _⟩) (v := ?_) rfl (by kernel_rfl) (by kernel_rfl) (by kernel_rfl) (fun _ _ _ h => h) (Or.inl ⟨by rfl, ?_⟩) (by assumption) ?_
    rotate_left
    · intro w hSw
      (try dsimp only at hSw)
      go_simp
      (try with_reducible rfl)
    (try simp only [Act.put, List.setIfInBounds_toArray, List.set_cons_zero, List.set_cons_succ])
    refine wpAnyH_done (by kernel_rfl) ?_ _
    clear hHeld d0 d1 d2 d3
    have r0 := RB6.out.c0; have r1 := RB6.out.c1
    go_wp2
    exact bodyPost_ret (v := .tuple #[lpr P Y, .bool (inA W H P Y)]) (by simp [results, Try.results57, go_sem, r0, r1]) rfl ⟨rfl, (by repeat (first | exact B6.out | refine below_drewN ?_ _ | refine Below.drew ?_))⟩
  · obtain ⟨P, hP⟩ : ∃ P, X % W = P := ⟨_, rfl⟩
    rw [show colA true W X = P from hP]
    obtain ⟨R, hR⟩ : ∃ R, Y % H = R := ⟨_, rfl⟩
    rw [show colA true H Y = R from hR]
    go_enter Try.func57, Try.ntmps57
    go_wp2_with fail
    rw [← hW2']
    clear hW2'
    refine (plus_any fx fy u v _ ⟨by omega, by omega⟩ ⟨by omega, by omega⟩ ⟨by omega, by omega⟩ ⟨by omega, by omega⟩).mono ?_
    rw [hX, hY]
    rintro e wv ⟨rfl, hb⟩
    replace a0 := cell_keep a0 al hb; replace a1 := cell_keep a1 al hb; replace a2 := cell_keep a2 al hb; replace a3 := cell_keep a3 al hb
    replace RB := Lib.hid (RB.out.keep hb)
    replace al := lt_keep al hb
    replace B := Lib.hid (below_next B.out hb)
    have RL := Lib.hid RB.out.lt
    clear hb b0 b1 c0 c1
    go_wp2_with fail
    refine (wrapped_any X W _ ⟨hW1, hW2⟩ (by have := HXb.out; omega)).mono ?_
    rw [hP]
    rintro e w9 ⟨rfl, rfl⟩
    go_wp2_with fail
    refine (wrapped_any Y H _ ⟨hH1, hH2⟩ (by have := HYb.out; omega)).mono ?_
    rw [hR]
    rintro e w9 ⟨rfl, rfl⟩
    go_wp2_with fail
    obtain ⟨W5, hW5⟩ : ∃ W5, W5 = wv.alloc (.cells #[.int .i64 P, .int .i64 R] 59) := ⟨_, rfl⟩
    obtain ⟨gt, hgt⟩ : ∃ gt, gt = wv.heap.size := ⟨_, rfl⟩
    have hb : Below wv.heap.size wv W5 := by rw [hW5]; exact below_new (Below.refl _ _) _
    replace a0 := cell_keep a0 al hb; replace a1 := cell_keep a1 al hb; replace al := lt_keep al hb
    replace RB := Lib.hid (RB.out.keep hb)
    replace B := Lib.hid (below_next B.out hb)
    have t0 : W5.cell? ⟨gt, 0, none⟩ = some (.int .i64 P) := by rw [hW5, hgt]; go_simp
    have t1 : W5.cell? ⟨gt, 1, none⟩ = some (.int .i64 R) := by rw [hW5, hgt]; go_simp
    have tl : gt < W5.heap.size := by rw [hW5, hgt]; simp
    have HGT := Lib.hid (show w.heap.size + 1 + 1 + 1 < gt by rw [hgt]; exact RL.out)
    rw [← hW5, ← hgt]
    clear hW5 hgt hb a2 a3
    refine wp_region_held_drew (S := fun w' => w'.cell? ⟨w.heap.size, 0, none⟩ = some (.int .i64 W) ∧ w'.cell? ⟨w.heap.size, 1, none⟩ = some (.int .i64 H) ∧ w'.cell? ⟨gt, 0, none⟩ = some (.int .i64 P) ∧ w'.cell? ⟨gt, 1, none⟩ = some (.int .i64 R)) (by kernel_rfl) ?_ (fun hHeld => ?_)
    · (try dsimp only)
      exact ⟨a0, a1, t0, t1⟩
    refine wpAnyH_take (i := 0) (oi := ⟨_, _, _, _, _, _⟩) (v := ?_) rfl (by kernel_rfl) (by kernel_rfl) (by kernel_rfl) (fun _ _ _ h => h) (Or.inl ⟨by rfl, ?_⟩) (by assumption) ?_
    rotate_left
    · intro w hSw
      (try dsimp only at hSw)
      go_simp
      (try with_reducible rfl)
    (try simp only [Act.put, List.setIfInBounds_toArray, List.set_cons_zero, List.set_cons_succ])
    refine wpAnyH_take (i := 1) (oi := ⟨_, _, _, _, _, _⟩) (v := ?_) rfl (by kernel_rfl) (by kernel_rfl) (by kernel_rfl) (fun _ _ _ h => h) (Or.inl ⟨by rfl, ?_⟩) (by assumption) ?_
    rotate_left
    · intro w hSw
      (try dsimp only at hSw)
      go_simp
      (try with_reducible rfl)
    (try simp only [Act.put, List.setIfInBounds_toArray, List.set_cons_zero, List.set_cons_succ])
    refine wpAnyH_take (i := 2) (oi := ⟨_, _, _, _, _, _⟩) (v := ?_) rfl (by kernel_rfl) (by kernel_rfl) (by kernel_rfl) (fun _ _ _ h => h) (Or.inl ⟨by rfl, ?_⟩) (by assumption) ?_
    rotate_left
    · intro w hSw
      (try dsimp only at hSw)
      go_simp
      (try with_reducible rfl)
    (try simp only [Act.put, List.setIfInBounds_toArray, List.set_cons_zero, List.set_cons_succ])
    refine wpAnyH_take (i := 3) (oi := ⟨_, _, _, _, _, _⟩) (v := ?_) rfl (by kernel_rfl) (by kernel_rfl) (by kernel_rfl) (fun _ _ _ h => h) (Or.inl ⟨by rfl, ?_⟩) (by assumption) ?_
    rotate_left
    · intro w hSw
      (try dsimp only at hSw)
      go_simp
      (try with_reducible rfl)
    (try simp only [Act.put, List.setIfInBounds_toArray, List.set_cons_zero, List.set_cons_succ])
    refine wpAnyH_take (i := 4) (oi := ⟨_, _, _, _, _, _⟩) (v := ?_) rfl (by kernel_rfl) (by kernel_rfl) (by kernel_rfl) (fun _ _ _ h => h) (Or.inl ⟨by rfl, ?_⟩) (by assumption) ?_
    rotate_left
    · intro w hSw
      (try dsimp only at hSw)
      go_simp
      (try with_reducible rfl)
    (try simp only [Act.put, List.setIfInBounds_toArray, List.set_cons_zero, List.set_cons_succ])
    refine wpAnyH_take (i := 5) (oi := ⟨_, _, _, _, _, _⟩) (v := ?_) rfl (by kernel_rfl) (by kernel_rfl) (by kernel_rfl) (fun _ _ _ h => h) (Or.inl ⟨by rfl, ?_⟩) (by assumption) ?_
    rotate_left
    · intro w hSw
      (try dsimp only at hSw)
      go_simp
      (try with_reducible rfl)
    (try simp only [Act.put, List.setIfInBounds_toArray, List.set_cons_zero, List.set_cons_succ])
    refine wpAnyH_ready (rs := [6]) (by kernel_rfl) (by simp) ?_
    refine AllReadyH.cons (o := ⟨_, _, _, _, _, _⟩) rfl (fun K hK => ?_) AllReadyH.nil
    go_simp
    (go_at_call 90; refine (isIn_any _ _ _ _ _).mono ?_; rintro e wx ⟨rfl, hb⟩; (repeat (first | replace hb := below_undrew hb | replace hb := below_undrewN hb)); replace a0 := cell_keep a0 al hb; replace a1 := cell_keep a1 al hb; replace t0 := cell_keep t0 tl hb; replace t1 := cell_keep t1 tl hb; replace al := lt_keep al hb; replace tl := lt_keep tl hb; replace RB := Lib.hid (RB.out.keep hb); replace B := Lib.hid (below_next B.out hb); clear hb)
    (try go_wp2_with fail)
    refine hK.out _ _ ?_ (fun hHeld => ?_)
    · (try dsimp only)
      exact ⟨a0, a1, t0, t1⟩
    clear hK K
    (try simp only [Act.put, List.setIfInBounds_toArray, List.set_cons_zero, List.set_cons_succ])
    refine wpAnyH_ready (rs := [7]) (by kernel_rfl) (by simp) ?_
    refine AllReadyH.cons (o := ⟨_, _, _, _, _, _⟩) rfl (fun K hK => ?_) AllReadyH.nil
    have z0 := RB.out.c0; have z1 := RB.out.c1
    have f0 : wx.frozen? ⟨w.heap.size + 1 + 1 + 1, 0, none⟩ = false := frozen_of_row wx _ 0 _ _ RB.out
    have f1 : wx.frozen? ⟨w.heap.size + 1 + 1 + 1, 1, none⟩ = false := frozen_of_row wx _ 1 _ _ RB.out
    go_simp
    obtain ⟨W6, hW6⟩ : ∃ W6, W6 = (wx.setCell ⟨w.heap.size + 1 + 1 + 1, 0, none⟩ (.int .i64 P)).setCell ⟨w.heap.size + 1 + 1 + 1, 1, none⟩ (.int .i64 R) := ⟨_, rfl⟩
    have RB6 := Lib.hid (show SpotBox W6 (w.heap.size + 1 + 1 + 1) P R by rw [hW6]; exact RB.out.set _ _)
    have B6 := Lib.hid (show Below w.heap.size w W6 by rw [hW6]; exact Below.setCell (Below.setCell B.out (p := ⟨w.heap.size + 1 + 1 + 1, 0, none⟩) (by simp; omega) _) (p := ⟨w.heap.size + 1 + 1 + 1, 1, none⟩) (by simp; omega) _)
    have hgr : wx.grownBy W6 (some (w.heap.size + 1 + 1 + 1)) := by rw [hW6]; exact grown_next (grownSet _ ⟨w.heap.size + 1 + 1 + 1, 0, none⟩ _) (grownSet _ ⟨w.heap.size + 1 + 1 + 1, 1, none⟩ _)
    have d0 : W6.cell? ⟨w.heap.size, 0, none⟩ = some (.int .i64 W) := hgr.cell a0 (by simp; omega)
    have d1 : W6.cell? ⟨w.heap.size, 1, none⟩ = some (.int .i64 H) := hgr.cell a1 (by simp; omega)
    have d2 : W6.cell? ⟨gt, 0, none⟩ = some (.int .i64 P) := hgr.cell t0 (by have := HGT.out; simp; omega)
    have d3 : W6.cell? ⟨gt, 1, none⟩ = some (.int .i64 R) := hgr.cell t1 (by have := HGT.out; simp; omega)
    rw [← hW6]
    clear hW6 z0 z1 f0 f1 t0 t1 tl a0 a1 al B RB hgr
    refine hK.out _ _ ?_ (fun hHeld => ?_)
    · (try dsimp only)
      exact ⟨d0, d1, d2, d3⟩
    clear hK K
    (try simp only [Act.put, List.setIfInBounds_toArray, List.set_cons_zero, List.set_cons_succ])
    refine wpAnyH_take (i := 8) (oi := ⟨_, _, _, _, _, _⟩) (v := ?_) rfl (by kernel_rfl) (by kernel_rfl) (by kernel_rfl) (fun _ _ _ h => h) (Or.inl ⟨by rfl, ?_⟩) (by assumption) ?_
    rotate_left
    · intro w hSw
      (try dsimp only at hSw)
      go_simp
      (try with_reducible rfl)
    (try simp only [Act.put, List.setIfInBounds_toArray, List.set_cons_zero, List.set_cons_succ])
    refine wpAnyH_done (by kernel_rfl) ?_ _
    clear hHeld d0 d1 d2 d3
    have r0 := RB6.out.c0; have r1 := RB6.out.c1
    go_wp2
    exact bodyPost_ret (v := .tuple #[lpr P R, .bool (inA W H P R)]) (by simp [results, Try.results57, go_sem, r0, r1]) rfl ⟨rfl, (by repeat (first | exact B6.out | refine below_drewN ?_ _ | refine Below.drew ?_))⟩

end Go.Proofs.Ytaliknhfcdmohaa
