/-
  Contracts: TurnBoard, MirrorBoard, the program.
-/
import Derived.Test.YtmghjohpmlhdlaaU3
namespace Go.Proofs.Ytmghjohpmlhdlaa
open Go.RowKit

set_option maxRecDepth 100000 in
set_option maxHeartbeats 800000 in
theorem carryTurned_any (W H : Int) (A : Option Addr) (n c : Nat) (xs : List Int) (w : World) (ha : Rd w A n xs) (hg : goodB W H xs = true) :
    Calls Try.prog 76 #[brd W H A n c, .int .i64 H, .func (.func 71) #[] #[]] w fun e w' => ∃ A' n' c', e = .returned (.slice A' n' c') ∧ OwnI 3 w' w.heap.size A' n' c' (movedL (xs.map (turnV W H))) ∧ Below w.heap.size w w' := by
  obtain ⟨W2, hW2⟩ : ∃ W2, W2 = w.alloc (.cells #[.int .i64 W, .int .i64 H, .slice A n c] 28) := ⟨_, rfl⟩
  have hsz0 : W2.heap.size = w.heap.size + 1 := by rw [hW2]; simp
  have a0 : W2.cell? ⟨w.heap.size, 0, none⟩ = some (.int .i64 W) := by rw [hW2]; go_simp
  have a1 : W2.cell? ⟨w.heap.size, 1, none⟩ = some (.int .i64 H) := by rw [hW2]; go_simp
  have a2 : W2.cell? ⟨w.heap.size, 2, none⟩ = some (.slice A n c) := by rw [hW2]; go_simp
  have al : w.heap.size < W2.heap.size := by omega
  have B := Lib.hid (show Below w.heap.size w W2 by rw [hW2]; exact below_new (Below.refl _ _) _)
  have R := Lib.hid (ha.keep B.out)
  have HG := Lib.hid hg
  have HW : Hid (1 ≤ W ∧ W ≤ 8) := Lib.hid (goodB_iff.1 hg).1
  have HH : Hid (1 ≤ H ∧ H ≤ 8) := Lib.hid (goodB_iff.1 hg).2.1
  have HIN := Lib.hid (holes_in hg)
  have HN := Lib.hid (good_NU hg)
  have H1 := Lib.hid ha.1
  have hn64 : n ≤ 64 := by rw [← ha.1]; exact holes_few hg
  have hlo2 : w.heap.size < W2.heap.size := al
  obtain ⟨i0, hi, hz0, hz1, hz2⟩ := info_parts infoI
  have HI := Lib.hid hi; have HZ0 := Lib.hid hz0; have HZ1 := Lib.hid hz1; have HZ2 := Lib.hid hz2
  clear hi hz0 hz1 hz2 hg ha
  go_enter Try.func76, Try.ntmps76
  go_wp2_with fail
  rw [← hW2]
  clear hW2
  have HA := Lib.hid (⟨a0, a1, a2, al⟩ : W2.cell? ⟨w.heap.size, 0, none⟩ = some (.int .i64 W) ∧ W2.cell? ⟨w.heap.size, 1, none⟩ = some (.int .i64 H) ∧ W2.cell? ⟨w.heap.size, 2, none⟩ = some (.slice A n c) ∧ w.heap.size < W2.heap.size)
  clear a0 a1 al hsz0 a2
  go_loopw [7, 13] (fun s i wr => ∃ (k c' : Nat) (A' : Option Addr), k ≤ n ∧ i = .int .i64 k ∧ s = .slice A' k c' ∧ OwnI 3 wr W2.heap.size A' k c' ((xs.take k).map (turnV W H)) ∧ Below W2.heap.size W2 wr) (fun _ i _ => n - (intOf i).toNat)
  case atStart => exact ⟨0, 0, none, Nat.zero_le _, rfl, rfl, OwnI.none_ _ _ _, Below.refl _ _⟩
  case round =>
    obtain ⟨k, c', A', hk, rfl, rfl, hown, hbw⟩ := hrel
    have OWN := Lib.hid hown; have HB := Lib.hid hbw
    have hsw := hbw.size
    have hb := hbw
    obtain ⟨a0, a1, a2, al⟩ := HA.out
    replace a0 := cell_keep a0 al hb; replace a1 := cell_keep a1 al hb; replace a2 := cell_keep a2 al hb; replace al := lt_keep al hb
    have RR := Lib.hid (R.out.keep HB.out)
    clear hown hbw hb
    by_cases hlt : k < n
    · obtain ⟨bb, oo, x, rfl, hg1, hx, x0⟩ := RR.out.at_ hlt
      have HX := Lib.hid hx
      have HXR := Lib.hid (HIN.out x (List.mem_of_getElem? hx))
      have HXQ := Lib.hid (show 0 ≤ x ∧ x ≤ 64 by have := HXR.out; have := HN.out; omega)
      have HM := Lib.hid (mod_bd (c := x) HW.out)
      have HD := Lib.hid (div_bd HW.out HXR.out)
      clear hx hsw HA
      go_wp2_with fail
      refine wp_region_held_drew (S := fun w' => w'.cell? ⟨w.heap.size, 0, none⟩ = some (.int .i64 W) ∧ w'.cell? ⟨w.heap.size, 1, none⟩ = some (.int .i64 H) ∧ w'.cell? ⟨w.heap.size, 2, none⟩ = some (.slice (some ⟨bb, oo, none⟩) n c)) (by kernel_rfl) ?_ (fun hHeld => ?_)
      · (try dsimp only)
        exact ⟨(by first | exact a0 | go_simp), (by first | exact a1 | go_simp), (by first | exact a2 | go_simp)⟩
      refine wpAnyH_take (i := 0) (oi := ⟨_, _, _, _, _, _⟩) (v := ?_) rfl (by kernel_rfl) (by kernel_rfl) (by kernel_rfl) (fun _ _ _ h => h) (Or.inl ⟨by rfl, ?_⟩) (by assumption) ?_
      rotate_left
      · intro w hSw
        (try dsimp only at hSw)
        go_simp
        (try with_reducible rfl)
      (try simp only [Act.put, List.setIfInBounds_toArray, List.set_cons_zero, List.set_cons_succ])
      refine wpAnyH_take (i := 1) (oi := ⟨_, _, _, _, _, _⟩) (v := ?_) rfl (by kernel_rfl) (by kernel_rfl) (by kernel_rfl) (fun _ _ _ h => h) (Or.inl ⟨by rfl, ?_⟩) (by assumption) ?_
      rotate_left
      · intro w hSw
        (try dsimp only at hSw)
        go_simp
        (try with_reducible rfl)
      (try simp only [Act.put, List.setIfInBounds_toArray, List.set_cons_zero, List.set_cons_succ])
      refine wpAnyH_take (i := 2) (oi := ⟨_, _, _, _, _, _⟩) (v := ?_) rfl (by kernel_rfl) (by kernel_rfl) (by kernel_rfl) (fun _ _ _ h => h) (Or.inl ⟨by rfl, ?_⟩) (by assumption) ?_
      rotate_left
      · intro w hSw
        (try dsimp only at hSw)
        go_simp
        (try with_reducible rfl)
      (try simp only [Act.put, List.setIfInBounds_toArray, List.set_cons_zero, List.set_cons_succ])
      refine wpAnyH_take (i := 3) (oi := ⟨_, _, _, _, _, _⟩) (v := ?_) rfl (by kernel_rfl) (by kernel_rfl) (by kernel_rfl) (fun _ _ _ h => h) (Or.inl ⟨by rfl, ?_⟩) (by assumption) ?_
      rotate_left
      · intro w hSw
        (try dsimp only at hSw)
        go_simp
        (try with_reducible rfl)
      (try simp only [Act.put, List.setIfInBounds_toArray, List.set_cons_zero, List.set_cons_succ])
      refine wpAnyH_take (i := 5) (oi := ⟨_, _, _, _, _, _⟩) (v := ?_) rfl (by kernel_rfl) (by kernel_rfl) (by kernel_rfl) (fun _ _ _ h => h) (Or.inl ⟨by rfl, ?_⟩) (by assumption) ?_
      rotate_left
      · intro w hSw
        (try dsimp only at hSw)
        go_simp
        (try with_reducible rfl)
      (try simp only [Act.put, List.setIfInBounds_toArray, List.set_cons_zero, List.set_cons_succ])
      refine wpAnyH_take (i := 7) (oi := ⟨_, _, _, _, _, _⟩) (v := ?_) rfl (by kernel_rfl) (by kernel_rfl) (by kernel_rfl) (fun _ _ _ h => h) (Or.inl ⟨by rfl, ?_⟩) (by assumption) ?_
      rotate_left
      · intro w hSw
        (try dsimp only at hSw)
        go_simp
        (try with_reducible rfl)
      (try simp only [Act.put, List.setIfInBounds_toArray, List.set_cons_zero, List.set_cons_succ])
      refine wpAnyH_ready (rs := [4]) (by kernel_rfl) (by simp) ?_
      refine AllReadyH.cons (o := ⟨_, _, _, _, _, _⟩) rfl (fun K hK => ?_) AllReadyH.nil
      go_simp
      (go_at_call 61; refine (spotOf_any W H _ _ c x _ HW.out HXQ.out).mono ?_; rintro e wz ⟨rfl, hb⟩; (repeat (first | replace hb := below_undrew hb | replace hb := below_undrewN hb)); replace a0 := cell_keep a0 al hb; replace a1 := cell_keep a1 al hb; replace a2 := cell_keep a2 al hb; replace al := lt_keep al hb; replace OWN := Lib.hid (OWN.out.keep hb); replace HB := Lib.hid (below_next HB.out hb); clear hb)
      (try go_wp2_with fail)
      refine hK.out _ _ ?_ (fun hHeld => ?_)
      · (try dsimp only)
        exact ⟨(by first | exact a0 | go_simp), (by first | exact a1 | go_simp), (by first | exact a2 | go_simp)⟩
      clear hK K
      (try simp only [Act.put, List.setIfInBounds_toArray, List.set_cons_zero, List.set_cons_succ])
      refine wpAnyH_ready (rs := [6]) (by kernel_rfl) (by simp) ?_
      refine AllReadyH.cons (o := ⟨_, _, _, _, _, _⟩) rfl (fun K hK => ?_) AllReadyH.nil
      go_simp
      (go_at_call 71; refine (turned_any (x % W) (x / W) W H _ _ c _ HH.out (by have := HD.out; have := HH.out; omega)).mono ?_; rintro e wz ⟨rfl, hb⟩; (repeat (first | replace hb := below_undrew hb | replace hb := below_undrewN hb)); replace a0 := cell_keep a0 al hb; replace a1 := cell_keep a1 al hb; replace a2 := cell_keep a2 al hb; replace al := lt_keep al hb; replace OWN := Lib.hid (OWN.out.keep hb); replace HB := Lib.hid (below_next HB.out hb); clear hb)
      (try go_wp2_with fail)
      refine hK.out _ _ ?_ (fun hHeld => ?_)
      · (try dsimp only)
        exact ⟨(by first | exact a0 | go_simp), (by first | exact a1 | go_simp), (by first | exact a2 | go_simp)⟩
      clear hK K
      (try simp only [Act.put, List.setIfInBounds_toArray, List.set_cons_zero, List.set_cons_succ])
      refine wpAnyH_ready (rs := [8]) (by kernel_rfl) (by simp) ?_
      refine AllReadyH.cons (o := ⟨_, _, _, _, _, _⟩) rfl (fun K hK => ?_) AllReadyH.nil
      go_simp
      (go_at_call 72; refine (number_any (H - 1 - x / W) (x % W) H _ (by have := HD.out; have := HH.out; omega) (by have h1 := mulN (x := x % W) (y := H) (by have := HM.out; omega) (by have := HH.out; omega); omega)).mono ?_; rw [show x % W * H + (H - 1 - x / W) = turnV W H x by unfold turnV; omega]; rintro e wz ⟨rfl, hb⟩; (repeat (first | replace hb := below_undrew hb | replace hb := below_undrewN hb)); replace a0 := cell_keep a0 al hb; replace a1 := cell_keep a1 al hb; replace a2 := cell_keep a2 al hb; replace al := lt_keep al hb; replace OWN := Lib.hid (OWN.out.keep hb); replace HB := Lib.hid (below_next HB.out hb); have hsz := HB.out.size; clear hb)
      (try go_wp2_with fail)
      refine hK.out _ _ ?_ (fun hHeld => ?_)
      · (try dsimp only)
        exact ⟨(by first | exact a0 | go_simp), (by first | exact a1 | go_simp), (by first | exact a2 | go_simp)⟩
      clear hK K
      (try simp only [Act.put, List.setIfInBounds_toArray, List.set_cons_zero, List.set_cons_succ])
      refine wpAnyH_ready (rs := [9]) (by kernel_rfl) (by simp) ?_
      refine AllReadyH.cons (o := ⟨_, _, _, _, _, _⟩) rfl (fun K hK => ?_) AllReadyH.nil
      go_simp
      skip
      (try go_wp2_with fail)
      refine hK.out _ _ ?_ (fun hHeld => ?_)
      · (try dsimp only)
        exact ⟨(by first | exact a0 | go_simp), (by first | exact a1 | go_simp), (by first | exact a2 | go_simp)⟩
      clear hK K
      (try simp only [Act.put, List.setIfInBounds_toArray, List.set_cons_zero, List.set_cons_succ])
      refine wpAnyH_ready (rs := [10]) (by kernel_rfl) (by simp) ?_
      refine AllReadyH.cons (o := ⟨_, _, _, _, _, _⟩) rfl (fun K hK => ?_) AllReadyH.nil
      (refine step_app1 rfl (.tmp 17) (.tmp 26) 22 3 rfl i0 Try.underlying22 HI.out HZ0.out HZ1.out HZ2.out W2.heap.size A' k c' ((xs.take k).map (turnV W H)) (turnV W H x) rfl OWN.out rfl (by omega) hsz ?_; intro A9 c9 w9 hown9 hb9 hfar; have O9 := Lib.hid hown9; have HB9 := Lib.hid (HB.out.trans hb9); replace a0 := (hb9.cell (p := ⟨w.heap.size, 0, none⟩) hlo2).trans a0; replace a1 := (hb9.cell (p := ⟨w.heap.size, 1, none⟩) hlo2).trans a1; replace a2 := (hb9.cell (p := ⟨w.heap.size, 2, none⟩) hlo2).trans a2; clear hown9 hb9 hfar)
      refine hK.out _ _ ?_ (fun hHeld => ?_)
      · (try dsimp only)
        exact ⟨(by first | exact a0 | go_simp), (by first | exact a1 | go_simp), (by first | exact a2 | go_simp)⟩
      clear hK K
      (try simp only [Act.put, List.setIfInBounds_toArray, List.set_cons_zero, List.set_cons_succ])
      refine wpAnyH_take (i := 11) (oi := ⟨_, _, _, _, _, _⟩) (v := ?_) rfl (by kernel_rfl) (by kernel_rfl) (by kernel_rfl) (fun _ _ _ h => h) (Or.inl ⟨by rfl, ?_⟩) (by assumption) ?_
      rotate_left
      · intro w hSw
        (try dsimp only at hSw)
        go_simp
        (try with_reducible rfl)
      (try simp only [Act.put, List.setIfInBounds_toArray, List.set_cons_zero, List.set_cons_succ])
      refine wpAnyH_done (by kernel_rfl) ?_ _
      all_goals go_wp2
      all_goals go_roundw
      case rel => exact ⟨k + 1, c9, A9, by omega, by go_num, rfl, by rw [List.take_add_one, HX.out, List.map_append]; exact O9.out, HB9.out⟩
      case measure => simp [intOf]; omega
    · obtain rfl : k = n := by omega
      have OM := Lib.hid (show OwnI 3 wr W2.heap.size A' k c' (xs.map (turnV W H)) by have h := OWN.out; rw [List.take_of_length_le (by have := H1.out; omega)] at h; exact h)
      clear OWN HA R RR a0 a1 a2 al
      go_wp2_with fail
      refine (sortI_any W2.heap.size A' k c' (xs.map (turnV W H)) _ OM.out (by omega) hsw).mono ?_
      rintro e wz ⟨rfl, ⟨ys, own, hp, hs⟩, hb⟩
      have O9 := Lib.hid own
      have HY := Lib.hid (moved_of_sorted hp (nodup_map_on (holes_nodup HG.out) (fun p hp q hq e => turn_inj (HIN.out p hp) (HIN.out q hq) HW.out.1 e)) hs)
      have HBZ := Lib.hid (HB.out.trans hb)
      clear own hp hs hb
      go_wp2
      go_ret
      exact ⟨A', k, c', rfl, by rw [← HY.out]; exact O9.out.lower B.out.size, B.out.trans (HBZ.out.mono B.out.size)⟩

set_option maxRecDepth 100000 in
set_option maxHeartbeats 800000 in
theorem carryMirrored_any (W H : Int) (A : Option Addr) (n c : Nat) (xs : List Int) (w : World) (ha : Rd w A n xs) (hg : goodB W H xs = true) :
    Calls Try.prog 76 #[brd W H A n c, .int .i64 W, .func (.func 74) #[] #[]] w fun e w' => ∃ A' n' c', e = .returned (.slice A' n' c') ∧ OwnI 3 w' w.heap.size A' n' c' (movedL (xs.map (mirrorV W))) ∧ Below w.heap.size w w' := by
  obtain ⟨W2, hW2⟩ : ∃ W2, W2 = w.alloc (.cells #[.int .i64 W, .int .i64 H, .slice A n c] 28) := ⟨_, rfl⟩
  have hsz0 : W2.heap.size = w.heap.size + 1 := by rw [hW2]; simp
  have a0 : W2.cell? ⟨w.heap.size, 0, none⟩ = some (.int .i64 W) := by rw [hW2]; go_simp
  have a1 : W2.cell? ⟨w.heap.size, 1, none⟩ = some (.int .i64 H) := by rw [hW2]; go_simp
  have a2 : W2.cell? ⟨w.heap.size, 2, none⟩ = some (.slice A n c) := by rw [hW2]; go_simp
  have al : w.heap.size < W2.heap.size := by omega
  have B := Lib.hid (show Below w.heap.size w W2 by rw [hW2]; exact below_new (Below.refl _ _) _)
  have R := Lib.hid (ha.keep B.out)
  have HG := Lib.hid hg
  have HW : Hid (1 ≤ W ∧ W ≤ 8) := Lib.hid (goodB_iff.1 hg).1
  have HH : Hid (1 ≤ H ∧ H ≤ 8) := Lib.hid (goodB_iff.1 hg).2.1
  have HIN := Lib.hid (holes_in hg)
  have HN := Lib.hid (good_NU hg)
  have H1 := Lib.hid ha.1
  have hn64 : n ≤ 64 := by rw [← ha.1]; exact holes_few hg
  have hlo2 : w.heap.size < W2.heap.size := al
  obtain ⟨i0, hi, hz0, hz1, hz2⟩ := info_parts infoI
  have HI := Lib.hid hi; have HZ0 := Lib.hid hz0; have HZ1 := Lib.hid hz1; have HZ2 := Lib.hid hz2
  clear hi hz0 hz1 hz2 hg ha
  go_enter Try.func76, Try.ntmps76
  go_wp2_with fail
  rw [← hW2]
  clear hW2
  have HA := Lib.hid (⟨a0, a1, a2, al⟩ : W2.cell? ⟨w.heap.size, 0, none⟩ = some (.int .i64 W) ∧ W2.cell? ⟨w.heap.size, 1, none⟩ = some (.int .i64 H) ∧ W2.cell? ⟨w.heap.size, 2, none⟩ = some (.slice A n c) ∧ w.heap.size < W2.heap.size)
  clear a0 a1 al hsz0 a2
  go_loopw [7, 13] (fun s i wr => ∃ (k c' : Nat) (A' : Option Addr), k ≤ n ∧ i = .int .i64 k ∧ s = .slice A' k c' ∧ OwnI 3 wr W2.heap.size A' k c' ((xs.take k).map (mirrorV W)) ∧ Below W2.heap.size W2 wr) (fun _ i _ => n - (intOf i).toNat)
  case atStart => exact ⟨0, 0, none, Nat.zero_le _, rfl, rfl, OwnI.none_ _ _ _, Below.refl _ _⟩
  case round =>
    obtain ⟨k, c', A', hk, rfl, rfl, hown, hbw⟩ := hrel
    have OWN := Lib.hid hown; have HB := Lib.hid hbw
    have hsw := hbw.size
    have hb := hbw
    obtain ⟨a0, a1, a2, al⟩ := HA.out
    replace a0 := cell_keep a0 al hb; replace a1 := cell_keep a1 al hb; replace a2 := cell_keep a2 al hb; replace al := lt_keep al hb
    have RR := Lib.hid (R.out.keep HB.out)
    clear hown hbw hb
    by_cases hlt : k < n
    · obtain ⟨bb, oo, x, rfl, hg1, hx, x0⟩ := RR.out.at_ hlt
      have HX := Lib.hid hx
      have HXR := Lib.hid (HIN.out x (List.mem_of_getElem? hx))
      have HXQ := Lib.hid (show 0 ≤ x ∧ x ≤ 64 by have := HXR.out; have := HN.out; omega)
      have HM := Lib.hid (mod_bd (c := x) HW.out)
      have HD := Lib.hid (div_bd HW.out HXR.out)
      clear hx hsw HA
      go_wp2_with fail
      refine wp_region_held_drew (S := fun w' => w'.cell? ⟨w.heap.size, 0, none⟩ = some (.int .i64 W) ∧ w'.cell? ⟨w.heap.size, 1, none⟩ = some (.int .i64 H) ∧ w'.cell? ⟨w.heap.size, 2, none⟩ = some (.slice (some ⟨bb, oo, none⟩) n c)) (by kernel_rfl) ?_ (fun hHeld => ?_)
      · (try dsimp only)
        exact ⟨(by first | exact a0 | go_simp), (by first | exact a1 | go_simp), (by first | exact a2 | go_simp)⟩
      refine wpAnyH_take (i := 0) (oi := ⟨_, _, _, _, _, _⟩) (v := ?_) rfl (by kernel_rfl) (by kernel_rfl) (by kernel_rfl) (fun _ _ _ h => h) (Or.inl ⟨by rfl, ?_⟩) (by assumption) ?_
      rotate_left
      · intro w hSw
        (try dsimp only at hSw)
        go_simp
        (try with_reducible rfl)
      (try simp only [Act.put, List.setIfInBounds_toArray, List.set_cons_zero, List.set_cons_succ])
      refine wpAnyH_take (i := 1) (oi := ⟨_, _, _, _, _, _⟩) (v := ?_) rfl (by kernel_rfl) (by kernel_rfl) (by kernel_rfl) (fun _ _ _ h => h) (Or.inl ⟨by rfl, ?_⟩) (by assumption) ?_
      rotate_left
      · intro w hSw
        (try dsimp only at hSw)
        go_simp
        (try with_reducible rfl)
      (try simp only [Act.put, List.setIfInBounds_toArray, List.set_cons_zero, List.set_cons_succ])
      refine wpAnyH_take (i := 2) (oi := ⟨_, _, _, _, _, _⟩) (v := ?_) rfl (by kernel_rfl) (by kernel_rfl) (by kernel_rfl) (fun _ _ _ h => h) (Or.inl ⟨by rfl, ?_⟩) (by assumption) ?_
      rotate_left
      · intro w hSw
        (try dsimp only at hSw)
        go_simp
        (try with_reducible rfl)
      (try simp only [Act.put, List.setIfInBounds_toArray, List.set_cons_zero, List.set_cons_succ])
      refine wpAnyH_take (i := 3) (oi := ⟨_, _, _, _, _, _⟩) (v := ?_) rfl (by kernel_rfl) (by kernel_rfl) (by kernel_rfl) (fun _ _ _ h => h) (Or.inl ⟨by rfl, ?_⟩) (by assumption) ?_
      rotate_left
      · intro w hSw
        (try dsimp only at hSw)
        go_simp
        (try with_reducible rfl)
      (try simp only [Act.put, List.setIfInBounds_toArray, List.set_cons_zero, List.set_cons_succ])
      refine wpAnyH_take (i := 5) (oi := ⟨_, _, _, _, _, _⟩) (v := ?_) rfl (by kernel_rfl) (by kernel_rfl) (by kernel_rfl) (fun _ _ _ h => h) (Or.inl ⟨by rfl, ?_⟩) (by assumption) ?_
      rotate_left
      · intro w hSw
        (try dsimp only at hSw)
        go_simp
        (try with_reducible rfl)
      (try simp only [Act.put, List.setIfInBounds_toArray, List.set_cons_zero, List.set_cons_succ])
      refine wpAnyH_take (i := 7) (oi := ⟨_, _, _, _, _, _⟩) (v := ?_) rfl (by kernel_rfl) (by kernel_rfl) (by kernel_rfl) (fun _ _ _ h => h) (Or.inl ⟨by rfl, ?_⟩) (by assumption) ?_
      rotate_left
      · intro w hSw
        (try dsimp only at hSw)
        go_simp
        (try with_reducible rfl)
      (try simp only [Act.put, List.setIfInBounds_toArray, List.set_cons_zero, List.set_cons_succ])
      refine wpAnyH_ready (rs := [4]) (by kernel_rfl) (by simp) ?_
      refine AllReadyH.cons (o := ⟨_, _, _, _, _, _⟩) rfl (fun K hK => ?_) AllReadyH.nil
      go_simp
      (go_at_call 61; refine (spotOf_any W H _ _ c x _ HW.out HXQ.out).mono ?_; rintro e wz ⟨rfl, hb⟩; (repeat (first | replace hb := below_undrew hb | replace hb := below_undrewN hb)); replace a0 := cell_keep a0 al hb; replace a1 := cell_keep a1 al hb; replace a2 := cell_keep a2 al hb; replace al := lt_keep al hb; replace OWN := Lib.hid (OWN.out.keep hb); replace HB := Lib.hid (below_next HB.out hb); clear hb)
      (try go_wp2_with fail)
      refine hK.out _ _ ?_ (fun hHeld => ?_)
      · (try dsimp only)
        exact ⟨(by first | exact a0 | go_simp), (by first | exact a1 | go_simp), (by first | exact a2 | go_simp)⟩
      clear hK K
      (try simp only [Act.put, List.setIfInBounds_toArray, List.set_cons_zero, List.set_cons_succ])
      refine wpAnyH_ready (rs := [6]) (by kernel_rfl) (by simp) ?_
      refine AllReadyH.cons (o := ⟨_, _, _, _, _, _⟩) rfl (fun K hK => ?_) AllReadyH.nil
      go_simp
      (go_at_call 74; refine (mirrored_any (x % W) (x / W) W H _ _ c _ HW.out (by have := HM.out; omega)).mono ?_; rintro e wz ⟨rfl, hb⟩; (repeat (first | replace hb := below_undrew hb | replace hb := below_undrewN hb)); replace a0 := cell_keep a0 al hb; replace a1 := cell_keep a1 al hb; replace a2 := cell_keep a2 al hb; replace al := lt_keep al hb; replace OWN := Lib.hid (OWN.out.keep hb); replace HB := Lib.hid (below_next HB.out hb); clear hb)
      (try go_wp2_with fail)
      refine hK.out _ _ ?_ (fun hHeld => ?_)
      · (try dsimp only)
        exact ⟨(by first | exact a0 | go_simp), (by first | exact a1 | go_simp), (by first | exact a2 | go_simp)⟩
      clear hK K
      (try simp only [Act.put, List.setIfInBounds_toArray, List.set_cons_zero, List.set_cons_succ])
      refine wpAnyH_ready (rs := [8]) (by kernel_rfl) (by simp) ?_
      refine AllReadyH.cons (o := ⟨_, _, _, _, _, _⟩) rfl (fun K hK => ?_) AllReadyH.nil
      go_simp
      (go_at_call 72; refine (number_any (W - 1 - x % W) (x / W) W _ (by have := HM.out; have := HW.out; omega) (by have h1 := num_ofU W x; have := HM.out; have := HXQ.out; have := HD.out; have h2 := Int.mul_nonneg HD.out.1 (show (0 : Int) ≤ W by have := HW.out; omega); omega)).mono ?_; rw [show x / W * W + (W - 1 - x % W) = mirrorV W x by unfold mirrorV; have := num_ofU W x; omega]; rintro e wz ⟨rfl, hb⟩; (repeat (first | replace hb := below_undrew hb | replace hb := below_undrewN hb)); replace a0 := cell_keep a0 al hb; replace a1 := cell_keep a1 al hb; replace a2 := cell_keep a2 al hb; replace al := lt_keep al hb; replace OWN := Lib.hid (OWN.out.keep hb); replace HB := Lib.hid (below_next HB.out hb); have hsz := HB.out.size; clear hb)
      (try go_wp2_with fail)
      refine hK.out _ _ ?_ (fun hHeld => ?_)
      · (try dsimp only)
        exact ⟨(by first | exact a0 | go_simp), (by first | exact a1 | go_simp), (by first | exact a2 | go_simp)⟩
      clear hK K
      (try simp only [Act.put, List.setIfInBounds_toArray, List.set_cons_zero, List.set_cons_succ])
      refine wpAnyH_ready (rs := [9]) (by kernel_rfl) (by simp) ?_
      refine AllReadyH.cons (o := ⟨_, _, _, _, _, _⟩) rfl (fun K hK => ?_) AllReadyH.nil
      go_simp
      skip
      (try go_wp2_with fail)
      refine hK.out _ _ ?_ (fun hHeld => ?_)
      · (try dsimp only)
        exact ⟨(by first | exact a0 | go_simp), (by first | exact a1 | go_simp), (by first | exact a2 | go_simp)⟩
      clear hK K
      (try simp only [Act.put, List.setIfInBounds_toArray, List.set_cons_zero, List.set_cons_succ])
      refine wpAnyH_ready (rs := [10]) (by kernel_rfl) (by simp) ?_
      refine AllReadyH.cons (o := ⟨_, _, _, _, _, _⟩) rfl (fun K hK => ?_) AllReadyH.nil
      (refine step_app1 rfl (.tmp 17) (.tmp 26) 22 3 rfl i0 Try.underlying22 HI.out HZ0.out HZ1.out HZ2.out W2.heap.size A' k c' ((xs.take k).map (mirrorV W)) (mirrorV W x) rfl OWN.out rfl (by omega) hsz ?_; intro A9 c9 w9 hown9 hb9 hfar; have O9 := Lib.hid hown9; have HB9 := Lib.hid (HB.out.trans hb9); replace a0 := (hb9.cell (p := ⟨w.heap.size, 0, none⟩) hlo2).trans a0; replace a1 := (hb9.cell (p := ⟨w.heap.size, 1, none⟩) hlo2).trans a1; replace a2 := (hb9.cell (p := ⟨w.heap.size, 2, none⟩) hlo2).trans a2; clear hown9 hb9 hfar)
      refine hK.out _ _ ?_ (fun hHeld => ?_)
      · (try dsimp only)
        exact ⟨(by first | exact a0 | go_simp), (by first | exact a1 | go_simp), (by first | exact a2 | go_simp)⟩
      clear hK K
      (try simp only [Act.put, List.setIfInBounds_toArray, List.set_cons_zero, List.set_cons_succ])
      refine wpAnyH_take (i := 11) (oi := ⟨_, _, _, _, _, _⟩) (v := ?_) rfl (by kernel_rfl) (by kernel_rfl) (by kernel_rfl) (fun _ _ _ h => h) (Or.inl ⟨by rfl, ?_⟩) (by assumption) ?_
      rotate_left
      · intro w hSw
        (try dsimp only at hSw)
        go_simp
        (try with_reducible rfl)
      (try simp only [Act.put, List.setIfInBounds_toArray, List.set_cons_zero, List.set_cons_succ])
      refine wpAnyH_done (by kernel_rfl) ?_ _
      all_goals go_wp2
      all_goals go_roundw
      case rel => exact ⟨k + 1, c9, A9, by omega, by go_num, rfl, by rw [List.take_add_one, HX.out, List.map_append]; exact O9.out, HB9.out⟩
      case measure => simp [intOf]; omega
    · obtain rfl : k = n := by omega
      have OM := Lib.hid (show OwnI 3 wr W2.heap.size A' k c' (xs.map (mirrorV W)) by have h := OWN.out; rw [List.take_of_length_le (by have := H1.out; omega)] at h; exact h)
      clear OWN HA R RR a0 a1 a2 al
      go_wp2_with fail
      refine (sortI_any W2.heap.size A' k c' (xs.map (mirrorV W)) _ OM.out (by omega) hsw).mono ?_
      rintro e wz ⟨rfl, ⟨ys, own, hp, hs⟩, hb⟩
      have O9 := Lib.hid own
      have HY := Lib.hid (moved_of_sorted hp (nodup_map_on (holes_nodup HG.out) (fun p hp q hq e => mirror_inj HW.out.1 e)) hs)
      have HBZ := Lib.hid (HB.out.trans hb)
      clear own hp hs hb
      go_wp2
      go_ret
      exact ⟨A', k, c', rfl, by rw [← HY.out]; exact O9.out.lower B.out.size, B.out.trans (HBZ.out.mono B.out.size)⟩

set_option maxRecDepth 100000 in
set_option maxHeartbeats 800000 in
theorem impl_TurnBoard (W H : Int) (A : Option Addr) (n c : Nat) (xs : List Int) (w : World) (ha : Rd w A n xs) :
    Calls Try.prog 34 #[brd W H A n c] w fun e w' => ∃ A' n' c', e = .returned (.tuple #[brd (TurnBoard_w W H xs) (TurnBoard_h W H xs) A' n' c', .bool (goodB W H xs)]) ∧ OwnI 3 w' w.heap.size A' n' c' (TurnBoard_l W H xs) ∧ Below w.heap.size w w' := by
  obtain ⟨W2, hW2⟩ : ∃ W2, W2 = (w.alloc (.cells #[.int .i64 W, .int .i64 H, .slice A n c] 28)).alloc (.cells #[.int .i64 0, .int .i64 0, .slice none 0 0] 28) := ⟨_, rfl⟩
  have hsz : W2.heap.size = w.heap.size + 2 := by rw [hW2]; simp
  have a0 : W2.cell? ⟨w.heap.size, 0, none⟩ = some (.int .i64 W) := by rw [hW2]; go_simp
  have a1 : W2.cell? ⟨w.heap.size, 1, none⟩ = some (.int .i64 H) := by rw [hW2]; go_simp
  have a2 : W2.cell? ⟨w.heap.size, 2, none⟩ = some (.slice A n c) := by rw [hW2]; go_simp
  have r0 : W2.cell? ⟨w.heap.size + 1, 0, none⟩ = some (.int .i64 0) := by rw [hW2]; go_simp
  have r1 : W2.cell? ⟨w.heap.size + 1, 1, none⟩ = some (.int .i64 0) := by rw [hW2]; go_simp
  have r2 : W2.cell? ⟨w.heap.size + 1, 2, none⟩ = some (.slice none 0 0) := by rw [hW2]; go_simp
  have f0 : W2.frozen? ⟨w.heap.size + 1, 0, none⟩ = false := by rw [hW2]; go_simp
  have f1 : W2.frozen? ⟨w.heap.size + 1, 1, none⟩ = false := by rw [hW2]; go_simp
  have f2 : W2.frozen? ⟨w.heap.size + 1, 2, none⟩ = false := by rw [hW2]; go_simp
  have al : w.heap.size < W2.heap.size := by omega
  have rl : w.heap.size + 1 < W2.heap.size := by omega
  have B := Lib.hid (show Below w.heap.size w W2 by rw [hW2]; exact below_new (below_new (Below.refl _ _) _) _)
  have R := Lib.hid (ha.keep B.out)
  by_cases hg : goodB W H xs = true
  · have HG := Lib.hid hg
    go_enter Try.func34, Try.ntmps34
    go_wp2_with fail
    rw [← hW2]
    clear hW2
    refine (isBoard_any W H A n c xs W2 R.out).mono ?_
    rw [hg]
    rintro e wv ⟨rfl, hb⟩
    replace a0 := cell_keep a0 al hb; replace a1 := cell_keep a1 al hb; replace a2 := cell_keep a2 al hb; replace r0 := cell_keep r0 rl hb; replace r1 := cell_keep r1 rl hb; replace r2 := cell_keep r2 rl hb; replace f0 := (hb.frozen (p := ⟨w.heap.size + 1, 0, none⟩) rl).trans f0; replace f1 := (hb.frozen (p := ⟨w.heap.size + 1, 1, none⟩) rl).trans f1; replace f2 := (hb.frozen (p := ⟨w.heap.size + 1, 2, none⟩) rl).trans f2; replace al := lt_keep al hb; replace rl := lt_keep rl hb; replace B := Lib.hid (below_next B.out hb)
    clear hb hsz R
    have R9 := Lib.hid rl
    have RV := Lib.hid (ha.keep B.out)
    clear ha hg
    go_wp2_with fail
    refine wp_region_held_drew (S := fun w' => w'.cell? ⟨w.heap.size, 0, none⟩ = some (.int .i64 W) ∧ w'.cell? ⟨w.heap.size, 1, none⟩ = some (.int .i64 H) ∧ w'.cell? ⟨w.heap.size, 2, none⟩ = some (.slice A n c)) (by kernel_rfl) ?_ (fun hHeld => ?_)
    · (try dsimp only)
      exact ⟨(by first | exact a0 | go_simp), (by first | exact a1 | go_simp), (by first | exact a2 | go_simp)⟩
    refine wpAnyH_take (i := 0) (oi := ⟨_, _, _, _, _, _⟩) (v := ?_) rfl (by kernel_rfl) (by kernel_rfl) (by kernel_rfl) (fun _ _ _ h => h) (Or.inl ⟨by rfl, ?_⟩) (by assumption) ?_
    rotate_left
    · intro w hSw
      (try dsimp only at hSw)
      go_simp
      (try with_reducible rfl)
    (try simp only [Act.put, List.setIfInBounds_toArray, List.set_cons_zero, List.set_cons_succ])
    refine wpAnyH_take (i := 1) (oi := ⟨_, _, _, _, _, _⟩) (v := ?_) rfl (by kernel_rfl) (by kernel_rfl) (by kernel_rfl) (fun _ _ _ h => h) (Or.inl ⟨by rfl, ?_⟩) (by assumption) ?_
    rotate_left
    · intro w hSw
      (try dsimp only at hSw)
      go_simp
      (try with_reducible rfl)
    (try simp only [Act.put, List.setIfInBounds_toArray, List.set_cons_zero, List.set_cons_succ])
    refine wpAnyH_take (i := 2) (oi := ⟨_, _, _, _, _, _⟩) (v := ?_) rfl (by kernel_rfl) (by kernel_rfl) (by kernel_rfl) (fun _ _ _ h => h) (Or.inl ⟨by rfl, ?_⟩) (by assumption) ?_
    rotate_left
    · intro w hSw
      (try dsimp only at hSw)
      go_simp
      (try with_reducible rfl)
    (try simp only [Act.put, List.setIfInBounds_toArray, List.set_cons_zero, List.set_cons_succ])
    refine wpAnyH_take (i := 3) (oi := ⟨_, _, _, _, _, _⟩) (v := ?_) rfl (by kernel_rfl) (by kernel_rfl) (by kernel_rfl) (fun _ _ _ h => h) (Or.inl ⟨by rfl, ?_⟩) (by assumption) ?_
    rotate_left
    · intro w hSw
      (try dsimp only at hSw)
      go_simp
      (try with_reducible rfl)
    (try simp only [Act.put, List.setIfInBounds_toArray, List.set_cons_zero, List.set_cons_succ])
    refine wpAnyH_take (i := 4) (oi := ⟨_, _, _, _, _, _⟩) (v := ?_) rfl (by kernel_rfl) (by kernel_rfl) (by kernel_rfl) (fun _ _ _ h => h) (Or.inl ⟨by rfl, ?_⟩) (by assumption) ?_
    rotate_left
    · intro w hSw
      (try dsimp only at hSw)
      go_simp
      (try with_reducible rfl)
    (try simp only [Act.put, List.setIfInBounds_toArray, List.set_cons_zero, List.set_cons_succ])
    refine wpAnyH_take (i := 5) (oi := ⟨_, _, _, _, _, _⟩) (v := ?_) rfl (by kernel_rfl) (by kernel_rfl) (by kernel_rfl) (fun _ _ _ h => h) (Or.inl ⟨by rfl, ?_⟩) (by assumption) ?_
    rotate_left
    · intro w hSw
      (try dsimp only at hSw)
      go_simp
      (try with_reducible rfl)
    (try simp only [Act.put, List.setIfInBounds_toArray, List.set_cons_zero, List.set_cons_succ])
    refine wpAnyH_take (i := 6) (oi := ⟨_, _, _, _, _, _⟩) (v := ?_) rfl (by kernel_rfl) (by kernel_rfl) (by kernel_rfl) (fun _ _ _ h => h) (Or.inl ⟨by rfl, ?_⟩) (by assumption) ?_
    rotate_left
    · intro w hSw
      (try dsimp only at hSw)
      go_simp
      (try with_reducible rfl)
    (try simp only [Act.put, List.setIfInBounds_toArray, List.set_cons_zero, List.set_cons_succ])
    refine wpAnyH_ready (rs := [7]) (by kernel_rfl) (by simp) ?_
    refine AllReadyH.cons (o := ⟨_, _, _, _, _, _⟩) rfl (fun K hK => ?_) AllReadyH.nil
    go_simp
    (go_at_call 76; refine (carryTurned_any W H A n c xs _ ?_ HG.out).mono ?_; (first | exact RV.out | exact RV.out.drew1 | exact RV.out.drewN _); rintro e wx ⟨A9, n9, c9, rfl, own, hb⟩; (repeat (first | replace hb := below_undrew hb | replace hb := below_undrewN hb)); have O9 := Lib.hid (own.lower (show wv.heap.size ≤ _ by simp)); replace a0 := cell_keep a0 al hb; replace a1 := cell_keep a1 al hb; replace a2 := cell_keep a2 al hb; replace r0 := cell_keep r0 rl hb; replace r1 := cell_keep r1 rl hb; replace r2 := cell_keep r2 rl hb; replace f0 := (hb.frozen (p := ⟨w.heap.size + 1, 0, none⟩) rl).trans f0; replace f1 := (hb.frozen (p := ⟨w.heap.size + 1, 1, none⟩) rl).trans f1; replace f2 := (hb.frozen (p := ⟨w.heap.size + 1, 2, none⟩) rl).trans f2; replace al := lt_keep al hb; replace rl := lt_keep rl hb; replace B := Lib.hid (below_next B.out hb); clear own hb)
    (try go_wp2_with fail)
    refine hK.out _ _ ?_ (fun hHeld => ?_)
    · (try dsimp only)
      exact ⟨(by first | exact a0 | go_simp), (by first | exact a1 | go_simp), (by first | exact a2 | go_simp)⟩
    clear hK K
    (try simp only [Act.put, List.setIfInBounds_toArray, List.set_cons_zero, List.set_cons_succ])
    refine wpAnyH_take (i := 8) (oi := ⟨_, _, _, _, _, _⟩) (v := ?_) rfl (by kernel_rfl) (by kernel_rfl) (by kernel_rfl) (fun _ _ _ h => h) (Or.inl ⟨by rfl, ?_⟩) (by assumption) ?_
    rotate_left
    · intro w hSw
      (try dsimp only at hSw)
      go_simp
      (try with_reducible rfl)
    (try simp only [Act.put, List.setIfInBounds_toArray, List.set_cons_zero, List.set_cons_succ])
    refine wpAnyH_ready (rs := [9]) (by kernel_rfl) (by simp) ?_
    refine AllReadyH.cons (o := ⟨_, _, _, _, _, _⟩) rfl (fun K hK => ?_) AllReadyH.nil
    go_simp
    skip
    (try go_wp2_with fail)
    refine hK.out _ _ ?_ (fun hHeld => ?_)
    · (try dsimp only)
      exact ⟨(by first | exact a0 | go_simp), (by first | exact a1 | go_simp), (by first | exact a2 | go_simp)⟩
    clear hK K
    (try simp only [Act.put, List.setIfInBounds_toArray, List.set_cons_zero, List.set_cons_succ])
    refine wpAnyH_take (i := 10) (oi := ⟨_, _, _, _, _, _⟩) (v := ?_) rfl (by kernel_rfl) (by kernel_rfl) (by kernel_rfl) (fun _ _ _ h => h) (Or.inl ⟨by rfl, ?_⟩) (by assumption) ?_
    rotate_left
    · intro w hSw
      (try dsimp only at hSw)
      go_simp
      (try with_reducible rfl)
    (try simp only [Act.put, List.setIfInBounds_toArray, List.set_cons_zero, List.set_cons_succ])
    refine wpAnyH_done (by kernel_rfl) ?_ _
    all_goals go_wp2
    all_goals exact bodyPost_ret (v := .tuple #[brd H W A9 n9 c9, .bool true]) (by simp [results, Try.results34, go_sem, r0, r1, r2]) rfl ⟨A9, n9, c9, by rw [TurnBoard_w, TurnBoard_h, HG.out]; rfl, by rw [TurnBoard_l, if_pos HG.out]; exact (((O9.out.set_ (p := ⟨w.heap.size + 1, 0, none⟩) (by have := R9.out; show w.heap.size + 1 < _; omega) _).set_ (p := ⟨w.heap.size + 1, 1, none⟩) (by have := R9.out; show w.heap.size + 1 < _; omega) _).set_ (p := ⟨w.heap.size + 1, 2, none⟩) (by have := R9.out; show w.heap.size + 1 < _; omega) _).lower (by have := R9.out; omega), (Below.setCell (Below.setCell (Below.setCell B.out (p := ⟨w.heap.size + 1, 0, none⟩) (by simp) _) (p := ⟨w.heap.size + 1, 1, none⟩) (by simp) _) (p := ⟨w.heap.size + 1, 2, none⟩) (by simp) _)⟩
  · have hg' : goodB W H xs = false := by simpa using hg
    have HG := Lib.hid hg'
    go_enter Try.func34, Try.ntmps34
    go_wp2_with fail
    rw [← hW2]
    clear hW2
    refine (isBoard_any W H A n c xs W2 R.out).mono ?_
    rw [hg']
    rintro e wv ⟨rfl, hb⟩
    replace a0 := cell_keep a0 al hb; replace a1 := cell_keep a1 al hb; replace a2 := cell_keep a2 al hb; replace r0 := cell_keep r0 rl hb; replace r1 := cell_keep r1 rl hb; replace r2 := cell_keep r2 rl hb; replace f0 := (hb.frozen (p := ⟨w.heap.size + 1, 0, none⟩) rl).trans f0; replace f1 := (hb.frozen (p := ⟨w.heap.size + 1, 1, none⟩) rl).trans f1; replace f2 := (hb.frozen (p := ⟨w.heap.size + 1, 2, none⟩) rl).trans f2; replace al := lt_keep al hb; replace rl := lt_keep rl hb; replace B := Lib.hid (below_next B.out hb)
    clear hb hsz R
    go_wp2
    exact bodyPost_ret (v := .tuple #[brd 0 0 none 0 0, .bool false]) (by simp [results, Try.results34, go_sem, r0, r1, r2]) rfl ⟨none, 0, 0, by rw [TurnBoard_w, TurnBoard_h, HG.out]; rfl, by rw [TurnBoard_l, HG.out]; exact OwnI.none_ _ _ _, (Below.setCell (Below.setCell (Below.setCell B.out (p := ⟨w.heap.size + 1, 0, none⟩) (by simp) _) (p := ⟨w.heap.size + 1, 1, none⟩) (by simp) _) (p := ⟨w.heap.size + 1, 2, none⟩) (by simp) _)⟩

set_option maxRecDepth 100000 in
set_option maxHeartbeats 800000 in
theorem impl_MirrorBoard (W H : Int) (A : Option Addr) (n c : Nat) (xs : List Int) (w : World) (ha : Rd w A n xs) :
    Calls Try.prog 38 #[brd W H A n c] w fun e w' => ∃ A' n' c', e = .returned (.tuple #[brd (MirrorBoard_w W H xs) (MirrorBoard_h W H xs) A' n' c', .bool (goodB W H xs)]) ∧ OwnI 3 w' w.heap.size A' n' c' (MirrorBoard_l W H xs) ∧ Below w.heap.size w w' := by
  obtain ⟨W2, hW2⟩ : ∃ W2, W2 = (w.alloc (.cells #[.int .i64 W, .int .i64 H, .slice A n c] 28)).alloc (.cells #[.int .i64 0, .int .i64 0, .slice none 0 0] 28) := ⟨_, rfl⟩
  have hsz : W2.heap.size = w.heap.size + 2 := by rw [hW2]; simp
  have a0 : W2.cell? ⟨w.heap.size, 0, none⟩ = some (.int .i64 W) := by rw [hW2]; go_simp
  have a1 : W2.cell? ⟨w.heap.size, 1, none⟩ = some (.int .i64 H) := by rw [hW2]; go_simp
  have a2 : W2.cell? ⟨w.heap.size, 2, none⟩ = some (.slice A n c) := by rw [hW2]; go_simp
  have r0 : W2.cell? ⟨w.heap.size + 1, 0, none⟩ = some (.int .i64 0) := by rw [hW2]; go_simp
  have r1 : W2.cell? ⟨w.heap.size + 1, 1, none⟩ = some (.int .i64 0) := by rw [hW2]; go_simp
  have r2 : W2.cell? ⟨w.heap.size + 1, 2, none⟩ = some (.slice none 0 0) := by rw [hW2]; go_simp
  have f0 : W2.frozen? ⟨w.heap.size + 1, 0, none⟩ = false := by rw [hW2]; go_simp
  have f1 : W2.frozen? ⟨w.heap.size + 1, 1, none⟩ = false := by rw [hW2]; go_simp
  have f2 : W2.frozen? ⟨w.heap.size + 1, 2, none⟩ = false := by rw [hW2]; go_simp
  have al : w.heap.size < W2.heap.size := by omega
  have rl : w.heap.size + 1 < W2.heap.size := by omega
  have B := Lib.hid (show Below w.heap.size w W2 by rw [hW2]; exact below_new (below_new (Below.refl _ _) _) _)
  have R := Lib.hid (ha.keep B.out)
  by_cases hg : goodB W H xs = true
  · have HG := Lib.hid hg
    go_enter Try.func38, Try.ntmps38
    go_wp2_with fail
    rw [← hW2]
    clear hW2
    refine (isBoard_any W H A n c xs W2 R.out).mono ?_
    rw [hg]
    rintro e wv ⟨rfl, hb⟩
    replace a0 := cell_keep a0 al hb; replace a1 := cell_keep a1 al hb; replace a2 := cell_keep a2 al hb; replace r0 := cell_keep r0 rl hb; replace r1 := cell_keep r1 rl hb; replace r2 := cell_keep r2 rl hb; replace f0 := (hb.frozen (p := ⟨w.heap.size + 1, 0, none⟩) rl).trans f0; replace f1 := (hb.frozen (p := ⟨w.heap.size + 1, 1, none⟩) rl).trans f1; replace f2 := (hb.frozen (p := ⟨w.heap.size + 1, 2, none⟩) rl).trans f2; replace al := lt_keep al hb; replace rl := lt_keep rl hb; replace B := Lib.hid (below_next B.out hb)
    clear hb hsz R
    have R9 := Lib.hid rl
    have RV := Lib.hid (ha.keep B.out)
    clear ha hg
    go_wp2_with fail
    refine wp_region_held_drew (S := fun w' => w'.cell? ⟨w.heap.size, 0, none⟩ = some (.int .i64 W) ∧ w'.cell? ⟨w.heap.size, 1, none⟩ = some (.int .i64 H) ∧ w'.cell? ⟨w.heap.size, 2, none⟩ = some (.slice A n c)) (by kernel_rfl) ?_ (fun hHeld => ?_)
    · (try dsimp only)
      exact ⟨(by first | exact a0 | go_simp), (by first | exact a1 | go_simp), (by first | exact a2 | go_simp)⟩
    refine wpAnyH_take (i := 0) (oi := ⟨_, _, _, _, _, _⟩) (v := ?_) rfl (by kernel_rfl) (by kernel_rfl) (by kernel_rfl) (fun _ _ _ h => h) (Or.inl ⟨by rfl, ?_⟩) (by assumption) ?_
    rotate_left
    · intro w hSw
      (try dsimp only at hSw)
      go_simp
      (try with_reducible rfl)
    (try simp only [Act.put, List.setIfInBounds_toArray, List.set_cons_zero, List.set_cons_succ])
    refine wpAnyH_take (i := 1) (oi := ⟨_, _, _, _, _, _⟩) (v := ?_) rfl (by kernel_rfl) (by kernel_rfl) (by kernel_rfl) (fun _ _ _ h => h) (Or.inl ⟨by rfl, ?_⟩) (by assumption) ?_
    rotate_left
    · intro w hSw
      (try dsimp only at hSw)
      go_simp
      (try with_reducible rfl)
    (try simp only [Act.put, List.setIfInBounds_toArray, List.set_cons_zero, List.set_cons_succ])
    refine wpAnyH_take (i := 2) (oi := ⟨_, _, _, _, _, _⟩) (v := ?_) rfl (by kernel_rfl) (by kernel_rfl) (by kernel_rfl) (fun _ _ _ h => h) (Or.inl ⟨by rfl, ?_⟩) (by assumption) ?_
    rotate_left
    · intro w hSw
      (try dsimp only at hSw)
      go_simp
      (try with_reducible rfl)
    (try simp only [Act.put, List.setIfInBounds_toArray, List.set_cons_zero, List.set_cons_succ])
    refine wpAnyH_take (i := 3) (oi := ⟨_, _, _, _, _, _⟩) (v := ?_) rfl (by kernel_rfl) (by kernel_rfl) (by kernel_rfl) (fun _ _ _ h => h) (Or.inl ⟨by rfl, ?_⟩) (by assumption) ?_
    rotate_left
    · intro w hSw
      (try dsimp only at hSw)
      go_simp
      (try with_reducible rfl)
    (try simp only [Act.put, List.setIfInBounds_toArray, List.set_cons_zero, List.set_cons_succ])
    refine wpAnyH_take (i := 4) (oi := ⟨_, _, _, _, _, _⟩) (v := ?_) rfl (by kernel_rfl) (by kernel_rfl) (by kernel_rfl) (fun _ _ _ h => h) (Or.inl ⟨by rfl, ?_⟩) (by assumption) ?_
    rotate_left
    · intro w hSw
      (try dsimp only at hSw)
      go_simp
      (try with_reducible rfl)
    (try simp only [Act.put, List.setIfInBounds_toArray, List.set_cons_zero, List.set_cons_succ])
    refine wpAnyH_take (i := 5) (oi := ⟨_, _, _, _, _, _⟩) (v := ?_) rfl (by kernel_rfl) (by kernel_rfl) (by kernel_rfl) (fun _ _ _ h => h) (Or.inl ⟨by rfl, ?_⟩) (by assumption) ?_
    rotate_left
    · intro w hSw
      (try dsimp only at hSw)
      go_simp
      (try with_reducible rfl)
    (try simp only [Act.put, List.setIfInBounds_toArray, List.set_cons_zero, List.set_cons_succ])
    refine wpAnyH_take (i := 6) (oi := ⟨_, _, _, _, _, _⟩) (v := ?_) rfl (by kernel_rfl) (by kernel_rfl) (by kernel_rfl) (fun _ _ _ h => h) (Or.inl ⟨by rfl, ?_⟩) (by assumption) ?_
    rotate_left
    · intro w hSw
      (try dsimp only at hSw)
      go_simp
      (try with_reducible rfl)
    (try simp only [Act.put, List.setIfInBounds_toArray, List.set_cons_zero, List.set_cons_succ])
    refine wpAnyH_ready (rs := [7]) (by kernel_rfl) (by simp) ?_
    refine AllReadyH.cons (o := ⟨_, _, _, _, _, _⟩) rfl (fun K hK => ?_) AllReadyH.nil
    go_simp
    (go_at_call 76; refine (carryMirrored_any W H A n c xs _ ?_ HG.out).mono ?_; (first | exact RV.out | exact RV.out.drew1 | exact RV.out.drewN _); rintro e wx ⟨A9, n9, c9, rfl, own, hb⟩; (repeat (first | replace hb := below_undrew hb | replace hb := below_undrewN hb)); have O9 := Lib.hid (own.lower (show wv.heap.size ≤ _ by simp)); replace a0 := cell_keep a0 al hb; replace a1 := cell_keep a1 al hb; replace a2 := cell_keep a2 al hb; replace r0 := cell_keep r0 rl hb; replace r1 := cell_keep r1 rl hb; replace r2 := cell_keep r2 rl hb; replace f0 := (hb.frozen (p := ⟨w.heap.size + 1, 0, none⟩) rl).trans f0; replace f1 := (hb.frozen (p := ⟨w.heap.size + 1, 1, none⟩) rl).trans f1; replace f2 := (hb.frozen (p := ⟨w.heap.size + 1, 2, none⟩) rl).trans f2; replace al := lt_keep al hb; replace rl := lt_keep rl hb; replace B := Lib.hid (below_next B.out hb); clear own hb)
    (try go_wp2_with fail)
    refine hK.out _ _ ?_ (fun hHeld => ?_)
    · (try dsimp only)
      exact ⟨(by first | exact a0 | go_simp), (by first | exact a1 | go_simp), (by first | exact a2 | go_simp)⟩
    clear hK K
    (try simp only [Act.put, List.setIfInBounds_toArray, List.set_cons_zero, List.set_cons_succ])
    refine wpAnyH_take (i := 8) (oi := ⟨_, _, _, _, _, _⟩) (v := ?_) rfl (by kernel_rfl) (by kernel_rfl) (by kernel_rfl) (fun _ _ _ h => h) (Or.inl ⟨by rfl, ?_⟩) (by assumption) ?_
    rotate_left
    · intro w hSw
      (try dsimp only at hSw)
      go_simp
      (try with_reducible rfl)
    (try simp only [Act.put, List.setIfInBounds_toArray, List.set_cons_zero, List.set_cons_succ])
    refine wpAnyH_ready (rs := [9]) (by kernel_rfl) (by simp) ?_
    refine AllReadyH.cons (o := ⟨_, _, _, _, _, _⟩) rfl (fun K hK => ?_) AllReadyH.nil
    go_simp
    skip
    (try go_wp2_with fail)
    refine hK.out _ _ ?_ (fun hHeld => ?_)
    · (try dsimp only)
      exact ⟨(by first | exact a0 | go_simp), (by first | exact a1 | go_simp), (by first | exact a2 | go_simp)⟩
    clear hK K
    (try simp only [Act.put, List.setIfInBounds_toArray, List.set_cons_zero, List.set_cons_succ])
    refine wpAnyH_take (i := 10) (oi := ⟨_, _, _, _, _, _⟩) (v := ?_) rfl (by kernel_rfl) (by kernel_rfl) (by kernel_rfl) (fun _ _ _ h => h) (Or.inl ⟨by rfl, ?_⟩) (by assumption) ?_
    rotate_left
    · intro w hSw
      (try dsimp only at hSw)
      go_simp
      (try with_reducible rfl)
    (try simp only [Act.put, List.setIfInBounds_toArray, List.set_cons_zero, List.set_cons_succ])
    refine wpAnyH_done (by kernel_rfl) ?_ _
    all_goals go_wp2
    all_goals exact bodyPost_ret (v := .tuple #[brd W H A9 n9 c9, .bool true]) (by simp [results, Try.results38, go_sem, r0, r1, r2]) rfl ⟨A9, n9, c9, by rw [MirrorBoard_w, MirrorBoard_h, HG.out]; rfl, by rw [MirrorBoard_l, if_pos HG.out]; exact (((O9.out.set_ (p := ⟨w.heap.size + 1, 0, none⟩) (by have := R9.out; show w.heap.size + 1 < _; omega) _).set_ (p := ⟨w.heap.size + 1, 1, none⟩) (by have := R9.out; show w.heap.size + 1 < _; omega) _).set_ (p := ⟨w.heap.size + 1, 2, none⟩) (by have := R9.out; show w.heap.size + 1 < _; omega) _).lower (by have := R9.out; omega), (Below.setCell (Below.setCell (Below.setCell B.out (p := ⟨w.heap.size + 1, 0, none⟩) (by simp) _) (p := ⟨w.heap.size + 1, 1, none⟩) (by simp) _) (p := ⟨w.heap.size + 1, 2, none⟩) (by simp) _)⟩
  · have hg' : goodB W H xs = false := by simpa using hg
    have HG := Lib.hid hg'
    go_enter Try.func38, Try.ntmps38
    go_wp2_with fail
    rw [← hW2]
    clear hW2
    refine (isBoard_any W H A n c xs W2 R.out).mono ?_
    rw [hg']
    rintro e wv ⟨rfl, hb⟩
    replace a0 := cell_keep a0 al hb; replace a1 := cell_keep a1 al hb; replace a2 := cell_keep a2 al hb; replace r0 := cell_keep r0 rl hb; replace r1 := cell_keep r1 rl hb; replace r2 := cell_keep r2 rl hb; replace f0 := (hb.frozen (p := ⟨w.heap.size + 1, 0, none⟩) rl).trans f0; replace f1 := (hb.frozen (p := ⟨w.heap.size + 1, 1, none⟩) rl).trans f1; replace f2 := (hb.frozen (p := ⟨w.heap.size + 1, 2, none⟩) rl).trans f2; replace al := lt_keep al hb; replace rl := lt_keep rl hb; replace B := Lib.hid (below_next B.out hb)
    clear hb hsz R
    go_wp2
    exact bodyPost_ret (v := .tuple #[brd 0 0 none 0 0, .bool false]) (by simp [results, Try.results38, go_sem, r0, r1, r2]) rfl ⟨none, 0, 0, by rw [MirrorBoard_w, MirrorBoard_h, HG.out]; rfl, by rw [MirrorBoard_l, HG.out]; exact OwnI.none_ _ _ _, (Below.setCell (Below.setCell (Below.setCell B.out (p := ⟨w.heap.size + 1, 0, none⟩) (by simp) _) (p := ⟨w.heap.size + 1, 1, none⟩) (by simp) _) (p := ⟨w.heap.size + 1, 2, none⟩) (by simp) _)⟩

end Go.Proofs.Ytmghjohpmlhdlaa
