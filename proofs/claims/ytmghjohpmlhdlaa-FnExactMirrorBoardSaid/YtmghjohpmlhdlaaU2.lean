/-
  Contracts: boards turned and mirrored, the model.
-/
import Derived.Test.YtmghjohpmlhdlaaU1
import Derived.Deep.RegionHeld3
namespace Go.Proofs.Ytmghjohpmlhdlaa
open Go.RowKit

theorem holes_in {W H : Int} {xs : List Int} (hg : goodB W H xs = true) : ∀ x ∈ xs, 0 ≤ x ∧ x < W * H := fun x hx => by
  have := risesB_mem (goodB_iff.1 hg).2.2.2 x hx; omega
theorem holes_nodup {W H : Int} {xs : List Int} (hg : goodB W H xs = true) : xs.Nodup :=
  (risesB_pairwise (goodB_iff.1 hg).2.2.2).imp (fun h => Int.ne_of_lt h)
theorem good_NU {W H : Int} {xs : List Int} (h : goodB W H xs = true) : 1 ≤ W * H ∧ W * H ≤ 64 := by
  obtain ⟨hW, hH, _, _⟩ := goodB_iff.1 h
  exact cells_le hW hH
theorem holes_few {W H : Int} {xs : List Int} (h : goodB W H xs = true) : xs.length ≤ 64 := by
  have h1 := (goodB_iff.1 h).2.2.1
  have := good_NU h; omega

set_option maxRecDepth 100000 in
set_option maxHeartbeats 2000000 in
theorem boMoved_any (A : Option Addr) (n c : Nat) (xs : List Int) (w : World) (ha : Rd w A n xs) (hn : n ≤ 64) :
    Calls Try.prog 104 #[.slice A n c] w fun e w' => ∃ A' n' c', e = .returned (.slice A' n' c') ∧ OwnI 3 w' w.heap.size A' n' c' (movedL xs) ∧ Below w.heap.size w w' := by
  have H1 := Lib.hid ha.1
  go_enter Try.func104, Try.ntmps104
  go_wp2
  go_loopw [3, 8] (fun s i wr => ∃ (k n' c' : Nat) (A' : Option Addr), k ≤ n ∧ i = .int .i64 k ∧ s = .slice A' n' c' ∧ OwnI 3 wr w.heap.size A' n' c' (movedL (xs.take k)) ∧ Below w.heap.size w wr) (fun _ i _ => n - (intOf i).toNat)
  case atStart => exact ⟨0, 0, 0, none, Nat.zero_le _, rfl, rfl, OwnI.none_ _ _ _, Below.refl _ _⟩
  case round =>
    obtain ⟨k, n', c', A', hk, rfl, rfl, hown, hbw⟩ := hrel
    have OWN := Lib.hid hown; have HB := Lib.hid hbw
    have hsw := hbw.size
    have hn8 : n' ≤ 64 := by
      have h1 := hown.len
      have h2 := movedL_len (xs.take k)
      rw [List.length_take] at h2; omega
    clear hown hbw
    by_cases hlt : k < n
    · obtain ⟨bb, oo, x, rfl, hg1, hx, x0⟩ := (ha.keep HB.out).at_ hlt
      have HX := Lib.hid hx
      clear hx
      go_wp2_with fail
      refine (l1Put_any w.heap.size A' n' c' _ x _ OWN.out hn8 hsw).mono ?_
      rintro e wz ⟨A9, n9, c9, rfl, own, hb⟩
      have O9 := Lib.hid own
      replace HB := Lib.hid (HB.out.trans (hb.mono hsw))
      clear own hb x0
      go_wp2
      go_roundw
      case rel => exact ⟨k + 1, n9, c9, A9, by omega, by go_num, rfl, by rw [List.take_add_one, HX.out]; exact (movedL_snoc _ _).symm ▸ O9.out, HB.out⟩
      case measure => simp [intOf]; omega
    · go_wp2
      go_ret
      exact ⟨A', n', c', rfl, by have h := OWN.out; rw [List.take_of_length_le (by have := H1.out; omega)] at h; exact h, HB.out⟩

set_option maxRecDepth 100000 in
set_option maxHeartbeats 4000000 in
theorem boTurned_any (W H : Int) (A : Option Addr) (n c : Nat) (xs : List Int) (w : World) (ha : Rd w A n xs) (hg : goodB W H xs = true) :
    Calls Try.prog 75 #[brd W H A n c] w fun e w' => ∃ A' n' c', e = .returned (brd H W A' n' c') ∧ OwnI 3 w' w.heap.size A' n' c' (movedL (xs.map (turnV W H))) ∧ Below w.heap.size w w' := by
  obtain ⟨W2, hW2⟩ : ∃ W2, W2 = (w.alloc (.cells #[.int .i64 W, .int .i64 H, .slice A n c] 28)).alloc (.cells #[.int .i64 0, .int .i64 0, .slice none 0 0] 28) := ⟨_, rfl⟩
  have hsz : W2.heap.size = w.heap.size + 2 := by rw [hW2]; simp
  have a0 : W2.cell? ⟨w.heap.size, 0, none⟩ = some (.int .i64 W) := by rw [hW2]; go_simp
  have a1 : W2.cell? ⟨w.heap.size, 1, none⟩ = some (.int .i64 H) := by rw [hW2]; go_simp
  have a2 : W2.cell? ⟨w.heap.size, 2, none⟩ = some (.slice A n c) := by rw [hW2]; go_simp
  have r0 : W2.cell? ⟨w.heap.size + 1, 0, none⟩ = some (.int .i64 0) := by rw [hW2]; go_simp
  have r1 : W2.cell? ⟨w.heap.size + 1, 1, none⟩ = some (.int .i64 0) := by rw [hW2]; go_simp
  have r2 : W2.cell? ⟨w.heap.size + 1, 2, none⟩ = some (.slice none 0 0) := by rw [hW2]; go_simp
  have f0 : W2.frozen? ⟨w.heap.size + 1, 0, none⟩ = false := by rw [hW2]; go_simp
  have f1 : W2.frozen? ⟨w.heap.size + 1, 1, none⟩ = false := by rw [hW2]; go_simp
  have f2 : W2.frozen? ⟨w.heap.size + 1, 2, none⟩ = false := by rw [hW2]; go_simp
  have al : w.heap.size < W2.heap.size := by omega
  have rl : w.heap.size + 1 < W2.heap.size := by omega
  have B := Lib.hid (show Below w.heap.size w W2 by rw [hW2]; exact below_new (below_new (Below.refl _ _) _) _)
  have R := Lib.hid (ha.keep B.out)
  have HG := Lib.hid hg
  have HW : Hid (1 ≤ W ∧ W ≤ 8) := Lib.hid (goodB_iff.1 hg).1
  have HH : Hid (1 ≤ H ∧ H ≤ 8) := Lib.hid (goodB_iff.1 hg).2.1
  have HIN := Lib.hid (holes_in hg)
  have HN := Lib.hid (good_NU hg)
  have H1 := Lib.hid ha.1
  have hn64 : n ≤ 64 := by rw [← ha.1]; exact holes_few hg
  obtain ⟨i0, hi, hz0, hz1, hz2⟩ := info_parts infoI
  have HI := Lib.hid hi; have HZ0 := Lib.hid hz0; have HZ1 := Lib.hid hz1; have HZ2 := Lib.hid hz2
  clear hi hz0 hz1 hz2 hg ha
  go_enter Try.func75, Try.ntmps75
  go_wp2_with fail
  rw [← hW2]
  clear hW2
  have HA := Lib.hid (⟨a0, a1, a2, r0, r1, r2, f0, f1, f2, al, rl⟩ : W2.cell? ⟨w.heap.size, 0, none⟩ = some (.int .i64 W) ∧ W2.cell? ⟨w.heap.size, 1, none⟩ = some (.int .i64 H) ∧ W2.cell? ⟨w.heap.size, 2, none⟩ = some (.slice A n c) ∧ W2.cell? ⟨w.heap.size + 1, 0, none⟩ = some (.int .i64 0) ∧ W2.cell? ⟨w.heap.size + 1, 1, none⟩ = some (.int .i64 0) ∧ W2.cell? ⟨w.heap.size + 1, 2, none⟩ = some (.slice none 0 0) ∧ W2.frozen? ⟨w.heap.size + 1, 0, none⟩ = false ∧ W2.frozen? ⟨w.heap.size + 1, 1, none⟩ = false ∧ W2.frozen? ⟨w.heap.size + 1, 2, none⟩ = false ∧ w.heap.size < W2.heap.size ∧ w.heap.size + 1 < W2.heap.size)
  clear a0 a1 r0 r1 r2 f0 f1 f2 al rl hsz a2
  go_loopw [3, 9] (fun s i wr => ∃ (k c' : Nat) (A' : Option Addr), k ≤ n ∧ i = .int .i64 k ∧ s = .slice A' k c' ∧ OwnI 3 wr W2.heap.size A' k c' ((xs.take k).map (turnV W H)) ∧ Below W2.heap.size W2 wr) (fun _ i _ => n - (intOf i).toNat)
  case atStart => exact ⟨0, 0, none, Nat.zero_le _, rfl, rfl, OwnI.none_ _ _ _, Below.refl _ _⟩
  case round =>
    obtain ⟨k, c', A', hk, rfl, rfl, hown, hbw⟩ := hrel
    have OWN := Lib.hid hown; have HB := Lib.hid hbw
    have hsw := hbw.size
    have hb := hbw
    obtain ⟨a0, a1, a2, r0, r1, r2, f0, f1, f2, al, rl⟩ := HA.out
    replace a0 := cell_keep a0 al hb; replace a1 := cell_keep a1 al hb; replace a2 := cell_keep a2 al hb; replace r0 := cell_keep r0 rl hb; replace r1 := cell_keep r1 rl hb; replace r2 := cell_keep r2 rl hb; replace f0 := (hb.frozen (p := ⟨w.heap.size + 1, 0, none⟩) rl).trans f0; replace f1 := (hb.frozen (p := ⟨w.heap.size + 1, 1, none⟩) rl).trans f1; replace f2 := (hb.frozen (p := ⟨w.heap.size + 1, 2, none⟩) rl).trans f2; replace al := lt_keep al hb; replace rl := lt_keep rl hb
    have RR := Lib.hid (R.out.keep HB.out)
    clear hown hbw hb
    by_cases hlt : k < n
    · obtain ⟨bb, oo, x, rfl, hg1, hx, x0⟩ := RR.out.at_ hlt
      have HX := Lib.hid hx
      have HXR := Lib.hid (HIN.out x (List.mem_of_getElem? hx))
      clear hx r0 r1 r2 f0 f1 f2
      go_wp2_with fail
      refine (boTurn_any W H _ _ c x _ HW.out HH.out HXR.out).mono ?_
      rintro e wz ⟨rfl, hb⟩
      replace OWN := Lib.hid (OWN.out.keep hb)
      replace HB := Lib.hid (below_next HB.out hb)
      have hsz := HB.out.size
      clear hb a0 a1 a2 x0 al rl hsw
      go_wp2_with (at_builtin; refine wpList_app1 rfl (.tmp 13) (.tmp 17) 22 3 rfl i0 Try.underlying22 HI.out HZ0.out HZ1.out HZ2.out W2.heap.size A' k c' _ _ rfl OWN.out rfl (by omega) hsz ?_; intro A9 c9 w9 hown9 hb9)
      go_roundw
      case rel => exact ⟨k + 1, c9, A9, by omega, by go_num, rfl, by rw [List.take_add_one, HX.out, List.map_append]; exact hown9, HB.out.trans hb9⟩
      case measure => simp [intOf]; omega
    · obtain rfl : k = n := by omega
      have OM := Lib.hid (show OwnI 3 wr W2.heap.size A' k c' (xs.map (turnV W H)) by have h := OWN.out; rw [List.take_of_length_le (by have := H1.out; omega)] at h; exact h)
      replace B := Lib.hid (B.out.trans (HB.out.mono B.out.size))
      clear OWN HA R RR
      go_wp2_with fail
      refine wp_region_held_drew (S := fun w' => w'.cell? ⟨w.heap.size, 0, none⟩ = some (.int .i64 W) ∧ w'.cell? ⟨w.heap.size, 1, none⟩ = some (.int .i64 H)) (by kernel_rfl) ?_ (fun hHeld => ?_)
      · (try dsimp only)
        exact ⟨(by first | exact a0 | go_simp), (by first | exact a1 | go_simp)⟩
      refine wpAnyH_take (i := 0) (oi := ⟨_, _, _, _, _, _⟩) (v := ?_) rfl (by kernel_rfl) (by kernel_rfl) (by kernel_rfl) (fun _ _ _ h => h) (Or.inl ⟨by rfl, ?_⟩) (by assumption) ?_
      rotate_left
      · intro w hSw
        (try dsimp only at hSw)
        go_simp
        (try with_reducible rfl)
      (try simp only [Act.put, List.setIfInBounds_toArray, List.set_cons_zero, List.set_cons_succ])
      refine wpAnyH_take (i := 1) (oi := ⟨_, _, _, _, _, _⟩) (v := ?_) rfl (by kernel_rfl) (by kernel_rfl) (by kernel_rfl) (fun _ _ _ h => h) (Or.inl ⟨by rfl, ?_⟩) (by assumption) ?_
      rotate_left
      · intro w hSw
        (try dsimp only at hSw)
        go_simp
        (try with_reducible rfl)
      (try simp only [Act.put, List.setIfInBounds_toArray, List.set_cons_zero, List.set_cons_succ])
      refine wpAnyH_take (i := 2) (oi := ⟨_, _, _, _, _, _⟩) (v := ?_) rfl (by kernel_rfl) (by kernel_rfl) (by kernel_rfl) (fun _ _ _ h => h) (Or.inl ⟨by rfl, ?_⟩) (by assumption) ?_
      rotate_left
      · intro w hSw
        (try dsimp only at hSw)
        go_simp
        (try with_reducible rfl)
      (try simp only [Act.put, List.setIfInBounds_toArray, List.set_cons_zero, List.set_cons_succ])
      refine wpAnyH_take (i := 3) (oi := ⟨_, _, _, _, _, _⟩) (v := ?_) rfl (by kernel_rfl) (by kernel_rfl) (by kernel_rfl) (fun _ _ _ h => h) (Or.inl ⟨by rfl, ?_⟩) (by assumption) ?_
      rotate_left
      · intro w hSw
        (try dsimp only at hSw)
        go_simp
        (try with_reducible rfl)
      (try simp only [Act.put, List.setIfInBounds_toArray, List.set_cons_zero, List.set_cons_succ])
      refine wpAnyH_take (i := 4) (oi := ⟨_, _, _, _, _, _⟩) (v := ?_) rfl (by kernel_rfl) (by kernel_rfl) (by kernel_rfl) (fun _ _ _ h => h) (Or.inl ⟨by rfl, ?_⟩) (by assumption) ?_
      rotate_left
      · intro w hSw
        (try dsimp only at hSw)
        go_simp
        (try with_reducible rfl)
      (try simp only [Act.put, List.setIfInBounds_toArray, List.set_cons_zero, List.set_cons_succ])
      refine wpAnyH_ready (rs := [5]) (by kernel_rfl) (by simp) ?_
      refine AllReadyH.cons (o := ⟨_, _, _, _, _, _⟩) rfl (fun K hK => ?_) AllReadyH.nil
      go_simp
      (go_at_call 104; refine (boMoved_any A' k c' (xs.map (turnV W H)) _ ?_ hn64).mono ?_; (first | exact OM.out.rd | exact OM.out.rd.drew1 | exact OM.out.rd.drewN _); rintro e wz ⟨A9, n9, c9, rfl, own, hb⟩; (repeat (first | replace hb := below_undrew hb | replace hb := below_undrewN hb)); have R9 := Lib.hid (show w.heap.size + 1 < wr.heap.size from rl); have O9 := Lib.hid (own.lower (show wr.heap.size ≤ _ by simp)); replace a0 := cell_keep a0 al hb; replace a1 := cell_keep a1 al hb; replace a2 := cell_keep a2 al hb; replace r0 := cell_keep r0 rl hb; replace r1 := cell_keep r1 rl hb; replace r2 := cell_keep r2 rl hb; replace f0 := (hb.frozen (p := ⟨w.heap.size + 1, 0, none⟩) rl).trans f0; replace f1 := (hb.frozen (p := ⟨w.heap.size + 1, 1, none⟩) rl).trans f1; replace f2 := (hb.frozen (p := ⟨w.heap.size + 1, 2, none⟩) rl).trans f2; replace al := lt_keep al hb; replace rl := lt_keep rl hb; replace B := Lib.hid (below_next B.out hb); clear own hb)
      (try go_wp2_with fail)
      refine hK.out _ _ ?_ (fun hHeld => ?_)
      · (try dsimp only)
        exact ⟨(by first | exact a0 | go_simp), (by first | exact a1 | go_simp)⟩
      clear hK K
      (try simp only [Act.put, List.setIfInBounds_toArray, List.set_cons_zero, List.set_cons_succ])
      refine wpAnyH_take (i := 6) (oi := ⟨_, _, _, _, _, _⟩) (v := ?_) rfl (by kernel_rfl) (by kernel_rfl) (by kernel_rfl) (fun _ _ _ h => h) (Or.inl ⟨by rfl, ?_⟩) (by assumption) ?_
      rotate_left
      · intro w hSw
        (try dsimp only at hSw)
        go_simp
        (try with_reducible rfl)
      (try simp only [Act.put, List.setIfInBounds_toArray, List.set_cons_zero, List.set_cons_succ])
      refine wpAnyH_ready (rs := [7]) (by kernel_rfl) (by simp) ?_
      refine AllReadyH.cons (o := ⟨_, _, _, _, _, _⟩) rfl (fun K hK => ?_) AllReadyH.nil
      go_simp
      skip
      (try go_wp2_with fail)
      refine hK.out _ _ ?_ (fun hHeld => ?_)
      · (try dsimp only)
        exact ⟨(by first | exact a0 | go_simp), (by first | exact a1 | go_simp)⟩
      clear hK K
      (try simp only [Act.put, List.setIfInBounds_toArray, List.set_cons_zero, List.set_cons_succ])
      refine wpAnyH_done (by kernel_rfl) ?_ _
      all_goals go_wp2
      all_goals exact bodyPost_ret (v := brd H W A9 n9 c9) (by simp [results, Try.results75, go_sem, r0, r1, r2]) rfl ⟨A9, n9, c9, rfl, (((O9.out.set_ (p := ⟨w.heap.size + 1, 0, none⟩) (by have := R9.out; show w.heap.size + 1 < _; omega) _).set_ (p := ⟨w.heap.size + 1, 1, none⟩) (by have := R9.out; show w.heap.size + 1 < _; omega) _).set_ (p := ⟨w.heap.size + 1, 2, none⟩) (by have := R9.out; show w.heap.size + 1 < _; omega) _).lower (by have := R9.out; omega), (Below.setCell (Below.setCell (Below.setCell B.out (p := ⟨w.heap.size + 1, 0, none⟩) (by simp) _) (p := ⟨w.heap.size + 1, 1, none⟩) (by simp) _) (p := ⟨w.heap.size + 1, 2, none⟩) (by simp) _)⟩

set_option maxRecDepth 100000 in
set_option maxHeartbeats 4000000 in
theorem boMirrored_any (W H : Int) (A : Option Addr) (n c : Nat) (xs : List Int) (w : World) (ha : Rd w A n xs) (hg : goodB W H xs = true) :
    Calls Try.prog 77 #[brd W H A n c] w fun e w' => ∃ A' n' c', e = .returned (brd W H A' n' c') ∧ OwnI 3 w' w.heap.size A' n' c' (movedL (xs.map (mirrorV W))) ∧ Below w.heap.size w w' := by
  obtain ⟨W2, hW2⟩ : ∃ W2, W2 = (w.alloc (.cells #[.int .i64 W, .int .i64 H, .slice A n c] 28)).alloc (.cells #[.int .i64 0, .int .i64 0, .slice none 0 0] 28) := ⟨_, rfl⟩
  have hsz : W2.heap.size = w.heap.size + 2 := by rw [hW2]; simp
  have a0 : W2.cell? ⟨w.heap.size, 0, none⟩ = some (.int .i64 W) := by rw [hW2]; go_simp
  have a1 : W2.cell? ⟨w.heap.size, 1, none⟩ = some (.int .i64 H) := by rw [hW2]; go_simp
  have a2 : W2.cell? ⟨w.heap.size, 2, none⟩ = some (.slice A n c) := by rw [hW2]; go_simp
  have r0 : W2.cell? ⟨w.heap.size + 1, 0, none⟩ = some (.int .i64 0) := by rw [hW2]; go_simp
  have r1 : W2.cell? ⟨w.heap.size + 1, 1, none⟩ = some (.int .i64 0) := by rw [hW2]; go_simp
  have r2 : W2.cell? ⟨w.heap.size + 1, 2, none⟩ = some (.slice none 0 0) := by rw [hW2]; go_simp
  have f0 : W2.frozen? ⟨w.heap.size + 1, 0, none⟩ = false := by rw [hW2]; go_simp
  have f1 : W2.frozen? ⟨w.heap.size + 1, 1, none⟩ = false := by rw [hW2]; go_simp
  have f2 : W2.frozen? ⟨w.heap.size + 1, 2, none⟩ = false := by rw [hW2]; go_simp
  have al : w.heap.size < W2.heap.size := by omega
  have rl : w.heap.size + 1 < W2.heap.size := by omega
  have B := Lib.hid (show Below w.heap.size w W2 by rw [hW2]; exact below_new (below_new (Below.refl _ _) _) _)
  have R := Lib.hid (ha.keep B.out)
  have HG := Lib.hid hg
  have HW : Hid (1 ≤ W ∧ W ≤ 8) := Lib.hid (goodB_iff.1 hg).1
  have HH : Hid (1 ≤ H ∧ H ≤ 8) := Lib.hid (goodB_iff.1 hg).2.1
  have HIN := Lib.hid (holes_in hg)
  have HN := Lib.hid (good_NU hg)
  have H1 := Lib.hid ha.1
  have hn64 : n ≤ 64 := by rw [← ha.1]; exact holes_few hg
  obtain ⟨i0, hi, hz0, hz1, hz2⟩ := info_parts infoI
  have HI := Lib.hid hi; have HZ0 := Lib.hid hz0; have HZ1 := Lib.hid hz1; have HZ2 := Lib.hid hz2
  clear hi hz0 hz1 hz2 hg ha
  go_enter Try.func77, Try.ntmps77
  go_wp2_with fail
  rw [← hW2]
  clear hW2
  have HA := Lib.hid (⟨a0, a1, a2, r0, r1, r2, f0, f1, f2, al, rl⟩ : W2.cell? ⟨w.heap.size, 0, none⟩ = some (.int .i64 W) ∧ W2.cell? ⟨w.heap.size, 1, none⟩ = some (.int .i64 H) ∧ W2.cell? ⟨w.heap.size, 2, none⟩ = some (.slice A n c) ∧ W2.cell? ⟨w.heap.size + 1, 0, none⟩ = some (.int .i64 0) ∧ W2.cell? ⟨w.heap.size + 1, 1, none⟩ = some (.int .i64 0) ∧ W2.cell? ⟨w.heap.size + 1, 2, none⟩ = some (.slice none 0 0) ∧ W2.frozen? ⟨w.heap.size + 1, 0, none⟩ = false ∧ W2.frozen? ⟨w.heap.size + 1, 1, none⟩ = false ∧ W2.frozen? ⟨w.heap.size + 1, 2, none⟩ = false ∧ w.heap.size < W2.heap.size ∧ w.heap.size + 1 < W2.heap.size)
  clear a0 a1 r0 r1 r2 f0 f1 f2 al rl hsz a2
  go_loopw [3, 9] (fun s i wr => ∃ (k c' : Nat) (A' : Option Addr), k ≤ n ∧ i = .int .i64 k ∧ s = .slice A' k c' ∧ OwnI 3 wr W2.heap.size A' k c' ((xs.take k).map (mirrorV W)) ∧ Below W2.heap.size W2 wr) (fun _ i _ => n - (intOf i).toNat)
  case atStart => exact ⟨0, 0, none, Nat.zero_le _, rfl, rfl, OwnI.none_ _ _ _, Below.refl _ _⟩
  case round =>
    obtain ⟨k, c', A', hk, rfl, rfl, hown, hbw⟩ := hrel
    have OWN := Lib.hid hown; have HB := Lib.hid hbw
    have hsw := hbw.size
    have hb := hbw
    obtain ⟨a0, a1, a2, r0, r1, r2, f0, f1, f2, al, rl⟩ := HA.out
    replace a0 := cell_keep a0 al hb; replace a1 := cell_keep a1 al hb; replace a2 := cell_keep a2 al hb; replace r0 := cell_keep r0 rl hb; replace r1 := cell_keep r1 rl hb; replace r2 := cell_keep r2 rl hb; replace f0 := (hb.frozen (p := ⟨w.heap.size + 1, 0, none⟩) rl).trans f0; replace f1 := (hb.frozen (p := ⟨w.heap.size + 1, 1, none⟩) rl).trans f1; replace f2 := (hb.frozen (p := ⟨w.heap.size + 1, 2, none⟩) rl).trans f2; replace al := lt_keep al hb; replace rl := lt_keep rl hb
    have RR := Lib.hid (R.out.keep HB.out)
    clear hown hbw hb
    by_cases hlt : k < n
    · obtain ⟨bb, oo, x, rfl, hg1, hx, x0⟩ := RR.out.at_ hlt
      have HX := Lib.hid hx
      have HXR := Lib.hid (HIN.out x (List.mem_of_getElem? hx))
      clear hx r0 r1 r2 f0 f1 f2
      go_wp2_with fail
      refine (boMirror_any W H _ _ c x _ HW.out (by have := HXR.out; have := HN.out; omega)).mono ?_
      rintro e wz ⟨rfl, hb⟩
      replace OWN := Lib.hid (OWN.out.keep hb)
      replace HB := Lib.hid (below_next HB.out hb)
      have hsz := HB.out.size
      clear hb a0 a1 a2 x0 al rl hsw
      go_wp2_with (at_builtin; refine wpList_app1 rfl (.tmp 13) (.tmp 17) 22 3 rfl i0 Try.underlying22 HI.out HZ0.out HZ1.out HZ2.out W2.heap.size A' k c' _ _ rfl OWN.out rfl (by omega) hsz ?_; intro A9 c9 w9 hown9 hb9)
      go_roundw
      case rel => exact ⟨k + 1, c9, A9, by omega, by go_num, rfl, by rw [List.take_add_one, HX.out, List.map_append]; exact hown9, HB.out.trans hb9⟩
      case measure => simp [intOf]; omega
    · obtain rfl : k = n := by omega
      have OM := Lib.hid (show OwnI 3 wr W2.heap.size A' k c' (xs.map (mirrorV W)) by have h := OWN.out; rw [List.take_of_length_le (by have := H1.out; omega)] at h; exact h)
      replace B := Lib.hid (B.out.trans (HB.out.mono B.out.size))
      clear OWN HA R RR
      go_wp2_with fail
      refine wp_region_held_drew (S := fun w' => w'.cell? ⟨w.heap.size, 0, none⟩ = some (.int .i64 W) ∧ w'.cell? ⟨w.heap.size, 1, none⟩ = some (.int .i64 H)) (by kernel_rfl) ?_ (fun hHeld => ?_)
      · (try dsimp only)
        exact ⟨(by first | exact a0 | go_simp), (by first | exact a1 | go_simp)⟩
      refine wpAnyH_take (i := 0) (oi := ⟨_, _, _, _, _, _⟩) (v := ?_) rfl (by kernel_rfl) (by kernel_rfl) (by kernel_rfl) (fun _ _ _ h => h) (Or.inl ⟨by rfl, ?_⟩) (by assumption) ?_
      rotate_left
      · intro w hSw
        (try dsimp only at hSw)
        go_simp
        (try with_reducible rfl)
      (try simp only [Act.put, List.setIfInBounds_toArray, List.set_cons_zero, List.set_cons_succ])
      refine wpAnyH_take (i := 1) (oi := ⟨_, _, _, _, _, _⟩) (v := ?_) rfl (by kernel_rfl) (by kernel_rfl) (by kernel_rfl) (fun _ _ _ h => h) (Or.inl ⟨by rfl, ?_⟩) (by assumption) ?_
      rotate_left
      · intro w hSw
        (try dsimp only at hSw)
        go_simp
        (try with_reducible rfl)
      (try simp only [Act.put, List.setIfInBounds_toArray, List.set_cons_zero, List.set_cons_succ])
      refine wpAnyH_take (i := 2) (oi := ⟨_, _, _, _, _, _⟩) (v := ?_) rfl (by kernel_rfl) (by kernel_rfl) (by kernel_rfl) (fun _ _ _ h => h) (Or.inl ⟨by rfl, ?_⟩) (by assumption) ?_
      rotate_left
      · intro w hSw
        (try dsimp only at hSw)
        go_simp
        (try with_reducible rfl)
      (try simp only [Act.put, List.setIfInBounds_toArray, List.set_cons_zero, List.set_cons_succ])
      refine wpAnyH_take (i := 3) (oi := ⟨_, _, _, _, _, _⟩) (v := ?_) rfl (by kernel_rfl) (by kernel_rfl) (by kernel_rfl) (fun _ _ _ h => h) (Or.inl ⟨by rfl, ?_⟩) (by assumption) ?_
      rotate_left
      · intro w hSw
        (try dsimp only at hSw)
        go_simp
        (try with_reducible rfl)
      (try simp only [Act.put, List.setIfInBounds_toArray, List.set_cons_zero, List.set_cons_succ])
      refine wpAnyH_take (i := 4) (oi := ⟨_, _, _, _, _, _⟩) (v := ?_) rfl (by kernel_rfl) (by kernel_rfl) (by kernel_rfl) (fun _ _ _ h => h) (Or.inl ⟨by rfl, ?_⟩) (by assumption) ?_
      rotate_left
      · intro w hSw
        (try dsimp only at hSw)
        go_simp
        (try with_reducible rfl)
      (try simp only [Act.put, List.setIfInBounds_toArray, List.set_cons_zero, List.set_cons_succ])
      refine wpAnyH_ready (rs := [5]) (by kernel_rfl) (by simp) ?_
      refine AllReadyH.cons (o := ⟨_, _, _, _, _, _⟩) rfl (fun K hK => ?_) AllReadyH.nil
      go_simp
      (go_at_call 104; refine (boMoved_any A' k c' (xs.map (mirrorV W)) _ ?_ hn64).mono ?_; (first | exact OM.out.rd | exact OM.out.rd.drew1 | exact OM.out.rd.drewN _); rintro e wz ⟨A9, n9, c9, rfl, own, hb⟩; (repeat (first | replace hb := below_undrew hb | replace hb := below_undrewN hb)); have R9 := Lib.hid (show w.heap.size + 1 < wr.heap.size from rl); have O9 := Lib.hid (own.lower (show wr.heap.size ≤ _ by simp)); replace a0 := cell_keep a0 al hb; replace a1 := cell_keep a1 al hb; replace a2 := cell_keep a2 al hb; replace r0 := cell_keep r0 rl hb; replace r1 := cell_keep r1 rl hb; replace r2 := cell_keep r2 rl hb; replace f0 := (hb.frozen (p := ⟨w.heap.size + 1, 0, none⟩) rl).trans f0; replace f1 := (hb.frozen (p := ⟨w.heap.size + 1, 1, none⟩) rl).trans f1; replace f2 := (hb.frozen (p := ⟨w.heap.size + 1, 2, none⟩) rl).trans f2; replace al := lt_keep al hb; replace rl := lt_keep rl hb; replace B := Lib.hid (below_next B.out hb); clear own hb)
      (try go_wp2_with fail)
      refine hK.out _ _ ?_ (fun hHeld => ?_)
      · (try dsimp only)
        exact ⟨(by first | exact a0 | go_simp), (by first | exact a1 | go_simp)⟩
      clear hK K
      (try simp only [Act.put, List.setIfInBounds_toArray, List.set_cons_zero, List.set_cons_succ])
      refine wpAnyH_take (i := 6) (oi := ⟨_, _, _, _, _, _⟩) (v := ?_) rfl (by kernel_rfl) (by kernel_rfl) (by kernel_rfl) (fun _ _ _ h => h) (Or.inl ⟨by rfl, ?_⟩) (by assumption) ?_
      rotate_left
      · intro w hSw
        (try dsimp only at hSw)
        go_simp
        (try with_reducible rfl)
      (try simp only [Act.put, List.setIfInBounds_toArray, List.set_cons_zero, List.set_cons_succ])
      refine wpAnyH_ready (rs := [7]) (by kernel_rfl) (by simp) ?_
      refine AllReadyH.cons (o := ⟨_, _, _, _, _, _⟩) rfl (fun K hK => ?_) AllReadyH.nil
      go_simp
      skip
      (try go_wp2_with fail)
      refine hK.out _ _ ?_ (fun hHeld => ?_)
      · (try dsimp only)
        exact ⟨(by first | exact a0 | go_simp), (by first | exact a1 | go_simp)⟩
      clear hK K
      (try simp only [Act.put, List.setIfInBounds_toArray, List.set_cons_zero, List.set_cons_succ])
      refine wpAnyH_done (by kernel_rfl) ?_ _
      all_goals go_wp2
      all_goals exact bodyPost_ret (v := brd W H A9 n9 c9) (by simp [results, Try.results77, go_sem, r0, r1, r2]) rfl ⟨A9, n9, c9, rfl, (((O9.out.set_ (p := ⟨w.heap.size + 1, 0, none⟩) (by have := R9.out; show w.heap.size + 1 < _; omega) _).set_ (p := ⟨w.heap.size + 1, 1, none⟩) (by have := R9.out; show w.heap.size + 1 < _; omega) _).set_ (p := ⟨w.heap.size + 1, 2, none⟩) (by have := R9.out; show w.heap.size + 1 < _; omega) _).lower (by have := R9.out; omega), (Below.setCell (Below.setCell (Below.setCell B.out (p := ⟨w.heap.size + 1, 0, none⟩) (by simp) _) (p := ⟨w.heap.size + 1, 1, none⟩) (by simp) _) (p := ⟨w.heap.size + 1, 2, none⟩) (by simp) _)⟩

end Go.Proofs.Ytmghjohpmlhdlaa
