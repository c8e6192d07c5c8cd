/-
  Contracts: OrbitLength and CountOrbits, in the model and in the program.
-/
import Derived.Test.YtaliknhfcdmohaaOJ
namespace Go.Proofs.Ytaliknhfcdmohaa
open Go.RowKit

theorem orbLenV_no {W H x y : Int} {ac up : Bool} (h : joinB W H ac up x y = false) : orbLenV W H ac up x y = 0 := by rw [orbLenV, h]; rfl
theorem orbCntV_no {W H x y : Int} {ac up : Bool} (h : joinB W H ac up x y = false) : orbCntV W H ac up x y = 0 := by rw [orbCntV, h]; rfl

set_option maxRecDepth 100000 in
set_option maxHeartbeats 2000000 in
theorem spec_OrbitLength (W H : Int) (ac up : Bool) (x y : Int) (w : World) :
    Calls Try.prog 38 #[ard W H ac up, .int .i64 x, .int .i64 y] w fun e w' => e = .returned (.tuple #[.int .i64 (orbLenV W H ac up x y), .bool (joinB W H ac up x y)]) ∧ Below w.heap.size w w' := by
  cases hj : joinB W H ac up x y
  · have OK := Lib.hid hj
    obtain ⟨W2, hW2⟩ : ∃ W2, W2 = w.alloc (.cells #[.int .i64 W, .int .i64 H, .bool ac, .bool up] 25) := ⟨_, rfl⟩
    have hsz : W2.heap.size = w.heap.size + 1 := by rw [hW2]; simp
    have a0 : W2.cell? ⟨w.heap.size, 0, none⟩ = some (.int .i64 W) := by rw [hW2]; go_simp
    have a1 : W2.cell? ⟨w.heap.size, 1, none⟩ = some (.int .i64 H) := by rw [hW2]; go_simp
    have a2 : W2.cell? ⟨w.heap.size, 2, none⟩ = some (.bool ac) := by rw [hW2]; go_simp
    have a3 : W2.cell? ⟨w.heap.size, 3, none⟩ = some (.bool up) := by rw [hW2]; go_simp
    have al : w.heap.size < W2.heap.size := by omega
    have B := Lib.hid (show Below w.heap.size w W2 by rw [hW2]; repeat (first | exact Below.refl _ _ | refine below_new ?_ _))
    go_enter Try.func38, Try.ntmps38
    go_wp2_with fail
    rw [← hW2]
    clear hW2
    refine (arJoined_any _ _ _ _ _ _ _).mono ?_
    rw [hj]
    rintro e wv ⟨rfl, hb⟩
    replace a0 := cell_keep a0 al hb
    replace a1 := cell_keep a1 al hb
    replace a2 := cell_keep a2 al hb
    replace a3 := cell_keep a3 al hb
    replace al := lt_keep al hb
    replace B := Lib.hid (below_next B.out hb)
    clear hb
    clear a0 a1 a2 a3 al
    go_wp2
    go_ret2
    exact ⟨by rw [orbLenV_no OK.out]; rfl, B.out⟩
  · have OK := Lib.hid hj
    obtain ⟨hg, rfl, rfl, hy⟩ := joinB_iff.1 hj
    have HG := Lib.hid hg; have HY := Lib.hid hy
    have hA := areaA hg
    obtain ⟨A1, A2⟩ := hA
    obtain ⟨L1, L2⟩ := orbN_rng (x := x) (y := y) hg
    have HOR := Lib.hid (fun w' => arOrbit_any W H 0 x y w' hg ⟨by omega, by omega⟩ hy)
    obtain ⟨LN, hLN⟩ : ∃ LN, orbN W H x y = LN := ⟨_, rfl⟩
    rw [hLN] at L1 L2 HOR
    have HV := Lib.hid (show orbLenV W H true true x y = (LN : Int) by rw [orbLenV, hj, ← hLN]; rfl)
    clear hLN hg hy
    obtain ⟨W2, hW2⟩ : ∃ W2, W2 = w.alloc (.cells #[.int .i64 W, .int .i64 H, .bool true, .bool true] 25) := ⟨_, rfl⟩
    have hsz : W2.heap.size = w.heap.size + 1 := by rw [hW2]; simp
    have a0 : W2.cell? ⟨w.heap.size, 0, none⟩ = some (.int .i64 W) := by rw [hW2]; go_simp
    have a1 : W2.cell? ⟨w.heap.size, 1, none⟩ = some (.int .i64 H) := by rw [hW2]; go_simp
    have a2 : W2.cell? ⟨w.heap.size, 2, none⟩ = some (.bool true) := by rw [hW2]; go_simp
    have a3 : W2.cell? ⟨w.heap.size, 3, none⟩ = some (.bool true) := by rw [hW2]; go_simp
    have al : w.heap.size < W2.heap.size := by omega
    have B := Lib.hid (show Below w.heap.size w W2 by rw [hW2]; repeat (first | exact Below.refl _ _ | refine below_new ?_ _))
    go_enter Try.func38, Try.ntmps38
    go_wp2_with fail
    rw [← hW2]
    clear hW2
    refine (arJoined_any _ _ _ _ _ _ _).mono ?_
    rw [hj]
    rintro e wv ⟨rfl, hb⟩
    replace a0 := cell_keep a0 al hb
    replace a1 := cell_keep a1 al hb
    replace a2 := cell_keep a2 al hb
    replace a3 := cell_keep a3 al hb
    replace al := lt_keep al hb
    replace B := Lib.hid (below_next B.out hb)
    clear hb
    go_wp2_with fail
    refine (HOR.out _).mono ?_
    rintro e wx ⟨A', n', c', rfl, hown, hb⟩
    have hn := hown.len
    rw [orbL_len] at hn
    subst hn
    replace B := Lib.hid (below_next B.out hb)
    clear hown hb
    clear a0 a1 a2 a3 al
    go_wp2
    go_ret2
    exact ⟨by rw [HV.out]; rfl, B.out⟩

set_option maxRecDepth 100000 in
set_option maxHeartbeats 2000000 in
theorem spec_CountOrbits (W H : Int) (ac up : Bool) (x y : Int) (w : World) :
    Calls Try.prog 40 #[ard W H ac up, .int .i64 x, .int .i64 y] w fun e w' => e = .returned (.tuple #[.int .i64 (orbCntV W H ac up x y), .bool (joinB W H ac up x y)]) ∧ Below w.heap.size w w' := by
  cases hj : joinB W H ac up x y
  · have OK := Lib.hid hj
    obtain ⟨W2, hW2⟩ : ∃ W2, W2 = w.alloc (.cells #[.int .i64 W, .int .i64 H, .bool ac, .bool up] 25) := ⟨_, rfl⟩
    have hsz : W2.heap.size = w.heap.size + 1 := by rw [hW2]; simp
    have a0 : W2.cell? ⟨w.heap.size, 0, none⟩ = some (.int .i64 W) := by rw [hW2]; go_simp
    have a1 : W2.cell? ⟨w.heap.size, 1, none⟩ = some (.int .i64 H) := by rw [hW2]; go_simp
    have a2 : W2.cell? ⟨w.heap.size, 2, none⟩ = some (.bool ac) := by rw [hW2]; go_simp
    have a3 : W2.cell? ⟨w.heap.size, 3, none⟩ = some (.bool up) := by rw [hW2]; go_simp
    have al : w.heap.size < W2.heap.size := by omega
    have B := Lib.hid (show Below w.heap.size w W2 by rw [hW2]; repeat (first | exact Below.refl _ _ | refine below_new ?_ _))
    go_enter Try.func40, Try.ntmps40
    go_wp2_with fail
    rw [← hW2]
    clear hW2
    refine (arJoined_any _ _ _ _ _ _ _).mono ?_
    rw [hj]
    rintro e wv ⟨rfl, hb⟩
    replace a0 := cell_keep a0 al hb
    replace a1 := cell_keep a1 al hb
    replace a2 := cell_keep a2 al hb
    replace a3 := cell_keep a3 al hb
    replace al := lt_keep al hb
    replace B := Lib.hid (below_next B.out hb)
    clear hb
    clear a0 a1 a2 a3 al
    go_wp2
    go_ret2
    exact ⟨by rw [orbCntV_no OK.out]; rfl, B.out⟩
  · have OK := Lib.hid hj
    obtain ⟨hg, rfl, rfl, hy⟩ := joinB_iff.1 hj
    have HG := Lib.hid hg; have HY := Lib.hid hy
    have hA := areaA hg
    obtain ⟨A1, A2⟩ := hA
    obtain ⟨L1, L2⟩ := orbN_rng (x := x) (y := y) hg
    have HOR := Lib.hid (fun w' => arOrbit_any W H 0 x y w' hg ⟨by omega, by omega⟩ hy)
    obtain ⟨LN, hLN⟩ : ∃ LN, orbN W H x y = LN := ⟨_, rfl⟩
    rw [hLN] at L1 L2 HOR
    have HV := Lib.hid (show orbCntV W H true true x y = (W * H) / (LN : Int) by rw [orbCntV, hj, ← hLN]; rfl)
    clear hLN hg hy
    have hww : IntKind.i64.wrap (W * H) = W * H := IntWalk.i64_in _ (by omega)
    have hl0 : (0 : Int) < (LN : Int) := by omega
    have hl00 : ¬ LN = 0 := by omega
    have hl01 : ¬ (LN : Int) = 0 := by omega
    have hl1 : (LN : Int) ≤ 144 := by omega
    have htd : (W * H).tdiv (LN : Int) = W * H / (LN : Int) := Int.tdiv_eq_ediv_of_nonneg (by omega)
    have hq0 : 0 ≤ W * H / (LN : Int) := Int.ediv_nonneg (by omega) (by omega)
    have hq1 : W * H / (LN : Int) ≤ 144 := Int.le_trans (Int.ediv_le_self _ (by omega)) A2
    have hwq : IntKind.i64.wrap (W * H / (LN : Int)) = W * H / (LN : Int) := IntWalk.i64_in _ (by omega)
    obtain ⟨W2, hW2⟩ : ∃ W2, W2 = w.alloc (.cells #[.int .i64 W, .int .i64 H, .bool true, .bool true] 25) := ⟨_, rfl⟩
    have hsz : W2.heap.size = w.heap.size + 1 := by rw [hW2]; simp
    have a0 : W2.cell? ⟨w.heap.size, 0, none⟩ = some (.int .i64 W) := by rw [hW2]; go_simp
    have a1 : W2.cell? ⟨w.heap.size, 1, none⟩ = some (.int .i64 H) := by rw [hW2]; go_simp
    have a2 : W2.cell? ⟨w.heap.size, 2, none⟩ = some (.bool true) := by rw [hW2]; go_simp
    have a3 : W2.cell? ⟨w.heap.size, 3, none⟩ = some (.bool true) := by rw [hW2]; go_simp
    have al : w.heap.size < W2.heap.size := by omega
    have B := Lib.hid (show Below w.heap.size w W2 by rw [hW2]; repeat (first | exact Below.refl _ _ | refine below_new ?_ _))
    go_enter Try.func40, Try.ntmps40
    go_wp2_with fail
    rw [← hW2]
    clear hW2
    refine (arJoined_any _ _ _ _ _ _ _).mono ?_
    rw [hj]
    rintro e wv ⟨rfl, hb⟩
    replace a0 := cell_keep a0 al hb
    replace a1 := cell_keep a1 al hb
    replace a2 := cell_keep a2 al hb
    replace a3 := cell_keep a3 al hb
    replace al := lt_keep al hb
    replace B := Lib.hid (below_next B.out hb)
    clear hb
    go_wp2_with fail
    refine wp_region_held_drew (S := fun w' => w'.cell? ⟨w.heap.size, 0, none⟩ = some (.int .i64 W) ∧ w'.cell? ⟨w.heap.size, 1, none⟩ = some (.int .i64 H) ∧ w'.cell? ⟨w.heap.size, 2, none⟩ = some (.bool true) ∧ w'.cell? ⟨w.heap.size, 3, none⟩ = some (.bool true)) (by kernel_rfl) ?_ (fun hHeld => ?_)
    · (try dsimp only)
      exact ⟨a0, a1, a2, a3⟩
    refine wpAnyH_take (i := 0) (oi := ⟨_, _, _, _, _, _⟩) (v := ?_) rfl (by kernel_rfl) (by kernel_rfl) (by kernel_rfl) (fun _ _ _ h => h) (Or.inl ⟨by rfl, ?_⟩) (by assumption) ?_
    rotate_left
    · intro w hSw
      (try dsimp only at hSw)
      go_simp
      (try with_reducible rfl)
    (try simp only [Act.put, List.setIfInBounds_toArray, List.set_cons_zero, List.set_cons_succ])
    refine wpAnyH_take (i := 2) (oi := ⟨_, _, _, _, _, _⟩) (v := ?_) rfl (by kernel_rfl) (by kernel_rfl) (by kernel_rfl) (fun _ _ _ h => h) (Or.inl ⟨by rfl, ?_⟩) (by assumption) ?_
    rotate_left
    · intro w hSw
      (try dsimp only at hSw)
      go_simp
      (try with_reducible rfl)
    (try simp only [Act.put, List.setIfInBounds_toArray, List.set_cons_zero, List.set_cons_succ])
    refine wpAnyH_take (i := 5) (oi := ⟨_, _, _, _, _, _⟩) (v := ?_) rfl (by kernel_rfl) (by kernel_rfl) (by kernel_rfl) (fun _ _ _ h => h) (Or.inl ⟨by rfl, ?_⟩) (by assumption) ?_
    rotate_left
    · intro w hSw
      (try dsimp only at hSw)
      go_simp
      (try with_reducible rfl)
    (try simp only [Act.put, List.setIfInBounds_toArray, List.set_cons_zero, List.set_cons_succ])
    refine wpAnyH_take (i := 6) (oi := ⟨_, _, _, _, _, _⟩) (v := ?_) rfl (by kernel_rfl) (by kernel_rfl) (by kernel_rfl) (fun _ _ _ h => h) (Or.inl ⟨by rfl, ?_⟩) (by assumption) ?_
    rotate_left
    · intro w hSw
      (try dsimp only at hSw)
      go_simp
      (try with_reducible rfl)
    (try simp only [Act.put, List.setIfInBounds_toArray, List.set_cons_zero, List.set_cons_succ])
    refine wpAnyH_take (i := 7) (oi := ⟨_, _, _, _, _, _⟩) (v := ?_) rfl (by kernel_rfl) (by kernel_rfl) (by kernel_rfl) (fun _ _ _ h => h) (Or.inl ⟨by rfl, ?_⟩) (by assumption) ?_
    rotate_left
    · intro w hSw
      (try dsimp only at hSw)
      go_simp
      (try with_reducible rfl)
    (try simp only [Act.put, List.setIfInBounds_toArray, List.set_cons_zero, List.set_cons_succ])
    refine wpAnyH_take (i := 1) (oi := ⟨_, _, _, _, _, _⟩) (v := ?_) rfl (by kernel_rfl) (by kernel_rfl) (by kernel_rfl) (fun _ _ _ h => h) (Or.inl ⟨by rfl, ?_⟩) (by assumption) ?_
    rotate_left
    · intro w hSw
      (try dsimp only at hSw)
      go_simp
      (try with_reducible rfl)
    (try simp only [Act.put, List.setIfInBounds_toArray, List.set_cons_zero, List.set_cons_succ])
    refine wpAnyH_take (i := 3) (oi := ⟨_, _, _, _, _, _⟩) (v := ?_) rfl (by kernel_rfl) (by kernel_rfl) (by kernel_rfl) (fun _ _ _ h => h) (Or.inl ⟨by rfl, ?_⟩) (by assumption) ?_
    rotate_left
    · intro w hSw
      (try dsimp only at hSw)
      go_simp
      (try with_reducible rfl)
    (try simp only [Act.put, List.setIfInBounds_toArray, List.set_cons_zero, List.set_cons_succ])
    refine wpAnyH_take (i := 4) (oi := ⟨_, _, _, _, _, _⟩) (v := ?_) rfl (by kernel_rfl) (by kernel_rfl) (by kernel_rfl) (fun _ _ _ h => h) (Or.inl ⟨by rfl, ?_⟩) (by assumption) ?_
    rotate_left
    · intro w hSw
      (try dsimp only at hSw)
      go_simp
      (try with_reducible rfl)
    (try simp only [Act.put, List.setIfInBounds_toArray, List.set_cons_zero, List.set_cons_succ])
    refine wpAnyH_ready (rs := [8]) (by kernel_rfl) (by simp) ?_
    refine AllReadyH.cons (o := ⟨_, _, _, _, _, _⟩) rfl (fun K hK => ?_) AllReadyH.nil
    go_simp
    (go_at_call 73; refine (HOR.out _).mono ?_; rintro e wx ⟨A', n', c', rfl, hown, hb⟩; (repeat (first | replace hb := below_undrew hb | replace hb := below_undrewN hb)); have hn := hown.len; rw [orbL_len] at hn; subst hn; clear hown; replace a0 := cell_keep a0 al hb; replace a1 := cell_keep a1 al hb; replace a2 := cell_keep a2 al hb; replace a3 := cell_keep a3 al hb; replace al := lt_keep al hb; replace B := Lib.hid (below_next B.out hb); clear hb)
    (try go_wp2_with fail)
    refine hK.out _ _ ?_ (fun hHeld => ?_)
    · (try dsimp only)
      exact ⟨a0, a1, a2, a3⟩
    clear hK K
    (try simp only [Act.put, List.setIfInBounds_toArray, List.set_cons_zero, List.set_cons_succ])
    refine wpAnyH_take (i := 9) (oi := ⟨_, _, _, _, _, _⟩) (v := ?_) rfl (by kernel_rfl) (by kernel_rfl) (by kernel_rfl) (fun _ _ _ h => h) (Or.inl ⟨by rfl, ?_⟩) (by assumption) ?_
    rotate_left
    · intro w hSw
      (try dsimp only at hSw)
      go_simp
      (try with_reducible rfl)
    (try simp only [Act.put, List.setIfInBounds_toArray, List.set_cons_zero, List.set_cons_succ])
    refine wpAnyH_take (i := 10) (oi := ⟨_, _, _, _, _, _⟩) (v := ?_) rfl (by kernel_rfl) (by kernel_rfl) (by kernel_rfl) (fun _ _ _ h => h) (Or.inl ⟨by rfl, ?_⟩) (by assumption) ?_
    rotate_left
    · intro w hSw
      (try dsimp only at hSw)
      go_simp
      (try with_reducible rfl)
    (try simp only [Act.put, List.setIfInBounds_toArray, List.set_cons_zero, List.set_cons_succ])
    refine wpAnyH_take (i := 11) (oi := ⟨_, _, _, _, _, _⟩) (v := ?_) rfl (by kernel_rfl) (by kernel_rfl) (by kernel_rfl) (fun _ _ _ h => h) (Or.inl ⟨by rfl, ?_⟩) (by assumption) ?_
    rotate_left
    · intro w hSw
      (try dsimp only at hSw)
      go_simp
      (try with_reducible rfl)
    (try simp only [Act.put, List.setIfInBounds_toArray, List.set_cons_zero, List.set_cons_succ])
    refine wpAnyH_take (i := 12) (oi := ⟨_, _, _, _, _, _⟩) (v := ?_) rfl (by kernel_rfl) (by kernel_rfl) (by kernel_rfl) (fun _ _ _ h => h) (Or.inl ⟨by rfl, ?_⟩) (by assumption) ?_
    rotate_left
    · intro w hSw
      (try dsimp only at hSw)
      go_simp
      (try with_reducible rfl)
    (try simp only [Act.put, List.setIfInBounds_toArray, List.set_cons_zero, List.set_cons_succ])
    refine wpAnyH_done (by kernel_rfl) ?_ _
    clear hHeld
    clear a0 a1 a2 a3 al
    go_wp2
    go_ret2
    exact ⟨by rw [HV.out]; rfl, (by repeat (first | exact B.out | refine below_drewN ?_ _ | refine Below.drew ?_))⟩

set_option maxRecDepth 100000 in
set_option maxHeartbeats 1000000 in
theorem apart0_any (x : Int) (w : World) (hx : -20 ≤ x ∧ x ≤ 20) :
    Calls Try.prog 103 #[.int .i64 x, .int .i64 0] w fun e w' => e = .returned (.int .i64 (x.natAbs : Int)) ∧ w = w' := by
  have h1 : IntKind.i64.wrap (x - 0) = x := by rw [Int.sub_zero]; exact IntWalk.i64_in _ (by omega)
  have h2 : IntKind.i64.wrap (0 - x) = -x := by rw [Int.zero_sub]; exact IntWalk.i64_in _ (by omega)
  have hm : max x (-x) = (x.natAbs : Int) := by omega
  go_enter Try.func103, Try.ntmps103
  go_wp2
  go_ret
  exact ⟨by first | rfl | (rw [← hm]; rfl), rfl⟩

set_option maxRecDepth 100000 in
set_option maxHeartbeats 2000000 in
theorem cd_any (m n : Nat) (w : World) (hm : m ≤ 1000) (hn : n ≤ 1000) :
    Calls Try.prog 102 #[.int .i64 (m : Int), .int .i64 (n : Int)] w fun e w' => e = .returned (.int .i64 (Nat.gcd m n : Int)) ∧ Below w.heap.size w w' := by
  go_enter Try.func102, Try.ntmps102
  go_wp2
  go_loopw [0, 1] (fun u v wr => ∃ p q : Nat, u = .int .i64 p ∧ v = .int .i64 q ∧ p ≤ 1000 ∧ q ≤ 1000 ∧ Nat.gcd p q = Nat.gcd m n ∧ Below w.heap.size w wr) (fun _ v _ => (intOf v).toNat)
  case atStart => exact ⟨m, n, rfl, rfl, hm, hn, rfl, Below.refl _ _⟩
  case round =>
    obtain ⟨p, q, rfl, rfl, hp, hq, hgc, hbw⟩ := hrel
    have HB := Lib.hid hbw
    clear hbw
    have HGC := Lib.hid hgc
    clear hgc
    by_cases h0 : 0 < q
    · have hqi : (0 : Int) < (q : Int) := by omega
      have hmod : (p : Int) % (q : Int) = ((p % q : Nat) : Int) := (Int.natCast_emod p q).symm
      have hlt := Nat.mod_lt p h0
      obtain ⟨r, hr⟩ : ∃ r, p % q = r := ⟨_, rfl⟩
      rw [hr] at hmod hlt
      have HR := Lib.hid hr
      clear hr
      have q00 : ¬ q = 0 := by omega
      have q01 : ¬ (q : Int) = 0 := by omega
      have htm : (p : Int).tmod (q : Int) = (r : Int) := by rw [Int.tmod_eq_emod_of_nonneg (by omega), hmod]
      have hwr : IntKind.i64.wrap (r : Int) = (r : Int) := IntWalk.i64_in _ (by omega)
      go_wp2_with fail
      go_region
      all_goals go_wp2
      go_roundw
      case rel => exact ⟨q, r, rfl, rfl, hq, by omega, by rw [← HGC.out, ← HR.out, Nat.gcd_comm q, ← Nat.gcd_rec, Nat.gcd_comm], (by repeat (first | exact HB.out | refine below_drewN ?_ _ | refine Below.drew ?_))⟩
      case measure => simp [intOf]; omega
    · have hq0 : q = 0 := by omega
      subst hq0
      rw [Nat.gcd_zero_right] at HGC
      go_wp2
      go_ret
      exact ⟨by rw [← HGC.out]; rfl, HB.out⟩

set_option maxRecDepth 100000 in
set_option maxHeartbeats 2000000 in
theorem orbitLength_any (W H : Int) (ac up : Bool) (x y : Int) (w : World) (hg : goodA W H = true) (hx : -20 ≤ x ∧ x ≤ 20) (hy : -20 ≤ y ∧ y ≤ 20) :
    Calls Try.prog 75 #[ard W H ac up, lpr x y] w fun e w' => e = .returned (.int .i64 (orbN W H x y : Int)) ∧ Below w.heap.size w w' := by
  obtain ⟨⟨hW1, hW2b⟩, hH1, hH2⟩ := goodA_iff.1 hg
  obtain ⟨x1, x2⟩ := hx
  obtain ⟨y1, y2⟩ := hy
  obtain ⟨Wn, rfl⟩ : ∃ Wn : Nat, W = (Wn : Int) := ⟨W.toNat, by omega⟩
  obtain ⟨Hn, rfl⟩ : ∃ Hn : Nat, H = (Hn : Int) := ⟨H.toNat, by omega⟩
  have HON := Lib.hid (orbN_rng (x := x) (y := y) hg)
  have hp1 := perA_rng (n := (Wn : Int)) (x := x) ⟨hW1, hW2b⟩
  have hp2 := perA_rng (n := (Hn : Int)) (x := y) ⟨hH1, hH2⟩
  have HP1 := Lib.hid (show perA (Wn : Int) x = Wn / Nat.gcd Wn x.natAbs by rw [perA, Int.toNat_natCast]); have HP2 := Lib.hid (show perA (Hn : Int) y = Hn / Nat.gcd Hn y.natAbs by rw [perA, Int.toNat_natCast])
  have HOD := Lib.hid (show orbN (Wn : Int) (Hn : Int) x y = perA (Wn : Int) x / Nat.gcd (perA (Wn : Int) x) (perA (Hn : Int) y) * perA (Hn : Int) y from rfl)
  obtain ⟨LN, hLN⟩ : ∃ LN, orbN (Wn : Int) (Hn : Int) x y = LN := ⟨_, rfl⟩
  obtain ⟨P1, hP1⟩ : ∃ P1, perA (Wn : Int) x = P1 := ⟨_, rfl⟩
  obtain ⟨P2, hP2⟩ : ∃ P2, perA (Hn : Int) y = P2 := ⟨_, rfl⟩
  rw [hLN] at HON HOD ⊢
  rw [hP1] at HP1 HOD hp1
  rw [hP2] at HP2 HOD hp2
  have hxa : x.natAbs ≤ 20 := by omega
  have hya : y.natAbs ≤ 20 := by omega
  have hg1 : 0 < Nat.gcd Wn x.natAbs := Nat.gcd_pos_of_pos_left _ (by omega)
  have hg2 : 0 < Nat.gcd Hn y.natAbs := Nat.gcd_pos_of_pos_left _ (by omega)
  have hg3 : 0 < Nat.gcd P1 P2 := Nat.gcd_pos_of_pos_left _ (by omega)
  have hh1 : Nat.gcd Wn x.natAbs ≤ Wn := Nat.le_of_dvd (by omega) (Nat.gcd_dvd_left _ _)
  have hh2 : Nat.gcd Hn y.natAbs ≤ Hn := Nat.le_of_dvd (by omega) (Nat.gcd_dvd_left _ _)
  have hh3 : Nat.gcd P1 P2 ≤ P1 := Nat.le_of_dvd (by omega) (Nat.gcd_dvd_left _ _)
  have HAX := Lib.hid (fun w' => apart0_any x w' ⟨x1, x2⟩); have HAY := Lib.hid (fun w' => apart0_any y w' ⟨y1, y2⟩)
  have HC1 := Lib.hid (fun w' => cd_any Wn x.natAbs w' (by omega) (by omega)); have HC2 := Lib.hid (fun w' => cd_any Hn y.natAbs w' (by omega) (by omega)); have HC3 := Lib.hid (fun w' => cd_any P1 P2 w' (by omega) (by omega))
  obtain ⟨G1, hG1⟩ : ∃ G1, Nat.gcd Wn x.natAbs = G1 := ⟨_, rfl⟩
  obtain ⟨G2, hG2⟩ : ∃ G2, Nat.gcd Hn y.natAbs = G2 := ⟨_, rfl⟩
  obtain ⟨G3, hG3⟩ : ∃ G3, Nat.gcd P1 P2 = G3 := ⟨_, rfl⟩
  rw [hG1] at hg1 hh1 HC1 HP1
  rw [hG2] at hg2 hh2 HC2 HP2
  rw [hG3] at hg3 hh3 HC3 HOD
  obtain ⟨X, hX⟩ : ∃ X, x.natAbs = X := ⟨_, rfl⟩
  obtain ⟨Y, hY⟩ : ∃ Y, y.natAbs = Y := ⟨_, rfl⟩
  rw [hX] at HAX HC1 hxa
  rw [hY] at HAY HC2 hya
  have d1 : (Wn : Int) / (G1 : Int) = (P1 : Int) := by rw [← Int.natCast_ediv, ← HP1.out]
  have d2 : (Hn : Int) / (G2 : Int) = (P2 : Int) := by rw [← Int.natCast_ediv, ← HP2.out]
  obtain ⟨Q, hQ⟩ : ∃ Q, P1 / G3 = Q := ⟨_, rfl⟩
  have d3 : (P1 : Int) / (G3 : Int) = (Q : Int) := by rw [← Int.natCast_ediv, hQ]
  have hQ2 : Q ≤ 12 := by rw [← hQ]; exact Nat.le_trans (Nat.div_le_self _ _) hp1.2
  rw [hQ] at HOD
  have hQP : (Q : Int) * (P2 : Int) = (LN : Int) := by rw [← Int.natCast_mul, ← HOD.out]
  have hL1 := HON.out.1
  have hL2 := HON.out.2
  have m1 : ¬ G1 = 0 := by omega
  have m2 : ¬ G2 = 0 := by omega
  have m3 : ¬ G3 = 0 := by omega
  have w1 : IntKind.i64.wrap (P1 : Int) = (P1 : Int) := IntWalk.i64_in _ (by omega)
  have w2 : IntKind.i64.wrap (P2 : Int) = (P2 : Int) := IntWalk.i64_in _ (by omega)
  have k1 : (0 : Int) < (G1 : Int) := by omega
  have k2 : (0 : Int) < (G2 : Int) := by omega
  have k3 : (0 : Int) < (G3 : Int) := by omega
  obtain ⟨p11, p12⟩ := hp1
  obtain ⟨p21, p22⟩ := hp2
  clear hg hLN hP1 hP2 hG1 hG2 hG3 hX hY hQ HON HOD HP1 HP2
  obtain ⟨W2, hW2⟩ : ∃ W2, W2 = (w.alloc (.cells #[.int .i64 (Wn : Int), .int .i64 (Hn : Int), .bool ac, .bool up] 25)).alloc (.cells #[.int .i64 x, .int .i64 y] 59) := ⟨_, rfl⟩
  have hsz : W2.heap.size = w.heap.size + 2 := by rw [hW2]; simp
  have a0 : W2.cell? ⟨w.heap.size, 0, none⟩ = some (.int .i64 (Wn : Int)) := by rw [hW2]; go_simp
  have a1 : W2.cell? ⟨w.heap.size, 1, none⟩ = some (.int .i64 (Hn : Int)) := by rw [hW2]; go_simp
  have a2 : W2.cell? ⟨w.heap.size, 2, none⟩ = some (.bool ac) := by rw [hW2]; go_simp
  have a3 : W2.cell? ⟨w.heap.size, 3, none⟩ = some (.bool up) := by rw [hW2]; go_simp
  have al : w.heap.size < W2.heap.size := by omega
  have s0 : W2.cell? ⟨w.heap.size + 1, 0, none⟩ = some (.int .i64 x) := by rw [hW2]; go_simp
  have s1 : W2.cell? ⟨w.heap.size + 1, 1, none⟩ = some (.int .i64 y) := by rw [hW2]; go_simp
  have sl : w.heap.size + 1 < W2.heap.size := by omega
  have B := Lib.hid (show Below w.heap.size w W2 by rw [hW2]; repeat (first | exact Below.refl _ _ | refine below_new ?_ _))
  go_enter Try.func75, Try.ntmps75
  go_wp2_with fail
  rw [← hW2]
  clear hW2 hsz
  refine wp_region_held_drew (S := fun w' => w'.cell? ⟨w.heap.size, 0, none⟩ = some (.int .i64 (Wn : Int)) ∧ w'.cell? ⟨w.heap.size, 1, none⟩ = some (.int .i64 (Hn : Int)) ∧ w'.cell? ⟨w.heap.size + 1, 0, none⟩ = some (.int .i64 x) ∧ w'.cell? ⟨w.heap.size + 1, 1, none⟩ = some (.int .i64 y)) (by kernel_rfl) ?_ (fun hHeld => ?_)
  · (try dsimp only)
    exact ⟨a0, a1, s0, s1⟩
  refine wpAnyH_take (i := 0) (oi := ⟨_, _, _, _, _, _⟩) (v := ?_) rfl (by kernel_rfl) (by kernel_rfl) (by kernel_rfl) (fun _ _ _ h => h) (Or.inl ⟨by rfl, ?_⟩) (by assumption) ?_
  rotate_left
  · intro w hSw
    (try dsimp only at hSw)
    go_simp
    (try with_reducible rfl)
  (try simp only [Act.put, List.setIfInBounds_toArray, List.set_cons_zero, List.set_cons_succ])
  refine wpAnyH_take (i := 2) (oi := ⟨_, _, _, _, _, _⟩) (v := ?_) rfl (by kernel_rfl) (by kernel_rfl) (by kernel_rfl) (fun _ _ _ h => h) (Or.inl ⟨by rfl, ?_⟩) (by assumption) ?_
  rotate_left
  · intro w hSw
    (try dsimp only at hSw)
    go_simp
    (try with_reducible rfl)
  (try simp only [Act.put, List.setIfInBounds_toArray, List.set_cons_zero, List.set_cons_succ])
  refine wpAnyH_take (i := 4) (oi := ⟨_, _, _, _, _, _⟩) (v := ?_) rfl (by kernel_rfl) (by kernel_rfl) (by kernel_rfl) (fun _ _ _ h => h) (Or.inl ⟨by rfl, ?_⟩) (by assumption) ?_
  rotate_left
  · intro w hSw
    (try dsimp only at hSw)
    go_simp
    (try with_reducible rfl)
  (try simp only [Act.put, List.setIfInBounds_toArray, List.set_cons_zero, List.set_cons_succ])
  refine wpAnyH_take (i := 1) (oi := ⟨_, _, _, _, _, _⟩) (v := ?_) rfl (by kernel_rfl) (by kernel_rfl) (by kernel_rfl) (fun _ _ _ h => h) (Or.inl ⟨by rfl, ?_⟩) (by assumption) ?_
  rotate_left
  · intro w hSw
    (try dsimp only at hSw)
    go_simp
    (try with_reducible rfl)
  (try simp only [Act.put, List.setIfInBounds_toArray, List.set_cons_zero, List.set_cons_succ])
  refine wpAnyH_take (i := 3) (oi := ⟨_, _, _, _, _, _⟩) (v := ?_) rfl (by kernel_rfl) (by kernel_rfl) (by kernel_rfl) (fun _ _ _ h => h) (Or.inl ⟨by rfl, ?_⟩) (by assumption) ?_
  rotate_left
  · intro w hSw
    (try dsimp only at hSw)
    go_simp
    (try with_reducible rfl)
  (try simp only [Act.put, List.setIfInBounds_toArray, List.set_cons_zero, List.set_cons_succ])
  refine wpAnyH_take (i := 5) (oi := ⟨_, _, _, _, _, _⟩) (v := ?_) rfl (by kernel_rfl) (by kernel_rfl) (by kernel_rfl) (fun _ _ _ h => h) (Or.inl ⟨by rfl, ?_⟩) (by assumption) ?_
  rotate_left
  · intro w hSw
    (try dsimp only at hSw)
    go_simp
    (try with_reducible rfl)
  (try simp only [Act.put, List.setIfInBounds_toArray, List.set_cons_zero, List.set_cons_succ])
  refine wpAnyH_ready (rs := [6]) (by kernel_rfl) (by simp) ?_
  refine AllReadyH.cons (o := ⟨_, _, _, _, _, _⟩) rfl (fun K hK => ?_) AllReadyH.nil
  go_simp
  (go_at_call 103; refine (HAX.out _).mono ?_; rintro e w9 ⟨rfl, hww9⟩; subst hww9)
  (try go_wp2_with fail)
  refine hK.out _ _ ?_ (fun hHeld => ?_)
  · (try dsimp only)
    exact ⟨a0, a1, s0, s1⟩
  clear hK K
  (try simp only [Act.put, List.setIfInBounds_toArray, List.set_cons_zero, List.set_cons_succ])
  refine wpAnyH_ready (rs := [7]) (by kernel_rfl) (by simp) ?_
  refine AllReadyH.cons (o := ⟨_, _, _, _, _, _⟩) rfl (fun K hK => ?_) AllReadyH.nil
  go_simp
  (go_at_call 102; refine (HC1.out _).mono ?_; rintro e wx ⟨rfl, hb⟩; (repeat (first | replace hb := below_undrew hb | replace hb := below_undrewN hb)); replace a0 := cell_keep a0 al hb; replace a1 := cell_keep a1 al hb; replace a2 := cell_keep a2 al hb; replace a3 := cell_keep a3 al hb; replace al := lt_keep al hb; replace s0 := cell_keep s0 sl hb; replace s1 := cell_keep s1 sl hb; replace sl := lt_keep sl hb; replace B := Lib.hid (below_next B.out hb); clear hb)
  (try go_wp2_with fail)
  refine hK.out _ _ ?_ (fun hHeld => ?_)
  · (try dsimp only)
    exact ⟨a0, a1, s0, s1⟩
  clear hK K
  (try simp only [Act.put, List.setIfInBounds_toArray, List.set_cons_zero, List.set_cons_succ])
  refine wpAnyH_take (i := 8) (oi := ⟨_, _, _, _, _, _⟩) (v := ?_) rfl (by kernel_rfl) (by kernel_rfl) (by kernel_rfl) (fun _ _ _ h => h) (Or.inl ⟨by rfl, ?_⟩) (by assumption) ?_
  rotate_left
  · intro w hSw
    (try dsimp only at hSw)
    go_simp
    (try with_reducible rfl)
  (try simp only [Act.put, List.setIfInBounds_toArray, List.set_cons_zero, List.set_cons_succ])
  refine wpAnyH_take (i := 9) (oi := ⟨_, _, _, _, _, _⟩) (v := ?_) rfl (by kernel_rfl) (by kernel_rfl) (by kernel_rfl) (fun _ _ _ h => h) (Or.inl ⟨by rfl, ?_⟩) (by assumption) ?_
  rotate_left
  · intro w hSw
    (try dsimp only at hSw)
    go_simp
    (try with_reducible rfl)
  (try simp only [Act.put, List.setIfInBounds_toArray, List.set_cons_zero, List.set_cons_succ])
  refine wpAnyH_done (by kernel_rfl) ?_ _
  clear hHeld
  go_wp2_with fail
  refine wp_region_held_drew (S := fun w' => w'.cell? ⟨w.heap.size, 0, none⟩ = some (.int .i64 (Wn : Int)) ∧ w'.cell? ⟨w.heap.size, 1, none⟩ = some (.int .i64 (Hn : Int)) ∧ w'.cell? ⟨w.heap.size + 1, 0, none⟩ = some (.int .i64 x) ∧ w'.cell? ⟨w.heap.size + 1, 1, none⟩ = some (.int .i64 y)) (by kernel_rfl) ?_ (fun hHeld => ?_)
  · (try dsimp only)
    exact ⟨a0, a1, s0, s1⟩
  refine wpAnyH_take (i := 0) (oi := ⟨_, _, _, _, _, _⟩) (v := ?_) rfl (by kernel_rfl) (by kernel_rfl) (by kernel_rfl) (fun _ _ _ h => h) (Or.inl ⟨by rfl, ?_⟩) (by assumption) ?_
  rotate_left
  · intro w hSw
    (try dsimp only at hSw)
    go_simp
    (try with_reducible rfl)
  (try simp only [Act.put, List.setIfInBounds_toArray, List.set_cons_zero, List.set_cons_succ])
  refine wpAnyH_take (i := 2) (oi := ⟨_, _, _, _, _, _⟩) (v := ?_) rfl (by kernel_rfl) (by kernel_rfl) (by kernel_rfl) (fun _ _ _ h => h) (Or.inl ⟨by rfl, ?_⟩) (by assumption) ?_
  rotate_left
  · intro w hSw
    (try dsimp only at hSw)
    go_simp
    (try with_reducible rfl)
  (try simp only [Act.put, List.setIfInBounds_toArray, List.set_cons_zero, List.set_cons_succ])
  refine wpAnyH_take (i := 4) (oi := ⟨_, _, _, _, _, _⟩) (v := ?_) rfl (by kernel_rfl) (by kernel_rfl) (by kernel_rfl) (fun _ _ _ h => h) (Or.inl ⟨by rfl, ?_⟩) (by assumption) ?_
  rotate_left
  · intro w hSw
    (try dsimp only at hSw)
    go_simp
    (try with_reducible rfl)
  (try simp only [Act.put, List.setIfInBounds_toArray, List.set_cons_zero, List.set_cons_succ])
  refine wpAnyH_take (i := 1) (oi := ⟨_, _, _, _, _, _⟩) (v := ?_) rfl (by kernel_rfl) (by kernel_rfl) (by kernel_rfl) (fun _ _ _ h => h) (Or.inl ⟨by rfl, ?_⟩) (by assumption) ?_
  rotate_left
  · intro w hSw
    (try dsimp only at hSw)
    go_simp
    (try with_reducible rfl)
  (try simp only [Act.put, List.setIfInBounds_toArray, List.set_cons_zero, List.set_cons_succ])
  refine wpAnyH_take (i := 3) (oi := ⟨_, _, _, _, _, _⟩) (v := ?_) rfl (by kernel_rfl) (by kernel_rfl) (by kernel_rfl) (fun _ _ _ h => h) (Or.inl ⟨by rfl, ?_⟩) (by assumption) ?_
  rotate_left
  · intro w hSw
    (try dsimp only at hSw)
    go_simp
    (try with_reducible rfl)
  (try simp only [Act.put, List.setIfInBounds_toArray, List.set_cons_zero, List.set_cons_succ])
  refine wpAnyH_take (i := 5) (oi := ⟨_, _, _, _, _, _⟩) (v := ?_) rfl (by kernel_rfl) (by kernel_rfl) (by kernel_rfl) (fun _ _ _ h => h) (Or.inl ⟨by rfl, ?_⟩) (by assumption) ?_
  rotate_left
  · intro w hSw
    (try dsimp only at hSw)
    go_simp
    (try with_reducible rfl)
  (try simp only [Act.put, List.setIfInBounds_toArray, List.set_cons_zero, List.set_cons_succ])
  refine wpAnyH_ready (rs := [6]) (by kernel_rfl) (by simp) ?_
  refine AllReadyH.cons (o := ⟨_, _, _, _, _, _⟩) rfl (fun K hK => ?_) AllReadyH.nil
  go_simp
  (go_at_call 103; refine (HAY.out _).mono ?_; rintro e w9 ⟨rfl, hww9⟩; subst hww9)
  (try go_wp2_with fail)
  refine hK.out _ _ ?_ (fun hHeld => ?_)
  · (try dsimp only)
    exact ⟨a0, a1, s0, s1⟩
  clear hK K
  (try simp only [Act.put, List.setIfInBounds_toArray, List.set_cons_zero, List.set_cons_succ])
  refine wpAnyH_ready (rs := [7]) (by kernel_rfl) (by simp) ?_
  refine AllReadyH.cons (o := ⟨_, _, _, _, _, _⟩) rfl (fun K hK => ?_) AllReadyH.nil
  go_simp
  (go_at_call 102; refine (HC2.out _).mono ?_; rintro e wx ⟨rfl, hb⟩; (repeat (first | replace hb := below_undrew hb | replace hb := below_undrewN hb)); replace a0 := cell_keep a0 al hb; replace a1 := cell_keep a1 al hb; replace a2 := cell_keep a2 al hb; replace a3 := cell_keep a3 al hb; replace al := lt_keep al hb; replace s0 := cell_keep s0 sl hb; replace s1 := cell_keep s1 sl hb; replace sl := lt_keep sl hb; replace B := Lib.hid (below_next B.out hb); clear hb)
  (try go_wp2_with fail)
  refine hK.out _ _ ?_ (fun hHeld => ?_)
  · (try dsimp only)
    exact ⟨a0, a1, s0, s1⟩
  clear hK K
  (try simp only [Act.put, List.setIfInBounds_toArray, List.set_cons_zero, List.set_cons_succ])
  refine wpAnyH_take (i := 8) (oi := ⟨_, _, _, _, _, _⟩) (v := ?_) rfl (by kernel_rfl) (by kernel_rfl) (by kernel_rfl) (fun _ _ _ h => h) (Or.inl ⟨by rfl, ?_⟩) (by assumption) ?_
  rotate_left
  · intro w hSw
    (try dsimp only at hSw)
    go_simp
    (try with_reducible rfl)
  (try simp only [Act.put, List.setIfInBounds_toArray, List.set_cons_zero, List.set_cons_succ])
  refine wpAnyH_take (i := 9) (oi := ⟨_, _, _, _, _, _⟩) (v := ?_) rfl (by kernel_rfl) (by kernel_rfl) (by kernel_rfl) (fun _ _ _ h => h) (Or.inl ⟨by rfl, ?_⟩) (by assumption) ?_
  rotate_left
  · intro w hSw
    (try dsimp only at hSw)
    go_simp
    (try with_reducible rfl)
  (try simp only [Act.put, List.setIfInBounds_toArray, List.set_cons_zero, List.set_cons_succ])
  refine wpAnyH_done (by kernel_rfl) ?_ _
  clear hHeld
  clear a0 a1 a2 a3 s0 s1 al sl
  go_wp2_with fail
  refine (HC3.out _).mono ?_
  rintro e w9 ⟨rfl, hb⟩
  replace B := Lib.hid (B.out.trans (hb.mono (by first | exact B.out.size | (have := B.out.size; simp; omega))))
  clear hb
  go_wp2
  go_ret
  exact ⟨rfl, (by repeat (first | exact B.out | refine below_drewN ?_ _ | refine Below.drew ?_))⟩

set_option maxRecDepth 100000 in
set_option maxHeartbeats 2000000 in
theorem areOrbitsOf_any (W H : Int) (ac up : Bool) (x y : Int) (A2 : Option Addr) (m c2 : Nat) (ps : List Int) (w : World) (hp : Rd w A2 m ps) :
    Calls Try.prog 74 #[ard W H ac up, lpr x y, .slice A2 m c2] w fun e w' => e = .returned (.bool (aroundB W H ps && ac && up && byA x y)) ∧ Below w.heap.size w w' := by
  obtain ⟨W2, hW2⟩ : ∃ W2, W2 = (w.alloc (.cells #[.int .i64 W, .int .i64 H, .bool ac, .bool up] 25)).alloc (.cells #[.int .i64 x, .int .i64 y] 59) := ⟨_, rfl⟩
  have hsz : W2.heap.size = w.heap.size + 2 := by rw [hW2]; simp
  have a0 : W2.cell? ⟨w.heap.size, 0, none⟩ = some (.int .i64 W) := by rw [hW2]; go_simp
  have a1 : W2.cell? ⟨w.heap.size, 1, none⟩ = some (.int .i64 H) := by rw [hW2]; go_simp
  have a2 : W2.cell? ⟨w.heap.size, 2, none⟩ = some (.bool ac) := by rw [hW2]; go_simp
  have a3 : W2.cell? ⟨w.heap.size, 3, none⟩ = some (.bool up) := by rw [hW2]; go_simp
  have al : w.heap.size < W2.heap.size := by omega
  have s0 : W2.cell? ⟨w.heap.size + 1, 0, none⟩ = some (.int .i64 x) := by rw [hW2]; go_simp
  have s1 : W2.cell? ⟨w.heap.size + 1, 1, none⟩ = some (.int .i64 y) := by rw [hW2]; go_simp
  have sl : w.heap.size + 1 < W2.heap.size := by omega
  have B := Lib.hid (show Below w.heap.size w W2 by rw [hW2]; repeat (first | exact Below.refl _ _ | refine below_new ?_ _))
  have RP := Lib.hid (hp.keep B.out)
  clear hp
  cases hg : aroundB W H ps
  · go_enter Try.func74, Try.ntmps74
    go_wp2_with fail
    rw [← hW2]
    clear hW2
    refine (isAroundWith_any W H _ _ A2 m c2 ps _ RP.out).mono ?_
    rw [hg]
    rintro e wv ⟨rfl, hb⟩
    replace a0 := cell_keep a0 al hb
    replace a1 := cell_keep a1 al hb
    replace a2 := cell_keep a2 al hb
    replace a3 := cell_keep a3 al hb
    replace al := lt_keep al hb
    replace s0 := cell_keep s0 sl hb
    replace s1 := cell_keep s1 sl hb
    replace sl := lt_keep sl hb
    replace B := Lib.hid (below_next B.out hb)
    clear hb
    clear RP
    go_wp2
    go_ret
    exact ⟨ret_bool rfl, B.out⟩
  · cases ac
    · go_enter Try.func74, Try.ntmps74
      go_wp2_with fail
      rw [← hW2]
      clear hW2
      refine (isAroundWith_any W H _ _ A2 m c2 ps _ RP.out).mono ?_
      rw [hg]
      rintro e wv ⟨rfl, hb⟩
      replace a0 := cell_keep a0 al hb
      replace a1 := cell_keep a1 al hb
      replace a2 := cell_keep a2 al hb
      replace a3 := cell_keep a3 al hb
      replace al := lt_keep al hb
      replace s0 := cell_keep s0 sl hb
      replace s1 := cell_keep s1 sl hb
      replace sl := lt_keep sl hb
      replace B := Lib.hid (below_next B.out hb)
      clear hb
      clear RP
      go_wp2
      go_ret
      exact ⟨ret_bool rfl, B.out⟩
    cases up
    · go_enter Try.func74, Try.ntmps74
      go_wp2_with fail
      rw [← hW2]
      clear hW2
      refine (isAroundWith_any W H _ _ A2 m c2 ps _ RP.out).mono ?_
      rw [hg]
      rintro e wv ⟨rfl, hb⟩
      replace a0 := cell_keep a0 al hb
      replace a1 := cell_keep a1 al hb
      replace a2 := cell_keep a2 al hb
      replace a3 := cell_keep a3 al hb
      replace al := lt_keep al hb
      replace s0 := cell_keep s0 sl hb
      replace s1 := cell_keep s1 sl hb
      replace sl := lt_keep sl hb
      replace B := Lib.hid (below_next B.out hb)
      clear hb
      clear RP
      go_wp2
      go_ret
      exact ⟨ret_bool rfl, B.out⟩
    · go_enter Try.func74, Try.ntmps74
      go_wp2_with fail
      rw [← hW2]
      clear hW2
      refine (isAroundWith_any W H _ _ A2 m c2 ps _ RP.out).mono ?_
      rw [hg]
      rintro e wv ⟨rfl, hb⟩
      replace a0 := cell_keep a0 al hb
      replace a1 := cell_keep a1 al hb
      replace a2 := cell_keep a2 al hb
      replace a3 := cell_keep a3 al hb
      replace al := lt_keep al hb
      replace s0 := cell_keep s0 sl hb
      replace s1 := cell_keep s1 sl hb
      replace sl := lt_keep sl hb
      replace B := Lib.hid (below_next B.out hb)
      clear hb
      clear RP
      go_wp2_with fail
      refine (isWithin_any x y 20 _ (by decide) (by decide)).mono ?_
      rw [by_within]
      rintro e wx ⟨rfl, hb⟩
      replace a0 := cell_keep a0 al hb
      replace a1 := cell_keep a1 al hb
      replace a2 := cell_keep a2 al hb
      replace a3 := cell_keep a3 al hb
      replace al := lt_keep al hb
      replace s0 := cell_keep s0 sl hb
      replace s1 := cell_keep s1 sl hb
      replace sl := lt_keep sl hb
      replace B := Lib.hid (below_next B.out hb)
      clear hb
      clear a0 a1 a2 a3 s0 s1 al sl
      go_wp2
      go_ret
      exact ⟨ret_bool (by simp), B.out⟩

set_option maxRecDepth 100000 in
set_option maxHeartbeats 2000000 in
theorem impl_OrbitLength (W H : Int) (ac up : Bool) (x y : Int) (w : World) :
    Calls Try.prog 39 #[ard W H ac up, .int .i64 x, .int .i64 y] w fun e w' => e = .returned (.tuple #[.int .i64 (orbLenV W H ac up x y), .bool (joinB W H ac up x y)]) ∧ Below w.heap.size w w' := by
  obtain ⟨W2, hW2⟩ : ∃ W2, W2 = (w.alloc (.cells #[.int .i64 W, .int .i64 H, .bool ac, .bool up] 25)).alloc (.cells #[.int .i64 x, .int .i64 y] 59) := ⟨_, rfl⟩
  have hsz : W2.heap.size = w.heap.size + 2 := by rw [hW2]; simp
  have a0 : W2.cell? ⟨w.heap.size, 0, none⟩ = some (.int .i64 W) := by rw [hW2]; go_simp
  have a1 : W2.cell? ⟨w.heap.size, 1, none⟩ = some (.int .i64 H) := by rw [hW2]; go_simp
  have a2 : W2.cell? ⟨w.heap.size, 2, none⟩ = some (.bool ac) := by rw [hW2]; go_simp
  have a3 : W2.cell? ⟨w.heap.size, 3, none⟩ = some (.bool up) := by rw [hW2]; go_simp
  have al : w.heap.size < W2.heap.size := by omega
  have s0 : W2.cell? ⟨w.heap.size + 1, 0, none⟩ = some (.int .i64 x) := by rw [hW2]; go_simp
  have s1 : W2.cell? ⟨w.heap.size + 1, 1, none⟩ = some (.int .i64 y) := by rw [hW2]; go_simp
  have sl : w.heap.size + 1 < W2.heap.size := by omega
  have B := Lib.hid (show Below w.heap.size w W2 by rw [hW2]; repeat (first | exact Below.refl _ _ | refine below_new ?_ _))
  have HE := Lib.hid (show (aroundB W H [] && ac && up && byA x y) = joinB W H ac up x y by rw [aroundB_nil]; rfl)
  cases hj : joinB W H ac up x y
  · have OK := Lib.hid hj
    go_enter Try.func39, Try.ntmps39
    go_wp2_with fail
    rw [← hW2]
    clear hW2
    refine (areOrbitsOf_any W H ac up x y none 0 0 [] _ (Rd.nil _ _)).mono ?_
    rw [HE.out, hj]
    rintro e wv ⟨rfl, hb⟩
    replace a0 := cell_keep a0 al hb
    replace a1 := cell_keep a1 al hb
    replace a2 := cell_keep a2 al hb
    replace a3 := cell_keep a3 al hb
    replace al := lt_keep al hb
    replace s0 := cell_keep s0 sl hb
    replace s1 := cell_keep s1 sl hb
    replace sl := lt_keep sl hb
    replace B := Lib.hid (below_next B.out hb)
    clear hb
    clear HE
    clear a0 a1 a2 a3 s0 s1 al sl
    go_wp2
    go_ret2
    exact ⟨by rw [orbLenV_no OK.out]; rfl, B.out⟩
  · have OK := Lib.hid hj
    have HJ := Lib.hid (joinB_iff.1 hj)
    have HY := Lib.hid (byA_iff.1 HJ.out.2.2.2)
    have hA := areaA HJ.out.1
    obtain ⟨A1, A2⟩ := hA
    obtain ⟨L1, L2⟩ := orbN_rng (x := x) (y := y) HJ.out.1
    have HOL := Lib.hid (fun w' => orbitLength_any W H ac up x y w' HJ.out.1 HY.out.1 HY.out.2)
    go_enter Try.func39, Try.ntmps39
    go_wp2_with fail
    rw [← hW2]
    clear hW2
    refine (areOrbitsOf_any W H ac up x y none 0 0 [] _ (Rd.nil _ _)).mono ?_
    rw [HE.out, hj]
    rintro e wv ⟨rfl, hb⟩
    replace a0 := cell_keep a0 al hb
    replace a1 := cell_keep a1 al hb
    replace a2 := cell_keep a2 al hb
    replace a3 := cell_keep a3 al hb
    replace al := lt_keep al hb
    replace s0 := cell_keep s0 sl hb
    replace s1 := cell_keep s1 sl hb
    replace sl := lt_keep sl hb
    replace B := Lib.hid (below_next B.out hb)
    clear hb
    clear HE
    go_wp2_with fail
    refine (HOL.out _).mono ?_
    rintro e wx ⟨rfl, hb⟩
    replace a0 := cell_keep a0 al hb
    replace a1 := cell_keep a1 al hb
    replace a2 := cell_keep a2 al hb
    replace a3 := cell_keep a3 al hb
    replace al := lt_keep al hb
    replace s0 := cell_keep s0 sl hb
    replace s1 := cell_keep s1 sl hb
    replace sl := lt_keep sl hb
    replace B := Lib.hid (below_next B.out hb)
    clear hb
    clear a0 a1 a2 a3 s0 s1 al sl
    go_wp2
    go_ret2
    exact ⟨by rw [orbLenV, OK.out]; rfl, B.out⟩

set_option maxRecDepth 100000 in
set_option maxHeartbeats 2000000 in
theorem impl_CountOrbits (W H : Int) (ac up : Bool) (x y : Int) (w : World) :
    Calls Try.prog 41 #[ard W H ac up, .int .i64 x, .int .i64 y] w fun e w' => e = .returned (.tuple #[.int .i64 (orbCntV W H ac up x y), .bool (joinB W H ac up x y)]) ∧ Below w.heap.size w w' := by
  obtain ⟨W2, hW2⟩ : ∃ W2, W2 = (w.alloc (.cells #[.int .i64 W, .int .i64 H, .bool ac, .bool up] 25)).alloc (.cells #[.int .i64 x, .int .i64 y] 59) := ⟨_, rfl⟩
  have hsz : W2.heap.size = w.heap.size + 2 := by rw [hW2]; simp
  have a0 : W2.cell? ⟨w.heap.size, 0, none⟩ = some (.int .i64 W) := by rw [hW2]; go_simp
  have a1 : W2.cell? ⟨w.heap.size, 1, none⟩ = some (.int .i64 H) := by rw [hW2]; go_simp
  have a2 : W2.cell? ⟨w.heap.size, 2, none⟩ = some (.bool ac) := by rw [hW2]; go_simp
  have a3 : W2.cell? ⟨w.heap.size, 3, none⟩ = some (.bool up) := by rw [hW2]; go_simp
  have al : w.heap.size < W2.heap.size := by omega
  have s0 : W2.cell? ⟨w.heap.size + 1, 0, none⟩ = some (.int .i64 x) := by rw [hW2]; go_simp
  have s1 : W2.cell? ⟨w.heap.size + 1, 1, none⟩ = some (.int .i64 y) := by rw [hW2]; go_simp
  have sl : w.heap.size + 1 < W2.heap.size := by omega
  have B := Lib.hid (show Below w.heap.size w W2 by rw [hW2]; repeat (first | exact Below.refl _ _ | refine below_new ?_ _))
  have HE := Lib.hid (show (aroundB W H [] && ac && up && byA x y) = joinB W H ac up x y by rw [aroundB_nil]; rfl)
  cases hj : joinB W H ac up x y
  · have OK := Lib.hid hj
    go_enter Try.func41, Try.ntmps41
    go_wp2_with fail
    rw [← hW2]
    clear hW2
    refine (areOrbitsOf_any W H ac up x y none 0 0 [] _ (Rd.nil _ _)).mono ?_
    rw [HE.out, hj]
    rintro e wv ⟨rfl, hb⟩
    replace a0 := cell_keep a0 al hb
    replace a1 := cell_keep a1 al hb
    replace a2 := cell_keep a2 al hb
    replace a3 := cell_keep a3 al hb
    replace al := lt_keep al hb
    replace s0 := cell_keep s0 sl hb
    replace s1 := cell_keep s1 sl hb
    replace sl := lt_keep sl hb
    replace B := Lib.hid (below_next B.out hb)
    clear hb
    clear HE
    clear a0 a1 a2 a3 s0 s1 al sl
    go_wp2
    go_ret2
    exact ⟨by rw [orbCntV_no OK.out]; rfl, B.out⟩
  · have OK := Lib.hid hj
    have HJ := Lib.hid (joinB_iff.1 hj)
    have HY := Lib.hid (byA_iff.1 HJ.out.2.2.2)
    have hA := areaA HJ.out.1
    obtain ⟨A1, A2⟩ := hA
    obtain ⟨L1, L2⟩ := orbN_rng (x := x) (y := y) HJ.out.1
    have HOL := Lib.hid (fun w' => orbitLength_any W H ac up x y w' HJ.out.1 HY.out.1 HY.out.2)
    obtain ⟨LN, hLN⟩ : ∃ LN, orbN W H x y = LN := ⟨_, rfl⟩
    rw [hLN] at L1 L2 HOL
    have HV := Lib.hid (show orbCntV W H ac up x y = (W * H) / (LN : Int) by rw [orbCntV, hj, ← hLN]; rfl)
    clear hLN
    have hl0 : (0 : Int) < (LN : Int) := by omega
    have hl00 : ¬ LN = 0 := by omega
    have hl01 : ¬ (LN : Int) = 0 := by omega
    have hl1 : (LN : Int) ≤ 144 := by omega
    have htd : (W * H).tdiv (LN : Int) = W * H / (LN : Int) := Int.tdiv_eq_ediv_of_nonneg (by omega)
    have hq0 : 0 ≤ W * H / (LN : Int) := Int.ediv_nonneg (by omega) (by omega)
    have hq1 : W * H / (LN : Int) ≤ 144 := Int.le_trans (Int.ediv_le_self _ (by omega)) A2
    have hwq : IntKind.i64.wrap (W * H / (LN : Int)) = W * H / (LN : Int) := IntWalk.i64_in _ (by omega)
    have HSZ := Lib.hid (fun w' => sizeA_any W H ac up w' HJ.out.1)
    go_enter Try.func41, Try.ntmps41
    go_wp2_with fail
    rw [← hW2]
    clear hW2
    refine (areOrbitsOf_any W H ac up x y none 0 0 [] _ (Rd.nil _ _)).mono ?_
    rw [HE.out, hj]
    rintro e wv ⟨rfl, hb⟩
    replace a0 := cell_keep a0 al hb
    replace a1 := cell_keep a1 al hb
    replace a2 := cell_keep a2 al hb
    replace a3 := cell_keep a3 al hb
    replace al := lt_keep al hb
    replace s0 := cell_keep s0 sl hb
    replace s1 := cell_keep s1 sl hb
    replace sl := lt_keep sl hb
    replace B := Lib.hid (below_next B.out hb)
    clear hb
    clear HE
    go_wp2_with fail
    refine wp_region_held_drew (S := fun w' => w'.cell? ⟨w.heap.size, 0, none⟩ = some (.int .i64 W) ∧ w'.cell? ⟨w.heap.size, 1, none⟩ = some (.int .i64 H) ∧ w'.cell? ⟨w.heap.size, 2, none⟩ = some (.bool ac) ∧ w'.cell? ⟨w.heap.size, 3, none⟩ = some (.bool up) ∧ w'.cell? ⟨w.heap.size + 1, 0, none⟩ = some (.int .i64 x) ∧ w'.cell? ⟨w.heap.size + 1, 1, none⟩ = some (.int .i64 y)) (by kernel_rfl) ?_ (fun hHeld => ?_)
    · (try dsimp only)
      exact ⟨a0, a1, a2, a3, s0, s1⟩
    refine wpAnyH_take (i := 0) (oi := ⟨_, _, _, _, _, _⟩) (v := ?_) rfl (by kernel_rfl) (by kernel_rfl) (by kernel_rfl) (fun _ _ _ h => h) (Or.inl ⟨by rfl, ?_⟩) (by assumption) ?_
    rotate_left
    · intro w hSw
      (try dsimp only at hSw)
      go_simp
      (try with_reducible rfl)
    (try simp only [Act.put, List.setIfInBounds_toArray, List.set_cons_zero, List.set_cons_succ])
    refine wpAnyH_take (i := 2) (oi := ⟨_, _, _, _, _, _⟩) (v := ?_) rfl (by kernel_rfl) (by kernel_rfl) (by kernel_rfl) (fun _ _ _ h => h) (Or.inl ⟨by rfl, ?_⟩) (by assumption) ?_
    rotate_left
    · intro w hSw
      (try dsimp only at hSw)
      go_simp
      (try with_reducible rfl)
    (try simp only [Act.put, List.setIfInBounds_toArray, List.set_cons_zero, List.set_cons_succ])
    refine wpAnyH_take (i := 3) (oi := ⟨_, _, _, _, _, _⟩) (v := ?_) rfl (by kernel_rfl) (by kernel_rfl) (by kernel_rfl) (fun _ _ _ h => h) (Or.inl ⟨by rfl, ?_⟩) (by assumption) ?_
    rotate_left
    · intro w hSw
      (try dsimp only at hSw)
      go_simp
      (try with_reducible rfl)
    (try simp only [Act.put, List.setIfInBounds_toArray, List.set_cons_zero, List.set_cons_succ])
    refine wpAnyH_ready (rs := [1]) (by kernel_rfl) (by simp) ?_
    refine AllReadyH.cons (o := ⟨_, _, _, _, _, _⟩) rfl (fun K hK => ?_) AllReadyH.nil
    go_simp
    (go_at_call 76; refine (HSZ.out _).mono ?_; rintro e wx ⟨rfl, hb⟩; (repeat (first | replace hb := below_undrew hb | replace hb := below_undrewN hb)); replace a0 := cell_keep a0 al hb; replace a1 := cell_keep a1 al hb; replace a2 := cell_keep a2 al hb; replace a3 := cell_keep a3 al hb; replace al := lt_keep al hb; replace s0 := cell_keep s0 sl hb; replace s1 := cell_keep s1 sl hb; replace sl := lt_keep sl hb; replace B := Lib.hid (below_next B.out hb); clear hb)
    (try go_wp2_with fail)
    refine hK.out _ _ ?_ (fun hHeld => ?_)
    · (try dsimp only)
      exact ⟨a0, a1, a2, a3, s0, s1⟩
    clear hK K
    (try simp only [Act.put, List.setIfInBounds_toArray, List.set_cons_zero, List.set_cons_succ])
    refine wpAnyH_ready (rs := [4]) (by kernel_rfl) (by simp) ?_
    refine AllReadyH.cons (o := ⟨_, _, _, _, _, _⟩) rfl (fun K hK => ?_) AllReadyH.nil
    go_simp
    (go_at_call 75; refine (HOL.out _).mono ?_; rintro e wy ⟨rfl, hb⟩; (repeat (first | replace hb := below_undrew hb | replace hb := below_undrewN hb)); replace a0 := cell_keep a0 al hb; replace a1 := cell_keep a1 al hb; replace a2 := cell_keep a2 al hb; replace a3 := cell_keep a3 al hb; replace al := lt_keep al hb; replace s0 := cell_keep s0 sl hb; replace s1 := cell_keep s1 sl hb; replace sl := lt_keep sl hb; replace B := Lib.hid (below_next B.out hb); clear hb)
    (try go_wp2_with fail)
    refine hK.out _ _ ?_ (fun hHeld => ?_)
    · (try dsimp only)
      exact ⟨a0, a1, a2, a3, s0, s1⟩
    clear hK K
    (try simp only [Act.put, List.setIfInBounds_toArray, List.set_cons_zero, List.set_cons_succ])
    refine wpAnyH_take (i := 5) (oi := ⟨_, _, _, _, _, _⟩) (v := ?_) rfl (by kernel_rfl) (by kernel_rfl) (by kernel_rfl) (fun _ _ _ h => h) (Or.inl ⟨by rfl, ?_⟩) (by assumption) ?_
    rotate_left
    · intro w hSw
      (try dsimp only at hSw)
      go_simp
      (try with_reducible rfl)
    (try simp only [Act.put, List.setIfInBounds_toArray, List.set_cons_zero, List.set_cons_succ])
    refine wpAnyH_take (i := 6) (oi := ⟨_, _, _, _, _, _⟩) (v := ?_) rfl (by kernel_rfl) (by kernel_rfl) (by kernel_rfl) (fun _ _ _ h => h) (Or.inl ⟨by rfl, ?_⟩) (by assumption) ?_
    rotate_left
    · intro w hSw
      (try dsimp only at hSw)
      go_simp
      (try with_reducible rfl)
    (try simp only [Act.put, List.setIfInBounds_toArray, List.set_cons_zero, List.set_cons_succ])
    refine wpAnyH_take (i := 7) (oi := ⟨_, _, _, _, _, _⟩) (v := ?_) rfl (by kernel_rfl) (by kernel_rfl) (by kernel_rfl) (fun _ _ _ h => h) (Or.inl ⟨by rfl, ?_⟩) (by assumption) ?_
    rotate_left
    · intro w hSw
      (try dsimp only at hSw)
      go_simp
      (try with_reducible rfl)
    (try simp only [Act.put, List.setIfInBounds_toArray, List.set_cons_zero, List.set_cons_succ])
    refine wpAnyH_done (by kernel_rfl) ?_ _
    clear hHeld
    clear a0 a1 a2 a3 s0 s1 al sl
    go_wp2
    go_ret2
    exact ⟨by rw [HV.out]; rfl, (by repeat (first | exact B.out | refine below_drewN ?_ _ | refine Below.drew ?_))⟩

end Go.Proofs.Ytaliknhfcdmohaa
