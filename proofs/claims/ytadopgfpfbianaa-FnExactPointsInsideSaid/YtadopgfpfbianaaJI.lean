/-
  Contracts: areas of rings, points on them and inside.
-/
import Derived.Test.YtadopgfpfbianaaJH
import Derived.Test.YtadopgfpfbianaaF1
namespace Go.Proofs.Ytadopgfpfbianaa
open Go.RowKit

theorem ring_leaper {W H a b : Int} {xs ps : List Int} (h : okRg W H xs a b ps = true) : leaperB a b = true := two_leaper (ring_parts h).1
def areaR (W H : Int) (xs : List Int) (a b : Int) (ps : List Int) : Int := if okRg W H xs a b ps then areaV W ps else 0
def onNum (a b : Int) (ps : List Int) : Int := (ps.length : Int) * gcdV a b
def onR (W H : Int) (xs : List Int) (a b : Int) (ps : List Int) : Int := if okRg W H xs a b ps then onNum a b ps else 0
def insNum (W a b : Int) (ps : List Int) : Int := (absV (areaV W ps) + 2 - onNum a b ps).tdiv 2
def insR (W H : Int) (xs : List Int) (a b : Int) (ps : List Int) : Int := if okRg W H xs a b ps then insNum W a b ps else 0
theorem areaV_bd {W : Int} {ps : List Int} (hW : 1 ≤ W ∧ W ≤ 8) (h : ∀ x ∈ ps, 0 ≤ x ∧ x < 64) (hn : ps.length ≤ 1000) : -10000000 ≤ areaV W ps ∧ areaV W ps ≤ 10000000 := by
  have h1 := areaTo_bd hW h (ps.length - 2)
  rw [areaV]; omega
theorem absV_big {x : Int} (h : -10000000 ≤ x ∧ x ≤ 10000000) : 0 ≤ absV x ∧ absV x ≤ 10000000 := by unfold absV; split <;> omega
theorem onNum_bd {a b : Int} {ps : List Int} (hl : leaperB a b = true) (hn : ps.length ≤ 1000) : 0 ≤ onNum a b ps ∧ onNum a b ps ≤ 5000 := by
  have hg := gcdV_rng hl
  have h1 := Int.mul_nonneg (show 0 ≤ (ps.length : Int) by omega) (show 0 ≤ gcdV a b by omega)
  have h2 := Int.mul_le_mul (show (ps.length : Int) ≤ 1000 by omega) hg.2 (by omega) (by omega)
  unfold onNum; omega
theorem insNum_bd {W a b : Int} {ps : List Int} (h1 : -10000000 ≤ areaV W ps ∧ areaV W ps ≤ 10000000) (h2 : 0 ≤ onNum a b ps ∧ onNum a b ps ≤ 5000) : -20000000 ≤ insNum W a b ps ∧ insNum W a b ps ≤ 20000000 := by
  have h3 := absV_big h1
  have h4 := Int.natAbs_tdiv_le_natAbs (absV (areaV W ps) + 2 - onNum a b ps) 2
  unfold insNum; omega

set_option maxHeartbeats 400000 in
theorem l1AbsW_any (x : Int) (w : World) (h1 : -10000000 ≤ x) (h2 : x ≤ 10000000) :
    Calls Try.prog 91 #[.int .i64 x] w fun e w' => e = .returned (.int .i64 (absV x)) ∧ w = w' := by
  by_cases h : x < 0
  · have h3 : ¬ -x < x := by omega
    go_enter Try.func91, Try.ntmps91
    go_wp2
    go_ret
    exact ⟨ret_int (by unfold absV; split <;> omega), rfl⟩
  · by_cases h0 : x = 0
    · subst h0
      go_enter Try.func91, Try.ntmps91
      go_wp2
      go_ret
      exact ⟨ret_int (by unfold absV; split <;> omega), rfl⟩
    · have h3 : -x < x := by omega
      go_enter Try.func91, Try.ntmps91
      go_wp2
      go_ret
      exact ⟨ret_int (by unfold absV; split <;> omega), rfl⟩
set_option maxHeartbeats 400000 in
theorem apartW_any (x : Int) (w : World) (h1 : -10000000 ≤ x) (h2 : x ≤ 10000000) :
    Calls Try.prog 93 #[.int .i64 x, .int .i64 0] w fun e w' => e = .returned (.int .i64 (absV x)) ∧ w = w' := by
  go_enter Try.func93, Try.ntmps93
  go_wp2
  all_goals (go_ret; exact ⟨ret_int (by unfold absV; split <;> omega), rfl⟩)

set_option maxHeartbeats 1000000 in
theorem crCommon_any (a b : Int) (w : World) (hl : leaperB a b = true) :
    Calls Try.prog 121 #[.int .i64 a, .int .i64 b] w fun e w' => e = .returned (.int .i64 (gcdV a b)) ∧ Below w.heap.size w w' := by
  obtain ⟨l1, l2, l3, l4⟩ := leaperB_iff.1 hl
  clear hl
  go_enter Try.func121, Try.ntmps121
  go_wp2
  go_loopw [0, 1] (fun y x wr => ∃ m n : Nat, m ≤ 5 ∧ n ≤ 5 ∧ x = .int .i64 n ∧ y = .int .i64 m ∧ Nat.gcd n m = Nat.gcd a.toNat b.toNat ∧ Below w.heap.size w wr) (fun _ x _ => (intOf x).toNat)
  case atStart => exact ⟨a.toNat, b.toNat, by omega, by omega, by go_num, by go_num, Nat.gcd_comm _ _, Below.refl _ _⟩
  case round =>
    obtain ⟨m, n, hm, hn, rfl, rfl, hgc, hbw⟩ := hrel
    have HG := Lib.hid hgc; have HB := Lib.hid hbw
    clear hgc hbw
    by_cases h : 0 < n
    · have hn0 : ¬ (n : Int) = 0 := by omega
      go_wp2
      go_quiet (fail)
      go_wp2
      go_roundw
      case rel => exact ⟨n, m % n, by omega, by have := Nat.mod_lt m h; omega, by go_num, rfl, by rw [gcd_step]; exact HG.out, below_drewN HB.out _⟩
      case measure => simp [intOf]; have := Nat.mod_lt m h; omega
    · obtain rfl : n = 0 := by omega
      go_wp2
      go_ret
      exact ⟨by rw [gcdV, ← HG.out]; simp, HB.out⟩

set_option maxHeartbeats 1000000 in
theorem crOnRing_any (a b : Int) (A2 : Option Addr) (m c2 : Nat) (ps : List Int) (w : World) (hp : Rd w A2 m ps) (hl : leaperB a b = true) (hm : m ≤ 1000) :
    Calls Try.prog 88 #[lpr a b, .slice A2 m c2] w fun e w' => e = .returned (.int .i64 (onNum a b ps)) ∧ Below w.heap.size w w' := by
  have HPL := Lib.hid hp.1
  have hb2 := onNum_bd (ps := ps) hl (by rw [hp.1]; exact hm)
  have hw1 : IntKind.i64.wrap ((m : Int) * gcdV a b) = (m : Int) * gcdV a b := by rw [← hp.1]; exact IntWalk.i64_in _ (by have := hb2; unfold onNum at this; omega)
  have HL := Lib.hid hl
  clear hp hl hb2
  go_enter Try.func88, Try.ntmps88
  go_wp2_with fail
  refine (crCommon_any a b _ HL.out).mono ?_
  rintro e wv ⟨rfl, hb⟩
  have B := Lib.hid (below_box hb)
  clear hb
  go_wp2
  go_ret
  exact ⟨ret_int (by rw [onNum, HPL.out]), B.out⟩
set_option maxHeartbeats 1000000 in
theorem pointsOnRing_any (a b : Int) (A2 : Option Addr) (m c2 : Nat) (ps : List Int) (w : World) (hp : Rd w A2 m ps) (hl : leaperB a b = true) (hm : m ≤ 1000) :
    Calls Try.prog 90 #[lpr a b, .slice A2 m c2] w fun e w' => e = .returned (.int .i64 (onNum a b ps)) ∧ Below w.heap.size w w' := by
  have HPL := Lib.hid hp.1
  have hb2 := onNum_bd (ps := ps) hl (by rw [hp.1]; exact hm)
  have hw1 : IntKind.i64.wrap ((m : Int) * gcdV a b) = (m : Int) * gcdV a b := by rw [← hp.1]; exact IntWalk.i64_in _ (by have := hb2; unfold onNum at this; omega)
  have HL := Lib.hid hl
  clear hp hl hb2
  go_enter Try.func90, Try.ntmps90
  go_wp2_with fail
  refine (commonStep_any a b _ HL.out).mono ?_
  rintro e wv ⟨rfl, hb⟩
  have B := Lib.hid (below_box hb)
  clear hb
  go_wp2
  go_ret
  exact ⟨ret_int (by rw [onNum, HPL.out]), B.out⟩

set_option maxRecDepth 100000 in
set_option maxHeartbeats 2000000 in
theorem crArea_any (W H : Int) (A : Option Addr) (n c : Nat) (A2 : Option Addr) (m c2 : Nat) (ps : List Int) (w : World) (hp : Rd w A2 m ps) (hW : 1 ≤ W ∧ W ≤ 8) (h64 : ∀ x ∈ ps, 0 ≤ x ∧ x < 64) (hm : 1 ≤ m ∧ m ≤ 1000) :
    Calls Try.prog 92 #[brd W H A n c, .slice A2 m c2] w fun e w' => e = .returned (.int .i64 (areaV W ps)) ∧ Below w.heap.size w w' := by
  have HPL := Lib.hid hp.1
  have HW := Lib.hid hW; have H64 := Lib.hid h64
  obtain ⟨hm1, hm2⟩ := hm
  obtain ⟨W2, hW2⟩ : ∃ W2, W2 = w.alloc (.cells #[.int .i64 W, .int .i64 H, .slice A n c] 24) := ⟨_, rfl⟩
  have a0 : W2.cell? ⟨w.heap.size, 0, none⟩ = some (.int .i64 W) := by rw [hW2]; go_simp
  have a1 : W2.cell? ⟨w.heap.size, 1, none⟩ = some (.int .i64 H) := by rw [hW2]; go_simp
  have a2 : W2.cell? ⟨w.heap.size, 2, none⟩ = some (.slice A n c) := by rw [hW2]; go_simp
  have al : w.heap.size < W2.heap.size := by rw [hW2]; simp
  have B := Lib.hid (show Below w.heap.size w W2 by rw [hW2]; exact below_new (Below.refl _ _) _)
  have RP := Lib.hid (hp.keep B.out)
  clear hp hW h64
  go_enter Try.func92, Try.ntmps92
  go_wp2_with fail
  rw [← hW2]
  clear hW2
  go_loopw [5, 6] (fun sv i wr => ∃ k : Nat, k ≤ m ∧ (k = 0 ∨ k + 1 < m) ∧ i = .int .i64 ((k : Int) + 2) ∧ sv = .int .i64 (areaTo W ps k) ∧ Below W2.heap.size W2 wr) (fun _ i _ => m - (intOf i).toNat)
  case atStart => exact ⟨0, Nat.zero_le _, Or.inl rfl, by go_num, rfl, Below.refl _ _⟩
  case round =>
    obtain ⟨k, hk, hkm, rfl, rfl, hbw⟩ := hrel
    have HB := Lib.hid hbw
    by_cases hlt : k + 2 < m
    · obtain ⟨bb, oo, x, rfl, g0, hx, x0⟩ := RP.out.at_ (k := 0) (by omega)
      obtain ⟨b4, o4, y, he4, -, hy, y0⟩ := RP.out.at_ (k := k + 1) (by omega)
      obtain ⟨b5, o5, z, he5, -, hz, z0⟩ := RP.out.at_ (k := k + 2) (by omega)
      injection he4 with he4
      injection he4 with e1 e2 _
      subst e1 e2
      injection he5 with he5
      injection he5 with e1 e2 _
      subst e1 e2
      rw [Nat.add_zero] at x0
      replace x0 := cell_keep x0 g0 hbw; replace y0 := cell_keep y0 g0 hbw; replace z0 := cell_keep z0 g0 hbw
      have b0 := cell_keep a0 al hbw; have b1 := cell_keep a1 al hbw; have b2 := cell_keep a2 al hbw; have bl := lt_keep al hbw
      have g1 := lt_keep g0 hbw
      have HX64 := Lib.hid (show 0 ≤ x ∧ x ≤ 64 by have := H64.out x (List.mem_of_getElem? hx); omega)
      have HY64 := Lib.hid (show 0 ≤ y ∧ y ≤ 64 by have := H64.out y (List.mem_of_getElem? hy); omega)
      have HZ64 := Lib.hid (show 0 ≤ z ∧ z ≤ 64 by have := H64.out z (List.mem_of_getElem? hz); omega)
      have HA := Lib.hid (show areaTo W ps (k + 1) = areaTo W ps k + triV W x y z by rw [areaTo, List.getD_eq_getElem?_getD, List.getD_eq_getElem?_getD, List.getD_eq_getElem?_getD, hx, hy, hz]; rfl)
      have t1 := areaTo_bd HW.out H64.out k
      have t2 := tri_bd HW.out HX64.out HY64.out HZ64.out
      have k1 : (k : Int) + 2 < (m : Int) := by omega
      have m0 : 0 < m := by omega
      have mi : (0 : Int) < (m : Int) := by omega
      have k4 : (0 : Int) ≤ (k : Int) + 1 := by omega
      have k5 : (k : Int) + 1 < (m : Int) := by omega
      have k6 : (0 : Int) ≤ (k : Int) + 2 := by omega
      have w2 : IntKind.i64.wrap ((k : Int) + 2 - 1) = (k : Int) + 1 := by rw [show (k : Int) + 2 - 1 = (k : Int) + 1 by omega]; exact IntWalk.i64_in _ (by omega)
      have w3 : IntKind.i64.wrap ((k : Int) + 1) = (k : Int) + 1 := IntWalk.i64_in _ (by omega)
      have w5 : ((k : Int) + 1).toNat = k + 1 := by omega
      have w6 : ((k : Int) + 2).toNat = k + 2 := by omega
      have w7 : IntKind.i64.wrap (areaTo W ps k + triV W x y z) = areaTo W ps k + triV W x y z := IntWalk.i64_in _ (by omega)
      clear hbw hkm g0 hx hy hz t1 t2
      go_wp2_with fail
      refine wp_region_held_drew (S := fun w' => w'.cell? ⟨w.heap.size, 0, none⟩ = some (.int .i64 W) ∧ w'.cell? ⟨w.heap.size, 1, none⟩ = some (.int .i64 H) ∧ w'.cell? ⟨w.heap.size, 2, none⟩ = some (.slice A n c) ∧ w'.cell? ⟨bb, oo, none⟩ = some (.int .i64 x) ∧ w'.cell? ⟨bb, oo + (k + 1), none⟩ = some (.int .i64 y) ∧ w'.cell? ⟨bb, oo + (k + 2), none⟩ = some (.int .i64 z)) (by kernel_rfl) ?_ (fun hHeld => ?_)
      · (try dsimp only)
        exact ⟨b0, b1, b2, x0, y0, z0⟩
      refine wpAnyH_take (i := 0) (oi := ⟨_, _, _, _, _, _⟩) (v := ?_) rfl (by kernel_rfl) (by kernel_rfl) (by kernel_rfl) (fun _ _ _ h => h) (Or.inl ⟨by rfl, ?_⟩) (by assumption) ?_
      rotate_left
      · intro w hSw
        (try dsimp only at hSw)
        go_simp
        (try with_reducible rfl)
      (try simp only [Act.put, List.setIfInBounds_toArray, List.set_cons_zero, List.set_cons_succ])
      refine wpAnyH_take (i := 1) (oi := ⟨_, _, _, _, _, _⟩) (v := ?_) rfl (by kernel_rfl) (by kernel_rfl) (by kernel_rfl) (fun _ _ _ h => h) (Or.inl ⟨by rfl, ?_⟩) (by assumption) ?_
      rotate_left
      · intro w hSw
        (try dsimp only at hSw)
        go_simp
        (try with_reducible rfl)
      (try simp only [Act.put, List.setIfInBounds_toArray, List.set_cons_zero, List.set_cons_succ])
      refine wpAnyH_take (i := 2) (oi := ⟨_, _, _, _, _, _⟩) (v := ?_) rfl (by kernel_rfl) (by kernel_rfl) (by kernel_rfl) (fun _ _ _ h => h) (Or.inl ⟨by rfl, ?_⟩) (by assumption) ?_
      rotate_left
      · intro w hSw
        (try dsimp only at hSw)
        go_simp
        (try with_reducible rfl)
      (try simp only [Act.put, List.setIfInBounds_toArray, List.set_cons_zero, List.set_cons_succ])
      refine wpAnyH_take (i := 3) (oi := ⟨_, _, _, _, _, _⟩) (v := ?_) rfl (by kernel_rfl) (by kernel_rfl) (by kernel_rfl) (fun _ _ _ h => h) (Or.inl ⟨by rfl, ?_⟩) (by assumption) ?_
      rotate_left
      · intro w hSw
        (try dsimp only at hSw)
        go_simp
        (try with_reducible rfl)
      (try simp only [Act.put, List.setIfInBounds_toArray, List.set_cons_zero, List.set_cons_succ])
      refine wpAnyH_take (i := 4) (oi := ⟨_, _, _, _, _, _⟩) (v := ?_) rfl (by kernel_rfl) (by kernel_rfl) (by kernel_rfl) (fun _ _ _ h => h) (Or.inl ⟨by rfl, ?_⟩) (by assumption) ?_
      rotate_left
      · intro w hSw
        (try dsimp only at hSw)
        go_simp
        (try with_reducible rfl)
      (try simp only [Act.put, List.setIfInBounds_toArray, List.set_cons_zero, List.set_cons_succ])
      refine wpAnyH_take (i := 5) (oi := ⟨_, _, _, _, _, _⟩) (v := ?_) rfl (by kernel_rfl) (by kernel_rfl) (by kernel_rfl) (fun _ _ _ h => h) (Or.inl ⟨by rfl, ?_⟩) (by assumption) ?_
      rotate_left
      · intro w hSw
        (try dsimp only at hSw)
        go_simp
        (try with_reducible rfl)
      (try simp only [Act.put, List.setIfInBounds_toArray, List.set_cons_zero, List.set_cons_succ])
      refine wpAnyH_take (i := 6) (oi := ⟨_, _, _, _, _, _⟩) (v := ?_) rfl (by kernel_rfl) (by kernel_rfl) (by kernel_rfl) (fun _ _ _ h => h) (Or.inl ⟨by rfl, ?_⟩) (by assumption) ?_
      rotate_left
      · intro w hSw
        (try dsimp only at hSw)
        go_simp
        (try with_reducible rfl)
      (try simp only [Act.put, List.setIfInBounds_toArray, List.set_cons_zero, List.set_cons_succ])
      refine wpAnyH_take (i := 7) (oi := ⟨_, _, _, _, _, _⟩) (v := ?_) rfl (by kernel_rfl) (by kernel_rfl) (by kernel_rfl) (fun _ _ _ h => h) (Or.inl ⟨by rfl, ?_⟩) (by assumption) ?_
      rotate_left
      · intro w hSw
        (try dsimp only at hSw)
        go_simp
        (try with_reducible rfl)
      (try simp only [Act.put, List.setIfInBounds_toArray, List.set_cons_zero, List.set_cons_succ])
      refine wpAnyH_take (i := 8) (oi := ⟨_, _, _, _, _, _⟩) (v := ?_) rfl (by kernel_rfl) (by kernel_rfl) (by kernel_rfl) (fun _ _ _ h => h) (Or.inl ⟨by rfl, ?_⟩) (by assumption) ?_
      rotate_left
      · intro w hSw
        (try dsimp only at hSw)
        go_simp
        (try with_reducible rfl)
      (try simp only [Act.put, List.setIfInBounds_toArray, List.set_cons_zero, List.set_cons_succ])
      refine wpAnyH_take (i := 9) (oi := ⟨_, _, _, _, _, _⟩) (v := ?_) rfl (by kernel_rfl) (by kernel_rfl) (by kernel_rfl) (fun _ _ _ h => h) (Or.inl ⟨by rfl, ?_⟩) (by assumption) ?_
      rotate_left
      · intro w hSw
        (try dsimp only at hSw)
        go_simp
        (try with_reducible rfl)
      (try simp only [Act.put, List.setIfInBounds_toArray, List.set_cons_zero, List.set_cons_succ])
      refine wpAnyH_take (i := 10) (oi := ⟨_, _, _, _, _, _⟩) (v := ?_) rfl (by kernel_rfl) (by kernel_rfl) (by kernel_rfl) (fun _ _ _ h => h) (Or.inl ⟨by rfl, ?_⟩) (by assumption) ?_
      rotate_left
      · intro w hSw
        (try dsimp only at hSw)
        go_simp
        (try with_reducible rfl)
      (try simp only [Act.put, List.setIfInBounds_toArray, List.set_cons_zero, List.set_cons_succ])
      refine wpAnyH_take (i := 11) (oi := ⟨_, _, _, _, _, _⟩) (v := ?_) rfl (by kernel_rfl) (by kernel_rfl) (by kernel_rfl) (fun _ _ _ h => h) (Or.inl ⟨by rfl, ?_⟩) (by assumption) ?_
      rotate_left
      · intro w hSw
        (try dsimp only at hSw)
        go_simp
        (try with_reducible rfl)
      (try simp only [Act.put, List.setIfInBounds_toArray, List.set_cons_zero, List.set_cons_succ])
      refine wpAnyH_take (i := 12) (oi := ⟨_, _, _, _, _, _⟩) (v := ?_) rfl (by kernel_rfl) (by kernel_rfl) (by kernel_rfl) (fun _ _ _ h => h) (Or.inl ⟨by rfl, ?_⟩) (by assumption) ?_
      rotate_left
      · intro w hSw
        (try dsimp only at hSw)
        go_simp
        (try with_reducible rfl)
      (try simp only [Act.put, List.setIfInBounds_toArray, List.set_cons_zero, List.set_cons_succ])
      refine wpAnyH_take (i := 13) (oi := ⟨_, _, _, _, _, _⟩) (v := ?_) rfl (by kernel_rfl) (by kernel_rfl) (by kernel_rfl) (fun _ _ _ h => h) (Or.inl ⟨by rfl, ?_⟩) (by assumption) ?_
      rotate_left
      · intro w hSw
        (try dsimp only at hSw)
        go_simp
        (try with_reducible rfl)
      (try simp only [Act.put, List.setIfInBounds_toArray, List.set_cons_zero, List.set_cons_succ])
      refine wpAnyH_ready (rs := [14]) (by kernel_rfl) (by simp) ?_
      refine AllReadyH.cons (o := ⟨_, _, _, _, _, _⟩) rfl (fun K hK => ?_) AllReadyH.nil
      go_simp
      (go_at_call 125; refine (crCross_any W H A n c x y z _ HW.out HX64.out HY64.out HZ64.out).mono ?_; rintro e wx ⟨rfl, hb⟩; (repeat (first | replace hb := below_undrew hb | replace hb := below_undrewN hb)); replace b0 := cell_keep b0 bl hb; replace b1 := cell_keep b1 bl hb; replace b2 := cell_keep b2 bl hb; replace bl := lt_keep bl hb; replace x0 := cell_keep x0 g1 hb; replace y0 := cell_keep y0 g1 hb; replace z0 := cell_keep z0 g1 hb; replace g1 := lt_keep g1 hb; replace HB := Lib.hid (below_next HB.out hb); clear hb)
      (try go_wp2_with fail)
      refine hK.out _ _ ?_ (fun hHeld => ?_)
      · (try dsimp only)
        exact ⟨b0, b1, b2, x0, y0, z0⟩
      clear hK K
      (try simp only [Act.put, List.setIfInBounds_toArray, List.set_cons_zero, List.set_cons_succ])
      refine wpAnyH_take (i := 15) (oi := ⟨_, _, _, _, _, _⟩) (v := ?_) rfl (by kernel_rfl) (by kernel_rfl) (by kernel_rfl) (fun _ _ _ h => h) (Or.inl ⟨by rfl, ?_⟩) (by assumption) ?_
      rotate_left
      · intro w hSw
        (try dsimp only at hSw)
        go_simp
        (try with_reducible rfl)
      (try simp only [Act.put, List.setIfInBounds_toArray, List.set_cons_zero, List.set_cons_succ])
      refine wpAnyH_take (i := 16) (oi := ⟨_, _, _, _, _, _⟩) (v := ?_) rfl (by kernel_rfl) (by kernel_rfl) (by kernel_rfl) (fun _ _ _ h => h) (Or.inl ⟨by rfl, ?_⟩) (by assumption) ?_
      rotate_left
      · intro w hSw
        (try dsimp only at hSw)
        go_simp
        (try with_reducible rfl)
      (try simp only [Act.put, List.setIfInBounds_toArray, List.set_cons_zero, List.set_cons_succ])
      refine wpAnyH_done (by kernel_rfl) ?_ _
      go_wp2
      go_roundw
      case rel => exact ⟨k + 1, by omega, Or.inr (by omega), by go_num, by rw [HA.out], HB.out⟩
      case measure => simp [intOf]; omega
    · have HE := Lib.hid (show areaV W ps = areaTo W ps k by rw [areaV, HPL.out]; congr 1; omega)
      have k1 : ¬ (k : Int) + 2 < (m : Int) := by omega
      clear hbw hkm
      go_wp2
      go_ret
      exact ⟨ret_int (by rw [HE.out]), below_next B.out HB.out⟩

set_option maxRecDepth 100000 in
set_option maxHeartbeats 2000000 in
theorem twiceArea_any (W H : Int) (A : Option Addr) (n c : Nat) (A2 : Option Addr) (m c2 : Nat) (ps : List Int) (w : World) (hp : Rd w A2 m ps) (hW : 1 ≤ W ∧ W ≤ 8) (h64 : ∀ x ∈ ps, 0 ≤ x ∧ x < 64) (hm : 1 ≤ m ∧ m ≤ 1000) :
    Calls Try.prog 94 #[brd W H A n c, .slice A2 m c2] w fun e w' => e = .returned (.int .i64 (areaV W ps)) ∧ Below w.heap.size w w' := by
  have HPL := Lib.hid hp.1
  have HW := Lib.hid hW; have H64 := Lib.hid h64
  obtain ⟨hm1, hm2⟩ := hm
  obtain ⟨W2, hW2⟩ : ∃ W2, W2 = w.alloc (.cells #[.int .i64 W, .int .i64 H, .slice A n c] 24) := ⟨_, rfl⟩
  have a0 : W2.cell? ⟨w.heap.size, 0, none⟩ = some (.int .i64 W) := by rw [hW2]; go_simp
  have a1 : W2.cell? ⟨w.heap.size, 1, none⟩ = some (.int .i64 H) := by rw [hW2]; go_simp
  have a2 : W2.cell? ⟨w.heap.size, 2, none⟩ = some (.slice A n c) := by rw [hW2]; go_simp
  have al : w.heap.size < W2.heap.size := by rw [hW2]; simp
  have B := Lib.hid (show Below w.heap.size w W2 by rw [hW2]; exact below_new (Below.refl _ _) _)
  have RP := Lib.hid (hp.keep B.out)
  clear hp hW h64
  go_enter Try.func94, Try.ntmps94
  go_wp2_with fail
  rw [← hW2]
  clear hW2
  go_loopw [5, 6] (fun sv i wr => ∃ k : Nat, k ≤ m ∧ (k = 0 ∨ k + 1 < m) ∧ i = .int .i64 ((k : Int) + 2) ∧ sv = .int .i64 (areaTo W ps k) ∧ Below W2.heap.size W2 wr) (fun _ i _ => m - (intOf i).toNat)
  case atStart => exact ⟨0, Nat.zero_le _, Or.inl rfl, by go_num, rfl, Below.refl _ _⟩
  case round =>
    obtain ⟨k, hk, hkm, rfl, rfl, hbw⟩ := hrel
    have HB := Lib.hid hbw
    by_cases hlt : k + 2 < m
    · obtain ⟨bb, oo, x, rfl, g0, hx, x0⟩ := RP.out.at_ (k := 0) (by omega)
      obtain ⟨b4, o4, y, he4, -, hy, y0⟩ := RP.out.at_ (k := k + 1) (by omega)
      obtain ⟨b5, o5, z, he5, -, hz, z0⟩ := RP.out.at_ (k := k + 2) (by omega)
      injection he4 with he4
      injection he4 with e1 e2 _
      subst e1 e2
      injection he5 with he5
      injection he5 with e1 e2 _
      subst e1 e2
      rw [Nat.add_zero] at x0
      replace x0 := cell_keep x0 g0 hbw; replace y0 := cell_keep y0 g0 hbw; replace z0 := cell_keep z0 g0 hbw
      have b0 := cell_keep a0 al hbw; have b1 := cell_keep a1 al hbw; have b2 := cell_keep a2 al hbw; have bl := lt_keep al hbw
      have g1 := lt_keep g0 hbw
      have HX64 := Lib.hid (show 0 ≤ x ∧ x ≤ 64 by have := H64.out x (List.mem_of_getElem? hx); omega)
      have HY64 := Lib.hid (show 0 ≤ y ∧ y ≤ 64 by have := H64.out y (List.mem_of_getElem? hy); omega)
      have HZ64 := Lib.hid (show 0 ≤ z ∧ z ≤ 64 by have := H64.out z (List.mem_of_getElem? hz); omega)
      have HA := Lib.hid (show areaTo W ps (k + 1) = areaTo W ps k + triV W x y z by rw [areaTo, List.getD_eq_getElem?_getD, List.getD_eq_getElem?_getD, List.getD_eq_getElem?_getD, hx, hy, hz]; rfl)
      have t1 := areaTo_bd HW.out H64.out k
      have t2 := tri_bd HW.out HX64.out HY64.out HZ64.out
      have k1 : (k : Int) + 2 < (m : Int) := by omega
      have m0 : 0 < m := by omega
      have mi : (0 : Int) < (m : Int) := by omega
      have k4 : (0 : Int) ≤ (k : Int) + 1 := by omega
      have k5 : (k : Int) + 1 < (m : Int) := by omega
      have k6 : (0 : Int) ≤ (k : Int) + 2 := by omega
      have w2 : IntKind.i64.wrap ((k : Int) + 2 - 1) = (k : Int) + 1 := by rw [show (k : Int) + 2 - 1 = (k : Int) + 1 by omega]; exact IntWalk.i64_in _ (by omega)
      have w3 : IntKind.i64.wrap ((k : Int) + 1) = (k : Int) + 1 := IntWalk.i64_in _ (by omega)
      have w5 : ((k : Int) + 1).toNat = k + 1 := by omega
      have w6 : ((k : Int) + 2).toNat = k + 2 := by omega
      have w7 : IntKind.i64.wrap (areaTo W ps k + triV W x y z) = areaTo W ps k + triV W x y z := IntWalk.i64_in _ (by omega)
      clear hbw hkm g0 hx hy hz t1 t2
      go_wp2_with fail
      refine wp_region_held_drew (S := fun w' => w'.cell? ⟨w.heap.size, 0, none⟩ = some (.int .i64 W) ∧ w'.cell? ⟨w.heap.size, 1, none⟩ = some (.int .i64 H) ∧ w'.cell? ⟨w.heap.size, 2, none⟩ = some (.slice A n c) ∧ w'.cell? ⟨bb, oo, none⟩ = some (.int .i64 x) ∧ w'.cell? ⟨bb, oo + (k + 1), none⟩ = some (.int .i64 y) ∧ w'.cell? ⟨bb, oo + (k + 2), none⟩ = some (.int .i64 z)) (by kernel_rfl) ?_ (fun hHeld => ?_)
      · (try dsimp only)
        exact ⟨b0, b1, b2, x0, y0, z0⟩
      refine wpAnyH_take (i := 0) (oi := ⟨_, _, _, _, _, _⟩) (v := ?_) rfl (by kernel_rfl) (by kernel_rfl) (by kernel_rfl) (fun _ _ _ h => h) (Or.inl ⟨by rfl, ?_⟩) (by assumption) ?_
      rotate_left
      · intro w hSw
        (try dsimp only at hSw)
        go_simp
        (try with_reducible rfl)
      (try simp only [Act.put, List.setIfInBounds_toArray, List.set_cons_zero, List.set_cons_succ])
      refine wpAnyH_take (i := 1) (oi := ⟨_, _, _, _, _, _⟩) (v := ?_) rfl (by kernel_rfl) (by kernel_rfl) (by kernel_rfl) (fun _ _ _ h => h) (Or.inl ⟨by rfl, ?_⟩) (by assumption) ?_
      rotate_left
      · intro w hSw
        (try dsimp only at hSw)
        go_simp
        (try with_reducible rfl)
      (try simp only [Act.put, List.setIfInBounds_toArray, List.set_cons_zero, List.set_cons_succ])
      refine wpAnyH_take (i := 2) (oi := ⟨_, _, _, _, _, _⟩) (v := ?_) rfl (by kernel_rfl) (by kernel_rfl) (by kernel_rfl) (fun _ _ _ h => h) (Or.inl ⟨by rfl, ?_⟩) (by assumption) ?_
      rotate_left
      · intro w hSw
        (try dsimp only at hSw)
        go_simp
        (try with_reducible rfl)
      (try simp only [Act.put, List.setIfInBounds_toArray, List.set_cons_zero, List.set_cons_succ])
      refine wpAnyH_take (i := 3) (oi := ⟨_, _, _, _, _, _⟩) (v := ?_) rfl (by kernel_rfl) (by kernel_rfl) (by kernel_rfl) (fun _ _ _ h => h) (Or.inl ⟨by rfl, ?_⟩) (by assumption) ?_
      rotate_left
      · intro w hSw
        (try dsimp only at hSw)
        go_simp
        (try with_reducible rfl)
      (try simp only [Act.put, List.setIfInBounds_toArray, List.set_cons_zero, List.set_cons_succ])
      refine wpAnyH_take (i := 4) (oi := ⟨_, _, _, _, _, _⟩) (v := ?_) rfl (by kernel_rfl) (by kernel_rfl) (by kernel_rfl) (fun _ _ _ h => h) (Or.inl ⟨by rfl, ?_⟩) (by assumption) ?_
      rotate_left
      · intro w hSw
        (try dsimp only at hSw)
        go_simp
        (try with_reducible rfl)
      (try simp only [Act.put, List.setIfInBounds_toArray, List.set_cons_zero, List.set_cons_succ])
      refine wpAnyH_take (i := 6) (oi := ⟨_, _, _, _, _, _⟩) (v := ?_) rfl (by kernel_rfl) (by kernel_rfl) (by kernel_rfl) (fun _ _ _ h => h) (Or.inl ⟨by rfl, ?_⟩) (by assumption) ?_
      rotate_left
      · intro w hSw
        (try dsimp only at hSw)
        go_simp
        (try with_reducible rfl)
      (try simp only [Act.put, List.setIfInBounds_toArray, List.set_cons_zero, List.set_cons_succ])
      refine wpAnyH_take (i := 7) (oi := ⟨_, _, _, _, _, _⟩) (v := ?_) rfl (by kernel_rfl) (by kernel_rfl) (by kernel_rfl) (fun _ _ _ h => h) (Or.inl ⟨by rfl, ?_⟩) (by assumption) ?_
      rotate_left
      · intro w hSw
        (try dsimp only at hSw)
        go_simp
        (try with_reducible rfl)
      (try simp only [Act.put, List.setIfInBounds_toArray, List.set_cons_zero, List.set_cons_succ])
      refine wpAnyH_take (i := 8) (oi := ⟨_, _, _, _, _, _⟩) (v := ?_) rfl (by kernel_rfl) (by kernel_rfl) (by kernel_rfl) (fun _ _ _ h => h) (Or.inl ⟨by rfl, ?_⟩) (by assumption) ?_
      rotate_left
      · intro w hSw
        (try dsimp only at hSw)
        go_simp
        (try with_reducible rfl)
      (try simp only [Act.put, List.setIfInBounds_toArray, List.set_cons_zero, List.set_cons_succ])
      refine wpAnyH_take (i := 9) (oi := ⟨_, _, _, _, _, _⟩) (v := ?_) rfl (by kernel_rfl) (by kernel_rfl) (by kernel_rfl) (fun _ _ _ h => h) (Or.inl ⟨by rfl, ?_⟩) (by assumption) ?_
      rotate_left
      · intro w hSw
        (try dsimp only at hSw)
        go_simp
        (try with_reducible rfl)
      (try simp only [Act.put, List.setIfInBounds_toArray, List.set_cons_zero, List.set_cons_succ])
      refine wpAnyH_take (i := 10) (oi := ⟨_, _, _, _, _, _⟩) (v := ?_) rfl (by kernel_rfl) (by kernel_rfl) (by kernel_rfl) (fun _ _ _ h => h) (Or.inl ⟨by rfl, ?_⟩) (by assumption) ?_
      rotate_left
      · intro w hSw
        (try dsimp only at hSw)
        go_simp
        (try with_reducible rfl)
      (try simp only [Act.put, List.setIfInBounds_toArray, List.set_cons_zero, List.set_cons_succ])
      refine wpAnyH_take (i := 11) (oi := ⟨_, _, _, _, _, _⟩) (v := ?_) rfl (by kernel_rfl) (by kernel_rfl) (by kernel_rfl) (fun _ _ _ h => h) (Or.inl ⟨by rfl, ?_⟩) (by assumption) ?_
      rotate_left
      · intro w hSw
        (try dsimp only at hSw)
        go_simp
        (try with_reducible rfl)
      (try simp only [Act.put, List.setIfInBounds_toArray, List.set_cons_zero, List.set_cons_succ])
      refine wpAnyH_take (i := 13) (oi := ⟨_, _, _, _, _, _⟩) (v := ?_) rfl (by kernel_rfl) (by kernel_rfl) (by kernel_rfl) (fun _ _ _ h => h) (Or.inl ⟨by rfl, ?_⟩) (by assumption) ?_
      rotate_left
      · intro w hSw
        (try dsimp only at hSw)
        go_simp
        (try with_reducible rfl)
      (try simp only [Act.put, List.setIfInBounds_toArray, List.set_cons_zero, List.set_cons_succ])
      refine wpAnyH_take (i := 14) (oi := ⟨_, _, _, _, _, _⟩) (v := ?_) rfl (by kernel_rfl) (by kernel_rfl) (by kernel_rfl) (fun _ _ _ h => h) (Or.inl ⟨by rfl, ?_⟩) (by assumption) ?_
      rotate_left
      · intro w hSw
        (try dsimp only at hSw)
        go_simp
        (try with_reducible rfl)
      (try simp only [Act.put, List.setIfInBounds_toArray, List.set_cons_zero, List.set_cons_succ])
      refine wpAnyH_take (i := 15) (oi := ⟨_, _, _, _, _, _⟩) (v := ?_) rfl (by kernel_rfl) (by kernel_rfl) (by kernel_rfl) (fun _ _ _ h => h) (Or.inl ⟨by rfl, ?_⟩) (by assumption) ?_
      rotate_left
      · intro w hSw
        (try dsimp only at hSw)
        go_simp
        (try with_reducible rfl)
      (try simp only [Act.put, List.setIfInBounds_toArray, List.set_cons_zero, List.set_cons_succ])
      refine wpAnyH_take (i := 16) (oi := ⟨_, _, _, _, _, _⟩) (v := ?_) rfl (by kernel_rfl) (by kernel_rfl) (by kernel_rfl) (fun _ _ _ h => h) (Or.inl ⟨by rfl, ?_⟩) (by assumption) ?_
      rotate_left
      · intro w hSw
        (try dsimp only at hSw)
        go_simp
        (try with_reducible rfl)
      (try simp only [Act.put, List.setIfInBounds_toArray, List.set_cons_zero, List.set_cons_succ])
      refine wpAnyH_take (i := 17) (oi := ⟨_, _, _, _, _, _⟩) (v := ?_) rfl (by kernel_rfl) (by kernel_rfl) (by kernel_rfl) (fun _ _ _ h => h) (Or.inl ⟨by rfl, ?_⟩) (by assumption) ?_
      rotate_left
      · intro w hSw
        (try dsimp only at hSw)
        go_simp
        (try with_reducible rfl)
      (try simp only [Act.put, List.setIfInBounds_toArray, List.set_cons_zero, List.set_cons_succ])
      refine wpAnyH_ready (rs := [5]) (by kernel_rfl) (by simp) ?_
      refine AllReadyH.cons (o := ⟨_, _, _, _, _, _⟩) rfl (fun K hK => ?_) AllReadyH.nil
      go_simp
      (go_at_call 72; refine (spotOf_any W H A n c x _ HW.out HX64.out).mono ?_; rintro e wx ⟨rfl, hb⟩; (repeat (first | replace hb := below_undrew hb | replace hb := below_undrewN hb)); replace b0 := cell_keep b0 bl hb; replace b1 := cell_keep b1 bl hb; replace b2 := cell_keep b2 bl hb; replace bl := lt_keep bl hb; replace x0 := cell_keep x0 g1 hb; replace y0 := cell_keep y0 g1 hb; replace z0 := cell_keep z0 g1 hb; replace g1 := lt_keep g1 hb; replace HB := Lib.hid (below_next HB.out hb); clear hb)
      (try go_wp2_with fail)
      refine hK.out _ _ ?_ (fun hHeld => ?_)
      · (try dsimp only)
        exact ⟨b0, b1, b2, x0, y0, z0⟩
      clear hK K
      (try simp only [Act.put, List.setIfInBounds_toArray, List.set_cons_zero, List.set_cons_succ])
      refine wpAnyH_ready (rs := [12]) (by kernel_rfl) (by simp) ?_
      refine AllReadyH.cons (o := ⟨_, _, _, _, _, _⟩) rfl (fun K hK => ?_) AllReadyH.nil
      go_simp
      (go_at_call 72; refine (spotOf_any W H A n c y _ HW.out HY64.out).mono ?_; rintro e wx ⟨rfl, hb⟩; (repeat (first | replace hb := below_undrew hb | replace hb := below_undrewN hb)); replace b0 := cell_keep b0 bl hb; replace b1 := cell_keep b1 bl hb; replace b2 := cell_keep b2 bl hb; replace bl := lt_keep bl hb; replace x0 := cell_keep x0 g1 hb; replace y0 := cell_keep y0 g1 hb; replace z0 := cell_keep z0 g1 hb; replace g1 := lt_keep g1 hb; replace HB := Lib.hid (below_next HB.out hb); clear hb)
      (try go_wp2_with fail)
      refine hK.out _ _ ?_ (fun hHeld => ?_)
      · (try dsimp only)
        exact ⟨b0, b1, b2, x0, y0, z0⟩
      clear hK K
      (try simp only [Act.put, List.setIfInBounds_toArray, List.set_cons_zero, List.set_cons_succ])
      refine wpAnyH_ready (rs := [18]) (by kernel_rfl) (by simp) ?_
      refine AllReadyH.cons (o := ⟨_, _, _, _, _, _⟩) rfl (fun K hK => ?_) AllReadyH.nil
      go_simp
      (go_at_call 72; refine (spotOf_any W H A n c z _ HW.out HZ64.out).mono ?_; rintro e wx ⟨rfl, hb⟩; (repeat (first | replace hb := below_undrew hb | replace hb := below_undrewN hb)); replace b0 := cell_keep b0 bl hb; replace b1 := cell_keep b1 bl hb; replace b2 := cell_keep b2 bl hb; replace bl := lt_keep bl hb; replace x0 := cell_keep x0 g1 hb; replace y0 := cell_keep y0 g1 hb; replace z0 := cell_keep z0 g1 hb; replace g1 := lt_keep g1 hb; replace HB := Lib.hid (below_next HB.out hb); clear hb)
      (try go_wp2_with fail)
      refine hK.out _ _ ?_ (fun hHeld => ?_)
      · (try dsimp only)
        exact ⟨b0, b1, b2, x0, y0, z0⟩
      clear hK K
      (try simp only [Act.put, List.setIfInBounds_toArray, List.set_cons_zero, List.set_cons_succ])
      refine wpAnyH_ready (rs := [19]) (by kernel_rfl) (by simp) ?_
      refine AllReadyH.cons (o := ⟨_, _, _, _, _, _⟩) rfl (fun K hK => ?_) AllReadyH.nil
      go_simp
      (go_at_call 126; refine (turn_any (x % W) (x / W) (y % W) (y / W) (z % W) (z / W) _ (cell_bd HW.out HX64.out).1 (cell_bd HW.out HX64.out).2 (cell_bd HW.out HY64.out).1 (cell_bd HW.out HY64.out).2 (cell_bd HW.out HZ64.out).1 (cell_bd HW.out HZ64.out).2).mono ?_; rw [show turnS (x % W, x / W) (y % W, y / W) (z % W, z / W) = triV W x y z from turn_cross _ _ _]; rintro e wx ⟨rfl, hb⟩; (repeat (first | replace hb := below_undrew hb | replace hb := below_undrewN hb)); replace b0 := cell_keep b0 bl hb; replace b1 := cell_keep b1 bl hb; replace b2 := cell_keep b2 bl hb; replace bl := lt_keep bl hb; replace x0 := cell_keep x0 g1 hb; replace y0 := cell_keep y0 g1 hb; replace z0 := cell_keep z0 g1 hb; replace g1 := lt_keep g1 hb; replace HB := Lib.hid (below_next HB.out hb); clear hb)
      (try go_wp2_with fail)
      refine hK.out _ _ ?_ (fun hHeld => ?_)
      · (try dsimp only)
        exact ⟨b0, b1, b2, x0, y0, z0⟩
      clear hK K
      (try simp only [Act.put, List.setIfInBounds_toArray, List.set_cons_zero, List.set_cons_succ])
      refine wpAnyH_take (i := 20) (oi := ⟨_, _, _, _, _, _⟩) (v := ?_) rfl (by kernel_rfl) (by kernel_rfl) (by kernel_rfl) (fun _ _ _ h => h) (Or.inl ⟨by rfl, ?_⟩) (by assumption) ?_
      rotate_left
      · intro w hSw
        (try dsimp only at hSw)
        go_simp
        (try with_reducible rfl)
      (try simp only [Act.put, List.setIfInBounds_toArray, List.set_cons_zero, List.set_cons_succ])
      refine wpAnyH_take (i := 21) (oi := ⟨_, _, _, _, _, _⟩) (v := ?_) rfl (by kernel_rfl) (by kernel_rfl) (by kernel_rfl) (fun _ _ _ h => h) (Or.inl ⟨by rfl, ?_⟩) (by assumption) ?_
      rotate_left
      · intro w hSw
        (try dsimp only at hSw)
        go_simp
        (try with_reducible rfl)
      (try simp only [Act.put, List.setIfInBounds_toArray, List.set_cons_zero, List.set_cons_succ])
      refine wpAnyH_done (by kernel_rfl) ?_ _
      go_wp2
      go_roundw
      case rel => exact ⟨k + 1, by omega, Or.inr (by omega), by go_num, by rw [HA.out], HB.out⟩
      case measure => simp [intOf]; omega
    · have HE := Lib.hid (show areaV W ps = areaTo W ps k by rw [areaV, HPL.out]; congr 1; omega)
      have k1 : ¬ (k : Int) + 2 < (m : Int) := by omega
      clear hbw hkm
      go_wp2
      go_ret
      exact ⟨ret_int (by rw [HE.out]), below_next B.out HB.out⟩

set_option maxRecDepth 100000 in
set_option maxHeartbeats 1000000 in
theorem spec_PointsOnRing (W H : Int) (A : Option Addr) (n c : Nat) (xs : List Int) (a b : Int) (A2 : Option Addr) (m c2 : Nat) (ps : List Int) (w : World) (ha : Rd w A n xs) (hp : Rd w A2 m ps) (hcap : m ≤ c2) :
    Calls Try.prog 46 #[brd W H A n c, lpr a b, .slice A2 m c2] w fun e w' => e = .returned (.tuple #[.int .i64 (onR W H xs a b ps), .bool (okRg W H xs a b ps)]) ∧ Below w.heap.size w w' := by
  by_cases ht : okRg W H xs a b ps = true
  · go_enter Try.func46, Try.ntmps46
    go_wp2_with fail
    refine (crAsked_any W H A n c xs a b A2 m c2 ps _ ((ha.alloc _).alloc _) ((hp.alloc _).alloc _) hcap).mono ?_
    rw [ht]
    rintro e wv ⟨rfl, hb⟩
    have hbx0 := below_box hb
    have a0 : wv.cell? ⟨w.heap.size, 0, none⟩ = some (.int .i64 W) := by simpa using newbox hbx0 0
    have a1 : wv.cell? ⟨w.heap.size, 1, none⟩ = some (.int .i64 H) := by simpa using newbox hbx0 1
    have a2 : wv.cell? ⟨w.heap.size, 2, none⟩ = some (.slice A n c) := by simpa using newbox hbx0 2
    have al : w.heap.size < wv.heap.size := by simpa using newbox_lt hbx0
    have l0 : wv.cell? ⟨w.heap.size + 1, 0, none⟩ = some (.int .i64 a) := by simpa using newbox hb 0
    have l1 : wv.cell? ⟨w.heap.size + 1, 1, none⟩ = some (.int .i64 b) := by simpa using newbox hb 1
    have ll : w.heap.size + 1 < wv.heap.size := by simpa using newbox_lt hb
    have B := Lib.hid (below_box hbx0)
    clear hb hbx0
    have HT := Lib.hid ht
    clear ht
    go_wp2_with fail
    refine (crOnRing_any a b A2 m c2 ps _ (hp.keep B.out) (ring_leaper HT.out) (by have := rg_len HT.out; have := hp.1; omega)).mono ?_
    rintro e wv ⟨rfl, hb⟩
    replace B := Lib.hid (below_next B.out hb)
    clear hb
    go_wp2
    go_ret2
    exact ⟨by rw [onR, HT.out]; rfl, B.out⟩
  · have ht' : okRg W H xs a b ps = false := by simpa using ht
    go_enter Try.func46, Try.ntmps46
    go_wp2_with fail
    refine (crAsked_any W H A n c xs a b A2 m c2 ps _ ((ha.alloc _).alloc _) ((hp.alloc _).alloc _) hcap).mono ?_
    rw [ht']
    rintro e wv ⟨rfl, hb⟩
    have hbx0 := below_box hb
    have a0 : wv.cell? ⟨w.heap.size, 0, none⟩ = some (.int .i64 W) := by simpa using newbox hbx0 0
    have a1 : wv.cell? ⟨w.heap.size, 1, none⟩ = some (.int .i64 H) := by simpa using newbox hbx0 1
    have a2 : wv.cell? ⟨w.heap.size, 2, none⟩ = some (.slice A n c) := by simpa using newbox hbx0 2
    have al : w.heap.size < wv.heap.size := by simpa using newbox_lt hbx0
    have l0 : wv.cell? ⟨w.heap.size + 1, 0, none⟩ = some (.int .i64 a) := by simpa using newbox hb 0
    have l1 : wv.cell? ⟨w.heap.size + 1, 1, none⟩ = some (.int .i64 b) := by simpa using newbox hb 1
    have ll : w.heap.size + 1 < wv.heap.size := by simpa using newbox_lt hb
    have B := Lib.hid (below_box hbx0)
    clear hb hbx0
    go_wp2
    go_ret2
    exact ⟨by rw [onR, ht']; rfl, B.out⟩

set_option maxRecDepth 100000 in
set_option maxHeartbeats 1000000 in
theorem spec_PointsInside (W H : Int) (A : Option Addr) (n c : Nat) (xs : List Int) (a b : Int) (A2 : Option Addr) (m c2 : Nat) (ps : List Int) (w : World) (ha : Rd w A n xs) (hp : Rd w A2 m ps) (hcap : m ≤ c2) :
    Calls Try.prog 48 #[brd W H A n c, lpr a b, .slice A2 m c2] w fun e w' => e = .returned (.tuple #[.int .i64 (insR W H xs a b ps), .bool (okRg W H xs a b ps)]) ∧ Below w.heap.size w w' := by
  by_cases ht : okRg W H xs a b ps = true
  · go_enter Try.func48, Try.ntmps48
    go_wp2_with fail
    refine (crAsked_any W H A n c xs a b A2 m c2 ps _ ((ha.alloc _).alloc _) ((hp.alloc _).alloc _) hcap).mono ?_
    rw [ht]
    rintro e wv ⟨rfl, hb⟩
    have hbx0 := below_box hb
    have a0 : wv.cell? ⟨w.heap.size, 0, none⟩ = some (.int .i64 W) := by simpa using newbox hbx0 0
    have a1 : wv.cell? ⟨w.heap.size, 1, none⟩ = some (.int .i64 H) := by simpa using newbox hbx0 1
    have a2 : wv.cell? ⟨w.heap.size, 2, none⟩ = some (.slice A n c) := by simpa using newbox hbx0 2
    have al : w.heap.size < wv.heap.size := by simpa using newbox_lt hbx0
    have l0 : wv.cell? ⟨w.heap.size + 1, 0, none⟩ = some (.int .i64 a) := by simpa using newbox hb 0
    have l1 : wv.cell? ⟨w.heap.size + 1, 1, none⟩ = some (.int .i64 b) := by simpa using newbox hb 1
    have ll : w.heap.size + 1 < wv.heap.size := by simpa using newbox_lt hb
    have B := Lib.hid (below_box hbx0)
    clear hb hbx0
    have HT := Lib.hid ht
    clear ht
    have HM := Lib.hid (show 1 ≤ m ∧ m ≤ 1000 by have := rg_len HT.out; have := hp.1; omega)
    have HAB := Lib.hid (areaV_bd (rg_W HT.out) (rg_64 HT.out) (by have := rg_len HT.out; omega))
    have HON := Lib.hid (onNum_bd (ring_leaper HT.out) (ps := ps) (by have := rg_len HT.out; omega))
    have RP := Lib.hid (hp.keep B.out)
    have t1 := absV_big HAB.out; have t2 := HON.out; have t3 := insNum_bd HAB.out HON.out
    have w1 : IntKind.i64.wrap (absV (areaV W ps) + 2) = absV (areaV W ps) + 2 := IntWalk.i64_in _ (by omega)
    have w2 : IntKind.i64.wrap (absV (areaV W ps) + 2 - onNum a b ps) = absV (areaV W ps) + 2 - onNum a b ps := IntWalk.i64_in _ (by omega)
    have w3 : IntKind.i64.wrap ((absV (areaV W ps) + 2 - onNum a b ps).tdiv 2) = (absV (areaV W ps) + 2 - onNum a b ps).tdiv 2 := IntWalk.i64_in _ (by unfold insNum at t3; omega)
    clear t1 t2 t3 hp
    go_wp2_with fail
    refine wp_region_held_drew (S := fun w' => w'.cell? ⟨w.heap.size, 0, none⟩ = some (.int .i64 W) ∧ w'.cell? ⟨w.heap.size, 1, none⟩ = some (.int .i64 H) ∧ w'.cell? ⟨w.heap.size, 2, none⟩ = some (.slice A n c) ∧ w'.cell? ⟨w.heap.size + 1, 0, none⟩ = some (.int .i64 a) ∧ w'.cell? ⟨w.heap.size + 1, 1, none⟩ = some (.int .i64 b)) (by kernel_rfl) ?_ (fun hHeld => ?_)
    · (try dsimp only)
      exact ⟨a0, a1, a2, l0, l1⟩
    refine wpAnyH_take (i := 0) (oi := ⟨_, _, _, _, _, _⟩) (v := ?_) rfl (by kernel_rfl) (by kernel_rfl) (by kernel_rfl) (fun _ _ _ h => h) (Or.inl ⟨by rfl, ?_⟩) (by assumption) ?_
    rotate_left
    · intro w hSw
      (try dsimp only at hSw)
      go_simp
      (try with_reducible rfl)
    (try simp only [Act.put, List.setIfInBounds_toArray, List.set_cons_zero, List.set_cons_succ])
    refine wpAnyH_take (i := 1) (oi := ⟨_, _, _, _, _, _⟩) (v := ?_) rfl (by kernel_rfl) (by kernel_rfl) (by kernel_rfl) (fun _ _ _ h => h) (Or.inl ⟨by rfl, ?_⟩) (by assumption) ?_
    rotate_left
    · intro w hSw
      (try dsimp only at hSw)
      go_simp
      (try with_reducible rfl)
    (try simp only [Act.put, List.setIfInBounds_toArray, List.set_cons_zero, List.set_cons_succ])
    refine wpAnyH_take (i := 5) (oi := ⟨_, _, _, _, _, _⟩) (v := ?_) rfl (by kernel_rfl) (by kernel_rfl) (by kernel_rfl) (fun _ _ _ h => h) (Or.inl ⟨by rfl, ?_⟩) (by assumption) ?_
    rotate_left
    · intro w hSw
      (try dsimp only at hSw)
      go_simp
      (try with_reducible rfl)
    (try simp only [Act.put, List.setIfInBounds_toArray, List.set_cons_zero, List.set_cons_succ])
    refine wpAnyH_take (i := 6) (oi := ⟨_, _, _, _, _, _⟩) (v := ?_) rfl (by kernel_rfl) (by kernel_rfl) (by kernel_rfl) (fun _ _ _ h => h) (Or.inl ⟨by rfl, ?_⟩) (by assumption) ?_
    rotate_left
    · intro w hSw
      (try dsimp only at hSw)
      go_simp
      (try with_reducible rfl)
    (try simp only [Act.put, List.setIfInBounds_toArray, List.set_cons_zero, List.set_cons_succ])
    refine wpAnyH_ready (rs := [2]) (by kernel_rfl) (by simp) ?_
    refine AllReadyH.cons (o := ⟨_, _, _, _, _, _⟩) rfl (fun K hK => ?_) AllReadyH.nil
    go_simp
    (go_at_call 92; refine (crArea_any W H A n c A2 m c2 ps _ ?_ (rg_W HT.out) (rg_64 HT.out) HM.out).mono ?_; (first | exact RP.out | exact RP.out.drew1 | exact RP.out.drewN _); rintro e wx ⟨rfl, hb⟩; (repeat (first | replace hb := below_undrew hb | replace hb := below_undrewN hb)); replace a0 := cell_keep a0 al hb; replace a1 := cell_keep a1 al hb; replace a2 := cell_keep a2 al hb; replace al := lt_keep al hb; replace l0 := cell_keep l0 ll hb; replace l1 := cell_keep l1 ll hb; replace ll := lt_keep ll hb; replace RP := Lib.hid (RP.out.keep hb); replace B := Lib.hid (below_next B.out hb); clear hb)
    (try go_wp2_with fail)
    refine hK.out _ _ ?_ (fun hHeld => ?_)
    · (try dsimp only)
      exact ⟨a0, a1, a2, l0, l1⟩
    clear hK K
    (try simp only [Act.put, List.setIfInBounds_toArray, List.set_cons_zero, List.set_cons_succ])
    refine wpAnyH_ready (rs := [3]) (by kernel_rfl) (by simp) ?_
    refine AllReadyH.cons (o := ⟨_, _, _, _, _, _⟩) rfl (fun K hK => ?_) AllReadyH.nil
    go_simp
    (go_at_call 91; refine (l1AbsW_any _ _ HAB.out.1 HAB.out.2).mono ?_; rintro e wx ⟨rfl, rfl⟩)
    (try go_wp2_with fail)
    refine hK.out _ _ ?_ (fun hHeld => ?_)
    · (try dsimp only)
      exact ⟨a0, a1, a2, l0, l1⟩
    clear hK K
    (try simp only [Act.put, List.setIfInBounds_toArray, List.set_cons_zero, List.set_cons_succ])
    refine wpAnyH_take (i := 4) (oi := ⟨_, _, _, _, _, _⟩) (v := ?_) rfl (by kernel_rfl) (by kernel_rfl) (by kernel_rfl) (fun _ _ _ h => h) (Or.inl ⟨by rfl, ?_⟩) (by assumption) ?_
    rotate_left
    · intro w hSw
      (try dsimp only at hSw)
      go_simp
      (try with_reducible rfl)
    (try simp only [Act.put, List.setIfInBounds_toArray, List.set_cons_zero, List.set_cons_succ])
    refine wpAnyH_ready (rs := [7]) (by kernel_rfl) (by simp) ?_
    refine AllReadyH.cons (o := ⟨_, _, _, _, _, _⟩) rfl (fun K hK => ?_) AllReadyH.nil
    go_simp
    (go_at_call 88; refine (crOnRing_any a b A2 m c2 ps _ ?_ (ring_leaper HT.out) HM.out.2).mono ?_; (first | exact RP.out | exact RP.out.drew1 | exact RP.out.drewN _); rintro e wx ⟨rfl, hb⟩; (repeat (first | replace hb := below_undrew hb | replace hb := below_undrewN hb)); replace a0 := cell_keep a0 al hb; replace a1 := cell_keep a1 al hb; replace a2 := cell_keep a2 al hb; replace al := lt_keep al hb; replace l0 := cell_keep l0 ll hb; replace l1 := cell_keep l1 ll hb; replace ll := lt_keep ll hb; replace RP := Lib.hid (RP.out.keep hb); replace B := Lib.hid (below_next B.out hb); clear hb)
    (try go_wp2_with fail)
    refine hK.out _ _ ?_ (fun hHeld => ?_)
    · (try dsimp only)
      exact ⟨a0, a1, a2, l0, l1⟩
    clear hK K
    (try simp only [Act.put, List.setIfInBounds_toArray, List.set_cons_zero, List.set_cons_succ])
    refine wpAnyH_take (i := 8) (oi := ⟨_, _, _, _, _, _⟩) (v := ?_) rfl (by kernel_rfl) (by kernel_rfl) (by kernel_rfl) (fun _ _ _ h => h) (Or.inl ⟨by rfl, ?_⟩) (by assumption) ?_
    rotate_left
    · intro w hSw
      (try dsimp only at hSw)
      go_simp
      (try with_reducible rfl)
    (try simp only [Act.put, List.setIfInBounds_toArray, List.set_cons_zero, List.set_cons_succ])
    refine wpAnyH_take (i := 9) (oi := ⟨_, _, _, _, _, _⟩) (v := ?_) rfl (by kernel_rfl) (by kernel_rfl) (by kernel_rfl) (fun _ _ _ h => h) (Or.inl ⟨by rfl, ?_⟩) (by assumption) ?_
    rotate_left
    · intro w hSw
      (try dsimp only at hSw)
      go_simp
      (try with_reducible rfl)
    (try simp only [Act.put, List.setIfInBounds_toArray, List.set_cons_zero, List.set_cons_succ])
    refine wpAnyH_take (i := 10) (oi := ⟨_, _, _, _, _, _⟩) (v := ?_) rfl (by kernel_rfl) (by kernel_rfl) (by kernel_rfl) (fun _ _ _ h => h) (Or.inl ⟨by rfl, ?_⟩) (by assumption) ?_
    rotate_left
    · intro w hSw
      (try dsimp only at hSw)
      go_simp
      (try with_reducible rfl)
    (try simp only [Act.put, List.setIfInBounds_toArray, List.set_cons_zero, List.set_cons_succ])
    refine wpAnyH_take (i := 11) (oi := ⟨_, _, _, _, _, _⟩) (v := ?_) rfl (by kernel_rfl) (by kernel_rfl) (by kernel_rfl) (fun _ _ _ h => h) (Or.inl ⟨by rfl, ?_⟩) (by assumption) ?_
    rotate_left
    · intro w hSw
      (try dsimp only at hSw)
      go_simp
      (try with_reducible rfl)
    (try simp only [Act.put, List.setIfInBounds_toArray, List.set_cons_zero, List.set_cons_succ])
    refine wpAnyH_done (by kernel_rfl) ?_ _
    go_wp2
    go_ret2
    exact ⟨by rw [insR, HT.out]; rfl, B.out⟩
  · have ht' : okRg W H xs a b ps = false := by simpa using ht
    go_enter Try.func48, Try.ntmps48
    go_wp2_with fail
    refine (crAsked_any W H A n c xs a b A2 m c2 ps _ ((ha.alloc _).alloc _) ((hp.alloc _).alloc _) hcap).mono ?_
    rw [ht']
    rintro e wv ⟨rfl, hb⟩
    have hbx0 := below_box hb
    have a0 : wv.cell? ⟨w.heap.size, 0, none⟩ = some (.int .i64 W) := by simpa using newbox hbx0 0
    have a1 : wv.cell? ⟨w.heap.size, 1, none⟩ = some (.int .i64 H) := by simpa using newbox hbx0 1
    have a2 : wv.cell? ⟨w.heap.size, 2, none⟩ = some (.slice A n c) := by simpa using newbox hbx0 2
    have al : w.heap.size < wv.heap.size := by simpa using newbox_lt hbx0
    have l0 : wv.cell? ⟨w.heap.size + 1, 0, none⟩ = some (.int .i64 a) := by simpa using newbox hb 0
    have l1 : wv.cell? ⟨w.heap.size + 1, 1, none⟩ = some (.int .i64 b) := by simpa using newbox hb 1
    have ll : w.heap.size + 1 < wv.heap.size := by simpa using newbox_lt hb
    have B := Lib.hid (below_box hbx0)
    clear hb hbx0
    go_wp2
    go_ret2
    exact ⟨by rw [insR, ht']; rfl, B.out⟩

set_option maxRecDepth 100000 in
set_option maxHeartbeats 1000000 in
theorem impl_PointsOnRing (W H : Int) (A : Option Addr) (n c : Nat) (xs : List Int) (a b : Int) (A2 : Option Addr) (m c2 : Nat) (ps : List Int) (w : World) (ha : Rd w A n xs) (hp : Rd w A2 m ps) (hcap : m ≤ c2) :
    Calls Try.prog 47 #[brd W H A n c, lpr a b, .slice A2 m c2] w fun e w' => e = .returned (.tuple #[.int .i64 (onR W H xs a b ps), .bool (okRg W H xs a b ps)]) ∧ Below w.heap.size w w' := by
  by_cases ht : okRg W H xs a b ps = true
  · go_enter Try.func47, Try.ntmps47
    go_wp2_with fail
    refine (isRingOn_any W H A n c xs a b A2 m c2 ps _ ((ha.alloc _).alloc _) ((hp.alloc _).alloc _) hcap).mono ?_
    rw [ht]
    rintro e wv ⟨rfl, hb⟩
    have hbx0 := below_box hb
    have a0 : wv.cell? ⟨w.heap.size, 0, none⟩ = some (.int .i64 W) := by simpa using newbox hbx0 0
    have a1 : wv.cell? ⟨w.heap.size, 1, none⟩ = some (.int .i64 H) := by simpa using newbox hbx0 1
    have a2 : wv.cell? ⟨w.heap.size, 2, none⟩ = some (.slice A n c) := by simpa using newbox hbx0 2
    have al : w.heap.size < wv.heap.size := by simpa using newbox_lt hbx0
    have l0 : wv.cell? ⟨w.heap.size + 1, 0, none⟩ = some (.int .i64 a) := by simpa using newbox hb 0
    have l1 : wv.cell? ⟨w.heap.size + 1, 1, none⟩ = some (.int .i64 b) := by simpa using newbox hb 1
    have ll : w.heap.size + 1 < wv.heap.size := by simpa using newbox_lt hb
    have B := Lib.hid (below_box hbx0)
    clear hb hbx0
    have HT := Lib.hid ht
    clear ht
    go_wp2_with fail
    refine (pointsOnRing_any a b A2 m c2 ps _ (hp.keep B.out) (ring_leaper HT.out) (by have := rg_len HT.out; have := hp.1; omega)).mono ?_
    rintro e wv ⟨rfl, hb⟩
    replace B := Lib.hid (below_next B.out hb)
    clear hb
    go_wp2
    go_ret2
    exact ⟨by rw [onR, HT.out]; rfl, B.out⟩
  · have ht' : okRg W H xs a b ps = false := by simpa using ht
    go_enter Try.func47, Try.ntmps47
    go_wp2_with fail
    refine (isRingOn_any W H A n c xs a b A2 m c2 ps _ ((ha.alloc _).alloc _) ((hp.alloc _).alloc _) hcap).mono ?_
    rw [ht']
    rintro e wv ⟨rfl, hb⟩
    have hbx0 := below_box hb
    have a0 : wv.cell? ⟨w.heap.size, 0, none⟩ = some (.int .i64 W) := by simpa using newbox hbx0 0
    have a1 : wv.cell? ⟨w.heap.size, 1, none⟩ = some (.int .i64 H) := by simpa using newbox hbx0 1
    have a2 : wv.cell? ⟨w.heap.size, 2, none⟩ = some (.slice A n c) := by simpa using newbox hbx0 2
    have al : w.heap.size < wv.heap.size := by simpa using newbox_lt hbx0
    have l0 : wv.cell? ⟨w.heap.size + 1, 0, none⟩ = some (.int .i64 a) := by simpa using newbox hb 0
    have l1 : wv.cell? ⟨w.heap.size + 1, 1, none⟩ = some (.int .i64 b) := by simpa using newbox hb 1
    have ll : w.heap.size + 1 < wv.heap.size := by simpa using newbox_lt hb
    have B := Lib.hid (below_box hbx0)
    clear hb hbx0
    go_wp2
    go_ret2
    exact ⟨by rw [onR, ht']; rfl, B.out⟩

set_option maxRecDepth 100000 in
set_option maxHeartbeats 1000000 in
theorem impl_PointsInside (W H : Int) (A : Option Addr) (n c : Nat) (xs : List Int) (a b : Int) (A2 : Option Addr) (m c2 : Nat) (ps : List Int) (w : World) (ha : Rd w A n xs) (hp : Rd w A2 m ps) (hcap : m ≤ c2) :
    Calls Try.prog 49 #[brd W H A n c, lpr a b, .slice A2 m c2] w fun e w' => e = .returned (.tuple #[.int .i64 (insR W H xs a b ps), .bool (okRg W H xs a b ps)]) ∧ Below w.heap.size w w' := by
  by_cases ht : okRg W H xs a b ps = true
  · go_enter Try.func49, Try.ntmps49
    go_wp2_with fail
    refine (isRingOn_any W H A n c xs a b A2 m c2 ps _ ((ha.alloc _).alloc _) ((hp.alloc _).alloc _) hcap).mono ?_
    rw [ht]
    rintro e wv ⟨rfl, hb⟩
    have hbx0 := below_box hb
    have a0 : wv.cell? ⟨w.heap.size, 0, none⟩ = some (.int .i64 W) := by simpa using newbox hbx0 0
    have a1 : wv.cell? ⟨w.heap.size, 1, none⟩ = some (.int .i64 H) := by simpa using newbox hbx0 1
    have a2 : wv.cell? ⟨w.heap.size, 2, none⟩ = some (.slice A n c) := by simpa using newbox hbx0 2
    have al : w.heap.size < wv.heap.size := by simpa using newbox_lt hbx0
    have l0 : wv.cell? ⟨w.heap.size + 1, 0, none⟩ = some (.int .i64 a) := by simpa using newbox hb 0
    have l1 : wv.cell? ⟨w.heap.size + 1, 1, none⟩ = some (.int .i64 b) := by simpa using newbox hb 1
    have ll : w.heap.size + 1 < wv.heap.size := by simpa using newbox_lt hb
    have B := Lib.hid (below_box hbx0)
    clear hb hbx0
    have HT := Lib.hid ht
    clear ht
    have HM := Lib.hid (show 1 ≤ m ∧ m ≤ 1000 by have := rg_len HT.out; have := hp.1; omega)
    have HAB := Lib.hid (areaV_bd (rg_W HT.out) (rg_64 HT.out) (by have := rg_len HT.out; omega))
    have HON := Lib.hid (onNum_bd (ring_leaper HT.out) (ps := ps) (by have := rg_len HT.out; omega))
    have RP := Lib.hid (hp.keep B.out)
    have t1 := absV_big HAB.out; have t2 := HON.out; have t3 := insNum_bd HAB.out HON.out
    have w1 : IntKind.i64.wrap (absV (areaV W ps) + 2) = absV (areaV W ps) + 2 := IntWalk.i64_in _ (by omega)
    have w2 : IntKind.i64.wrap (absV (areaV W ps) + 2 - onNum a b ps) = absV (areaV W ps) + 2 - onNum a b ps := IntWalk.i64_in _ (by omega)
    have w3 : IntKind.i64.wrap ((absV (areaV W ps) + 2 - onNum a b ps).tdiv 2) = (absV (areaV W ps) + 2 - onNum a b ps).tdiv 2 := IntWalk.i64_in _ (by unfold insNum at t3; omega)
    clear t1 t2 t3 hp
    go_wp2_with fail
    refine wp_region_held_drew (S := fun w' => w'.cell? ⟨w.heap.size, 0, none⟩ = some (.int .i64 W) ∧ w'.cell? ⟨w.heap.size, 1, none⟩ = some (.int .i64 H) ∧ w'.cell? ⟨w.heap.size, 2, none⟩ = some (.slice A n c) ∧ w'.cell? ⟨w.heap.size + 1, 0, none⟩ = some (.int .i64 a) ∧ w'.cell? ⟨w.heap.size + 1, 1, none⟩ = some (.int .i64 b)) (by kernel_rfl) ?_ (fun hHeld => ?_)
    · (try dsimp only)
      exact ⟨a0, a1, a2, l0, l1⟩
    refine wpAnyH_take (i := 0) (oi := ⟨_, _, _, _, _, _⟩) (v := ?_) rfl (by kernel_rfl) (by kernel_rfl) (by kernel_rfl) (fun _ _ _ h => h) (Or.inl ⟨by rfl, ?_⟩) (by assumption) ?_
    rotate_left
    · intro w hSw
      (try dsimp only at hSw)
      go_simp
      (try with_reducible rfl)
    (try simp only [Act.put, List.setIfInBounds_toArray, List.set_cons_zero, List.set_cons_succ])
    refine wpAnyH_take (i := 1) (oi := ⟨_, _, _, _, _, _⟩) (v := ?_) rfl (by kernel_rfl) (by kernel_rfl) (by kernel_rfl) (fun _ _ _ h => h) (Or.inl ⟨by rfl, ?_⟩) (by assumption) ?_
    rotate_left
    · intro w hSw
      (try dsimp only at hSw)
      go_simp
      (try with_reducible rfl)
    (try simp only [Act.put, List.setIfInBounds_toArray, List.set_cons_zero, List.set_cons_succ])
    refine wpAnyH_take (i := 5) (oi := ⟨_, _, _, _, _, _⟩) (v := ?_) rfl (by kernel_rfl) (by kernel_rfl) (by kernel_rfl) (fun _ _ _ h => h) (Or.inl ⟨by rfl, ?_⟩) (by assumption) ?_
    rotate_left
    · intro w hSw
      (try dsimp only at hSw)
      go_simp
      (try with_reducible rfl)
    (try simp only [Act.put, List.setIfInBounds_toArray, List.set_cons_zero, List.set_cons_succ])
    refine wpAnyH_take (i := 6) (oi := ⟨_, _, _, _, _, _⟩) (v := ?_) rfl (by kernel_rfl) (by kernel_rfl) (by kernel_rfl) (fun _ _ _ h => h) (Or.inl ⟨by rfl, ?_⟩) (by assumption) ?_
    rotate_left
    · intro w hSw
      (try dsimp only at hSw)
      go_simp
      (try with_reducible rfl)
    (try simp only [Act.put, List.setIfInBounds_toArray, List.set_cons_zero, List.set_cons_succ])
    refine wpAnyH_ready (rs := [2]) (by kernel_rfl) (by simp) ?_
    refine AllReadyH.cons (o := ⟨_, _, _, _, _, _⟩) rfl (fun K hK => ?_) AllReadyH.nil
    go_simp
    (go_at_call 94; refine (twiceArea_any W H A n c A2 m c2 ps _ ?_ (rg_W HT.out) (rg_64 HT.out) HM.out).mono ?_; (first | exact RP.out | exact RP.out.drew1 | exact RP.out.drewN _); rintro e wx ⟨rfl, hb⟩; (repeat (first | replace hb := below_undrew hb | replace hb := below_undrewN hb)); replace a0 := cell_keep a0 al hb; replace a1 := cell_keep a1 al hb; replace a2 := cell_keep a2 al hb; replace al := lt_keep al hb; replace l0 := cell_keep l0 ll hb; replace l1 := cell_keep l1 ll hb; replace ll := lt_keep ll hb; replace RP := Lib.hid (RP.out.keep hb); replace B := Lib.hid (below_next B.out hb); clear hb)
    (try go_wp2_with fail)
    refine hK.out _ _ ?_ (fun hHeld => ?_)
    · (try dsimp only)
      exact ⟨a0, a1, a2, l0, l1⟩
    clear hK K
    (try simp only [Act.put, List.setIfInBounds_toArray, List.set_cons_zero, List.set_cons_succ])
    refine wpAnyH_ready (rs := [3]) (by kernel_rfl) (by simp) ?_
    refine AllReadyH.cons (o := ⟨_, _, _, _, _, _⟩) rfl (fun K hK => ?_) AllReadyH.nil
    go_simp
    (go_at_call 93; refine (apartW_any _ _ HAB.out.1 HAB.out.2).mono ?_; rintro e wx ⟨rfl, rfl⟩)
    (try go_wp2_with fail)
    refine hK.out _ _ ?_ (fun hHeld => ?_)
    · (try dsimp only)
      exact ⟨a0, a1, a2, l0, l1⟩
    clear hK K
    (try simp only [Act.put, List.setIfInBounds_toArray, List.set_cons_zero, List.set_cons_succ])
    refine wpAnyH_take (i := 4) (oi := ⟨_, _, _, _, _, _⟩) (v := ?_) rfl (by kernel_rfl) (by kernel_rfl) (by kernel_rfl) (fun _ _ _ h => h) (Or.inl ⟨by rfl, ?_⟩) (by assumption) ?_
    rotate_left
    · intro w hSw
      (try dsimp only at hSw)
      go_simp
      (try with_reducible rfl)
    (try simp only [Act.put, List.setIfInBounds_toArray, List.set_cons_zero, List.set_cons_succ])
    refine wpAnyH_ready (rs := [7]) (by kernel_rfl) (by simp) ?_
    refine AllReadyH.cons (o := ⟨_, _, _, _, _, _⟩) rfl (fun K hK => ?_) AllReadyH.nil
    go_simp
    (go_at_call 90; refine (pointsOnRing_any a b A2 m c2 ps _ ?_ (ring_leaper HT.out) HM.out.2).mono ?_; (first | exact RP.out | exact RP.out.drew1 | exact RP.out.drewN _); rintro e wx ⟨rfl, hb⟩; (repeat (first | replace hb := below_undrew hb | replace hb := below_undrewN hb)); replace a0 := cell_keep a0 al hb; replace a1 := cell_keep a1 al hb; replace a2 := cell_keep a2 al hb; replace al := lt_keep al hb; replace l0 := cell_keep l0 ll hb; replace l1 := cell_keep l1 ll hb; replace ll := lt_keep ll hb; replace RP := Lib.hid (RP.out.keep hb); replace B := Lib.hid (below_next B.out hb); clear hb)
    (try go_wp2_with fail)
    refine hK.out _ _ ?_ (fun hHeld => ?_)
    · (try dsimp only)
      exact ⟨a0, a1, a2, l0, l1⟩
    clear hK K
    (try simp only [Act.put, List.setIfInBounds_toArray, List.set_cons_zero, List.set_cons_succ])
    refine wpAnyH_take (i := 8) (oi := ⟨_, _, _, _, _, _⟩) (v := ?_) rfl (by kernel_rfl) (by kernel_rfl) (by kernel_rfl) (fun _ _ _ h => h) (Or.inl ⟨by rfl, ?_⟩) (by assumption) ?_
    rotate_left
    · intro w hSw
      (try dsimp only at hSw)
      go_simp
      (try with_reducible rfl)
    (try simp only [Act.put, List.setIfInBounds_toArray, List.set_cons_zero, List.set_cons_succ])
    refine wpAnyH_take (i := 9) (oi := ⟨_, _, _, _, _, _⟩) (v := ?_) rfl (by kernel_rfl) (by kernel_rfl) (by kernel_rfl) (fun _ _ _ h => h) (Or.inl ⟨by rfl, ?_⟩) (by assumption) ?_
    rotate_left
    · intro w hSw
      (try dsimp only at hSw)
      go_simp
      (try with_reducible rfl)
    (try simp only [Act.put, List.setIfInBounds_toArray, List.set_cons_zero, List.set_cons_succ])
    refine wpAnyH_take (i := 10) (oi := ⟨_, _, _, _, _, _⟩) (v := ?_) rfl (by kernel_rfl) (by kernel_rfl) (by kernel_rfl) (fun _ _ _ h => h) (Or.inl ⟨by rfl, ?_⟩) (by assumption) ?_
    rotate_left
    · intro w hSw
      (try dsimp only at hSw)
      go_simp
      (try with_reducible rfl)
    (try simp only [Act.put, List.setIfInBounds_toArray, List.set_cons_zero, List.set_cons_succ])
    refine wpAnyH_take (i := 11) (oi := ⟨_, _, _, _, _, _⟩) (v := ?_) rfl (by kernel_rfl) (by kernel_rfl) (by kernel_rfl) (fun _ _ _ h => h) (Or.inl ⟨by rfl, ?_⟩) (by assumption) ?_
    rotate_left
    · intro w hSw
      (try dsimp only at hSw)
      go_simp
      (try with_reducible rfl)
    (try simp only [Act.put, List.setIfInBounds_toArray, List.set_cons_zero, List.set_cons_succ])
    refine wpAnyH_done (by kernel_rfl) ?_ _
    go_wp2
    go_ret2
    exact ⟨by rw [insR, HT.out]; rfl, B.out⟩
  · have ht' : okRg W H xs a b ps = false := by simpa using ht
    go_enter Try.func49, Try.ntmps49
    go_wp2_with fail
    refine (isRingOn_any W H A n c xs a b A2 m c2 ps _ ((ha.alloc _).alloc _) ((hp.alloc _).alloc _) hcap).mono ?_
    rw [ht']
    rintro e wv ⟨rfl, hb⟩
    have hbx0 := below_box hb
    have a0 : wv.cell? ⟨w.heap.size, 0, none⟩ = some (.int .i64 W) := by simpa using newbox hbx0 0
    have a1 : wv.cell? ⟨w.heap.size, 1, none⟩ = some (.int .i64 H) := by simpa using newbox hbx0 1
    have a2 : wv.cell? ⟨w.heap.size, 2, none⟩ = some (.slice A n c) := by simpa using newbox hbx0 2
    have al : w.heap.size < wv.heap.size := by simpa using newbox_lt hbx0
    have l0 : wv.cell? ⟨w.heap.size + 1, 0, none⟩ = some (.int .i64 a) := by simpa using newbox hb 0
    have l1 : wv.cell? ⟨w.heap.size + 1, 1, none⟩ = some (.int .i64 b) := by simpa using newbox hb 1
    have ll : w.heap.size + 1 < wv.heap.size := by simpa using newbox_lt hb
    have B := Lib.hid (below_box hbx0)
    clear hb hbx0
    go_wp2
    go_ret2
    exact ⟨by rw [insR, ht']; rfl, B.out⟩

end Go.Proofs.Ytadopgfpfbianaa
