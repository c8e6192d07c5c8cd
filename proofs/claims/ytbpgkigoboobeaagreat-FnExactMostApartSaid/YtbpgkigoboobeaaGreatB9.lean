/-
  Contracts: whether a leaper leaps from one cell to another one.
-/
import Derived.Test.YtbpgkigoboobeaaGreatB8
import Derived.Test.YtbpgkigoboobeaaGreatYS
import Derived.Test.YtbpgkigoboobeaaGreatB6
import Derived.Deep.RegionWith
import Derived.Deep.DeepCutAuto
namespace Go.Proofs.YtbpgkigoboobeaaGreat
open Go.RowKit

def absV (x : Int) : Int := if x < 0 then -x else x
theorem absV_bd {x : Int} (h : -100 ≤ x ∧ x ≤ 100) : 0 ≤ absV x ∧ absV x ≤ 100 := by unfold absV; split <;> omega
theorem absV_sub (x y : Int) : absV (x - y) = absV (y - x) := by unfold absV; split <;> split <;> omega
def leapB (W a b p q : Int) : Bool := decide ((absV (p % W - q % W) = a ∧ absV (p / W - q / W) = b) ∨ (absV (p % W - q % W) = b ∧ absV (p / W - q / W) = a))

set_option maxHeartbeats 400000 in
theorem l1Abs_any (x : Int) (w : World) (h1 : -1000 ≤ x) (h2 : x ≤ 1000) :
    Calls Tryz.prog 108 #[.int .i64 x] w fun e w' => e = .returned (.int .i64 (absV x)) ∧ w = w' := by
  by_cases h : x < 0
  · have h3 : ¬ -x < x := by omega
    go_enter Tryz.func108, Tryz.ntmps108
    go_wp2
    go_ret
    exact ⟨ret_int (by unfold absV; split <;> omega), rfl⟩
  · by_cases h0 : x = 0
    · subst h0
      go_enter Tryz.func108, Tryz.ntmps108
      go_wp2
      go_ret
      exact ⟨ret_int (by unfold absV; split <;> omega), rfl⟩
    · have h3 : -x < x := by omega
      go_enter Tryz.func108, Tryz.ntmps108
      go_wp2
      go_ret
      exact ⟨ret_int (by unfold absV; split <;> omega), rfl⟩

set_option maxHeartbeats 400000 in
theorem apart_any (x y : Int) (w : World) (h1 : 0 ≤ x) (h2 : x ≤ 100) (h3 : 0 ≤ y) (h4 : y ≤ 100) :
    Calls Tryz.prog 127 #[.int .i64 x, .int .i64 y] w fun e w' => e = .returned (.int .i64 (absV (x - y))) ∧ w = w' := by
  go_enter Tryz.func127, Tryz.ntmps127
  go_wp2
  all_goals (go_ret; exact ⟨ret_int (by unfold absV; split <;> omega), rfl⟩)

set_option maxHeartbeats 1000000 in
theorem boIs_any (W H : Int) (A : Option Addr) (n c : Nat) (a b p q : Int) (w : World) (hW : 1 ≤ W ∧ W ≤ 8) (hp : 0 ≤ p ∧ p ≤ 64) (hq : 0 ≤ q ∧ q ≤ 64) :
    Calls Tryz.prog 91 #[brd W H A n c, lpr a b, .int .i64 p, .int .i64 q] w fun e w' => e = .returned (.bool (leapB W a b p q)) ∧ Below w.heap.size w w' := by
  have hm := mod_bd (c := p) hW
  have hm' := mod_bd (c := q) hW
  have hd : 0 ≤ p / W ∧ p / W ≤ 64 := ⟨Int.ediv_nonneg hp.1 (by omega), Int.le_trans (Int.ediv_le_self _ hp.1) hp.2⟩
  have hd' : 0 ≤ q / W ∧ q / W ≤ 64 := ⟨Int.ediv_nonneg hq.1 (by omega), Int.le_trans (Int.ediv_le_self _ hq.1) hq.2⟩
  obtain ⟨hW1, hW2⟩ := hW
  obtain ⟨hp1, hp2⟩ := hp
  obtain ⟨hq1, hq2⟩ := hq
  obtain ⟨hm1, hm2, hm3⟩ := hm
  obtain ⟨hm4, hm5, hm6⟩ := hm'
  obtain ⟨hd1, hd2⟩ := hd
  obtain ⟨hd3, hd4⟩ := hd'
  go_enter Tryz.func91, Tryz.ntmps91
  go_wp2
  go_quiet ((go_at_call 108; exact Calls.quiet_of_same (quiet_same (l1Abs_any _ _ (by omega) (by omega)))))
  go_wp2
  all_goals (go_ret; refine ⟨ret_bool ?_, below_drewN (below_new (below_new (Below.refl _ _) _) _) _⟩)
  all_goals (rw [Bool.eq_iff_iff]; simp only [leapB, beq_iff_eq, decide_eq_true_eq, reduceCtorEq, true_iff, false_iff]; omega)

set_option maxHeartbeats 400000 in
theorem spotOf_exact (W H : Int) (A : Option Addr) (n c : Nat) (q : Int) (w : World) (hW : 1 ≤ W ∧ W ≤ 8) (hq : 0 ≤ q ∧ q ≤ 64) :
    Calls Tryz.prog 68 #[brd W H A n c, .int .i64 q] w fun e w' => e = .returned (lpr (q % W) (q / W)) ∧ ∃ m, w' = (((((w.alloc (.cells #[.int .i64 W, .int .i64 H, .slice A n c] 31)).alloc (.cells #[.int .i64 0, .int .i64 0] 66)).alloc (.cells #[.int .i64 (q % W), .int .i64 (q / W)] 66)).setCell ⟨w.heap.size + 1, 0, none⟩ (.int .i64 (q % W))).setCell ⟨w.heap.size + 1, 1, none⟩ (.int .i64 (q / W))).drewN m := by
  go_enter Tryz.func68, Tryz.ntmps68
  go_wp2_with fail
  refine (numbered_exact q W _ hW hq).mono ?_
  rintro e wv ⟨rfl, m, rfl⟩
  go_wp2
  exact bodyPost_ret (v := lpr (q % W) (q / W)) (by simp [results, Tryz.results68, go_sem]) rfl ⟨rfl, m, rfl⟩

theorem keep3 {w w' : World} {β : Nat} {u v x : Value} (h0 : w.cell? ⟨β, 0, none⟩ = some u) (h1 : w.cell? ⟨β, 1, none⟩ = some v) (h2 : w.cell? ⟨β, 2, none⟩ = some x) (hl : β < w.heap.size) (hb : Below w.heap.size w w') :
    w'.cell? ⟨β, 0, none⟩ = some u ∧ w'.cell? ⟨β, 1, none⟩ = some v ∧ w'.cell? ⟨β, 2, none⟩ = some x := ⟨cell_keep h0 hl hb, cell_keep h1 hl hb, cell_keep h2 hl hb⟩

theorem keep4 {w w' : World} {β γ : Nat} {u v x y : Value} (h0 : w.cell? ⟨β, 0, none⟩ = some u) (h1 : w.cell? ⟨β, 1, none⟩ = some v) (h2 : w.cell? ⟨γ, 0, none⟩ = some x) (h3 : w.cell? ⟨γ, 1, none⟩ = some y) (hl : β < w.heap.size) (hm : γ < w.heap.size) (hb : Below w.heap.size w w') :
    w'.cell? ⟨β, 0, none⟩ = some u ∧ w'.cell? ⟨β, 1, none⟩ = some v ∧ w'.cell? ⟨γ, 0, none⟩ = some x ∧ w'.cell? ⟨γ, 1, none⟩ = some y := ⟨cell_keep h0 hl hb, cell_keep h1 hl hb, cell_keep h2 hm hb, cell_keep h3 hm hb⟩

def SpotAt (wr : World) (g : Nat) (x y : Int) : Prop := wr.cell? ⟨g, 0, none⟩ = some (.int .i64 x) ∧ wr.cell? ⟨g, 1, none⟩ = some (.int .i64 y) ∧ g < wr.heap.size

set_option maxHeartbeats 4000000 in
theorem doesLeap_any (W H : Int) (A : Option Addr) (n c : Nat) (a b p q : Int) (w : World) (hW : 1 ≤ W ∧ W ≤ 8) (hp : 0 ≤ p ∧ p ≤ 64) (hq : 0 ≤ q ∧ q ≤ 64) :
    Calls Tryz.prog 109 #[brd W H A n c, lpr a b, .int .i64 p, .int .i64 q] w fun e w' => e = .returned (.bool (leapB W a b p q)) ∧ Below w.heap.size w w' := by
  have HW := Lib.hid hW; have HP := Lib.hid hp; have HQ := Lib.hid hq
  clear hW hp hq
  obtain ⟨W2, hW2⟩ : ∃ W2, W2 = (w.alloc (.cells #[.int .i64 W, .int .i64 H, .slice A n c] 31)).alloc (.cells #[.int .i64 a, .int .i64 b] 33) := ⟨_, rfl⟩
  have hsz : W2.heap.size = w.heap.size + 2 := by rw [hW2]; simp
  have a0 : W2.cell? ⟨w.heap.size, 0, none⟩ = some (.int .i64 W) := by rw [hW2]; go_simp
  have a1 : W2.cell? ⟨w.heap.size, 1, none⟩ = some (.int .i64 H) := by rw [hW2]; go_simp
  have a2 : W2.cell? ⟨w.heap.size, 2, none⟩ = some (.slice A n c) := by rw [hW2]; go_simp
  have al : w.heap.size < W2.heap.size := by omega
  have l0 : W2.cell? ⟨w.heap.size + 1, 0, none⟩ = some (.int .i64 a) := by rw [hW2]; go_simp
  have l1 : W2.cell? ⟨w.heap.size + 1, 1, none⟩ = some (.int .i64 b) := by rw [hW2]; go_simp
  have ll : w.heap.size + 1 < W2.heap.size := by omega
  have B := Lib.hid (show Below w.heap.size w W2 by rw [hW2]; repeat (first | exact Below.refl _ _ | refine below_new ?_ _))
  clear hsz
  go_enter Tryz.func109, Tryz.ntmps109
  go_upto_region 1 with fail
  rw [← hW2]
  clear hW2
  go_cut [9, 10] (fun s9 s10 wx => ∃ gp gq : Nat, s9 = .pointer (some ⟨gp, 0, none⟩) ∧ s10 = .pointer (some ⟨gq, 0, none⟩) ∧ SpotAt wx gp (p % W) (p / W) ∧ SpotAt wx gq (q % W) (q / W) ∧ SpotAt wx (w.heap.size + 1) a b ∧ Below w.heap.size w wx)
  case first =>
    refine wp_region_held_drew (S := fun w' => w'.cell? ⟨w.heap.size, 0, none⟩ = some (.int .i64 W) ∧ w'.cell? ⟨w.heap.size, 1, none⟩ = some (.int .i64 H) ∧ w'.cell? ⟨w.heap.size, 2, none⟩ = some (.slice A n c)) (by kernel_rfl) ?_ (fun hHeld => ?_)
    · (try dsimp only)
      exact ⟨a0, a1, a2⟩
    refine wpAnyH_take (i := 0) (oi := ⟨_, _, _, _, _, _⟩) (v := ?_) rfl (by kernel_rfl) (by kernel_rfl) (by kernel_rfl) (fun _ _ _ h => h) (Or.inl ⟨by rfl, ?_⟩) (by assumption) ?_
    rotate_left
    · intro w hSw
      (try dsimp only at hSw)
      go_simp
      (try with_reducible rfl)
    (try simp only [Act.put, List.setIfInBounds_toArray, List.set_cons_zero, List.set_cons_succ])
    refine wpAnyH_take (i := 1) (oi := ⟨_, _, _, _, _, _⟩) (v := ?_) rfl (by kernel_rfl) (by kernel_rfl) (by kernel_rfl) (fun _ _ _ h => h) (Or.inl ⟨by rfl, ?_⟩) (by assumption) ?_
    rotate_left
    · intro w hSw
      (try dsimp only at hSw)
      go_simp
      (try with_reducible rfl)
    (try simp only [Act.put, List.setIfInBounds_toArray, List.set_cons_zero, List.set_cons_succ])
    refine wpAnyH_take (i := 3) (oi := ⟨_, _, _, _, _, _⟩) (v := ?_) rfl (by kernel_rfl) (by kernel_rfl) (by kernel_rfl) (fun _ _ _ h => h) (Or.inl ⟨by rfl, ?_⟩) (by assumption) ?_
    rotate_left
    · intro w hSw
      (try dsimp only at hSw)
      go_simp
      (try with_reducible rfl)
    (try simp only [Act.put, List.setIfInBounds_toArray, List.set_cons_zero, List.set_cons_succ])
    refine wpAnyH_take (i := 4) (oi := ⟨_, _, _, _, _, _⟩) (v := ?_) rfl (by kernel_rfl) (by kernel_rfl) (by kernel_rfl) (fun _ _ _ h => h) (Or.inl ⟨by rfl, ?_⟩) (by assumption) ?_
    rotate_left
    · intro w hSw
      (try dsimp only at hSw)
      go_simp
      (try with_reducible rfl)
    (try simp only [Act.put, List.setIfInBounds_toArray, List.set_cons_zero, List.set_cons_succ])
    refine wpAnyH_ready (rs := [2, 6, 7]) (by kernel_rfl) (by simp) ?_
    refine AllReadyH.cons (o := ⟨_, _, _, _, _, _⟩) rfl (fun K hK => ?_) (AllReadyH.cons (o := ⟨_, _, _, _, _, _⟩) rfl (fun K hK => ?_) (AllReadyH.cons (o := ⟨_, _, _, _, _, _⟩) rfl (fun K hK => ?_) AllReadyH.nil))
    · go_simp
      (go_at_call 68; refine (spotOf_any _ _ _ _ _ p _ HW.out HP.out).mono ?_; rintro e wv ⟨rfl, hb⟩; (repeat (first | replace hb := below_undrew hb | replace hb := below_undrewN hb)); replace a0 := cell_keep a0 al hb; replace a1 := cell_keep a1 al hb; replace a2 := cell_keep a2 al hb; replace al := lt_keep al hb; replace l0 := cell_keep l0 ll hb; replace l1 := cell_keep l1 ll hb; replace ll := lt_keep ll hb; replace B := Lib.hid (below_next B.out hb); clear hb)
      (try go_wp2_with fail)
      refine hK.out _ _ ?_ (fun hHeld => ?_)
      · (try dsimp only)
        exact ⟨a0, a1, a2⟩
      clear hK K
      (try simp only [Act.put, List.setIfInBounds_toArray, List.set_cons_zero, List.set_cons_succ])
      refine wpAnyH_ready (rs := [5, 6, 7]) (by kernel_rfl) (by simp) ?_
      refine AllReadyH.cons (o := ⟨_, _, _, _, _, _⟩) rfl (fun K hK => ?_) (AllReadyH.cons (o := ⟨_, _, _, _, _, _⟩) rfl (fun K hK => ?_) (AllReadyH.cons (o := ⟨_, _, _, _, _, _⟩) rfl (fun K hK => ?_) AllReadyH.nil))
      · go_simp
        (go_at_call 68; refine (spotOf_any _ _ _ _ _ q _ HW.out HQ.out).mono ?_; rintro e wv ⟨rfl, hb⟩; (repeat (first | replace hb := below_undrew hb | replace hb := below_undrewN hb)); replace a0 := cell_keep a0 al hb; replace a1 := cell_keep a1 al hb; replace a2 := cell_keep a2 al hb; replace al := lt_keep al hb; replace l0 := cell_keep l0 ll hb; replace l1 := cell_keep l1 ll hb; replace ll := lt_keep ll hb; replace B := Lib.hid (below_next B.out hb); clear hb)
        (try go_wp2_with fail)
        refine hK.out _ _ ?_ (fun hHeld => ?_)
        · (try dsimp only)
          exact ⟨a0, a1, a2⟩
        clear hK K
        (try simp only [Act.put, List.setIfInBounds_toArray, List.set_cons_zero, List.set_cons_succ])
        refine wpAnyH_ready (rs := [6, 7]) (by kernel_rfl) (by simp) ?_
        refine AllReadyH.cons (o := ⟨_, _, _, _, _, _⟩) rfl (fun K hK => ?_) (AllReadyH.cons (o := ⟨_, _, _, _, _, _⟩) rfl (fun K hK => ?_) AllReadyH.nil)
        · go_simp
          obtain ⟨wp, hWn⟩ : ∃ W5, W5 = wv.alloc (.cells #[.int .i64 0, .int .i64 0] 66) := ⟨_, rfl⟩
          have hb : Below wv.heap.size wv wp := by rw [hWn]; exact below_new (Below.refl _ _) _
          obtain ⟨gp, hgp⟩ : ∃ gp, gp = wv.heap.size := ⟨_, rfl⟩
          have BXp := Lib.hid (show SpotBox wp gp 0 0 by rw [hWn, hgp]; exact heap_alloc_new _ _)
          have HGp := Lib.hid (show w.heap.size + 1 < gp by rw [hgp]; exact ll)
          rw [← hWn]
          (try rw [← hgp])
          clear hWn hgp
          replace a0 := cell_keep a0 al hb
          replace a1 := cell_keep a1 al hb
          replace a2 := cell_keep a2 al hb
          replace al := lt_keep al hb
          replace l0 := cell_keep l0 ll hb
          replace l1 := cell_keep l1 ll hb
          replace ll := lt_keep ll hb
          replace B := Lib.hid (below_next B.out hb)
          clear hb
          refine hK.out _ _ ?_ (fun hHeld => ?_)
          · (try dsimp only)
            exact ⟨a0, a1, a2⟩
          clear hK K
          (try simp only [Act.put, List.setIfInBounds_toArray, List.set_cons_zero, List.set_cons_succ])
          refine wpAnyH_ready (rs := [7]) (by kernel_rfl) (by simp) ?_
          refine AllReadyH.cons (o := ⟨_, _, _, _, _, _⟩) rfl (fun K hK => ?_) AllReadyH.nil
          go_simp
          obtain ⟨wq, hWn⟩ : ∃ W5, W5 = wp.alloc (.cells #[.int .i64 0, .int .i64 0] 66) := ⟨_, rfl⟩
          have hb : Below wp.heap.size wp wq := by rw [hWn]; exact below_new (Below.refl _ _) _
          obtain ⟨gq, hgp⟩ : ∃ gp, gp = wp.heap.size := ⟨_, rfl⟩
          have BXq := Lib.hid (show SpotBox wq gq 0 0 by rw [hWn, hgp]; exact heap_alloc_new _ _)
          have HGq := Lib.hid (show w.heap.size + 1 < gq by rw [hgp]; exact ll)
          have HNE := Lib.hid (show gp ≠ gq by have := BXp.out.lt; omega)
          rw [← hWn]
          (try rw [← hgp])
          clear hWn hgp
          replace a0 := cell_keep a0 al hb
          replace a1 := cell_keep a1 al hb
          replace a2 := cell_keep a2 al hb
          replace al := lt_keep al hb
          replace l0 := cell_keep l0 ll hb
          replace l1 := cell_keep l1 ll hb
          replace ll := lt_keep ll hb
          replace BXp := Lib.hid (BXp.out.keep hb)
          replace B := Lib.hid (below_next B.out hb)
          clear hb
          refine hK.out _ _ ?_ (fun hHeld => ?_)
          · (try dsimp only)
            exact ⟨a0, a1, a2⟩
          clear hK K
          (try simp only [Act.put, List.setIfInBounds_toArray, List.set_cons_zero, List.set_cons_succ])
          refine wpAnyH_ready (rs := [8]) (by kernel_rfl) (by simp) ?_
          refine AllReadyH.cons (o := ⟨_, _, _, _, _, _⟩) rfl (fun K hK => ?_) AllReadyH.nil
          have z0 := BXp.out.c0; have z1 := BXp.out.c1
          have f0 : wq.frozen? ⟨gp, 0, none⟩ = false := frozen_of_row wq _ 0 _ _ BXp.out
          have f1 : wq.frozen? ⟨gp, 1, none⟩ = false := frozen_of_row wq _ 1 _ _ BXp.out
          go_simp
          obtain ⟨vp, hWn⟩ : ∃ W6, W6 = (wq.setCell ⟨gp, 0, none⟩ (.int .i64 (p % W))).setCell ⟨gp, 1, none⟩ (.int .i64 (p / W)) := ⟨_, rfl⟩
          have hgr : wq.grownBy vp (some gp) := by rw [hWn]; exact grown_next (grownSet _ ⟨gp, 0, none⟩ _) (grownSet _ ⟨gp, 1, none⟩ _)
          replace BXp := Lib.hid (show SpotBox vp gp (p % W) (p / W) by rw [hWn]; exact BXp.out.set _ _)
          replace BXq := Lib.hid (BXq.out.grown hgr (by have := HNE.out; simp; omega))
          replace B := Lib.hid (B.out.grown hgr B.out.size (fun g9 h9 => by injection h9 with h9; have := HGp.out; omega))
          have hgne := HGp.out
          replace a0 := hgr.cell a0 (by simp; omega)
          replace a1 := hgr.cell a1 (by simp; omega)
          replace a2 := hgr.cell a2 (by simp; omega)
          replace al := Nat.lt_of_lt_of_le al hgr.size
          replace l0 := hgr.cell l0 (by simp; omega)
          replace l1 := hgr.cell l1 (by simp; omega)
          replace ll := Nat.lt_of_lt_of_le ll hgr.size
          rw [← hWn]
          clear hWn hgr z0 z1 f0 f1 hgne
          refine hK.out _ _ ?_ (fun hHeld => ?_)
          · (try dsimp only)
            exact ⟨a0, a1, a2⟩
          clear hK K
          (try simp only [Act.put, List.setIfInBounds_toArray, List.set_cons_zero, List.set_cons_succ])
          refine wpAnyH_ready (rs := [9]) (by kernel_rfl) (by simp) ?_
          refine AllReadyH.cons (o := ⟨_, _, _, _, _, _⟩) rfl (fun K hK => ?_) AllReadyH.nil
          have z0 := BXq.out.c0; have z1 := BXq.out.c1
          have f0 : vp.frozen? ⟨gq, 0, none⟩ = false := frozen_of_row vp _ 0 _ _ BXq.out
          have f1 : vp.frozen? ⟨gq, 1, none⟩ = false := frozen_of_row vp _ 1 _ _ BXq.out
          go_simp
          obtain ⟨vq, hWn⟩ : ∃ W6, W6 = (vp.setCell ⟨gq, 0, none⟩ (.int .i64 (q % W))).setCell ⟨gq, 1, none⟩ (.int .i64 (q / W)) := ⟨_, rfl⟩
          have hgr : vp.grownBy vq (some gq) := by rw [hWn]; exact grown_next (grownSet _ ⟨gq, 0, none⟩ _) (grownSet _ ⟨gq, 1, none⟩ _)
          replace BXq := Lib.hid (show SpotBox vq gq (q % W) (q / W) by rw [hWn]; exact BXq.out.set _ _)
          replace BXp := Lib.hid (BXp.out.grown hgr (by have := HNE.out; simp; omega))
          replace B := Lib.hid (B.out.grown hgr B.out.size (fun g9 h9 => by injection h9 with h9; have := HGq.out; omega))
          have hgne := HGq.out
          replace a0 := hgr.cell a0 (by simp; omega)
          replace a1 := hgr.cell a1 (by simp; omega)
          replace a2 := hgr.cell a2 (by simp; omega)
          replace al := Nat.lt_of_lt_of_le al hgr.size
          replace l0 := hgr.cell l0 (by simp; omega)
          replace l1 := hgr.cell l1 (by simp; omega)
          replace ll := Nat.lt_of_lt_of_le ll hgr.size
          rw [← hWn]
          clear hWn hgr z0 z1 f0 f1 hgne
          refine hK.out _ _ ?_ (fun hHeld => ?_)
          · (try dsimp only)
            exact ⟨a0, a1, a2⟩
          clear hK K
          (try simp only [Act.put, List.setIfInBounds_toArray, List.set_cons_zero, List.set_cons_succ])
          refine wpAnyH_done (by kernel_rfl) ?_ _
          clear hHeld
          (try go_wp2_with fail)
          go_meet
          exact ⟨gp, gq, rfl, rfl, ⟨BXp.out.c0, BXp.out.c1, BXp.out.lt⟩, ⟨BXq.out.c0, BXq.out.c1, BXq.out.lt⟩, ⟨l0, l1, ll⟩, (by repeat (first | exact B.out | refine below_drewN ?_ _ | refine Below.drew ?_))⟩
        · go_simp
          obtain ⟨wq, hWn⟩ : ∃ W5, W5 = wv.alloc (.cells #[.int .i64 0, .int .i64 0] 66) := ⟨_, rfl⟩
          have hb : Below wv.heap.size wv wq := by rw [hWn]; exact below_new (Below.refl _ _) _
          obtain ⟨gq, hgp⟩ : ∃ gp, gp = wv.heap.size := ⟨_, rfl⟩
          have BXq := Lib.hid (show SpotBox wq gq 0 0 by rw [hWn, hgp]; exact heap_alloc_new _ _)
          have HGq := Lib.hid (show w.heap.size + 1 < gq by rw [hgp]; exact ll)
          rw [← hWn]
          (try rw [← hgp])
          clear hWn hgp
          replace a0 := cell_keep a0 al hb
          replace a1 := cell_keep a1 al hb
          replace a2 := cell_keep a2 al hb
          replace al := lt_keep al hb
          replace l0 := cell_keep l0 ll hb
          replace l1 := cell_keep l1 ll hb
          replace ll := lt_keep ll hb
          replace B := Lib.hid (below_next B.out hb)
          clear hb
          refine hK.out _ _ ?_ (fun hHeld => ?_)
          · (try dsimp only)
            exact ⟨a0, a1, a2⟩
          clear hK K
          (try simp only [Act.put, List.setIfInBounds_toArray, List.set_cons_zero, List.set_cons_succ])
          refine wpAnyH_ready (rs := [6]) (by kernel_rfl) (by simp) ?_
          refine AllReadyH.cons (o := ⟨_, _, _, _, _, _⟩) rfl (fun K hK => ?_) AllReadyH.nil
          go_simp
          obtain ⟨wp, hWn⟩ : ∃ W5, W5 = wq.alloc (.cells #[.int .i64 0, .int .i64 0] 66) := ⟨_, rfl⟩
          have hb : Below wq.heap.size wq wp := by rw [hWn]; exact below_new (Below.refl _ _) _
          obtain ⟨gp, hgp⟩ : ∃ gp, gp = wq.heap.size := ⟨_, rfl⟩
          have BXp := Lib.hid (show SpotBox wp gp 0 0 by rw [hWn, hgp]; exact heap_alloc_new _ _)
          have HGp := Lib.hid (show w.heap.size + 1 < gp by rw [hgp]; exact ll)
          have HNE := Lib.hid (show gp ≠ gq by have := BXq.out.lt; omega)
          rw [← hWn]
          (try rw [← hgp])
          clear hWn hgp
          replace a0 := cell_keep a0 al hb
          replace a1 := cell_keep a1 al hb
          replace a2 := cell_keep a2 al hb
          replace al := lt_keep al hb
          replace l0 := cell_keep l0 ll hb
          replace l1 := cell_keep l1 ll hb
          replace ll := lt_keep ll hb
          replace BXq := Lib.hid (BXq.out.keep hb)
          replace B := Lib.hid (below_next B.out hb)
          clear hb
          refine hK.out _ _ ?_ (fun hHeld => ?_)
          · (try dsimp only)
            exact ⟨a0, a1, a2⟩
          clear hK K
          (try simp only [Act.put, List.setIfInBounds_toArray, List.set_cons_zero, List.set_cons_succ])
          refine wpAnyH_ready (rs := [8]) (by kernel_rfl) (by simp) ?_
          refine AllReadyH.cons (o := ⟨_, _, _, _, _, _⟩) rfl (fun K hK => ?_) AllReadyH.nil
          have z0 := BXp.out.c0; have z1 := BXp.out.c1
          have f0 : wp.frozen? ⟨gp, 0, none⟩ = false := frozen_of_row wp _ 0 _ _ BXp.out
          have f1 : wp.frozen? ⟨gp, 1, none⟩ = false := frozen_of_row wp _ 1 _ _ BXp.out
          go_simp
          obtain ⟨vp, hWn⟩ : ∃ W6, W6 = (wp.setCell ⟨gp, 0, none⟩ (.int .i64 (p % W))).setCell ⟨gp, 1, none⟩ (.int .i64 (p / W)) := ⟨_, rfl⟩
          have hgr : wp.grownBy vp (some gp) := by rw [hWn]; exact grown_next (grownSet _ ⟨gp, 0, none⟩ _) (grownSet _ ⟨gp, 1, none⟩ _)
          replace BXp := Lib.hid (show SpotBox vp gp (p % W) (p / W) by rw [hWn]; exact BXp.out.set _ _)
          replace BXq := Lib.hid (BXq.out.grown hgr (by have := HNE.out; simp; omega))
          replace B := Lib.hid (B.out.grown hgr B.out.size (fun g9 h9 => by injection h9 with h9; have := HGp.out; omega))
          have hgne := HGp.out
          replace a0 := hgr.cell a0 (by simp; omega)
          replace a1 := hgr.cell a1 (by simp; omega)
          replace a2 := hgr.cell a2 (by simp; omega)
          replace al := Nat.lt_of_lt_of_le al hgr.size
          replace l0 := hgr.cell l0 (by simp; omega)
          replace l1 := hgr.cell l1 (by simp; omega)
          replace ll := Nat.lt_of_lt_of_le ll hgr.size
          rw [← hWn]
          clear hWn hgr z0 z1 f0 f1 hgne
          refine hK.out _ _ ?_ (fun hHeld => ?_)
          · (try dsimp only)
            exact ⟨a0, a1, a2⟩
          clear hK K
          (try simp only [Act.put, List.setIfInBounds_toArray, List.set_cons_zero, List.set_cons_succ])
          refine wpAnyH_ready (rs := [9]) (by kernel_rfl) (by simp) ?_
          refine AllReadyH.cons (o := ⟨_, _, _, _, _, _⟩) rfl (fun K hK => ?_) AllReadyH.nil
          have z0 := BXq.out.c0; have z1 := BXq.out.c1
          have f0 : vp.frozen? ⟨gq, 0, none⟩ = false := frozen_of_row vp _ 0 _ _ BXq.out
          have f1 : vp.frozen? ⟨gq, 1, none⟩ = false := frozen_of_row vp _ 1 _ _ BXq.out
          go_simp
          obtain ⟨vq, hWn⟩ : ∃ W6, W6 = (vp.setCell ⟨gq, 0, none⟩ (.int .i64 (q % W))).setCell ⟨gq, 1, none⟩ (.int .i64 (q / W)) := ⟨_, rfl⟩
          have hgr : vp.grownBy vq (some gq) := by rw [hWn]; exact grown_next (grownSet _ ⟨gq, 0, none⟩ _) (grownSet _ ⟨gq, 1, none⟩ _)
          replace BXq := Lib.hid (show SpotBox vq gq (q % W) (q / W) by rw [hWn]; exact BXq.out.set _ _)
          replace BXp := Lib.hid (BXp.out.grown hgr (by have := HNE.out; simp; omega))
          replace B := Lib.hid (B.out.grown hgr B.out.size (fun g9 h9 => by injection h9 with h9; have := HGq.out; omega))
          have hgne := HGq.out
          replace a0 := hgr.cell a0 (by simp; omega)
          replace a1 := hgr.cell a1 (by simp; omega)
          replace a2 := hgr.cell a2 (by simp; omega)
          replace al := Nat.lt_of_lt_of_le al hgr.size
          replace l0 := hgr.cell l0 (by simp; omega)
          replace l1 := hgr.cell l1 (by simp; omega)
          replace ll := Nat.lt_of_lt_of_le ll hgr.size
          rw [← hWn]
          clear hWn hgr z0 z1 f0 f1 hgne
          refine hK.out _ _ ?_ (fun hHeld => ?_)
          · (try dsimp only)
            exact ⟨a0, a1, a2⟩
          clear hK K
          (try simp only [Act.put, List.setIfInBounds_toArray, List.set_cons_zero, List.set_cons_succ])
          refine wpAnyH_done (by kernel_rfl) ?_ _
          clear hHeld
          (try go_wp2_with fail)
          go_meet
          exact ⟨gp, gq, rfl, rfl, ⟨BXp.out.c0, BXp.out.c1, BXp.out.lt⟩, ⟨BXq.out.c0, BXq.out.c1, BXq.out.lt⟩, ⟨l0, l1, ll⟩, (by repeat (first | exact B.out | refine below_drewN ?_ _ | refine Below.drew ?_))⟩
      · go_simp
        obtain ⟨wp, hWn⟩ : ∃ W5, W5 = wv.alloc (.cells #[.int .i64 0, .int .i64 0] 66) := ⟨_, rfl⟩
        have hb : Below wv.heap.size wv wp := by rw [hWn]; exact below_new (Below.refl _ _) _
        obtain ⟨gp, hgp⟩ : ∃ gp, gp = wv.heap.size := ⟨_, rfl⟩
        have BXp := Lib.hid (show SpotBox wp gp 0 0 by rw [hWn, hgp]; exact heap_alloc_new _ _)
        have HGp := Lib.hid (show w.heap.size + 1 < gp by rw [hgp]; exact ll)
        rw [← hWn]
        (try rw [← hgp])
        clear hWn hgp
        replace a0 := cell_keep a0 al hb
        replace a1 := cell_keep a1 al hb
        replace a2 := cell_keep a2 al hb
        replace al := lt_keep al hb
        replace l0 := cell_keep l0 ll hb
        replace l1 := cell_keep l1 ll hb
        replace ll := lt_keep ll hb
        replace B := Lib.hid (below_next B.out hb)
        clear hb
        refine hK.out _ _ ?_ (fun hHeld => ?_)
        · (try dsimp only)
          exact ⟨a0, a1, a2⟩
        clear hK K
        (try simp only [Act.put, List.setIfInBounds_toArray, List.set_cons_zero, List.set_cons_succ])
        refine wpAnyH_ready (rs := [5, 7]) (by kernel_rfl) (by simp) ?_
        refine AllReadyH.cons (o := ⟨_, _, _, _, _, _⟩) rfl (fun K hK => ?_) (AllReadyH.cons (o := ⟨_, _, _, _, _, _⟩) rfl (fun K hK => ?_) AllReadyH.nil)
        · go_simp
          (go_at_call 68; refine (spotOf_any _ _ _ _ _ q _ HW.out HQ.out).mono ?_; rintro e wv ⟨rfl, hb⟩; (repeat (first | replace hb := below_undrew hb | replace hb := below_undrewN hb)); replace a0 := cell_keep a0 al hb; replace a1 := cell_keep a1 al hb; replace a2 := cell_keep a2 al hb; replace al := lt_keep al hb; replace l0 := cell_keep l0 ll hb; replace l1 := cell_keep l1 ll hb; replace ll := lt_keep ll hb; replace BXp := Lib.hid (BXp.out.keep hb); replace B := Lib.hid (below_next B.out hb); clear hb)
          (try go_wp2_with fail)
          refine hK.out _ _ ?_ (fun hHeld => ?_)
          · (try dsimp only)
            exact ⟨a0, a1, a2⟩
          clear hK K
          (try simp only [Act.put, List.setIfInBounds_toArray, List.set_cons_zero, List.set_cons_succ])
          refine wpAnyH_ready (rs := [7]) (by kernel_rfl) (by simp) ?_
          refine AllReadyH.cons (o := ⟨_, _, _, _, _, _⟩) rfl (fun K hK => ?_) AllReadyH.nil
          go_simp
          obtain ⟨wq, hWn⟩ : ∃ W5, W5 = wv.alloc (.cells #[.int .i64 0, .int .i64 0] 66) := ⟨_, rfl⟩
          have hb : Below wv.heap.size wv wq := by rw [hWn]; exact below_new (Below.refl _ _) _
          obtain ⟨gq, hgp⟩ : ∃ gp, gp = wv.heap.size := ⟨_, rfl⟩
          have BXq := Lib.hid (show SpotBox wq gq 0 0 by rw [hWn, hgp]; exact heap_alloc_new _ _)
          have HGq := Lib.hid (show w.heap.size + 1 < gq by rw [hgp]; exact ll)
          have HNE := Lib.hid (show gp ≠ gq by have := BXp.out.lt; omega)
          rw [← hWn]
          (try rw [← hgp])
          clear hWn hgp
          replace a0 := cell_keep a0 al hb
          replace a1 := cell_keep a1 al hb
          replace a2 := cell_keep a2 al hb
          replace al := lt_keep al hb
          replace l0 := cell_keep l0 ll hb
          replace l1 := cell_keep l1 ll hb
          replace ll := lt_keep ll hb
          replace BXp := Lib.hid (BXp.out.keep hb)
          replace B := Lib.hid (below_next B.out hb)
          clear hb
          refine hK.out _ _ ?_ (fun hHeld => ?_)
          · (try dsimp only)
            exact ⟨a0, a1, a2⟩
          clear hK K
          (try simp only [Act.put, List.setIfInBounds_toArray, List.set_cons_zero, List.set_cons_succ])
          refine wpAnyH_ready (rs := [8]) (by kernel_rfl) (by simp) ?_
          refine AllReadyH.cons (o := ⟨_, _, _, _, _, _⟩) rfl (fun K hK => ?_) AllReadyH.nil
          have z0 := BXp.out.c0; have z1 := BXp.out.c1
          have f0 : wq.frozen? ⟨gp, 0, none⟩ = false := frozen_of_row wq _ 0 _ _ BXp.out
          have f1 : wq.frozen? ⟨gp, 1, none⟩ = false := frozen_of_row wq _ 1 _ _ BXp.out
          go_simp
          obtain ⟨vp, hWn⟩ : ∃ W6, W6 = (wq.setCell ⟨gp, 0, none⟩ (.int .i64 (p % W))).setCell ⟨gp, 1, none⟩ (.int .i64 (p / W)) := ⟨_, rfl⟩
          have hgr : wq.grownBy vp (some gp) := by rw [hWn]; exact grown_next (grownSet _ ⟨gp, 0, none⟩ _) (grownSet _ ⟨gp, 1, none⟩ _)
          replace BXp := Lib.hid (show SpotBox vp gp (p % W) (p / W) by rw [hWn]; exact BXp.out.set _ _)
          replace BXq := Lib.hid (BXq.out.grown hgr (by have := HNE.out; simp; omega))
          replace B := Lib.hid (B.out.grown hgr B.out.size (fun g9 h9 => by injection h9 with h9; have := HGp.out; omega))
          have hgne := HGp.out
          replace a0 := hgr.cell a0 (by simp; omega)
          replace a1 := hgr.cell a1 (by simp; omega)
          replace a2 := hgr.cell a2 (by simp; omega)
          replace al := Nat.lt_of_lt_of_le al hgr.size
          replace l0 := hgr.cell l0 (by simp; omega)
          replace l1 := hgr.cell l1 (by simp; omega)
          replace ll := Nat.lt_of_lt_of_le ll hgr.size
          rw [← hWn]
          clear hWn hgr z0 z1 f0 f1 hgne
          refine hK.out _ _ ?_ (fun hHeld => ?_)
          · (try dsimp only)
            exact ⟨a0, a1, a2⟩
          clear hK K
          (try simp only [Act.put, List.setIfInBounds_toArray, List.set_cons_zero, List.set_cons_succ])
          refine wpAnyH_ready (rs := [9]) (by kernel_rfl) (by simp) ?_
          refine AllReadyH.cons (o := ⟨_, _, _, _, _, _⟩) rfl (fun K hK => ?_) AllReadyH.nil
          have z0 := BXq.out.c0; have z1 := BXq.out.c1
          have f0 : vp.frozen? ⟨gq, 0, none⟩ = false := frozen_of_row vp _ 0 _ _ BXq.out
          have f1 : vp.frozen? ⟨gq, 1, none⟩ = false := frozen_of_row vp _ 1 _ _ BXq.out
          go_simp
          obtain ⟨vq, hWn⟩ : ∃ W6, W6 = (vp.setCell ⟨gq, 0, none⟩ (.int .i64 (q % W))).setCell ⟨gq, 1, none⟩ (.int .i64 (q / W)) := ⟨_, rfl⟩
          have hgr : vp.grownBy vq (some gq) := by rw [hWn]; exact grown_next (grownSet _ ⟨gq, 0, none⟩ _) (grownSet _ ⟨gq, 1, none⟩ _)
          replace BXq := Lib.hid (show SpotBox vq gq (q % W) (q / W) by rw [hWn]; exact BXq.out.set _ _)
          replace BXp := Lib.hid (BXp.out.grown hgr (by have := HNE.out; simp; omega))
          replace B := Lib.hid (B.out.grown hgr B.out.size (fun g9 h9 => by injection h9 with h9; have := HGq.out; omega))
          have hgne := HGq.out
          replace a0 := hgr.cell a0 (by simp; omega)
          replace a1 := hgr.cell a1 (by simp; omega)
          replace a2 := hgr.cell a2 (by simp; omega)
          replace al := Nat.lt_of_lt_of_le al hgr.size
          replace l0 := hgr.cell l0 (by simp; omega)
          replace l1 := hgr.cell l1 (by simp; omega)
          replace ll := Nat.lt_of_lt_of_le ll hgr.size
          rw [← hWn]
          clear hWn hgr z0 z1 f0 f1 hgne
          refine hK.out _ _ ?_ (fun hHeld => ?_)
          · (try dsimp only)
            exact ⟨a0, a1, a2⟩
          clear hK K
          (try simp only [Act.put, List.setIfInBounds_toArray, List.set_cons_zero, List.set_cons_succ])
          refine wpAnyH_done (by kernel_rfl) ?_ _
          clear hHeld
          (try go_wp2_with fail)
          go_meet
          exact ⟨gp, gq, rfl, rfl, ⟨BXp.out.c0, BXp.out.c1, BXp.out.lt⟩, ⟨BXq.out.c0, BXq.out.c1, BXq.out.lt⟩, ⟨l0, l1, ll⟩, (by repeat (first | exact B.out | refine below_drewN ?_ _ | refine Below.drew ?_))⟩
        · go_simp
          obtain ⟨wq, hWn⟩ : ∃ W5, W5 = wp.alloc (.cells #[.int .i64 0, .int .i64 0] 66) := ⟨_, rfl⟩
          have hb : Below wp.heap.size wp wq := by rw [hWn]; exact below_new (Below.refl _ _) _
          obtain ⟨gq, hgp⟩ : ∃ gp, gp = wp.heap.size := ⟨_, rfl⟩
          have BXq := Lib.hid (show SpotBox wq gq 0 0 by rw [hWn, hgp]; exact heap_alloc_new _ _)
          have HGq := Lib.hid (show w.heap.size + 1 < gq by rw [hgp]; exact ll)
          have HNE := Lib.hid (show gp ≠ gq by have := BXp.out.lt; omega)
          rw [← hWn]
          (try rw [← hgp])
          clear hWn hgp
          replace a0 := cell_keep a0 al hb
          replace a1 := cell_keep a1 al hb
          replace a2 := cell_keep a2 al hb
          replace al := lt_keep al hb
          replace l0 := cell_keep l0 ll hb
          replace l1 := cell_keep l1 ll hb
          replace ll := lt_keep ll hb
          replace BXp := Lib.hid (BXp.out.keep hb)
          replace B := Lib.hid (below_next B.out hb)
          clear hb
          refine hK.out _ _ ?_ (fun hHeld => ?_)
          · (try dsimp only)
            exact ⟨a0, a1, a2⟩
          clear hK K
          (try simp only [Act.put, List.setIfInBounds_toArray, List.set_cons_zero, List.set_cons_succ])
          refine wpAnyH_ready (rs := [5]) (by kernel_rfl) (by simp) ?_
          refine AllReadyH.cons (o := ⟨_, _, _, _, _, _⟩) rfl (fun K hK => ?_) AllReadyH.nil
          go_simp
          (go_at_call 68; refine (spotOf_any _ _ _ _ _ q _ HW.out HQ.out).mono ?_; rintro e wv ⟨rfl, hb⟩; (repeat (first | replace hb := below_undrew hb | replace hb := below_undrewN hb)); replace a0 := cell_keep a0 al hb; replace a1 := cell_keep a1 al hb; replace a2 := cell_keep a2 al hb; replace al := lt_keep al hb; replace l0 := cell_keep l0 ll hb; replace l1 := cell_keep l1 ll hb; replace ll := lt_keep ll hb; replace BXp := Lib.hid (BXp.out.keep hb); replace BXq := Lib.hid (BXq.out.keep hb); replace B := Lib.hid (below_next B.out hb); clear hb)
          (try go_wp2_with fail)
          refine hK.out _ _ ?_ (fun hHeld => ?_)
          · (try dsimp only)
            exact ⟨a0, a1, a2⟩
          clear hK K
          (try simp only [Act.put, List.setIfInBounds_toArray, List.set_cons_zero, List.set_cons_succ])
          refine wpAnyH_ready (rs := [8]) (by kernel_rfl) (by simp) ?_
          refine AllReadyH.cons (o := ⟨_, _, _, _, _, _⟩) rfl (fun K hK => ?_) AllReadyH.nil
          have z0 := BXp.out.c0; have z1 := BXp.out.c1
          have f0 : wv.frozen? ⟨gp, 0, none⟩ = false := frozen_of_row wv _ 0 _ _ BXp.out
          have f1 : wv.frozen? ⟨gp, 1, none⟩ = false := frozen_of_row wv _ 1 _ _ BXp.out
          go_simp
          obtain ⟨vp, hWn⟩ : ∃ W6, W6 = (wv.setCell ⟨gp, 0, none⟩ (.int .i64 (p % W))).setCell ⟨gp, 1, none⟩ (.int .i64 (p / W)) := ⟨_, rfl⟩
          have hgr : wv.grownBy vp (some gp) := by rw [hWn]; exact grown_next (grownSet _ ⟨gp, 0, none⟩ _) (grownSet _ ⟨gp, 1, none⟩ _)
          replace BXp := Lib.hid (show SpotBox vp gp (p % W) (p / W) by rw [hWn]; exact BXp.out.set _ _)
          replace BXq := Lib.hid (BXq.out.grown hgr (by have := HNE.out; simp; omega))
          replace B := Lib.hid (B.out.grown hgr B.out.size (fun g9 h9 => by injection h9 with h9; have := HGp.out; omega))
          have hgne := HGp.out
          replace a0 := hgr.cell a0 (by simp; omega)
          replace a1 := hgr.cell a1 (by simp; omega)
          replace a2 := hgr.cell a2 (by simp; omega)
          replace al := Nat.lt_of_lt_of_le al hgr.size
          replace l0 := hgr.cell l0 (by simp; omega)
          replace l1 := hgr.cell l1 (by simp; omega)
          replace ll := Nat.lt_of_lt_of_le ll hgr.size
          rw [← hWn]
          clear hWn hgr z0 z1 f0 f1 hgne
          refine hK.out _ _ ?_ (fun hHeld => ?_)
          · (try dsimp only)
            exact ⟨a0, a1, a2⟩
          clear hK K
          (try simp only [Act.put, List.setIfInBounds_toArray, List.set_cons_zero, List.set_cons_succ])
          refine wpAnyH_ready (rs := [9]) (by kernel_rfl) (by simp) ?_
          refine AllReadyH.cons (o := ⟨_, _, _, _, _, _⟩) rfl (fun K hK => ?_) AllReadyH.nil
          have z0 := BXq.out.c0; have z1 := BXq.out.c1
          have f0 : vp.frozen? ⟨gq, 0, none⟩ = false := frozen_of_row vp _ 0 _ _ BXq.out
          have f1 : vp.frozen? ⟨gq, 1, none⟩ = false := frozen_of_row vp _ 1 _ _ BXq.out
          go_simp
          obtain ⟨vq, hWn⟩ : ∃ W6, W6 = (vp.setCell ⟨gq, 0, none⟩ (.int .i64 (q % W))).setCell ⟨gq, 1, none⟩ (.int .i64 (q / W)) := ⟨_, rfl⟩
          have hgr : vp.grownBy vq (some gq) := by rw [hWn]; exact grown_next (grownSet _ ⟨gq, 0, none⟩ _) (grownSet _ ⟨gq, 1, none⟩ _)
          replace BXq := Lib.hid (show SpotBox vq gq (q % W) (q / W) by rw [hWn]; exact BXq.out.set _ _)
          replace BXp := Lib.hid (BXp.out.grown hgr (by have := HNE.out; simp; omega))
          replace B := Lib.hid (B.out.grown hgr B.out.size (fun g9 h9 => by injection h9 with h9; have := HGq.out; omega))
          have hgne := HGq.out
          replace a0 := hgr.cell a0 (by simp; omega)
          replace a1 := hgr.cell a1 (by simp; omega)
          replace a2 := hgr.cell a2 (by simp; omega)
          replace al := Nat.lt_of_lt_of_le al hgr.size
          replace l0 := hgr.cell l0 (by simp; omega)
          replace l1 := hgr.cell l1 (by simp; omega)
          replace ll := Nat.lt_of_lt_of_le ll hgr.size
          rw [← hWn]
          clear hWn hgr z0 z1 f0 f1 hgne
          refine hK.out _ _ ?_ (fun hHeld => ?_)
          · (try dsimp only)
            exact ⟨a0, a1, a2⟩
          clear hK K
          (try simp only [Act.put, List.setIfInBounds_toArray, List.set_cons_zero, List.set_cons_succ])
          refine wpAnyH_done (by kernel_rfl) ?_ _
          clear hHeld
          (try go_wp2_with fail)
          go_meet
          exact ⟨gp, gq, rfl, rfl, ⟨BXp.out.c0, BXp.out.c1, BXp.out.lt⟩, ⟨BXq.out.c0, BXq.out.c1, BXq.out.lt⟩, ⟨l0, l1, ll⟩, (by repeat (first | exact B.out | refine below_drewN ?_ _ | refine Below.drew ?_))⟩
      · go_simp
        obtain ⟨wq, hWn⟩ : ∃ W5, W5 = wv.alloc (.cells #[.int .i64 0, .int .i64 0] 66) := ⟨_, rfl⟩
        have hb : Below wv.heap.size wv wq := by rw [hWn]; exact below_new (Below.refl _ _) _
        obtain ⟨gq, hgp⟩ : ∃ gp, gp = wv.heap.size := ⟨_, rfl⟩
        have BXq := Lib.hid (show SpotBox wq gq 0 0 by rw [hWn, hgp]; exact heap_alloc_new _ _)
        have HGq := Lib.hid (show w.heap.size + 1 < gq by rw [hgp]; exact ll)
        rw [← hWn]
        (try rw [← hgp])
        clear hWn hgp
        replace a0 := cell_keep a0 al hb
        replace a1 := cell_keep a1 al hb
        replace a2 := cell_keep a2 al hb
        replace al := lt_keep al hb
        replace l0 := cell_keep l0 ll hb
        replace l1 := cell_keep l1 ll hb
        replace ll := lt_keep ll hb
        replace B := Lib.hid (below_next B.out hb)
        clear hb
        refine hK.out _ _ ?_ (fun hHeld => ?_)
        · (try dsimp only)
          exact ⟨a0, a1, a2⟩
        clear hK K
        (try simp only [Act.put, List.setIfInBounds_toArray, List.set_cons_zero, List.set_cons_succ])
        refine wpAnyH_ready (rs := [5, 6]) (by kernel_rfl) (by simp) ?_
        refine AllReadyH.cons (o := ⟨_, _, _, _, _, _⟩) rfl (fun K hK => ?_) (AllReadyH.cons (o := ⟨_, _, _, _, _, _⟩) rfl (fun K hK => ?_) AllReadyH.nil)
        · go_simp
          (go_at_call 68; refine (spotOf_any _ _ _ _ _ q _ HW.out HQ.out).mono ?_; rintro e wv ⟨rfl, hb⟩; (repeat (first | replace hb := below_undrew hb | replace hb := below_undrewN hb)); replace a0 := cell_keep a0 al hb; replace a1 := cell_keep a1 al hb; replace a2 := cell_keep a2 al hb; replace al := lt_keep al hb; replace l0 := cell_keep l0 ll hb; replace l1 := cell_keep l1 ll hb; replace ll := lt_keep ll hb; replace BXq := Lib.hid (BXq.out.keep hb); replace B := Lib.hid (below_next B.out hb); clear hb)
          (try go_wp2_with fail)
          refine hK.out _ _ ?_ (fun hHeld => ?_)
          · (try dsimp only)
            exact ⟨a0, a1, a2⟩
          clear hK K
          (try simp only [Act.put, List.setIfInBounds_toArray, List.set_cons_zero, List.set_cons_succ])
          refine wpAnyH_ready (rs := [6]) (by kernel_rfl) (by simp) ?_
          refine AllReadyH.cons (o := ⟨_, _, _, _, _, _⟩) rfl (fun K hK => ?_) AllReadyH.nil
          go_simp
          obtain ⟨wp, hWn⟩ : ∃ W5, W5 = wv.alloc (.cells #[.int .i64 0, .int .i64 0] 66) := ⟨_, rfl⟩
          have hb : Below wv.heap.size wv wp := by rw [hWn]; exact below_new (Below.refl _ _) _
          obtain ⟨gp, hgp⟩ : ∃ gp, gp = wv.heap.size := ⟨_, rfl⟩
          have BXp := Lib.hid (show SpotBox wp gp 0 0 by rw [hWn, hgp]; exact heap_alloc_new _ _)
          have HGp := Lib.hid (show w.heap.size + 1 < gp by rw [hgp]; exact ll)
          have HNE := Lib.hid (show gp ≠ gq by have := BXq.out.lt; omega)
          rw [← hWn]
          (try rw [← hgp])
          clear hWn hgp
          replace a0 := cell_keep a0 al hb
          replace a1 := cell_keep a1 al hb
          replace a2 := cell_keep a2 al hb
          replace al := lt_keep al hb
          replace l0 := cell_keep l0 ll hb
          replace l1 := cell_keep l1 ll hb
          replace ll := lt_keep ll hb
          replace BXq := Lib.hid (BXq.out.keep hb)
          replace B := Lib.hid (below_next B.out hb)
          clear hb
          refine hK.out _ _ ?_ (fun hHeld => ?_)
          · (try dsimp only)
            exact ⟨a0, a1, a2⟩
          clear hK K
          (try simp only [Act.put, List.setIfInBounds_toArray, List.set_cons_zero, List.set_cons_succ])
          refine wpAnyH_ready (rs := [8]) (by kernel_rfl) (by simp) ?_
          refine AllReadyH.cons (o := ⟨_, _, _, _, _, _⟩) rfl (fun K hK => ?_) AllReadyH.nil
          have z0 := BXp.out.c0; have z1 := BXp.out.c1
          have f0 : wp.frozen? ⟨gp, 0, none⟩ = false := frozen_of_row wp _ 0 _ _ BXp.out
          have f1 : wp.frozen? ⟨gp, 1, none⟩ = false := frozen_of_row wp _ 1 _ _ BXp.out
          go_simp
          obtain ⟨vp, hWn⟩ : ∃ W6, W6 = (wp.setCell ⟨gp, 0, none⟩ (.int .i64 (p % W))).setCell ⟨gp, 1, none⟩ (.int .i64 (p / W)) := ⟨_, rfl⟩
          have hgr : wp.grownBy vp (some gp) := by rw [hWn]; exact grown_next (grownSet _ ⟨gp, 0, none⟩ _) (grownSet _ ⟨gp, 1, none⟩ _)
          replace BXp := Lib.hid (show SpotBox vp gp (p % W) (p / W) by rw [hWn]; exact BXp.out.set _ _)
          replace BXq := Lib.hid (BXq.out.grown hgr (by have := HNE.out; simp; omega))
          replace B := Lib.hid (B.out.grown hgr B.out.size (fun g9 h9 => by injection h9 with h9; have := HGp.out; omega))
          have hgne := HGp.out
          replace a0 := hgr.cell a0 (by simp; omega)
          replace a1 := hgr.cell a1 (by simp; omega)
          replace a2 := hgr.cell a2 (by simp; omega)
          replace al := Nat.lt_of_lt_of_le al hgr.size
          replace l0 := hgr.cell l0 (by simp; omega)
          replace l1 := hgr.cell l1 (by simp; omega)
          replace ll := Nat.lt_of_lt_of_le ll hgr.size
          rw [← hWn]
          clear hWn hgr z0 z1 f0 f1 hgne
          refine hK.out _ _ ?_ (fun hHeld => ?_)
          · (try dsimp only)
            exact ⟨a0, a1, a2⟩
          clear hK K
          (try simp only [Act.put, List.setIfInBounds_toArray, List.set_cons_zero, List.set_cons_succ])
          refine wpAnyH_ready (rs := [9]) (by kernel_rfl) (by simp) ?_
          refine AllReadyH.cons (o := ⟨_, _, _, _, _, _⟩) rfl (fun K hK => ?_) AllReadyH.nil
          have z0 := BXq.out.c0; have z1 := BXq.out.c1
          have f0 : vp.frozen? ⟨gq, 0, none⟩ = false := frozen_of_row vp _ 0 _ _ BXq.out
          have f1 : vp.frozen? ⟨gq, 1, none⟩ = false := frozen_of_row vp _ 1 _ _ BXq.out
          go_simp
          obtain ⟨vq, hWn⟩ : ∃ W6, W6 = (vp.setCell ⟨gq, 0, none⟩ (.int .i64 (q % W))).setCell ⟨gq, 1, none⟩ (.int .i64 (q / W)) := ⟨_, rfl⟩
          have hgr : vp.grownBy vq (some gq) := by rw [hWn]; exact grown_next (grownSet _ ⟨gq, 0, none⟩ _) (grownSet _ ⟨gq, 1, none⟩ _)
          replace BXq := Lib.hid (show SpotBox vq gq (q % W) (q / W) by rw [hWn]; exact BXq.out.set _ _)
          replace BXp := Lib.hid (BXp.out.grown hgr (by have := HNE.out; simp; omega))
          replace B := Lib.hid (B.out.grown hgr B.out.size (fun g9 h9 => by injection h9 with h9; have := HGq.out; omega))
          have hgne := HGq.out
          replace a0 := hgr.cell a0 (by simp; omega)
          replace a1 := hgr.cell a1 (by simp; omega)
          replace a2 := hgr.cell a2 (by simp; omega)
          replace al := Nat.lt_of_lt_of_le al hgr.size
          replace l0 := hgr.cell l0 (by simp; omega)
          replace l1 := hgr.cell l1 (by simp; omega)
          replace ll := Nat.lt_of_lt_of_le ll hgr.size
          rw [← hWn]
          clear hWn hgr z0 z1 f0 f1 hgne
          refine hK.out _ _ ?_ (fun hHeld => ?_)
          · (try dsimp only)
            exact ⟨a0, a1, a2⟩
          clear hK K
          (try simp only [Act.put, List.setIfInBounds_toArray, List.set_cons_zero, List.set_cons_succ])
          refine wpAnyH_done (by kernel_rfl) ?_ _
          clear hHeld
          (try go_wp2_with fail)
          go_meet
          exact ⟨gp, gq, rfl, rfl, ⟨BXp.out.c0, BXp.out.c1, BXp.out.lt⟩, ⟨BXq.out.c0, BXq.out.c1, BXq.out.lt⟩, ⟨l0, l1, ll⟩, (by repeat (first | exact B.out | refine below_drewN ?_ _ | refine Below.drew ?_))⟩
        · go_simp
          obtain ⟨wp, hWn⟩ : ∃ W5, W5 = wq.alloc (.cells #[.int .i64 0, .int .i64 0] 66) := ⟨_, rfl⟩
          have hb : Below wq.heap.size wq wp := by rw [hWn]; exact below_new (Below.refl _ _) _
          obtain ⟨gp, hgp⟩ : ∃ gp, gp = wq.heap.size := ⟨_, rfl⟩
          have BXp := Lib.hid (show SpotBox wp gp 0 0 by rw [hWn, hgp]; exact heap_alloc_new _ _)
          have HGp := Lib.hid (show w.heap.size + 1 < gp by rw [hgp]; exact ll)
          have HNE := Lib.hid (show gp ≠ gq by have := BXq.out.lt; omega)
          rw [← hWn]
          (try rw [← hgp])
          clear hWn hgp
          replace a0 := cell_keep a0 al hb
          replace a1 := cell_keep a1 al hb
          replace a2 := cell_keep a2 al hb
          replace al := lt_keep al hb
          replace l0 := cell_keep l0 ll hb
          replace l1 := cell_keep l1 ll hb
          replace ll := lt_keep ll hb
          replace BXq := Lib.hid (BXq.out.keep hb)
          replace B := Lib.hid (below_next B.out hb)
          clear hb
          refine hK.out _ _ ?_ (fun hHeld => ?_)
          · (try dsimp only)
            exact ⟨a0, a1, a2⟩
          clear hK K
          (try simp only [Act.put, List.setIfInBounds_toArray, List.set_cons_zero, List.set_cons_succ])
          refine wpAnyH_ready (rs := [5]) (by kernel_rfl) (by simp) ?_
          refine AllReadyH.cons (o := ⟨_, _, _, _, _, _⟩) rfl (fun K hK => ?_) AllReadyH.nil
          go_simp
          (go_at_call 68; refine (spotOf_any _ _ _ _ _ q _ HW.out HQ.out).mono ?_; rintro e wv ⟨rfl, hb⟩; (repeat (first | replace hb := below_undrew hb | replace hb := below_undrewN hb)); replace a0 := cell_keep a0 al hb; replace a1 := cell_keep a1 al hb; replace a2 := cell_keep a2 al hb; replace al := lt_keep al hb; replace l0 := cell_keep l0 ll hb; replace l1 := cell_keep l1 ll hb; replace ll := lt_keep ll hb; replace BXp := Lib.hid (BXp.out.keep hb); replace BXq := Lib.hid (BXq.out.keep hb); replace B := Lib.hid (below_next B.out hb); clear hb)
          (try go_wp2_with fail)
          refine hK.out _ _ ?_ (fun hHeld => ?_)
          · (try dsimp only)
            exact ⟨a0, a1, a2⟩
          clear hK K
          (try simp only [Act.put, List.setIfInBounds_toArray, List.set_cons_zero, List.set_cons_succ])
          refine wpAnyH_ready (rs := [8]) (by kernel_rfl) (by simp) ?_
          refine AllReadyH.cons (o := ⟨_, _, _, _, _, _⟩) rfl (fun K hK => ?_) AllReadyH.nil
          have z0 := BXp.out.c0; have z1 := BXp.out.c1
          have f0 : wv.frozen? ⟨gp, 0, none⟩ = false := frozen_of_row wv _ 0 _ _ BXp.out
          have f1 : wv.frozen? ⟨gp, 1, none⟩ = false := frozen_of_row wv _ 1 _ _ BXp.out
          go_simp
          obtain ⟨vp, hWn⟩ : ∃ W6, W6 = (wv.setCell ⟨gp, 0, none⟩ (.int .i64 (p % W))).setCell ⟨gp, 1, none⟩ (.int .i64 (p / W)) := ⟨_, rfl⟩
          have hgr : wv.grownBy vp (some gp) := by rw [hWn]; exact grown_next (grownSet _ ⟨gp, 0, none⟩ _) (grownSet _ ⟨gp, 1, none⟩ _)
          replace BXp := Lib.hid (show SpotBox vp gp (p % W) (p / W) by rw [hWn]; exact BXp.out.set _ _)
          replace BXq := Lib.hid (BXq.out.grown hgr (by have := HNE.out; simp; omega))
          replace B := Lib.hid (B.out.grown hgr B.out.size (fun g9 h9 => by injection h9 with h9; have := HGp.out; omega))
          have hgne := HGp.out
          replace a0 := hgr.cell a0 (by simp; omega)
          replace a1 := hgr.cell a1 (by simp; omega)
          replace a2 := hgr.cell a2 (by simp; omega)
          replace al := Nat.lt_of_lt_of_le al hgr.size
          replace l0 := hgr.cell l0 (by simp; omega)
          replace l1 := hgr.cell l1 (by simp; omega)
          replace ll := Nat.lt_of_lt_of_le ll hgr.size
          rw [← hWn]
          clear hWn hgr z0 z1 f0 f1 hgne
          refine hK.out _ _ ?_ (fun hHeld => ?_)
          · (try dsimp only)
            exact ⟨a0, a1, a2⟩
          clear hK K
          (try simp only [Act.put, List.setIfInBounds_toArray, List.set_cons_zero, List.set_cons_succ])
          refine wpAnyH_ready (rs := [9]) (by kernel_rfl) (by simp) ?_
          refine AllReadyH.cons (o := ⟨_, _, _, _, _, _⟩) rfl (fun K hK => ?_) AllReadyH.nil
          have z0 := BXq.out.c0; have z1 := BXq.out.c1
          have f0 : vp.frozen? ⟨gq, 0, none⟩ = false := frozen_of_row vp _ 0 _ _ BXq.out
          have f1 : vp.frozen? ⟨gq, 1, none⟩ = false := frozen_of_row vp _ 1 _ _ BXq.out
          go_simp
          obtain ⟨vq, hWn⟩ : ∃ W6, W6 = (vp.setCell ⟨gq, 0, none⟩ (.int .i64 (q % W))).setCell ⟨gq, 1, none⟩ (.int .i64 (q / W)) := ⟨_, rfl⟩
          have hgr : vp.grownBy vq (some gq) := by rw [hWn]; exact grown_next (grownSet _ ⟨gq, 0, none⟩ _) (grownSet _ ⟨gq, 1, none⟩ _)
          replace BXq := Lib.hid (show SpotBox vq gq (q % W) (q / W) by rw [hWn]; exact BXq.out.set _ _)
          replace BXp := Lib.hid (BXp.out.grown hgr (by have := HNE.out; simp; omega))
          replace B := Lib.hid (B.out.grown hgr B.out.size (fun g9 h9 => by injection h9 with h9; have := HGq.out; omega))
          have hgne := HGq.out
          replace a0 := hgr.cell a0 (by simp; omega)
          replace a1 := hgr.cell a1 (by simp; omega)
          replace a2 := hgr.cell a2 (by simp; omega)
          replace al := Nat.lt_of_lt_of_le al hgr.size
          replace l0 := hgr.cell l0 (by simp; omega)
          replace l1 := hgr.cell l1 (by simp; omega)
          replace ll := Nat.lt_of_lt_of_le ll hgr.size
          rw [← hWn]
          clear hWn hgr z0 z1 f0 f1 hgne
          refine hK.out _ _ ?_ (fun hHeld => ?_)
          · (try dsimp only)
            exact ⟨a0, a1, a2⟩
          clear hK K
          (try simp only [Act.put, List.setIfInBounds_toArray, List.set_cons_zero, List.set_cons_succ])
          refine wpAnyH_done (by kernel_rfl) ?_ _
          clear hHeld
          (try go_wp2_with fail)
          go_meet
          exact ⟨gp, gq, rfl, rfl, ⟨BXp.out.c0, BXp.out.c1, BXp.out.lt⟩, ⟨BXq.out.c0, BXq.out.c1, BXq.out.lt⟩, ⟨l0, l1, ll⟩, (by repeat (first | exact B.out | refine below_drewN ?_ _ | refine Below.drew ?_))⟩
    · go_simp
      obtain ⟨wp, hWn⟩ : ∃ W5, W5 = W2.alloc (.cells #[.int .i64 0, .int .i64 0] 66) := ⟨_, rfl⟩
      have hb : Below W2.heap.size W2 wp := by rw [hWn]; exact below_new (Below.refl _ _) _
      obtain ⟨gp, hgp⟩ : ∃ gp, gp = W2.heap.size := ⟨_, rfl⟩
      have BXp := Lib.hid (show SpotBox wp gp 0 0 by rw [hWn, hgp]; exact heap_alloc_new _ _)
      have HGp := Lib.hid (show w.heap.size + 1 < gp by rw [hgp]; exact ll)
      rw [← hWn]
      (try rw [← hgp])
      clear hWn hgp
      replace a0 := cell_keep a0 al hb
      replace a1 := cell_keep a1 al hb
      replace a2 := cell_keep a2 al hb
      replace al := lt_keep al hb
      replace l0 := cell_keep l0 ll hb
      replace l1 := cell_keep l1 ll hb
      replace ll := lt_keep ll hb
      replace B := Lib.hid (below_next B.out hb)
      clear hb
      refine hK.out _ _ ?_ (fun hHeld => ?_)
      · (try dsimp only)
        exact ⟨a0, a1, a2⟩
      clear hK K
      (try simp only [Act.put, List.setIfInBounds_toArray, List.set_cons_zero, List.set_cons_succ])
      refine wpAnyH_ready (rs := [2, 7]) (by kernel_rfl) (by simp) ?_
      refine AllReadyH.cons (o := ⟨_, _, _, _, _, _⟩) rfl (fun K hK => ?_) (AllReadyH.cons (o := ⟨_, _, _, _, _, _⟩) rfl (fun K hK => ?_) AllReadyH.nil)
      · go_simp
        (go_at_call 68; refine (spotOf_any _ _ _ _ _ p _ HW.out HP.out).mono ?_; rintro e wv ⟨rfl, hb⟩; (repeat (first | replace hb := below_undrew hb | replace hb := below_undrewN hb)); replace a0 := cell_keep a0 al hb; replace a1 := cell_keep a1 al hb; replace a2 := cell_keep a2 al hb; replace al := lt_keep al hb; replace l0 := cell_keep l0 ll hb; replace l1 := cell_keep l1 ll hb; replace ll := lt_keep ll hb; replace BXp := Lib.hid (BXp.out.keep hb); replace B := Lib.hid (below_next B.out hb); clear hb)
        (try go_wp2_with fail)
        refine hK.out _ _ ?_ (fun hHeld => ?_)
        · (try dsimp only)
          exact ⟨a0, a1, a2⟩
        clear hK K
        (try simp only [Act.put, List.setIfInBounds_toArray, List.set_cons_zero, List.set_cons_succ])
        refine wpAnyH_ready (rs := [5, 7]) (by kernel_rfl) (by simp) ?_
        refine AllReadyH.cons (o := ⟨_, _, _, _, _, _⟩) rfl (fun K hK => ?_) (AllReadyH.cons (o := ⟨_, _, _, _, _, _⟩) rfl (fun K hK => ?_) AllReadyH.nil)
        · go_simp
          (go_at_call 68; refine (spotOf_any _ _ _ _ _ q _ HW.out HQ.out).mono ?_; rintro e wv ⟨rfl, hb⟩; (repeat (first | replace hb := below_undrew hb | replace hb := below_undrewN hb)); replace a0 := cell_keep a0 al hb; replace a1 := cell_keep a1 al hb; replace a2 := cell_keep a2 al hb; replace al := lt_keep al hb; replace l0 := cell_keep l0 ll hb; replace l1 := cell_keep l1 ll hb; replace ll := lt_keep ll hb; replace BXp := Lib.hid (BXp.out.keep hb); replace B := Lib.hid (below_next B.out hb); clear hb)
          (try go_wp2_with fail)
          refine hK.out _ _ ?_ (fun hHeld => ?_)
          · (try dsimp only)
            exact ⟨a0, a1, a2⟩
          clear hK K
          (try simp only [Act.put, List.setIfInBounds_toArray, List.set_cons_zero, List.set_cons_succ])
          refine wpAnyH_ready (rs := [7]) (by kernel_rfl) (by simp) ?_
          refine AllReadyH.cons (o := ⟨_, _, _, _, _, _⟩) rfl (fun K hK => ?_) AllReadyH.nil
          go_simp
          obtain ⟨wq, hWn⟩ : ∃ W5, W5 = wv.alloc (.cells #[.int .i64 0, .int .i64 0] 66) := ⟨_, rfl⟩
          have hb : Below wv.heap.size wv wq := by rw [hWn]; exact below_new (Below.refl _ _) _
          obtain ⟨gq, hgp⟩ : ∃ gp, gp = wv.heap.size := ⟨_, rfl⟩
          have BXq := Lib.hid (show SpotBox wq gq 0 0 by rw [hWn, hgp]; exact heap_alloc_new _ _)
          have HGq := Lib.hid (show w.heap.size + 1 < gq by rw [hgp]; exact ll)
          have HNE := Lib.hid (show gp ≠ gq by have := BXp.out.lt; omega)
          rw [← hWn]
          (try rw [← hgp])
          clear hWn hgp
          replace a0 := cell_keep a0 al hb
          replace a1 := cell_keep a1 al hb
          replace a2 := cell_keep a2 al hb
          replace al := lt_keep al hb
          replace l0 := cell_keep l0 ll hb
          replace l1 := cell_keep l1 ll hb
          replace ll := lt_keep ll hb
          replace BXp := Lib.hid (BXp.out.keep hb)
          replace B := Lib.hid (below_next B.out hb)
          clear hb
          refine hK.out _ _ ?_ (fun hHeld => ?_)
          · (try dsimp only)
            exact ⟨a0, a1, a2⟩
          clear hK K
          (try simp only [Act.put, List.setIfInBounds_toArray, List.set_cons_zero, List.set_cons_succ])
          refine wpAnyH_ready (rs := [8]) (by kernel_rfl) (by simp) ?_
          refine AllReadyH.cons (o := ⟨_, _, _, _, _, _⟩) rfl (fun K hK => ?_) AllReadyH.nil
          have z0 := BXp.out.c0; have z1 := BXp.out.c1
          have f0 : wq.frozen? ⟨gp, 0, none⟩ = false := frozen_of_row wq _ 0 _ _ BXp.out
          have f1 : wq.frozen? ⟨gp, 1, none⟩ = false := frozen_of_row wq _ 1 _ _ BXp.out
          go_simp
          obtain ⟨vp, hWn⟩ : ∃ W6, W6 = (wq.setCell ⟨gp, 0, none⟩ (.int .i64 (p % W))).setCell ⟨gp, 1, none⟩ (.int .i64 (p / W)) := ⟨_, rfl⟩
          have hgr : wq.grownBy vp (some gp) := by rw [hWn]; exact grown_next (grownSet _ ⟨gp, 0, none⟩ _) (grownSet _ ⟨gp, 1, none⟩ _)
          replace BXp := Lib.hid (show SpotBox vp gp (p % W) (p / W) by rw [hWn]; exact BXp.out.set _ _)
          replace BXq := Lib.hid (BXq.out.grown hgr (by have := HNE.out; simp; omega))
          replace B := Lib.hid (B.out.grown hgr B.out.size (fun g9 h9 => by injection h9 with h9; have := HGp.out; omega))
          have hgne := HGp.out
          replace a0 := hgr.cell a0 (by simp; omega)
          replace a1 := hgr.cell a1 (by simp; omega)
          replace a2 := hgr.cell a2 (by simp; omega)
          replace al := Nat.lt_of_lt_of_le al hgr.size
          replace l0 := hgr.cell l0 (by simp; omega)
          replace l1 := hgr.cell l1 (by simp; omega)
          replace ll := Nat.lt_of_lt_of_le ll hgr.size
          rw [← hWn]
          clear hWn hgr z0 z1 f0 f1 hgne
          refine hK.out _ _ ?_ (fun hHeld => ?_)
          · (try dsimp only)
            exact ⟨a0, a1, a2⟩
          clear hK K
          (try simp only [Act.put, List.setIfInBounds_toArray, List.set_cons_zero, List.set_cons_succ])
          refine wpAnyH_ready (rs := [9]) (by kernel_rfl) (by simp) ?_
          refine AllReadyH.cons (o := ⟨_, _, _, _, _, _⟩) rfl (fun K hK => ?_) AllReadyH.nil
          have z0 := BXq.out.c0; have z1 := BXq.out.c1
          have f0 : vp.frozen? ⟨gq, 0, none⟩ = false := frozen_of_row vp _ 0 _ _ BXq.out
          have f1 : vp.frozen? ⟨gq, 1, none⟩ = false := frozen_of_row vp _ 1 _ _ BXq.out
          go_simp
          obtain ⟨vq, hWn⟩ : ∃ W6, W6 = (vp.setCell ⟨gq, 0, none⟩ (.int .i64 (q % W))).setCell ⟨gq, 1, none⟩ (.int .i64 (q / W)) := ⟨_, rfl⟩
          have hgr : vp.grownBy vq (some gq) := by rw [hWn]; exact grown_next (grownSet _ ⟨gq, 0, none⟩ _) (grownSet _ ⟨gq, 1, none⟩ _)
          replace BXq := Lib.hid (show SpotBox vq gq (q % W) (q / W) by rw [hWn]; exact BXq.out.set _ _)
          replace BXp := Lib.hid (BXp.out.grown hgr (by have := HNE.out; simp; omega))
          replace B := Lib.hid (B.out.grown hgr B.out.size (fun g9 h9 => by injection h9 with h9; have := HGq.out; omega))
          have hgne := HGq.out
          replace a0 := hgr.cell a0 (by simp; omega)
          replace a1 := hgr.cell a1 (by simp; omega)
          replace a2 := hgr.cell a2 (by simp; omega)
          replace al := Nat.lt_of_lt_of_le al hgr.size
          replace l0 := hgr.cell l0 (by simp; omega)
          replace l1 := hgr.cell l1 (by simp; omega)
          replace ll := Nat.lt_of_lt_of_le ll hgr.size
          rw [← hWn]
          clear hWn hgr z0 z1 f0 f1 hgne
          refine hK.out _ _ ?_ (fun hHeld => ?_)
          · (try dsimp only)
            exact ⟨a0, a1, a2⟩
          clear hK K
          (try simp only [Act.put, List.setIfInBounds_toArray, List.set_cons_zero, List.set_cons_succ])
          refine wpAnyH_done (by kernel_rfl) ?_ _
          clear hHeld
          (try go_wp2_with fail)
          go_meet
          exact ⟨gp, gq, rfl, rfl, ⟨BXp.out.c0, BXp.out.c1, BXp.out.lt⟩, ⟨BXq.out.c0, BXq.out.c1, BXq.out.lt⟩, ⟨l0, l1, ll⟩, (by repeat (first | exact B.out | refine below_drewN ?_ _ | refine Below.drew ?_))⟩
        · go_simp
          obtain ⟨wq, hWn⟩ : ∃ W5, W5 = wv.alloc (.cells #[.int .i64 0, .int .i64 0] 66) := ⟨_, rfl⟩
          have hb : Below wv.heap.size wv wq := by rw [hWn]; exact below_new (Below.refl _ _) _
          obtain ⟨gq, hgp⟩ : ∃ gp, gp = wv.heap.size := ⟨_, rfl⟩
          have BXq := Lib.hid (show SpotBox wq gq 0 0 by rw [hWn, hgp]; exact heap_alloc_new _ _)
          have HGq := Lib.hid (show w.heap.size + 1 < gq by rw [hgp]; exact ll)
          have HNE := Lib.hid (show gp ≠ gq by have := BXp.out.lt; omega)
          rw [← hWn]
          (try rw [← hgp])
          clear hWn hgp
          replace a0 := cell_keep a0 al hb
          replace a1 := cell_keep a1 al hb
          replace a2 := cell_keep a2 al hb
          replace al := lt_keep al hb
          replace l0 := cell_keep l0 ll hb
          replace l1 := cell_keep l1 ll hb
          replace ll := lt_keep ll hb
          replace BXp := Lib.hid (BXp.out.keep hb)
          replace B := Lib.hid (below_next B.out hb)
          clear hb
          refine hK.out _ _ ?_ (fun hHeld => ?_)
          · (try dsimp only)
            exact ⟨a0, a1, a2⟩
          clear hK K
          (try simp only [Act.put, List.setIfInBounds_toArray, List.set_cons_zero, List.set_cons_succ])
          refine wpAnyH_ready (rs := [5]) (by kernel_rfl) (by simp) ?_
          refine AllReadyH.cons (o := ⟨_, _, _, _, _, _⟩) rfl (fun K hK => ?_) AllReadyH.nil
          go_simp
          (go_at_call 68; refine (spotOf_any _ _ _ _ _ q _ HW.out HQ.out).mono ?_; rintro e wv ⟨rfl, hb⟩; (repeat (first | replace hb := below_undrew hb | replace hb := below_undrewN hb)); replace a0 := cell_keep a0 al hb; replace a1 := cell_keep a1 al hb; replace a2 := cell_keep a2 al hb; replace al := lt_keep al hb; replace l0 := cell_keep l0 ll hb; replace l1 := cell_keep l1 ll hb; replace ll := lt_keep ll hb; replace BXp := Lib.hid (BXp.out.keep hb); replace BXq := Lib.hid (BXq.out.keep hb); replace B := Lib.hid (below_next B.out hb); clear hb)
          (try go_wp2_with fail)
          refine hK.out _ _ ?_ (fun hHeld => ?_)
          · (try dsimp only)
            exact ⟨a0, a1, a2⟩
          clear hK K
          (try simp only [Act.put, List.setIfInBounds_toArray, List.set_cons_zero, List.set_cons_succ])
          refine wpAnyH_ready (rs := [8]) (by kernel_rfl) (by simp) ?_
          refine AllReadyH.cons (o := ⟨_, _, _, _, _, _⟩) rfl (fun K hK => ?_) AllReadyH.nil
          have z0 := BXp.out.c0; have z1 := BXp.out.c1
          have f0 : wv.frozen? ⟨gp, 0, none⟩ = false := frozen_of_row wv _ 0 _ _ BXp.out
          have f1 : wv.frozen? ⟨gp, 1, none⟩ = false := frozen_of_row wv _ 1 _ _ BXp.out
          go_simp
          obtain ⟨vp, hWn⟩ : ∃ W6, W6 = (wv.setCell ⟨gp, 0, none⟩ (.int .i64 (p % W))).setCell ⟨gp, 1, none⟩ (.int .i64 (p / W)) := ⟨_, rfl⟩
          have hgr : wv.grownBy vp (some gp) := by rw [hWn]; exact grown_next (grownSet _ ⟨gp, 0, none⟩ _) (grownSet _ ⟨gp, 1, none⟩ _)
          replace BXp := Lib.hid (show SpotBox vp gp (p % W) (p / W) by rw [hWn]; exact BXp.out.set _ _)
          replace BXq := Lib.hid (BXq.out.grown hgr (by have := HNE.out; simp; omega))
          replace B := Lib.hid (B.out.grown hgr B.out.size (fun g9 h9 => by injection h9 with h9; have := HGp.out; omega))
          have hgne := HGp.out
          replace a0 := hgr.cell a0 (by simp; omega)
          replace a1 := hgr.cell a1 (by simp; omega)
          replace a2 := hgr.cell a2 (by simp; omega)
          replace al := Nat.lt_of_lt_of_le al hgr.size
          replace l0 := hgr.cell l0 (by simp; omega)
          replace l1 := hgr.cell l1 (by simp; omega)
          replace ll := Nat.lt_of_lt_of_le ll hgr.size
          rw [← hWn]
          clear hWn hgr z0 z1 f0 f1 hgne
          refine hK.out _ _ ?_ (fun hHeld => ?_)
          · (try dsimp only)
            exact ⟨a0, a1, a2⟩
          clear hK K
          (try simp only [Act.put, List.setIfInBounds_toArray, List.set_cons_zero, List.set_cons_succ])
          refine wpAnyH_ready (rs := [9]) (by kernel_rfl) (by simp) ?_
          refine AllReadyH.cons (o := ⟨_, _, _, _, _, _⟩) rfl (fun K hK => ?_) AllReadyH.nil
          have z0 := BXq.out.c0; have z1 := BXq.out.c1
          have f0 : vp.frozen? ⟨gq, 0, none⟩ = false := frozen_of_row vp _ 0 _ _ BXq.out
          have f1 : vp.frozen? ⟨gq, 1, none⟩ = false := frozen_of_row vp _ 1 _ _ BXq.out
          go_simp
          obtain ⟨vq, hWn⟩ : ∃ W6, W6 = (vp.setCell ⟨gq, 0, none⟩ (.int .i64 (q % W))).setCell ⟨gq, 1, none⟩ (.int .i64 (q / W)) := ⟨_, rfl⟩
          have hgr : vp.grownBy vq (some gq) := by rw [hWn]; exact grown_next (grownSet _ ⟨gq, 0, none⟩ _) (grownSet _ ⟨gq, 1, none⟩ _)
          replace BXq := Lib.hid (show SpotBox vq gq (q % W) (q / W) by rw [hWn]; exact BXq.out.set _ _)
          replace BXp := Lib.hid (BXp.out.grown hgr (by have := HNE.out; simp; omega))
          replace B := Lib.hid (B.out.grown hgr B.out.size (fun g9 h9 => by injection h9 with h9; have := HGq.out; omega))
          have hgne := HGq.out
          replace a0 := hgr.cell a0 (by simp; omega)
          replace a1 := hgr.cell a1 (by simp; omega)
          replace a2 := hgr.cell a2 (by simp; omega)
          replace al := Nat.lt_of_lt_of_le al hgr.size
          replace l0 := hgr.cell l0 (by simp; omega)
          replace l1 := hgr.cell l1 (by simp; omega)
          replace ll := Nat.lt_of_lt_of_le ll hgr.size
          rw [← hWn]
          clear hWn hgr z0 z1 f0 f1 hgne
          refine hK.out _ _ ?_ (fun hHeld => ?_)
          · (try dsimp only)
            exact ⟨a0, a1, a2⟩
          clear hK K
          (try simp only [Act.put, List.setIfInBounds_toArray, List.set_cons_zero, List.set_cons_succ])
          refine wpAnyH_done (by kernel_rfl) ?_ _
          clear hHeld
          (try go_wp2_with fail)
          go_meet
          exact ⟨gp, gq, rfl, rfl, ⟨BXp.out.c0, BXp.out.c1, BXp.out.lt⟩, ⟨BXq.out.c0, BXq.out.c1, BXq.out.lt⟩, ⟨l0, l1, ll⟩, (by repeat (first | exact B.out | refine below_drewN ?_ _ | refine Below.drew ?_))⟩
      · go_simp
        obtain ⟨wq, hWn⟩ : ∃ W5, W5 = wp.alloc (.cells #[.int .i64 0, .int .i64 0] 66) := ⟨_, rfl⟩
        have hb : Below wp.heap.size wp wq := by rw [hWn]; exact below_new (Below.refl _ _) _
        obtain ⟨gq, hgp⟩ : ∃ gp, gp = wp.heap.size := ⟨_, rfl⟩
        have BXq := Lib.hid (show SpotBox wq gq 0 0 by rw [hWn, hgp]; exact heap_alloc_new _ _)
        have HGq := Lib.hid (show w.heap.size + 1 < gq by rw [hgp]; exact ll)
        have HNE := Lib.hid (show gp ≠ gq by have := BXp.out.lt; omega)
        rw [← hWn]
        (try rw [← hgp])
        clear hWn hgp
        replace a0 := cell_keep a0 al hb
        replace a1 := cell_keep a1 al hb
        replace a2 := cell_keep a2 al hb
        replace al := lt_keep al hb
        replace l0 := cell_keep l0 ll hb
        replace l1 := cell_keep l1 ll hb
        replace ll := lt_keep ll hb
        replace BXp := Lib.hid (BXp.out.keep hb)
        replace B := Lib.hid (below_next B.out hb)
        clear hb
        refine hK.out _ _ ?_ (fun hHeld => ?_)
        · (try dsimp only)
          exact ⟨a0, a1, a2⟩
        clear hK K
        (try simp only [Act.put, List.setIfInBounds_toArray, List.set_cons_zero, List.set_cons_succ])
        refine wpAnyH_ready (rs := [2]) (by kernel_rfl) (by simp) ?_
        refine AllReadyH.cons (o := ⟨_, _, _, _, _, _⟩) rfl (fun K hK => ?_) AllReadyH.nil
        go_simp
        (go_at_call 68; refine (spotOf_any _ _ _ _ _ p _ HW.out HP.out).mono ?_; rintro e wv ⟨rfl, hb⟩; (repeat (first | replace hb := below_undrew hb | replace hb := below_undrewN hb)); replace a0 := cell_keep a0 al hb; replace a1 := cell_keep a1 al hb; replace a2 := cell_keep a2 al hb; replace al := lt_keep al hb; replace l0 := cell_keep l0 ll hb; replace l1 := cell_keep l1 ll hb; replace ll := lt_keep ll hb; replace BXp := Lib.hid (BXp.out.keep hb); replace BXq := Lib.hid (BXq.out.keep hb); replace B := Lib.hid (below_next B.out hb); clear hb)
        (try go_wp2_with fail)
        refine hK.out _ _ ?_ (fun hHeld => ?_)
        · (try dsimp only)
          exact ⟨a0, a1, a2⟩
        clear hK K
        (try simp only [Act.put, List.setIfInBounds_toArray, List.set_cons_zero, List.set_cons_succ])
        refine wpAnyH_ready (rs := [5]) (by kernel_rfl) (by simp) ?_
        refine AllReadyH.cons (o := ⟨_, _, _, _, _, _⟩) rfl (fun K hK => ?_) AllReadyH.nil
        go_simp
        (go_at_call 68; refine (spotOf_any _ _ _ _ _ q _ HW.out HQ.out).mono ?_; rintro e wv ⟨rfl, hb⟩; (repeat (first | replace hb := below_undrew hb | replace hb := below_undrewN hb)); replace a0 := cell_keep a0 al hb; replace a1 := cell_keep a1 al hb; replace a2 := cell_keep a2 al hb; replace al := lt_keep al hb; replace l0 := cell_keep l0 ll hb; replace l1 := cell_keep l1 ll hb; replace ll := lt_keep ll hb; replace BXp := Lib.hid (BXp.out.keep hb); replace BXq := Lib.hid (BXq.out.keep hb); replace B := Lib.hid (below_next B.out hb); clear hb)
        (try go_wp2_with fail)
        refine hK.out _ _ ?_ (fun hHeld => ?_)
        · (try dsimp only)
          exact ⟨a0, a1, a2⟩
        clear hK K
        (try simp only [Act.put, List.setIfInBounds_toArray, List.set_cons_zero, List.set_cons_succ])
        refine wpAnyH_ready (rs := [8]) (by kernel_rfl) (by simp) ?_
        refine AllReadyH.cons (o := ⟨_, _, _, _, _, _⟩) rfl (fun K hK => ?_) AllReadyH.nil
        have z0 := BXp.out.c0; have z1 := BXp.out.c1
        have f0 : wv.frozen? ⟨gp, 0, none⟩ = false := frozen_of_row wv _ 0 _ _ BXp.out
        have f1 : wv.frozen? ⟨gp, 1, none⟩ = false := frozen_of_row wv _ 1 _ _ BXp.out
        go_simp
        obtain ⟨vp, hWn⟩ : ∃ W6, W6 = (wv.setCell ⟨gp, 0, none⟩ (.int .i64 (p % W))).setCell ⟨gp, 1, none⟩ (.int .i64 (p / W)) := ⟨_, rfl⟩
        have hgr : wv.grownBy vp (some gp) := by rw [hWn]; exact grown_next (grownSet _ ⟨gp, 0, none⟩ _) (grownSet _ ⟨gp, 1, none⟩ _)
        replace BXp := Lib.hid (show SpotBox vp gp (p % W) (p / W) by rw [hWn]; exact BXp.out.set _ _)
        replace BXq := Lib.hid (BXq.out.grown hgr (by have := HNE.out; simp; omega))
        replace B := Lib.hid (B.out.grown hgr B.out.size (fun g9 h9 => by injection h9 with h9; have := HGp.out; omega))
        have hgne := HGp.out
        replace a0 := hgr.cell a0 (by simp; omega)
        replace a1 := hgr.cell a1 (by simp; omega)
        replace a2 := hgr.cell a2 (by simp; omega)
        replace al := Nat.lt_of_lt_of_le al hgr.size
        replace l0 := hgr.cell l0 (by simp; omega)
        replace l1 := hgr.cell l1 (by simp; omega)
        replace ll := Nat.lt_of_lt_of_le ll hgr.size
        rw [← hWn]
        clear hWn hgr z0 z1 f0 f1 hgne
        refine hK.out _ _ ?_ (fun hHeld => ?_)
        · (try dsimp only)
          exact ⟨a0, a1, a2⟩
        clear hK K
        (try simp only [Act.put, List.setIfInBounds_toArray, List.set_cons_zero, List.set_cons_succ])
        refine wpAnyH_ready (rs := [9]) (by kernel_rfl) (by simp) ?_
        refine AllReadyH.cons (o := ⟨_, _, _, _, _, _⟩) rfl (fun K hK => ?_) AllReadyH.nil
        have z0 := BXq.out.c0; have z1 := BXq.out.c1
        have f0 : vp.frozen? ⟨gq, 0, none⟩ = false := frozen_of_row vp _ 0 _ _ BXq.out
        have f1 : vp.frozen? ⟨gq, 1, none⟩ = false := frozen_of_row vp _ 1 _ _ BXq.out
        go_simp
        obtain ⟨vq, hWn⟩ : ∃ W6, W6 = (vp.setCell ⟨gq, 0, none⟩ (.int .i64 (q % W))).setCell ⟨gq, 1, none⟩ (.int .i64 (q / W)) := ⟨_, rfl⟩
        have hgr : vp.grownBy vq (some gq) := by rw [hWn]; exact grown_next (grownSet _ ⟨gq, 0, none⟩ _) (grownSet _ ⟨gq, 1, none⟩ _)
        replace BXq := Lib.hid (show SpotBox vq gq (q % W) (q / W) by rw [hWn]; exact BXq.out.set _ _)
        replace BXp := Lib.hid (BXp.out.grown hgr (by have := HNE.out; simp; omega))
        replace B := Lib.hid (B.out.grown hgr B.out.size (fun g9 h9 => by injection h9 with h9; have := HGq.out; omega))
        have hgne := HGq.out
        replace a0 := hgr.cell a0 (by simp; omega)
        replace a1 := hgr.cell a1 (by simp; omega)
        replace a2 := hgr.cell a2 (by simp; omega)
        replace al := Nat.lt_of_lt_of_le al hgr.size
        replace l0 := hgr.cell l0 (by simp; omega)
        replace l1 := hgr.cell l1 (by simp; omega)
        replace ll := Nat.lt_of_lt_of_le ll hgr.size
        rw [← hWn]
        clear hWn hgr z0 z1 f0 f1 hgne
        refine hK.out _ _ ?_ (fun hHeld => ?_)
        · (try dsimp only)
          exact ⟨a0, a1, a2⟩
        clear hK K
        (try simp only [Act.put, List.setIfInBounds_toArray, List.set_cons_zero, List.set_cons_succ])
        refine wpAnyH_done (by kernel_rfl) ?_ _
        clear hHeld
        (try go_wp2_with fail)
        go_meet
        exact ⟨gp, gq, rfl, rfl, ⟨BXp.out.c0, BXp.out.c1, BXp.out.lt⟩, ⟨BXq.out.c0, BXq.out.c1, BXq.out.lt⟩, ⟨l0, l1, ll⟩, (by repeat (first | exact B.out | refine below_drewN ?_ _ | refine Below.drew ?_))⟩
    · go_simp
      obtain ⟨wq, hWn⟩ : ∃ W5, W5 = W2.alloc (.cells #[.int .i64 0, .int .i64 0] 66) := ⟨_, rfl⟩
      have hb : Below W2.heap.size W2 wq := by rw [hWn]; exact below_new (Below.refl _ _) _
      obtain ⟨gq, hgp⟩ : ∃ gp, gp = W2.heap.size := ⟨_, rfl⟩
      have BXq := Lib.hid (show SpotBox wq gq 0 0 by rw [hWn, hgp]; exact heap_alloc_new _ _)
      have HGq := Lib.hid (show w.heap.size + 1 < gq by rw [hgp]; exact ll)
      rw [← hWn]
      (try rw [← hgp])
      clear hWn hgp
      replace a0 := cell_keep a0 al hb
      replace a1 := cell_keep a1 al hb
      replace a2 := cell_keep a2 al hb
      replace al := lt_keep al hb
      replace l0 := cell_keep l0 ll hb
      replace l1 := cell_keep l1 ll hb
      replace ll := lt_keep ll hb
      replace B := Lib.hid (below_next B.out hb)
      clear hb
      refine hK.out _ _ ?_ (fun hHeld => ?_)
      · (try dsimp only)
        exact ⟨a0, a1, a2⟩
      clear hK K
      (try simp only [Act.put, List.setIfInBounds_toArray, List.set_cons_zero, List.set_cons_succ])
      refine wpAnyH_ready (rs := [2, 6]) (by kernel_rfl) (by simp) ?_
      refine AllReadyH.cons (o := ⟨_, _, _, _, _, _⟩) rfl (fun K hK => ?_) (AllReadyH.cons (o := ⟨_, _, _, _, _, _⟩) rfl (fun K hK => ?_) AllReadyH.nil)
      · go_simp
        (go_at_call 68; refine (spotOf_any _ _ _ _ _ p _ HW.out HP.out).mono ?_; rintro e wv ⟨rfl, hb⟩; (repeat (first | replace hb := below_undrew hb | replace hb := below_undrewN hb)); replace a0 := cell_keep a0 al hb; replace a1 := cell_keep a1 al hb; replace a2 := cell_keep a2 al hb; replace al := lt_keep al hb; replace l0 := cell_keep l0 ll hb; replace l1 := cell_keep l1 ll hb; replace ll := lt_keep ll hb; replace BXq := Lib.hid (BXq.out.keep hb); replace B := Lib.hid (below_next B.out hb); clear hb)
        (try go_wp2_with fail)
        refine hK.out _ _ ?_ (fun hHeld => ?_)
        · (try dsimp only)
          exact ⟨a0, a1, a2⟩
        clear hK K
        (try simp only [Act.put, List.setIfInBounds_toArray, List.set_cons_zero, List.set_cons_succ])
        refine wpAnyH_ready (rs := [5, 6]) (by kernel_rfl) (by simp) ?_
        refine AllReadyH.cons (o := ⟨_, _, _, _, _, _⟩) rfl (fun K hK => ?_) (AllReadyH.cons (o := ⟨_, _, _, _, _, _⟩) rfl (fun K hK => ?_) AllReadyH.nil)
        · go_simp
          (go_at_call 68; refine (spotOf_any _ _ _ _ _ q _ HW.out HQ.out).mono ?_; rintro e wv ⟨rfl, hb⟩; (repeat (first | replace hb := below_undrew hb | replace hb := below_undrewN hb)); replace a0 := cell_keep a0 al hb; replace a1 := cell_keep a1 al hb; replace a2 := cell_keep a2 al hb; replace al := lt_keep al hb; replace l0 := cell_keep l0 ll hb; replace l1 := cell_keep l1 ll hb; replace ll := lt_keep ll hb; replace BXq := Lib.hid (BXq.out.keep hb); replace B := Lib.hid (below_next B.out hb); clear hb)
          (try go_wp2_with fail)
          refine hK.out _ _ ?_ (fun hHeld => ?_)
          · (try dsimp only)
            exact ⟨a0, a1, a2⟩
          clear hK K
          (try simp only [Act.put, List.setIfInBounds_toArray, List.set_cons_zero, List.set_cons_succ])
          refine wpAnyH_ready (rs := [6]) (by kernel_rfl) (by simp) ?_
          refine AllReadyH.cons (o := ⟨_, _, _, _, _, _⟩) rfl (fun K hK => ?_) AllReadyH.nil
          go_simp
          obtain ⟨wp, hWn⟩ : ∃ W5, W5 = wv.alloc (.cells #[.int .i64 0, .int .i64 0] 66) := ⟨_, rfl⟩
          have hb : Below wv.heap.size wv wp := by rw [hWn]; exact below_new (Below.refl _ _) _
          obtain ⟨gp, hgp⟩ : ∃ gp, gp = wv.heap.size := ⟨_, rfl⟩
          have BXp := Lib.hid (show SpotBox wp gp 0 0 by rw [hWn, hgp]; exact heap_alloc_new _ _)
          have HGp := Lib.hid (show w.heap.size + 1 < gp by rw [hgp]; exact ll)
          have HNE := Lib.hid (show gp ≠ gq by have := BXq.out.lt; omega)
          rw [← hWn]
          (try rw [← hgp])
          clear hWn hgp
          replace a0 := cell_keep a0 al hb
          replace a1 := cell_keep a1 al hb
          replace a2 := cell_keep a2 al hb
          replace al := lt_keep al hb
          replace l0 := cell_keep l0 ll hb
          replace l1 := cell_keep l1 ll hb
          replace ll := lt_keep ll hb
          replace BXq := Lib.hid (BXq.out.keep hb)
          replace B := Lib.hid (below_next B.out hb)
          clear hb
          refine hK.out _ _ ?_ (fun hHeld => ?_)
          · (try dsimp only)
            exact ⟨a0, a1, a2⟩
          clear hK K
          (try simp only [Act.put, List.setIfInBounds_toArray, List.set_cons_zero, List.set_cons_succ])
          refine wpAnyH_ready (rs := [8]) (by kernel_rfl) (by simp) ?_
          refine AllReadyH.cons (o := ⟨_, _, _, _, _, _⟩) rfl (fun K hK => ?_) AllReadyH.nil
          have z0 := BXp.out.c0; have z1 := BXp.out.c1
          have f0 : wp.frozen? ⟨gp, 0, none⟩ = false := frozen_of_row wp _ 0 _ _ BXp.out
          have f1 : wp.frozen? ⟨gp, 1, none⟩ = false := frozen_of_row wp _ 1 _ _ BXp.out
          go_simp
          obtain ⟨vp, hWn⟩ : ∃ W6, W6 = (wp.setCell ⟨gp, 0, none⟩ (.int .i64 (p % W))).setCell ⟨gp, 1, none⟩ (.int .i64 (p / W)) := ⟨_, rfl⟩
          have hgr : wp.grownBy vp (some gp) := by rw [hWn]; exact grown_next (grownSet _ ⟨gp, 0, none⟩ _) (grownSet _ ⟨gp, 1, none⟩ _)
          replace BXp := Lib.hid (show SpotBox vp gp (p % W) (p / W) by rw [hWn]; exact BXp.out.set _ _)
          replace BXq := Lib.hid (BXq.out.grown hgr (by have := HNE.out; simp; omega))
          replace B := Lib.hid (B.out.grown hgr B.out.size (fun g9 h9 => by injection h9 with h9; have := HGp.out; omega))
          have hgne := HGp.out
          replace a0 := hgr.cell a0 (by simp; omega)
          replace a1 := hgr.cell a1 (by simp; omega)
          replace a2 := hgr.cell a2 (by simp; omega)
          replace al := Nat.lt_of_lt_of_le al hgr.size
          replace l0 := hgr.cell l0 (by simp; omega)
          replace l1 := hgr.cell l1 (by simp; omega)
          replace ll := Nat.lt_of_lt_of_le ll hgr.size
          rw [← hWn]
          clear hWn hgr z0 z1 f0 f1 hgne
          refine hK.out _ _ ?_ (fun hHeld => ?_)
          · (try dsimp only)
            exact ⟨a0, a1, a2⟩
          clear hK K
          (try simp only [Act.put, List.setIfInBounds_toArray, List.set_cons_zero, List.set_cons_succ])
          refine wpAnyH_ready (rs := [9]) (by kernel_rfl) (by simp) ?_
          refine AllReadyH.cons (o := ⟨_, _, _, _, _, _⟩) rfl (fun K hK => ?_) AllReadyH.nil
          have z0 := BXq.out.c0; have z1 := BXq.out.c1
          have f0 : vp.frozen? ⟨gq, 0, none⟩ = false := frozen_of_row vp _ 0 _ _ BXq.out
          have f1 : vp.frozen? ⟨gq, 1, none⟩ = false := frozen_of_row vp _ 1 _ _ BXq.out
          go_simp
          obtain ⟨vq, hWn⟩ : ∃ W6, W6 = (vp.setCell ⟨gq, 0, none⟩ (.int .i64 (q % W))).setCell ⟨gq, 1, none⟩ (.int .i64 (q / W)) := ⟨_, rfl⟩
          have hgr : vp.grownBy vq (some gq) := by rw [hWn]; exact grown_next (grownSet _ ⟨gq, 0, none⟩ _) (grownSet _ ⟨gq, 1, none⟩ _)
          replace BXq := Lib.hid (show SpotBox vq gq (q % W) (q / W) by rw [hWn]; exact BXq.out.set _ _)
          replace BXp := Lib.hid (BXp.out.grown hgr (by have := HNE.out; simp; omega))
          replace B := Lib.hid (B.out.grown hgr B.out.size (fun g9 h9 => by injection h9 with h9; have := HGq.out; omega))
          have hgne := HGq.out
          replace a0 := hgr.cell a0 (by simp; omega)
          replace a1 := hgr.cell a1 (by simp; omega)
          replace a2 := hgr.cell a2 (by simp; omega)
          replace al := Nat.lt_of_lt_of_le al hgr.size
          replace l0 := hgr.cell l0 (by simp; omega)
          replace l1 := hgr.cell l1 (by simp; omega)
          replace ll := Nat.lt_of_lt_of_le ll hgr.size
          rw [← hWn]
          clear hWn hgr z0 z1 f0 f1 hgne
          refine hK.out _ _ ?_ (fun hHeld => ?_)
          · (try dsimp only)
            exact ⟨a0, a1, a2⟩
          clear hK K
          (try simp only [Act.put, List.setIfInBounds_toArray, List.set_cons_zero, List.set_cons_succ])
          refine wpAnyH_done (by kernel_rfl) ?_ _
          clear hHeld
          (try go_wp2_with fail)
          go_meet
          exact ⟨gp, gq, rfl, rfl, ⟨BXp.out.c0, BXp.out.c1, BXp.out.lt⟩, ⟨BXq.out.c0, BXq.out.c1, BXq.out.lt⟩, ⟨l0, l1, ll⟩, (by repeat (first | exact B.out | refine below_drewN ?_ _ | refine Below.drew ?_))⟩
        · go_simp
          obtain ⟨wp, hWn⟩ : ∃ W5, W5 = wv.alloc (.cells #[.int .i64 0, .int .i64 0] 66) := ⟨_, rfl⟩
          have hb : Below wv.heap.size wv wp := by rw [hWn]; exact below_new (Below.refl _ _) _
          obtain ⟨gp, hgp⟩ : ∃ gp, gp = wv.heap.size := ⟨_, rfl⟩
          have BXp := Lib.hid (show SpotBox wp gp 0 0 by rw [hWn, hgp]; exact heap_alloc_new _ _)
          have HGp := Lib.hid (show w.heap.size + 1 < gp by rw [hgp]; exact ll)
          have HNE := Lib.hid (show gp ≠ gq by have := BXq.out.lt; omega)
          rw [← hWn]
          (try rw [← hgp])
          clear hWn hgp
          replace a0 := cell_keep a0 al hb
          replace a1 := cell_keep a1 al hb
          replace a2 := cell_keep a2 al hb
          replace al := lt_keep al hb
          replace l0 := cell_keep l0 ll hb
          replace l1 := cell_keep l1 ll hb
          replace ll := lt_keep ll hb
          replace BXq := Lib.hid (BXq.out.keep hb)
          replace B := Lib.hid (below_next B.out hb)
          clear hb
          refine hK.out _ _ ?_ (fun hHeld => ?_)
          · (try dsimp only)
            exact ⟨a0, a1, a2⟩
          clear hK K
          (try simp only [Act.put, List.setIfInBounds_toArray, List.set_cons_zero, List.set_cons_succ])
          refine wpAnyH_ready (rs := [5]) (by kernel_rfl) (by simp) ?_
          refine AllReadyH.cons (o := ⟨_, _, _, _, _, _⟩) rfl (fun K hK => ?_) AllReadyH.nil
          go_simp
          (go_at_call 68; refine (spotOf_any _ _ _ _ _ q _ HW.out HQ.out).mono ?_; rintro e wv ⟨rfl, hb⟩; (repeat (first | replace hb := below_undrew hb | replace hb := below_undrewN hb)); replace a0 := cell_keep a0 al hb; replace a1 := cell_keep a1 al hb; replace a2 := cell_keep a2 al hb; replace al := lt_keep al hb; replace l0 := cell_keep l0 ll hb; replace l1 := cell_keep l1 ll hb; replace ll := lt_keep ll hb; replace BXp := Lib.hid (BXp.out.keep hb); replace BXq := Lib.hid (BXq.out.keep hb); replace B := Lib.hid (below_next B.out hb); clear hb)
          (try go_wp2_with fail)
          refine hK.out _ _ ?_ (fun hHeld => ?_)
          · (try dsimp only)
            exact ⟨a0, a1, a2⟩
          clear hK K
          (try simp only [Act.put, List.setIfInBounds_toArray, List.set_cons_zero, List.set_cons_succ])
          refine wpAnyH_ready (rs := [8]) (by kernel_rfl) (by simp) ?_
          refine AllReadyH.cons (o := ⟨_, _, _, _, _, _⟩) rfl (fun K hK => ?_) AllReadyH.nil
          have z0 := BXp.out.c0; have z1 := BXp.out.c1
          have f0 : wv.frozen? ⟨gp, 0, none⟩ = false := frozen_of_row wv _ 0 _ _ BXp.out
          have f1 : wv.frozen? ⟨gp, 1, none⟩ = false := frozen_of_row wv _ 1 _ _ BXp.out
          go_simp
          obtain ⟨vp, hWn⟩ : ∃ W6, W6 = (wv.setCell ⟨gp, 0, none⟩ (.int .i64 (p % W))).setCell ⟨gp, 1, none⟩ (.int .i64 (p / W)) := ⟨_, rfl⟩
          have hgr : wv.grownBy vp (some gp) := by rw [hWn]; exact grown_next (grownSet _ ⟨gp, 0, none⟩ _) (grownSet _ ⟨gp, 1, none⟩ _)
          replace BXp := Lib.hid (show SpotBox vp gp (p % W) (p / W) by rw [hWn]; exact BXp.out.set _ _)
          replace BXq := Lib.hid (BXq.out.grown hgr (by have := HNE.out; simp; omega))
          replace B := Lib.hid (B.out.grown hgr B.out.size (fun g9 h9 => by injection h9 with h9; have := HGp.out; omega))
          have hgne := HGp.out
          replace a0 := hgr.cell a0 (by simp; omega)
          replace a1 := hgr.cell a1 (by simp; omega)
          replace a2 := hgr.cell a2 (by simp; omega)
          replace al := Nat.lt_of_lt_of_le al hgr.size
          replace l0 := hgr.cell l0 (by simp; omega)
          replace l1 := hgr.cell l1 (by simp; omega)
          replace ll := Nat.lt_of_lt_of_le ll hgr.size
          rw [← hWn]
          clear hWn hgr z0 z1 f0 f1 hgne
          refine hK.out _ _ ?_ (fun hHeld => ?_)
          · (try dsimp only)
            exact ⟨a0, a1, a2⟩
          clear hK K
          (try simp only [Act.put, List.setIfInBounds_toArray, List.set_cons_zero, List.set_cons_succ])
          refine wpAnyH_ready (rs := [9]) (by kernel_rfl) (by simp) ?_
          refine AllReadyH.cons (o := ⟨_, _, _, _, _, _⟩) rfl (fun K hK => ?_) AllReadyH.nil
          have z0 := BXq.out.c0; have z1 := BXq.out.c1
          have f0 : vp.frozen? ⟨gq, 0, none⟩ = false := frozen_of_row vp _ 0 _ _ BXq.out
          have f1 : vp.frozen? ⟨gq, 1, none⟩ = false := frozen_of_row vp _ 1 _ _ BXq.out
          go_simp
          obtain ⟨vq, hWn⟩ : ∃ W6, W6 = (vp.setCell ⟨gq, 0, none⟩ (.int .i64 (q % W))).setCell ⟨gq, 1, none⟩ (.int .i64 (q / W)) := ⟨_, rfl⟩
          have hgr : vp.grownBy vq (some gq) := by rw [hWn]; exact grown_next (grownSet _ ⟨gq, 0, none⟩ _) (grownSet _ ⟨gq, 1, none⟩ _)
          replace BXq := Lib.hid (show SpotBox vq gq (q % W) (q / W) by rw [hWn]; exact BXq.out.set _ _)
          replace BXp := Lib.hid (BXp.out.grown hgr (by have := HNE.out; simp; omega))
          replace B := Lib.hid (B.out.grown hgr B.out.size (fun g9 h9 => by injection h9 with h9; have := HGq.out; omega))
          have hgne := HGq.out
          replace a0 := hgr.cell a0 (by simp; omega)
          replace a1 := hgr.cell a1 (by simp; omega)
          replace a2 := hgr.cell a2 (by simp; omega)
          replace al := Nat.lt_of_lt_of_le al hgr.size
          replace l0 := hgr.cell l0 (by simp; omega)
          replace l1 := hgr.cell l1 (by simp; omega)
          replace ll := Nat.lt_of_lt_of_le ll hgr.size
          rw [← hWn]
          clear hWn hgr z0 z1 f0 f1 hgne
          refine hK.out _ _ ?_ (fun hHeld => ?_)
          · (try dsimp only)
            exact ⟨a0, a1, a2⟩
          clear hK K
          (try simp only [Act.put, List.setIfInBounds_toArray, List.set_cons_zero, List.set_cons_succ])
          refine wpAnyH_done (by kernel_rfl) ?_ _
          clear hHeld
          (try go_wp2_with fail)
          go_meet
          exact ⟨gp, gq, rfl, rfl, ⟨BXp.out.c0, BXp.out.c1, BXp.out.lt⟩, ⟨BXq.out.c0, BXq.out.c1, BXq.out.lt⟩, ⟨l0, l1, ll⟩, (by repeat (first | exact B.out | refine below_drewN ?_ _ | refine Below.drew ?_))⟩
      · go_simp
        obtain ⟨wp, hWn⟩ : ∃ W5, W5 = wq.alloc (.cells #[.int .i64 0, .int .i64 0] 66) := ⟨_, rfl⟩
        have hb : Below wq.heap.size wq wp := by rw [hWn]; exact below_new (Below.refl _ _) _
        obtain ⟨gp, hgp⟩ : ∃ gp, gp = wq.heap.size := ⟨_, rfl⟩
        have BXp := Lib.hid (show SpotBox wp gp 0 0 by rw [hWn, hgp]; exact heap_alloc_new _ _)
        have HGp := Lib.hid (show w.heap.size + 1 < gp by rw [hgp]; exact ll)
        have HNE := Lib.hid (show gp ≠ gq by have := BXq.out.lt; omega)
        rw [← hWn]
        (try rw [← hgp])
        clear hWn hgp
        replace a0 := cell_keep a0 al hb
        replace a1 := cell_keep a1 al hb
        replace a2 := cell_keep a2 al hb
        replace al := lt_keep al hb
        replace l0 := cell_keep l0 ll hb
        replace l1 := cell_keep l1 ll hb
        replace ll := lt_keep ll hb
        replace BXq := Lib.hid (BXq.out.keep hb)
        replace B := Lib.hid (below_next B.out hb)
        clear hb
        refine hK.out _ _ ?_ (fun hHeld => ?_)
        · (try dsimp only)
          exact ⟨a0, a1, a2⟩
        clear hK K
        (try simp only [Act.put, List.setIfInBounds_toArray, List.set_cons_zero, List.set_cons_succ])
        refine wpAnyH_ready (rs := [2]) (by kernel_rfl) (by simp) ?_
        refine AllReadyH.cons (o := ⟨_, _, _, _, _, _⟩) rfl (fun K hK => ?_) AllReadyH.nil
        go_simp
        (go_at_call 68; refine (spotOf_any _ _ _ _ _ p _ HW.out HP.out).mono ?_; rintro e wv ⟨rfl, hb⟩; (repeat (first | replace hb := below_undrew hb | replace hb := below_undrewN hb)); replace a0 := cell_keep a0 al hb; replace a1 := cell_keep a1 al hb; replace a2 := cell_keep a2 al hb; replace al := lt_keep al hb; replace l0 := cell_keep l0 ll hb; replace l1 := cell_keep l1 ll hb; replace ll := lt_keep ll hb; replace BXp := Lib.hid (BXp.out.keep hb); replace BXq := Lib.hid (BXq.out.keep hb); replace B := Lib.hid (below_next B.out hb); clear hb)
        (try go_wp2_with fail)
        refine hK.out _ _ ?_ (fun hHeld => ?_)
        · (try dsimp only)
          exact ⟨a0, a1, a2⟩
        clear hK K
        (try simp only [Act.put, List.setIfInBounds_toArray, List.set_cons_zero, List.set_cons_succ])
        refine wpAnyH_ready (rs := [5]) (by kernel_rfl) (by simp) ?_
        refine AllReadyH.cons (o := ⟨_, _, _, _, _, _⟩) rfl (fun K hK => ?_) AllReadyH.nil
        go_simp
        (go_at_call 68; refine (spotOf_any _ _ _ _ _ q _ HW.out HQ.out).mono ?_; rintro e wv ⟨rfl, hb⟩; (repeat (first | replace hb := below_undrew hb | replace hb := below_undrewN hb)); replace a0 := cell_keep a0 al hb; replace a1 := cell_keep a1 al hb; replace a2 := cell_keep a2 al hb; replace al := lt_keep al hb; replace l0 := cell_keep l0 ll hb; replace l1 := cell_keep l1 ll hb; replace ll := lt_keep ll hb; replace BXp := Lib.hid (BXp.out.keep hb); replace BXq := Lib.hid (BXq.out.keep hb); replace B := Lib.hid (below_next B.out hb); clear hb)
        (try go_wp2_with fail)
        refine hK.out _ _ ?_ (fun hHeld => ?_)
        · (try dsimp only)
          exact ⟨a0, a1, a2⟩
        clear hK K
        (try simp only [Act.put, List.setIfInBounds_toArray, List.set_cons_zero, List.set_cons_succ])
        refine wpAnyH_ready (rs := [8]) (by kernel_rfl) (by simp) ?_
        refine AllReadyH.cons (o := ⟨_, _, _, _, _, _⟩) rfl (fun K hK => ?_) AllReadyH.nil
        have z0 := BXp.out.c0; have z1 := BXp.out.c1
        have f0 : wv.frozen? ⟨gp, 0, none⟩ = false := frozen_of_row wv _ 0 _ _ BXp.out
        have f1 : wv.frozen? ⟨gp, 1, none⟩ = false := frozen_of_row wv _ 1 _ _ BXp.out
        go_simp
        obtain ⟨vp, hWn⟩ : ∃ W6, W6 = (wv.setCell ⟨gp, 0, none⟩ (.int .i64 (p % W))).setCell ⟨gp, 1, none⟩ (.int .i64 (p / W)) := ⟨_, rfl⟩
        have hgr : wv.grownBy vp (some gp) := by rw [hWn]; exact grown_next (grownSet _ ⟨gp, 0, none⟩ _) (grownSet _ ⟨gp, 1, none⟩ _)
        replace BXp := Lib.hid (show SpotBox vp gp (p % W) (p / W) by rw [hWn]; exact BXp.out.set _ _)
        replace BXq := Lib.hid (BXq.out.grown hgr (by have := HNE.out; simp; omega))
        replace B := Lib.hid (B.out.grown hgr B.out.size (fun g9 h9 => by injection h9 with h9; have := HGp.out; omega))
        have hgne := HGp.out
        replace a0 := hgr.cell a0 (by simp; omega)
        replace a1 := hgr.cell a1 (by simp; omega)
        replace a2 := hgr.cell a2 (by simp; omega)
        replace al := Nat.lt_of_lt_of_le al hgr.size
        replace l0 := hgr.cell l0 (by simp; omega)
        replace l1 := hgr.cell l1 (by simp; omega)
        replace ll := Nat.lt_of_lt_of_le ll hgr.size
        rw [← hWn]
        clear hWn hgr z0 z1 f0 f1 hgne
        refine hK.out _ _ ?_ (fun hHeld => ?_)
        · (try dsimp only)
          exact ⟨a0, a1, a2⟩
        clear hK K
        (try simp only [Act.put, List.setIfInBounds_toArray, List.set_cons_zero, List.set_cons_succ])
        refine wpAnyH_ready (rs := [9]) (by kernel_rfl) (by simp) ?_
        refine AllReadyH.cons (o := ⟨_, _, _, _, _, _⟩) rfl (fun K hK => ?_) AllReadyH.nil
        have z0 := BXq.out.c0; have z1 := BXq.out.c1
        have f0 : vp.frozen? ⟨gq, 0, none⟩ = false := frozen_of_row vp _ 0 _ _ BXq.out
        have f1 : vp.frozen? ⟨gq, 1, none⟩ = false := frozen_of_row vp _ 1 _ _ BXq.out
        go_simp
        obtain ⟨vq, hWn⟩ : ∃ W6, W6 = (vp.setCell ⟨gq, 0, none⟩ (.int .i64 (q % W))).setCell ⟨gq, 1, none⟩ (.int .i64 (q / W)) := ⟨_, rfl⟩
        have hgr : vp.grownBy vq (some gq) := by rw [hWn]; exact grown_next (grownSet _ ⟨gq, 0, none⟩ _) (grownSet _ ⟨gq, 1, none⟩ _)
        replace BXq := Lib.hid (show SpotBox vq gq (q % W) (q / W) by rw [hWn]; exact BXq.out.set _ _)
        replace BXp := Lib.hid (BXp.out.grown hgr (by have := HNE.out; simp; omega))
        replace B := Lib.hid (B.out.grown hgr B.out.size (fun g9 h9 => by injection h9 with h9; have := HGq.out; omega))
        have hgne := HGq.out
        replace a0 := hgr.cell a0 (by simp; omega)
        replace a1 := hgr.cell a1 (by simp; omega)
        replace a2 := hgr.cell a2 (by simp; omega)
        replace al := Nat.lt_of_lt_of_le al hgr.size
        replace l0 := hgr.cell l0 (by simp; omega)
        replace l1 := hgr.cell l1 (by simp; omega)
        replace ll := Nat.lt_of_lt_of_le ll hgr.size
        rw [← hWn]
        clear hWn hgr z0 z1 f0 f1 hgne
        refine hK.out _ _ ?_ (fun hHeld => ?_)
        · (try dsimp only)
          exact ⟨a0, a1, a2⟩
        clear hK K
        (try simp only [Act.put, List.setIfInBounds_toArray, List.set_cons_zero, List.set_cons_succ])
        refine wpAnyH_done (by kernel_rfl) ?_ _
        clear hHeld
        (try go_wp2_with fail)
        go_meet
        exact ⟨gp, gq, rfl, rfl, ⟨BXp.out.c0, BXp.out.c1, BXp.out.lt⟩, ⟨BXq.out.c0, BXq.out.c1, BXq.out.lt⟩, ⟨l0, l1, ll⟩, (by repeat (first | exact B.out | refine below_drewN ?_ _ | refine Below.drew ?_))⟩
  case rest =>
    obtain ⟨gp, gq, rfl, rfl, hp, hq, hl, hb⟩ := hcut
    obtain ⟨hp0, hp1, hp2⟩ := hp
    obtain ⟨hq0, hq1, hq2⟩ := hq
    obtain ⟨hl0, hl1, hl2⟩ := hl
    have B := Lib.hid hb
    have HM := Lib.hid (mod_bd (c := p) HW.out); have HM' := Lib.hid (mod_bd (c := q) HW.out)
    have HD : Hid (0 ≤ p / W ∧ p / W ≤ 64) := ⟨Int.ediv_nonneg HP.out.1 (by have := HW.out; omega), Int.le_trans (Int.ediv_le_self _ HP.out.1) HP.out.2⟩
    have HD' : Hid (0 ≤ q / W ∧ q / W ≤ 64) := ⟨Int.ediv_nonneg HQ.out.1 (by have := HW.out; omega), Int.le_trans (Int.ediv_le_self _ HQ.out.1) HQ.out.2⟩
    clear hb
    go_wp2_with fail
    go_region_held3 (fun w' => w'.cell? ⟨gp, 0, none⟩ = some (.int .i64 (p % W)) ∧ w'.cell? ⟨gp, 1, none⟩ = some (.int .i64 (p / W)) ∧ w'.cell? ⟨gq, 0, none⟩ = some (.int .i64 (q % W)) ∧ w'.cell? ⟨gq, 1, none⟩ = some (.int .i64 (q / W))) (first | exact ⟨hp0, hp1, hq0, hq1⟩ | exact keep4 hp0 hp1 hq0 hq1 hp2 hq2 (by repeat (first | exact Below.refl _ _ | refine below_drewN ?_ _ | refine Below.drew ?_ | refine Below.setCell ?_ (by simp) _ | refine Below.setCell ?_ (by simp; omega) _ | refine below_new ?_ _)))
      (first | (go_at_call 127; refine (apart_any _ _ _ ?_ ?_ ?_ ?_).mono ?_; (have := HM.out; have := HD.out; omega); (have := HM.out; have := HD.out; omega); (have := HM'.out; have := HD'.out; omega); (have := HM'.out; have := HD'.out; omega); rintro e w' ⟨rfl, rfl⟩))
    all_goals go_wp2
    all_goals (go_ret; refine ⟨ret_bool ?_, (by repeat (first | exact B.out | refine below_drewN ?_ _ | refine Below.drew ?_ | refine below_new ?_ _))⟩)
    all_goals (rw [Bool.eq_iff_iff]; simp only [leapB, decide_eq_true_eq, reduceCtorEq, true_iff, false_iff] at *; omega)

end Go.Proofs.YtbpgkigoboobeaaGreat
