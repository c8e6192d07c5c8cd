/-
  Contracts: whether a leaper leaps from one cell to another one.
-/
import Derived.Test.YtkdfilhiljfanaaB8
import Derived.Test.YtkdfilhiljfanaaB6
import Derived.Deep.RegionWith
import Derived.Deep.DeepCutAuto
namespace Go.Proofs.Ytkdfilhiljfanaa
open Go.RowKit

def absV (x : Int) : Int := if x < 0 then -x else x
theorem absV_bd {x : Int} (h : -100 ≤ x ∧ x ≤ 100) : 0 ≤ absV x ∧ absV x ≤ 100 := by unfold absV; split <;> omega
theorem absV_sub (x y : Int) : absV (x - y) = absV (y - x) := by unfold absV; split <;> split <;> omega
def leapB (W a b p q : Int) : Bool := decide ((absV (p % W - q % W) = a ∧ absV (p / W - q / W) = b) ∨ (absV (p % W - q % W) = b ∧ absV (p / W - q / W) = a))

set_option maxHeartbeats 400000 in
theorem l1Abs_any (x : Int) (w : World) (h1 : -1000 ≤ x) (h2 : x ≤ 1000) :
    Calls Try.prog 107 #[.int .i64 x] w fun e w' => e = .returned (.int .i64 (absV x)) ∧ w = w' := by
  by_cases h : x < 0
  · have h3 : ¬ -x < x := by omega
    go_enter Try.func107, Try.ntmps107
    go_wp2
    go_ret
    exact ⟨ret_int (by unfold absV; split <;> omega), rfl⟩
  · by_cases h0 : x = 0
    · subst h0
      go_enter Try.func107, Try.ntmps107
      go_wp2
      go_ret
      exact ⟨ret_int (by unfold absV; split <;> omega), rfl⟩
    · have h3 : -x < x := by omega
      go_enter Try.func107, Try.ntmps107
      go_wp2
      go_ret
      exact ⟨ret_int (by unfold absV; split <;> omega), rfl⟩

set_option maxHeartbeats 400000 in
theorem apart_any (x y : Int) (w : World) (h1 : 0 ≤ x) (h2 : x ≤ 100) (h3 : 0 ≤ y) (h4 : y ≤ 100) :
    Calls Try.prog 108 #[.int .i64 x, .int .i64 y] w fun e w' => e = .returned (.int .i64 (absV (x - y))) ∧ w = w' := by
  go_enter Try.func108, Try.ntmps108
  go_wp2
  all_goals (go_ret; exact ⟨ret_int (by unfold absV; split <;> omega), rfl⟩)

set_option maxHeartbeats 1000000 in
theorem boIs_any (W H : Int) (A : Option Addr) (n c : Nat) (a b p q : Int) (w : World) (hW : 1 ≤ W ∧ W ≤ 8) (hp : 0 ≤ p ∧ p ≤ 64) (hq : 0 ≤ q ∧ q ≤ 64) :
    Calls Try.prog 99 #[brd W H A n c, lpr a b, .int .i64 p, .int .i64 q] w fun e w' => e = .returned (.bool (leapB W a b p q)) ∧ Below w.heap.size w w' := by
  have hm := mod_bd (c := p) hW
  have hm' := mod_bd (c := q) hW
  have hd : 0 ≤ p / W ∧ p / W ≤ 64 := ⟨Int.ediv_nonneg hp.1 (by omega), Int.le_trans (Int.ediv_le_self _ hp.1) hp.2⟩
  have hd' : 0 ≤ q / W ∧ q / W ≤ 64 := ⟨Int.ediv_nonneg hq.1 (by omega), Int.le_trans (Int.ediv_le_self _ hq.1) hq.2⟩
  obtain ⟨hW1, hW2⟩ := hW
  obtain ⟨hp1, hp2⟩ := hp
  obtain ⟨hq1, hq2⟩ := hq
  obtain ⟨hm1, hm2, hm3⟩ := hm
  obtain ⟨hm4, hm5, hm6⟩ := hm'
  obtain ⟨hd1, hd2⟩ := hd
  obtain ⟨hd3, hd4⟩ := hd'
  go_enter Try.func99, Try.ntmps99
  go_wp2
  go_quiet ((go_at_call 107; exact Calls.quiet_of_same (quiet_same (l1Abs_any _ _ (by omega) (by omega)))))
  go_wp2
  all_goals (go_ret; refine ⟨ret_bool ?_, below_drewN (below_new (below_new (Below.refl _ _) _) _) _⟩)
  all_goals (rw [Bool.eq_iff_iff]; simp only [leapB, beq_iff_eq, decide_eq_true_eq, reduceCtorEq, true_iff, false_iff]; omega)

set_option maxHeartbeats 400000 in
theorem spotOf_exact (W H : Int) (A : Option Addr) (n c : Nat) (q : Int) (w : World) (hW : 1 ≤ W ∧ W ≤ 8) (hq : 0 ≤ q ∧ q ≤ 64) :
    Calls Try.prog 61 #[brd W H A n c, .int .i64 q] w fun e w' => e = .returned (lpr (q % W) (q / W)) ∧ ∃ m, w' = (((((w.alloc (.cells #[.int .i64 W, .int .i64 H, .slice A n c] 31)).alloc (.cells #[.int .i64 0, .int .i64 0] 78)).alloc (.cells #[.int .i64 (q % W), .int .i64 (q / W)] 78)).setCell ⟨w.heap.size + 1, 0, none⟩ (.int .i64 (q % W))).setCell ⟨w.heap.size + 1, 1, none⟩ (.int .i64 (q / W))).drewN m := by
  go_enter Try.func61, Try.ntmps61
  go_wp2_with fail
  refine (numbered_exact q W _ hW hq).mono ?_
  rintro e wv ⟨rfl, m, rfl⟩
  go_wp2
  exact bodyPost_ret (v := lpr (q % W) (q / W)) (by simp [results, Try.results61, go_sem]) rfl ⟨rfl, m, rfl⟩

theorem keep3 {w w' : World} {β : Nat} {u v x : Value} (h0 : w.cell? ⟨β, 0, none⟩ = some u) (h1 : w.cell? ⟨β, 1, none⟩ = some v) (h2 : w.cell? ⟨β, 2, none⟩ = some x) (hl : β < w.heap.size) (hb : Below w.heap.size w w') :
    w'.cell? ⟨β, 0, none⟩ = some u ∧ w'.cell? ⟨β, 1, none⟩ = some v ∧ w'.cell? ⟨β, 2, none⟩ = some x := ⟨cell_keep h0 hl hb, cell_keep h1 hl hb, cell_keep h2 hl hb⟩

theorem keep4 {w w' : World} {β γ : Nat} {u v x y : Value} (h0 : w.cell? ⟨β, 0, none⟩ = some u) (h1 : w.cell? ⟨β, 1, none⟩ = some v) (h2 : w.cell? ⟨γ, 0, none⟩ = some x) (h3 : w.cell? ⟨γ, 1, none⟩ = some y) (hl : β < w.heap.size) (hm : γ < w.heap.size) (hb : Below w.heap.size w w') :
    w'.cell? ⟨β, 0, none⟩ = some u ∧ w'.cell? ⟨β, 1, none⟩ = some v ∧ w'.cell? ⟨γ, 0, none⟩ = some x ∧ w'.cell? ⟨γ, 1, none⟩ = some y := ⟨cell_keep h0 hl hb, cell_keep h1 hl hb, cell_keep h2 hm hb, cell_keep h3 hm hb⟩

def SpotAt (wr : World) (g : Nat) (x y : Int) : Prop := wr.cell? ⟨g, 0, none⟩ = some (.int .i64 x) ∧ wr.cell? ⟨g, 1, none⟩ = some (.int .i64 y) ∧ g < wr.heap.size

set_option maxHeartbeats 4000000 in
theorem doesLeap_any (W H : Int) (A : Option Addr) (n c : Nat) (a b p q : Int) (w : World) (hW : 1 ≤ W ∧ W ≤ 8) (hp : 0 ≤ p ∧ p ≤ 64) (hq : 0 ≤ q ∧ q ≤ 64) :
    Calls Try.prog 100 #[brd W H A n c, lpr a b, .int .i64 p, .int .i64 q] w fun e w' => e = .returned (.bool (leapB W a b p q)) ∧ Below w.heap.size w w' := by
  have HW := Lib.hid hW; have HP := Lib.hid hp; have HQ := Lib.hid hq
  clear hW hp hq
  go_enter Try.func100, Try.ntmps100
  have hAD : ∀ (w : World) (k : Nat) (o : Obj), (w.drewN k).alloc o = (w.alloc o).drewN k := fun _ _ _ => rfl
  have hSD : ∀ (w : World) (k : Nat) (p : Addr) (u : Value), (w.drewN k).setCell p u = (w.setCell p u).drewN k := fun _ _ _ _ => rfl
  go_upto_region 1 with fail
  go_cut [9, 10] (fun s9 s10 wx => ∃ gp gq : Nat, s9 = .pointer (some ⟨gp, 0, none⟩) ∧ s10 = .pointer (some ⟨gq, 0, none⟩) ∧ SpotAt wx gp (p % W) (p / W) ∧ SpotAt wx gq (q % W) (q / W) ∧ SpotAt wx (w.heap.size + 1) a b ∧ Below w.heap.size w wx)
  case first =>
    have a0 : ((w.alloc (.cells #[.int .i64 W, .int .i64 H, .slice A n c] 31)).alloc (.cells #[.int .i64 a, .int .i64 b] 32)).cell? ⟨w.heap.size, 0, none⟩ = some (.int .i64 W) := by simp
    have a1 : ((w.alloc (.cells #[.int .i64 W, .int .i64 H, .slice A n c] 31)).alloc (.cells #[.int .i64 a, .int .i64 b] 32)).cell? ⟨w.heap.size, 1, none⟩ = some (.int .i64 H) := by simp
    have a2 : ((w.alloc (.cells #[.int .i64 W, .int .i64 H, .slice A n c] 31)).alloc (.cells #[.int .i64 a, .int .i64 b] 32)).cell? ⟨w.heap.size, 2, none⟩ = some (.slice A n c) := by simp
    have al : w.heap.size < ((w.alloc (.cells #[.int .i64 W, .int .i64 H, .slice A n c] 31)).alloc (.cells #[.int .i64 a, .int .i64 b] 32)).heap.size := by simp; omega
    go_region_held3 (fun w' => w'.cell? ⟨w.heap.size, 0, none⟩ = some (.int .i64 W) ∧ w'.cell? ⟨w.heap.size, 1, none⟩ = some (.int .i64 H) ∧ w'.cell? ⟨w.heap.size, 2, none⟩ = some (.slice A n c)) (first | exact ⟨a0, a1, a2⟩ | exact keep3 a0 a1 a2 al (by repeat (first | exact Below.refl _ _ | refine below_drewN ?_ _ | refine Below.drew ?_ | refine Below.setCell ?_ (by simp) _ | refine Below.setCell ?_ (by simp; omega) _ | refine below_new ?_ _)))
      (first | (go_at_call 61; refine (spotOf_exact _ _ _ _ _ _ _ ?_ ?_).mono ?_; (exact HW.out); (first | exact HP.out | exact HQ.out); rintro e w' ⟨rfl, m, rfl⟩))
    all_goals (go_wp2_with fail; go_meet; exact ⟨_, _, rfl, rfl, ⟨by go_simp, by go_simp, by simp; try omega⟩, ⟨by go_simp, by go_simp, by simp; try omega⟩, ⟨by go_simp, by go_simp, by simp; try omega⟩, (by repeat (first | exact Below.refl _ _ | refine below_drewN ?_ _ | refine Below.drew ?_ | refine Below.setCell ?_ (by simp) _ | refine Below.setCell ?_ (by simp; omega) _ | refine below_new ?_ _))⟩)
  case rest =>
    obtain ⟨gp, gq, rfl, rfl, hp, hq, hl, hb⟩ := hcut
    obtain ⟨hp0, hp1, hp2⟩ := hp
    obtain ⟨hq0, hq1, hq2⟩ := hq
    obtain ⟨hl0, hl1, hl2⟩ := hl
    have B := Lib.hid hb
    have HM := Lib.hid (mod_bd (c := p) HW.out); have HM' := Lib.hid (mod_bd (c := q) HW.out)
    have HD : Hid (0 ≤ p / W ∧ p / W ≤ 64) := ⟨Int.ediv_nonneg HP.out.1 (by have := HW.out; omega), Int.le_trans (Int.ediv_le_self _ HP.out.1) HP.out.2⟩
    have HD' : Hid (0 ≤ q / W ∧ q / W ≤ 64) := ⟨Int.ediv_nonneg HQ.out.1 (by have := HW.out; omega), Int.le_trans (Int.ediv_le_self _ HQ.out.1) HQ.out.2⟩
    clear hb hAD hSD
    go_wp2_with fail
    go_region_held3 (fun w' => w'.cell? ⟨gp, 0, none⟩ = some (.int .i64 (p % W)) ∧ w'.cell? ⟨gp, 1, none⟩ = some (.int .i64 (p / W)) ∧ w'.cell? ⟨gq, 0, none⟩ = some (.int .i64 (q % W)) ∧ w'.cell? ⟨gq, 1, none⟩ = some (.int .i64 (q / W))) (first | exact ⟨hp0, hp1, hq0, hq1⟩ | exact keep4 hp0 hp1 hq0 hq1 hp2 hq2 (by repeat (first | exact Below.refl _ _ | refine below_drewN ?_ _ | refine Below.drew ?_ | refine Below.setCell ?_ (by simp) _ | refine Below.setCell ?_ (by simp; omega) _ | refine below_new ?_ _)))
      (first | (go_at_call 108; refine (apart_any _ _ _ ?_ ?_ ?_ ?_).mono ?_; (have := HM.out; have := HD.out; omega); (have := HM.out; have := HD.out; omega); (have := HM'.out; have := HD'.out; omega); (have := HM'.out; have := HD'.out; omega); rintro e w' ⟨rfl, rfl⟩))
    all_goals go_wp2
    all_goals (go_ret; refine ⟨ret_bool ?_, (by repeat (first | exact B.out | refine below_drewN ?_ _ | refine Below.drew ?_ | refine below_new ?_ _))⟩)
    all_goals (rw [Bool.eq_iff_iff]; simp only [leapB, decide_eq_true_eq, reduceCtorEq, true_iff, false_iff] at *; omega)

end Go.Proofs.Ytkdfilhiljfanaa
