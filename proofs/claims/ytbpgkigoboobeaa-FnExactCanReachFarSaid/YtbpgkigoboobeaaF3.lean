/-
  Contracts: CanReachFar.
-/
import Derived.Test.YtbpgkigoboobeaaF2
namespace Go.Proofs.Ytbpgkigoboobeaa
open Go.RowKit

/-- Whether a cell of the plane can be reached. -/
def reachB (a b x y : Int) : Bool := (x.tmod (gcdV a b) == 0 && y.tmod (gcdV a b) == 0) && ((a / gcdV a b + b / gcdV a b) % 2 == 1 || (x.tdiv (gcdV a b) + y.tdiv (gcdV a b)).tmod 2 == 0)
def farIn (x y : Int) : Bool := inB x (-100) 100 && inB y (-100) 100
def canV (a b x y : Int) : Bool := leaperB a b && farIn x y && reachB a b x y
theorem far_eq {x y : Int} : farIn x y = decide (-100 ≤ x ∧ x ≤ 100 ∧ -100 ≤ y ∧ y ≤ 100) := by rw [Bool.eq_iff_iff]; simp [farIn, inB]; omega
theorem tdiv_small {x k : Int} (hx : -1000 ≤ x ∧ x ≤ 1000) : -1000 ≤ x.tdiv k ∧ x.tdiv k ≤ 1000 := by
  have h1 := Int.natAbs_tdiv_le_natAbs x k
  omega
theorem tdiv_add_of {x y k : Int} (hx : x.tmod k = 0) (hy : y.tmod k = 0) (hk : 1 ≤ k) : (x + y).tdiv k = x.tdiv k + y.tdiv k := by
  obtain ⟨p, rfl⟩ := Int.dvd_of_tmod_eq_zero hx
  obtain ⟨q, rfl⟩ := Int.dvd_of_tmod_eq_zero hy
  rw [← Int.mul_add, Int.mul_tdiv_cancel_left _ (by omega), Int.mul_tdiv_cancel_left _ (by omega), Int.mul_tdiv_cancel_left _ (by omega)]
theorem odd_iff {a b : Int} (h : leaperB a b = true) : ((a / gcdV a b) % 2 == 1 && (b / gcdV a b) % 2 == 1) = !((a / gcdV a b + b / gcdV a b) % 2 == 1) := by
  obtain ⟨l1, l2, l3, l4⟩ := leaperB_iff.1 h
  have ha : a = 0 ∨ a = 1 ∨ a = 2 ∨ a = 3 ∨ a = 4 ∨ a = 5 := by omega
  have hb : b = 1 ∨ b = 2 ∨ b = 3 ∨ b = 4 ∨ b = 5 := by omega
  clear h
  rcases ha with rfl | rfl | rfl | rfl | rfl | rfl <;> rcases hb with rfl | rfl | rfl | rfl | rfl <;> first | rfl | decide | omega
theorem quo_rng {a b : Int} (h : leaperB a b = true) : (0 ≤ a / gcdV a b ∧ a / gcdV a b ≤ 5) ∧ (0 ≤ b / gcdV a b ∧ b / gcdV a b ≤ 5) := by
  have h1 := gcdV_rng h
  obtain ⟨l1, l2, l3, l4⟩ := leaperB_iff.1 h
  exact ⟨⟨Int.ediv_nonneg l1 (by omega), Int.le_trans (Int.ediv_le_self _ l1) (by omega)⟩, ⟨Int.ediv_nonneg (by omega) (by omega), Int.le_trans (Int.ediv_le_self _ (by omega)) l4⟩⟩

set_option maxRecDepth 100000 in
set_option maxHeartbeats 4000000 in
theorem paReach_any (a b x y : Int) (w : World) (hl : leaperB a b = true) (hx1 : -100 ≤ x) (hx2 : x ≤ 100) (hy1 : -100 ≤ y) (hy2 : y ≤ 100) :
    Calls Try.prog 39 #[lpr a b, .int .i64 x, .int .i64 y] w fun e w' => e = .returned (.bool (reachB a b x y)) ∧ Below w.heap.size w w' := by
  have HL := Lib.hid hl
  obtain ⟨k, hk⟩ : ∃ k, k = gcdV a b := ⟨_, rfl⟩
  have HK := Lib.hid hk
  obtain ⟨hk1, hk2⟩ : 1 ≤ k ∧ k ≤ 5 := by rw [hk]; exact gcdV_rng hl
  obtain ⟨⟨qa1, qa2⟩, ⟨qb1, qb2⟩⟩ : (0 ≤ a / k ∧ a / k ≤ 5) ∧ (0 ≤ b / k ∧ b / k ≤ 5) := by rw [hk]; exact quo_rng hl
  obtain ⟨l1, l2, l3, l4⟩ := leaperB_iff.1 hl
  have HO := Lib.hid (show ((a / k) % 2 == 1 && (b / k) % 2 == 1) = !((a / k + b / k) % 2 == 1) by rw [hk]; exact odd_iff hl)
  obtain ⟨tx1, tx2⟩ := tdiv_small (x := x) (k := k) (by omega)
  obtain ⟨ty1, ty2⟩ := tdiv_small (x := y) (k := k) (by omega)
  obtain ⟨ts1, ts2⟩ := tdiv_small (x := x + y) (k := k) (by omega)
  have hk0 : (k == 0) = false := by simp; omega
  have hs1 : -200 ≤ x + y := by omega
  have hs2 : x + y ≤ 200 := by omega
  by_cases hx : x.tmod k = 0
  rotate_left
  · have hx0 : (x.tmod k != 0) = true := by simpa using hx
    go_enter Try.func39, Try.ntmps39
    go_wp2_with fail
    refine (paCommon_any _ _ _ HL.out).mono ?_
    rw [← hk]
    rintro e w1 ⟨rfl, hb1⟩
    have c0 := newbox hb1 0; have c1 := newbox hb1 1; have hlt := newbox_lt hb1
    simp only [List.getElem?_toArray, List.getElem?_cons_zero, List.getElem?_cons_succ] at c0 c1
    have HB1 := Lib.hid (below_box hb1)
    clear hb1 hk hl
    go_wp2
    go_ret
    exact ⟨ret_bool (by rw [reachB, ← HK.out]; simp [hx]), HB1.out⟩
  by_cases hy : y.tmod k = 0
  rotate_left
  · have hx0 : (x.tmod k != 0) = false := by simpa using hx
    have hy0 : (y.tmod k != 0) = true := by simpa using hy
    go_enter Try.func39, Try.ntmps39
    go_wp2_with fail
    refine (paCommon_any _ _ _ HL.out).mono ?_
    rw [← hk]
    rintro e w1 ⟨rfl, hb1⟩
    have c0 := newbox hb1 0; have c1 := newbox hb1 1; have hlt := newbox_lt hb1
    simp only [List.getElem?_toArray, List.getElem?_cons_zero, List.getElem?_cons_succ] at c0 c1
    have HB1 := Lib.hid (below_box hb1)
    clear hb1 hk hl
    go_wp2
    go_ret
    exact ⟨ret_bool (by rw [reachB, ← HK.out]; simp [hy]), HB1.out⟩
  have hx0 : (x.tmod k != 0) = false := by simpa using hx
  have hy0 : (y.tmod k != 0) = false := by simpa using hy
  have hev : reachB a b x y = ((a / k + b / k) % 2 == 1 || (x.tdiv k + y.tdiv k).tmod 2 == 0) := by rw [reachB, ← HK.out]; simp [hx, hy]
  rw [hev]
  clear hev HO
  cases ho : ((a / k + b / k) % 2 == 1)
  · skip
    go_enter Try.func39, Try.ntmps39
    go_wp2_with fail
    refine (paCommon_any _ _ _ HL.out).mono ?_
    rw [← hk]
    rintro e w1 ⟨rfl, hb1⟩
    have c0 := newbox hb1 0; have c1 := newbox hb1 1; have hlt := newbox_lt hb1
    simp only [List.getElem?_toArray, List.getElem?_cons_zero, List.getElem?_cons_succ] at c0 c1
    have HB1 := Lib.hid (below_box hb1)
    clear hb1 hk hl
    go_wp2
    go_quiet (fail)
    go_wp2
    go_ret
    exact ⟨ret_bool (by simp), below_drewN HB1.out _⟩
  · skip
    go_enter Try.func39, Try.ntmps39
    go_wp2_with fail
    refine (paCommon_any _ _ _ HL.out).mono ?_
    rw [← hk]
    rintro e w1 ⟨rfl, hb1⟩
    have c0 := newbox hb1 0; have c1 := newbox hb1 1; have hlt := newbox_lt hb1
    simp only [List.getElem?_toArray, List.getElem?_cons_zero, List.getElem?_cons_succ] at c0 c1
    have HB1 := Lib.hid (below_box hb1)
    clear hb1 hk hl
    go_wp2
    go_quiet (fail)
    go_wp2
    go_ret
    exact ⟨ret_bool (by simp), below_drewN HB1.out _⟩

set_option maxRecDepth 100000 in
set_option maxHeartbeats 4000000 in
theorem canReach_any (a b x y : Int) (w : World) (hl : leaperB a b = true) (hx1 : -100 ≤ x) (hx2 : x ≤ 100) (hy1 : -100 ≤ y) (hy2 : y ≤ 100) :
    Calls Try.prog 41 #[lpr a b, lpr x y] w fun e w' => e = .returned (.bool (reachB a b x y)) ∧ Below w.heap.size w w' := by
  have HL := Lib.hid hl
  obtain ⟨k, hk⟩ : ∃ k, k = gcdV a b := ⟨_, rfl⟩
  have HK := Lib.hid hk
  obtain ⟨hk1, hk2⟩ : 1 ≤ k ∧ k ≤ 5 := by rw [hk]; exact gcdV_rng hl
  obtain ⟨⟨qa1, qa2⟩, ⟨qb1, qb2⟩⟩ : (0 ≤ a / k ∧ a / k ≤ 5) ∧ (0 ≤ b / k ∧ b / k ≤ 5) := by rw [hk]; exact quo_rng hl
  obtain ⟨l1, l2, l3, l4⟩ := leaperB_iff.1 hl
  have HO := Lib.hid (show ((a / k) % 2 == 1 && (b / k) % 2 == 1) = !((a / k + b / k) % 2 == 1) by rw [hk]; exact odd_iff hl)
  obtain ⟨tx1, tx2⟩ := tdiv_small (x := x) (k := k) (by omega)
  obtain ⟨ty1, ty2⟩ := tdiv_small (x := y) (k := k) (by omega)
  obtain ⟨ts1, ts2⟩ := tdiv_small (x := x + y) (k := k) (by omega)
  have hk0 : (k == 0) = false := by simp; omega
  have hs1 : -200 ≤ x + y := by omega
  have hs2 : x + y ≤ 200 := by omega
  by_cases hx : x.tmod k = 0
  rotate_left
  · have hx0 : (x.tmod k != 0) = true := by simpa using hx
    go_enter Try.func41, Try.ntmps41
    go_wp2_with fail
    refine (commonStep_any _ _ _ HL.out).mono ?_
    rw [← hk]
    rintro e w1 ⟨rfl, hb1⟩
    have hbx0 := below_box hb1
    have c0 : w1.cell? ⟨w.heap.size, 0, none⟩ = some (.int .i64 a) := by simpa using newbox hbx0 0
    have c1 : w1.cell? ⟨w.heap.size, 1, none⟩ = some (.int .i64 b) := by simpa using newbox hbx0 1
    have d0 : w1.cell? ⟨w.heap.size + 1, 0, none⟩ = some (.int .i64 x) := by simpa using newbox hb1 0
    have d1 : w1.cell? ⟨w.heap.size + 1, 1, none⟩ = some (.int .i64 y) := by simpa using newbox hb1 1
    replace hb1 := hbx0
    have HB1 := Lib.hid (below_box hb1)
    clear hb1 hk hl
    go_wp2
    go_ret
    exact ⟨ret_bool (by rw [reachB, ← HK.out]; simp [hx]), HB1.out⟩
  by_cases hy : y.tmod k = 0
  rotate_left
  · have hx0 : (x.tmod k != 0) = false := by simpa using hx
    have hy0 : (y.tmod k != 0) = true := by simpa using hy
    go_enter Try.func41, Try.ntmps41
    go_wp2_with fail
    refine (commonStep_any _ _ _ HL.out).mono ?_
    rw [← hk]
    rintro e w1 ⟨rfl, hb1⟩
    have hbx0 := below_box hb1
    have c0 : w1.cell? ⟨w.heap.size, 0, none⟩ = some (.int .i64 a) := by simpa using newbox hbx0 0
    have c1 : w1.cell? ⟨w.heap.size, 1, none⟩ = some (.int .i64 b) := by simpa using newbox hbx0 1
    have d0 : w1.cell? ⟨w.heap.size + 1, 0, none⟩ = some (.int .i64 x) := by simpa using newbox hb1 0
    have d1 : w1.cell? ⟨w.heap.size + 1, 1, none⟩ = some (.int .i64 y) := by simpa using newbox hb1 1
    replace hb1 := hbx0
    have HB1 := Lib.hid (below_box hb1)
    clear hb1 hk hl
    go_wp2
    go_ret
    exact ⟨ret_bool (by rw [reachB, ← HK.out]; simp [hy]), HB1.out⟩
  have hx0 : (x.tmod k != 0) = false := by simpa using hx
  have hy0 : (y.tmod k != 0) = false := by simpa using hy
  have hsum : (x + y).tdiv k = x.tdiv k + y.tdiv k := tdiv_add_of hx hy hk1
  have hev : reachB a b x y = (!((a / k) % 2 == 1 && (b / k) % 2 == 1) || ((x + y).tdiv k).tmod 2 == 0) := by rw [reachB, ← HK.out, HO.out, hsum]; simp [hx, hy]
  rw [hev]
  clear hev HO hsum
  cases ho : ((a / k) % 2 == 1)
  · skip
    go_enter Try.func41, Try.ntmps41
    go_wp2_with fail
    refine (commonStep_any _ _ _ HL.out).mono ?_
    rw [← hk]
    rintro e w1 ⟨rfl, hb1⟩
    have hbx0 := below_box hb1
    have c0 : w1.cell? ⟨w.heap.size, 0, none⟩ = some (.int .i64 a) := by simpa using newbox hbx0 0
    have c1 : w1.cell? ⟨w.heap.size, 1, none⟩ = some (.int .i64 b) := by simpa using newbox hbx0 1
    have d0 : w1.cell? ⟨w.heap.size + 1, 0, none⟩ = some (.int .i64 x) := by simpa using newbox hb1 0
    have d1 : w1.cell? ⟨w.heap.size + 1, 1, none⟩ = some (.int .i64 y) := by simpa using newbox hb1 1
    replace hb1 := hbx0
    have HB1 := Lib.hid (below_box hb1)
    clear hb1 hk hl
    go_wp2
    go_ret
    exact ⟨ret_bool (by simp), HB1.out⟩
  cases ho2 : ((b / k) % 2 == 1)
  · skip
    go_enter Try.func41, Try.ntmps41
    go_wp2_with fail
    refine (commonStep_any _ _ _ HL.out).mono ?_
    rw [← hk]
    rintro e w1 ⟨rfl, hb1⟩
    have hbx0 := below_box hb1
    have c0 : w1.cell? ⟨w.heap.size, 0, none⟩ = some (.int .i64 a) := by simpa using newbox hbx0 0
    have c1 : w1.cell? ⟨w.heap.size, 1, none⟩ = some (.int .i64 b) := by simpa using newbox hbx0 1
    have d0 : w1.cell? ⟨w.heap.size + 1, 0, none⟩ = some (.int .i64 x) := by simpa using newbox hb1 0
    have d1 : w1.cell? ⟨w.heap.size + 1, 1, none⟩ = some (.int .i64 y) := by simpa using newbox hb1 1
    replace hb1 := hbx0
    have HB1 := Lib.hid (below_box hb1)
    clear hb1 hk hl
    go_wp2
    go_ret
    exact ⟨ret_bool (by simp), HB1.out⟩
  · skip
    go_enter Try.func41, Try.ntmps41
    go_wp2_with fail
    refine (commonStep_any _ _ _ HL.out).mono ?_
    rw [← hk]
    rintro e w1 ⟨rfl, hb1⟩
    have hbx0 := below_box hb1
    have c0 : w1.cell? ⟨w.heap.size, 0, none⟩ = some (.int .i64 a) := by simpa using newbox hbx0 0
    have c1 : w1.cell? ⟨w.heap.size, 1, none⟩ = some (.int .i64 b) := by simpa using newbox hbx0 1
    have d0 : w1.cell? ⟨w.heap.size + 1, 0, none⟩ = some (.int .i64 x) := by simpa using newbox hb1 0
    have d1 : w1.cell? ⟨w.heap.size + 1, 1, none⟩ = some (.int .i64 y) := by simpa using newbox hb1 1
    replace hb1 := hbx0
    have HB1 := Lib.hid (below_box hb1)
    clear hb1 hk hl
    go_wp2
    go_ret
    exact ⟨ret_bool (by simp), HB1.out⟩


end Go.Proofs.Ytbpgkigoboobeaa
