/-
  Contracts: StepAround, in the model and in the program.
-/
import Derived.Test.YtaliknhfcdmohaaO3
import Derived.Test.YtaliknhfcdmohaaO4
namespace Go.Proofs.Ytaliknhfcdmohaa
open Go.RowKit

def okStep (W H : Int) (ac up : Bool) (q x y : Int) : Bool := cellA W H q && byA x y && decide (0 ≤ stepA W H ac up q x y)
def stepV (W H : Int) (ac up : Bool) (q x y : Int) : Int := if okStep W H ac up q x y then stepA W H ac up q x y else 0
theorem byA_iff {x y : Int} : byA x y = true ↔ (-20 ≤ x ∧ x ≤ 20) ∧ (-20 ≤ y ∧ y ≤ 20) := by rw [byA, Bool.and_eq_true, inB_iff, inB_iff]
theorem by_within {x y : Int} : withinB x y 20 = byA x y := by rw [Bool.eq_iff_iff, byA_iff]; simp [withinB]; omega
theorem stepV_no {W H q x y : Int} {ac up : Bool} (h : okStep W H ac up q x y = false) : stepV W H ac up q x y = 0 := by rw [stepV, h]; rfl
theorem stepV_yes {W H q x y : Int} {ac up : Bool} (h : okStep W H ac up q x y = true) : stepV W H ac up q x y = stepA W H ac up q x y := by rw [stepV, h]; rfl

set_option maxRecDepth 100000 in
set_option maxHeartbeats 2000000 in
theorem spec_StepAround (W H : Int) (ac up : Bool) (q x y : Int) (w : World) :
    Calls Try.prog 20 #[ard W H ac up, .int .i64 q, .int .i64 x, .int .i64 y] w fun e w' => e = .returned (.tuple #[.int .i64 (stepV W H ac up q x y), .bool (okStep W H ac up q x y)]) ∧ Below w.heap.size w w' := by
  obtain ⟨W2, hW2⟩ : ∃ W2, W2 = w.alloc (.cells #[.int .i64 W, .int .i64 H, .bool ac, .bool up] 25) := ⟨_, rfl⟩
  have hsz : W2.heap.size = w.heap.size + 1 := by rw [hW2]; simp
  have a0 : W2.cell? ⟨w.heap.size, 0, none⟩ = some (.int .i64 W) := by rw [hW2]; go_simp
  have a1 : W2.cell? ⟨w.heap.size, 1, none⟩ = some (.int .i64 H) := by rw [hW2]; go_simp
  have a2 : W2.cell? ⟨w.heap.size, 2, none⟩ = some (.bool ac) := by rw [hW2]; go_simp
  have a3 : W2.cell? ⟨w.heap.size, 3, none⟩ = some (.bool up) := by rw [hW2]; go_simp
  have al : w.heap.size < W2.heap.size := by omega
  have B := Lib.hid (show Below w.heap.size w W2 by rw [hW2]; repeat (first | exact Below.refl _ _ | refine below_new ?_ _))
  cases hq : cellA W H q
  · have OK := Lib.hid (show okStep W H ac up q x y = false by rw [okStep, hq]; rfl)
    go_enter Try.func20, Try.ntmps20
    go_wp2_with fail
    rw [← hW2]
    clear hW2
    refine (arCell_any _ _ _ _ _ _).mono ?_
    rw [hq]
    rintro e wv ⟨rfl, hb⟩
    replace a0 := cell_keep a0 al hb
    replace a1 := cell_keep a1 al hb
    replace a2 := cell_keep a2 al hb
    replace a3 := cell_keep a3 al hb
    replace al := lt_keep al hb
    replace B := Lib.hid (below_next B.out hb)
    clear hb
    clear a0 a1 a2 a3 al
    go_wp2
    go_ret2
    exact ⟨by rw [stepV_no OK.out, OK.out]; rfl, B.out⟩
  cases hy : byA x y
  · have OK := Lib.hid (show okStep W H ac up q x y = false by rw [okStep, hy]; simp)
    go_enter Try.func20, Try.ntmps20
    go_wp2_with fail
    rw [← hW2]
    clear hW2
    refine (arCell_any _ _ _ _ _ _).mono ?_
    rw [hq]
    rintro e wv ⟨rfl, hb⟩
    replace a0 := cell_keep a0 al hb
    replace a1 := cell_keep a1 al hb
    replace a2 := cell_keep a2 al hb
    replace a3 := cell_keep a3 al hb
    replace al := lt_keep al hb
    replace B := Lib.hid (below_next B.out hb)
    clear hb
    go_wp2_with fail
    refine (arBy_bl _ _ _).mono ?_
    rw [hy]
    rintro e wv ⟨rfl, hb⟩
    replace a0 := cell_keep a0 al hb
    replace a1 := cell_keep a1 al hb
    replace a2 := cell_keep a2 al hb
    replace a3 := cell_keep a3 al hb
    replace al := lt_keep al hb
    replace B := Lib.hid (below_next B.out hb)
    clear hb
    clear a0 a1 a2 a3 al
    go_wp2
    go_ret2
    exact ⟨by rw [stepV_no OK.out, OK.out]; rfl, B.out⟩
  have HCQ := Lib.hid (cellA_iff.1 hq)
  have HBY := Lib.hid (byA_iff.1 hy)
  have HQ := Lib.hid hq; have HY := Lib.hid hy
  clear hq hy
  have HSC := Lib.hid (fun w' => arStep_any W H ac up q x y w' HCQ.out.1 HCQ.out.2 HBY.out.1 HBY.out.2)
  have HOK := Lib.hid (show okStep W H ac up q x y = decide (0 ≤ stepA W H ac up q x y) by rw [okStep, HQ.out, HY.out]; rfl)
  have HV := Lib.hid (show stepV W H ac up q x y = if okStep W H ac up q x y then stepA W H ac up q x y else 0 from rfl)
  have HRG := Lib.hid (stepA_rng W H ac up q x y)
  obtain ⟨S, hS⟩ : ∃ S, stepA W H ac up q x y = S := ⟨_, rfl⟩
  rw [hS] at HOK HV HRG
  have HS := Lib.hid hS
  clear hS
  by_cases hs : S < 0
  · have OK := Lib.hid (show okStep W H ac up q x y = false by rw [HOK.out]; simp; omega)
    go_enter Try.func20, Try.ntmps20
    go_wp2_with fail
    rw [← hW2]
    clear hW2
    refine (arCell_any _ _ _ _ _ _).mono ?_
    rw [HQ.out]
    rintro e wv ⟨rfl, hb⟩
    replace a0 := cell_keep a0 al hb
    replace a1 := cell_keep a1 al hb
    replace a2 := cell_keep a2 al hb
    replace a3 := cell_keep a3 al hb
    replace al := lt_keep al hb
    replace B := Lib.hid (below_next B.out hb)
    clear hb
    go_wp2_with fail
    refine (arBy_bl _ _ _).mono ?_
    rw [HY.out]
    rintro e wv ⟨rfl, hb⟩
    replace a0 := cell_keep a0 al hb
    replace a1 := cell_keep a1 al hb
    replace a2 := cell_keep a2 al hb
    replace a3 := cell_keep a3 al hb
    replace al := lt_keep al hb
    replace B := Lib.hid (below_next B.out hb)
    clear hb
    go_wp2_with fail
    refine (HSC.out _).mono ?_
    rw [HS.out]
    rintro e wv ⟨rfl, hb⟩
    replace a0 := cell_keep a0 al hb
    replace a1 := cell_keep a1 al hb
    replace a2 := cell_keep a2 al hb
    replace a3 := cell_keep a3 al hb
    replace al := lt_keep al hb
    replace B := Lib.hid (below_next B.out hb)
    clear hb
    clear a0 a1 a2 a3 al
    go_wp2
    go_ret2
    exact ⟨by rw [stepV_no OK.out, OK.out]; rfl, B.out⟩
  · have OK := Lib.hid (show okStep W H ac up q x y = true by rw [HOK.out]; simp; omega)
    go_enter Try.func20, Try.ntmps20
    go_wp2_with fail
    rw [← hW2]
    clear hW2
    refine (arCell_any _ _ _ _ _ _).mono ?_
    rw [HQ.out]
    rintro e wv ⟨rfl, hb⟩
    replace a0 := cell_keep a0 al hb
    replace a1 := cell_keep a1 al hb
    replace a2 := cell_keep a2 al hb
    replace a3 := cell_keep a3 al hb
    replace al := lt_keep al hb
    replace B := Lib.hid (below_next B.out hb)
    clear hb
    go_wp2_with fail
    refine (arBy_bl _ _ _).mono ?_
    rw [HY.out]
    rintro e wv ⟨rfl, hb⟩
    replace a0 := cell_keep a0 al hb
    replace a1 := cell_keep a1 al hb
    replace a2 := cell_keep a2 al hb
    replace a3 := cell_keep a3 al hb
    replace al := lt_keep al hb
    replace B := Lib.hid (below_next B.out hb)
    clear hb
    go_wp2_with fail
    refine (HSC.out _).mono ?_
    rw [HS.out]
    rintro e wv ⟨rfl, hb⟩
    replace a0 := cell_keep a0 al hb
    replace a1 := cell_keep a1 al hb
    replace a2 := cell_keep a2 al hb
    replace a3 := cell_keep a3 al hb
    replace al := lt_keep al hb
    replace B := Lib.hid (below_next B.out hb)
    clear hb
    go_wp2_with fail
    refine (HSC.out _).mono ?_
    rw [HS.out]
    rintro e wv ⟨rfl, hb⟩
    replace a0 := cell_keep a0 al hb
    replace a1 := cell_keep a1 al hb
    replace a2 := cell_keep a2 al hb
    replace a3 := cell_keep a3 al hb
    replace al := lt_keep al hb
    replace B := Lib.hid (below_next B.out hb)
    clear hb
    clear a0 a1 a2 a3 al
    go_wp2
    go_ret2
    exact ⟨by rw [HV.out, OK.out]; rfl, B.out⟩

set_option maxRecDepth 100000 in
set_option maxHeartbeats 2000000 in
theorem impl_StepAround (W H : Int) (ac up : Bool) (q x y : Int) (w : World) :
    Calls Try.prog 21 #[ard W H ac up, .int .i64 q, .int .i64 x, .int .i64 y] w fun e w' => e = .returned (.tuple #[.int .i64 (stepV W H ac up q x y), .bool (okStep W H ac up q x y)]) ∧ Below w.heap.size w w' := by
  obtain ⟨W2, hW2⟩ : ∃ W2, W2 = ((w.alloc (.cells #[.int .i64 W, .int .i64 H, .bool ac, .bool up] 25)).alloc (.cells #[.int .i64 x, .int .i64 y] 59)).alloc (.cells #[.int .i64 q] 3) := ⟨_, rfl⟩
  have hsz : W2.heap.size = w.heap.size + 3 := by rw [hW2]; simp
  have a0 : W2.cell? ⟨w.heap.size, 0, none⟩ = some (.int .i64 W) := by rw [hW2]; go_simp
  have a1 : W2.cell? ⟨w.heap.size, 1, none⟩ = some (.int .i64 H) := by rw [hW2]; go_simp
  have a2 : W2.cell? ⟨w.heap.size, 2, none⟩ = some (.bool ac) := by rw [hW2]; go_simp
  have a3 : W2.cell? ⟨w.heap.size, 3, none⟩ = some (.bool up) := by rw [hW2]; go_simp
  have al : w.heap.size < W2.heap.size := by omega
  have s0 : W2.cell? ⟨w.heap.size + 1, 0, none⟩ = some (.int .i64 x) := by rw [hW2]; go_simp
  have s1 : W2.cell? ⟨w.heap.size + 1, 1, none⟩ = some (.int .i64 y) := by rw [hW2]; go_simp
  have sl : w.heap.size + 1 < W2.heap.size := by omega
  have q0 : W2.cell? ⟨w.heap.size + 1 + 1, 0, none⟩ = some (.int .i64 q) := by rw [hW2]; go_simp
  have ql : w.heap.size + 1 + 1 < W2.heap.size := by omega
  have B := Lib.hid (show Below w.heap.size w W2 by rw [hW2]; repeat (first | exact Below.refl _ _ | refine below_new ?_ _))
  have RQ := Lib.hid (show Rd W2 (some ⟨w.heap.size + 1 + 1, 0, none⟩) 1 [q] from ⟨rfl, by omega, fun k hk => by
    obtain rfl : k = 0 := by omega
    exact ⟨_, 0, _, rfl, by omega, rfl, q0⟩⟩)
  clear q0 ql hsz
  have HQ1 := Lib.hid (aroundB_one (W := W) (H := H) (q := q))
  cases hq : cellA W H q
  · have OK := Lib.hid (show okStep W H ac up q x y = false by rw [okStep, hq]; rfl)
    go_enter Try.func21, Try.ntmps21
    go_wp2_with fail
    rw [← hW2]
    clear hW2
    refine (isAroundWith_any W H ac up _ 1 1 [q] _ RQ.out).mono ?_
    rw [HQ1.out, hq]
    rintro e wv ⟨rfl, hb⟩
    replace a0 := cell_keep a0 al hb
    replace a1 := cell_keep a1 al hb
    replace a2 := cell_keep a2 al hb
    replace a3 := cell_keep a3 al hb
    replace al := lt_keep al hb
    replace s0 := cell_keep s0 sl hb
    replace s1 := cell_keep s1 sl hb
    replace sl := lt_keep sl hb
    replace B := Lib.hid (below_next B.out hb)
    clear hb
    clear RQ HQ1
    clear a0 a1 a2 a3 s0 s1 al sl
    go_wp2
    go_ret2
    exact ⟨by rw [stepV_no OK.out, OK.out]; rfl, B.out⟩
  cases hy : byA x y
  · have OK := Lib.hid (show okStep W H ac up q x y = false by rw [okStep, hy]; simp)
    go_enter Try.func21, Try.ntmps21
    go_wp2_with fail
    rw [← hW2]
    clear hW2
    refine (isAroundWith_any W H ac up _ 1 1 [q] _ RQ.out).mono ?_
    rw [HQ1.out, hq]
    rintro e wv ⟨rfl, hb⟩
    replace a0 := cell_keep a0 al hb
    replace a1 := cell_keep a1 al hb
    replace a2 := cell_keep a2 al hb
    replace a3 := cell_keep a3 al hb
    replace al := lt_keep al hb
    replace s0 := cell_keep s0 sl hb
    replace s1 := cell_keep s1 sl hb
    replace sl := lt_keep sl hb
    replace B := Lib.hid (below_next B.out hb)
    clear hb
    clear RQ HQ1
    go_wp2_with fail
    refine (isWithin_any x y 20 _ (by decide) (by decide)).mono ?_
    rw [by_within, hy]
    rintro e wv ⟨rfl, hb⟩
    replace a0 := cell_keep a0 al hb
    replace a1 := cell_keep a1 al hb
    replace a2 := cell_keep a2 al hb
    replace a3 := cell_keep a3 al hb
    replace al := lt_keep al hb
    replace s0 := cell_keep s0 sl hb
    replace s1 := cell_keep s1 sl hb
    replace sl := lt_keep sl hb
    replace B := Lib.hid (below_next B.out hb)
    clear hb
    clear a0 a1 a2 a3 s0 s1 al sl
    go_wp2
    go_ret2
    exact ⟨by rw [stepV_no OK.out, OK.out]; rfl, B.out⟩
  have HCQ := Lib.hid (cellA_iff.1 hq)
  have HBY := Lib.hid (byA_iff.1 hy)
  have HQ := Lib.hid hq; have HY := Lib.hid hy
  clear hq hy
  have HG := Lib.hid HCQ.out.1
  have hA := areaA HG.out
  obtain ⟨⟨hW1, hW2b⟩, hH1, hH2⟩ := goodA_iff.1 HG.out
  have HMB := Lib.hid (mod_bdA (W := W) (q := q) ⟨hW1, hW2b⟩)
  have HDB := Lib.hid (div_bdA (W := W) (H := H) (q := q) hW1 HCQ.out.2)
  have HOK := Lib.hid (show okStep W H ac up q x y = decide (0 ≤ stepA W H ac up q x y) by rw [okStep, HQ.out, HY.out]; rfl)
  have HV := Lib.hid (show stepV W H ac up q x y = if okStep W H ac up q x y then stepA W H ac up q x y else 0 from rfl)
  have HRG := Lib.hid (stepA_rng W H ac up q x y)
  obtain ⟨P, hP⟩ : ∃ P, colA ac W (q % W + x) = P := ⟨_, rfl⟩
  obtain ⟨R, hR⟩ : ∃ R, colA up H (q / W + y) = R := ⟨_, rfl⟩
  have HSN := Lib.hid (stepA_no (W := W) (H := H) (q := q) (x := x) (y := y) (ac := ac) (up := up)); have HSY := Lib.hid (stepA_yes (W := W) (H := H) (q := q) (x := x) (y := y) (ac := ac) (up := up))
  have HAF := Lib.hid (fun w' => after_any W H ac up (q % W) (q / W) x y w' HG.out (by have := HMB.out; omega) (by have := HDB.out; omega) HBY.out.1 HBY.out.2)
  have HNU := Lib.hid (fun w' => numbered_any q W w' ⟨hW1, hW2b⟩ (by have := HCQ.out.2; omega))
  rw [hP, hR] at HSN HSY HAF
  clear hP hR
  clear hA hW1 hW2b hH1 hH2
  cases hi : inA W H P R
  · have OK := Lib.hid (show okStep W H ac up q x y = false by rw [HOK.out, HSN.out hi]; rfl)
    go_enter Try.func21, Try.ntmps21
    go_wp2_with fail
    rw [← hW2]
    clear hW2
    refine (isAroundWith_any W H ac up _ 1 1 [q] _ RQ.out).mono ?_
    rw [HQ1.out, HQ.out]
    rintro e wv ⟨rfl, hb⟩
    replace a0 := cell_keep a0 al hb
    replace a1 := cell_keep a1 al hb
    replace a2 := cell_keep a2 al hb
    replace a3 := cell_keep a3 al hb
    replace al := lt_keep al hb
    replace s0 := cell_keep s0 sl hb
    replace s1 := cell_keep s1 sl hb
    replace sl := lt_keep sl hb
    replace B := Lib.hid (below_next B.out hb)
    clear hb
    clear RQ HQ1
    go_wp2_with fail
    refine (isWithin_any x y 20 _ (by decide) (by decide)).mono ?_
    rw [by_within, HY.out]
    rintro e wv ⟨rfl, hb⟩
    replace a0 := cell_keep a0 al hb
    replace a1 := cell_keep a1 al hb
    replace a2 := cell_keep a2 al hb
    replace a3 := cell_keep a3 al hb
    replace al := lt_keep al hb
    replace s0 := cell_keep s0 sl hb
    replace s1 := cell_keep s1 sl hb
    replace sl := lt_keep sl hb
    replace B := Lib.hid (below_next B.out hb)
    clear hb
    go_wp2_with fail
    refine wp_region_held_drew (S := fun w' => w'.cell? ⟨w.heap.size, 0, none⟩ = some (.int .i64 W) ∧ w'.cell? ⟨w.heap.size, 1, none⟩ = some (.int .i64 H) ∧ w'.cell? ⟨w.heap.size, 2, none⟩ = some (.bool ac) ∧ w'.cell? ⟨w.heap.size, 3, none⟩ = some (.bool up) ∧ w'.cell? ⟨w.heap.size + 1, 0, none⟩ = some (.int .i64 x) ∧ w'.cell? ⟨w.heap.size + 1, 1, none⟩ = some (.int .i64 y)) (by kernel_rfl) ?_ (fun hHeld => ?_)
    · (try dsimp only)
      exact ⟨a0, a1, a2, a3, s0, s1⟩
    refine wpAnyH_take (i := 0) (oi := ⟨_, _, _, _, _, _⟩) (v := ?_) rfl (by kernel_rfl) (by kernel_rfl) (by kernel_rfl) (fun _ _ _ h => h) (Or.inl ⟨by rfl, ?_⟩) (by assumption) ?_
    rotate_left
    · intro w hSw
      (try dsimp only at hSw)
      go_simp
      (try with_reducible rfl)
    (try simp only [Act.put, List.setIfInBounds_toArray, List.set_cons_zero, List.set_cons_succ])
    refine wpAnyH_take (i := 1) (oi := ⟨_, _, _, _, _, _⟩) (v := ?_) rfl (by kernel_rfl) (by kernel_rfl) (by kernel_rfl) (fun _ _ _ h => h) (Or.inl ⟨by rfl, ?_⟩) (by assumption) ?_
    rotate_left
    · intro w hSw
      (try dsimp only at hSw)
      go_simp
      (try with_reducible rfl)
    (try simp only [Act.put, List.setIfInBounds_toArray, List.set_cons_zero, List.set_cons_succ])
    refine wpAnyH_take (i := 2) (oi := ⟨_, _, _, _, _, _⟩) (v := ?_) rfl (by kernel_rfl) (by kernel_rfl) (by kernel_rfl) (fun _ _ _ h => h) (Or.inl ⟨by rfl, ?_⟩) (by assumption) ?_
    rotate_left
    · intro w hSw
      (try dsimp only at hSw)
      go_simp
      (try with_reducible rfl)
    (try simp only [Act.put, List.setIfInBounds_toArray, List.set_cons_zero, List.set_cons_succ])
    refine wpAnyH_take (i := 5) (oi := ⟨_, _, _, _, _, _⟩) (v := ?_) rfl (by kernel_rfl) (by kernel_rfl) (by kernel_rfl) (fun _ _ _ h => h) (Or.inl ⟨by rfl, ?_⟩) (by assumption) ?_
    rotate_left
    · intro w hSw
      (try dsimp only at hSw)
      go_simp
      (try with_reducible rfl)
    (try simp only [Act.put, List.setIfInBounds_toArray, List.set_cons_zero, List.set_cons_succ])
    refine wpAnyH_take (i := 3) (oi := ⟨_, _, _, _, _, _⟩) (v := ?_) rfl (by kernel_rfl) (by kernel_rfl) (by kernel_rfl) (fun _ _ _ h => h) (Or.inl ⟨by rfl, ?_⟩) (by assumption) ?_
    rotate_left
    · intro w hSw
      (try dsimp only at hSw)
      go_simp
      (try with_reducible rfl)
    (try simp only [Act.put, List.setIfInBounds_toArray, List.set_cons_zero, List.set_cons_succ])
    refine wpAnyH_ready (rs := [4, 10]) (by kernel_rfl) (by simp) ?_
    refine AllReadyH.cons (o := ⟨_, _, _, _, _, _⟩) rfl (fun K hK => ?_) (AllReadyH.cons (o := ⟨_, _, _, _, _, _⟩) rfl (fun K hK => ?_) AllReadyH.nil)
    · go_simp
      (go_at_call 58; refine (HNU.out _).mono ?_; rintro e wx ⟨rfl, hb⟩; (repeat (first | replace hb := below_undrew hb | replace hb := below_undrewN hb)); replace a0 := cell_keep a0 al hb; replace a1 := cell_keep a1 al hb; replace a2 := cell_keep a2 al hb; replace a3 := cell_keep a3 al hb; replace al := lt_keep al hb; replace s0 := cell_keep s0 sl hb; replace s1 := cell_keep s1 sl hb; replace sl := lt_keep sl hb; replace B := Lib.hid (below_next B.out hb); clear hb)
      (try go_wp2_with fail)
      refine hK.out _ _ ?_ (fun hHeld => ?_)
      · (try dsimp only)
        exact ⟨a0, a1, a2, a3, s0, s1⟩
      clear hK K
      (try simp only [Act.put, List.setIfInBounds_toArray, List.set_cons_zero, List.set_cons_succ])
      refine wpAnyH_ready (rs := [6, 10]) (by kernel_rfl) (by simp) ?_
      refine AllReadyH.cons (o := ⟨_, _, _, _, _, _⟩) rfl (fun K hK => ?_) (AllReadyH.cons (o := ⟨_, _, _, _, _, _⟩) rfl (fun K hK => ?_) AllReadyH.nil)
      · go_simp
        (go_at_call 57; refine (HAF.out _).mono ?_; rw [hi]; rintro e wy ⟨rfl, hb⟩; (repeat (first | replace hb := below_undrew hb | replace hb := below_undrewN hb)); replace a0 := cell_keep a0 al hb; replace a1 := cell_keep a1 al hb; replace a2 := cell_keep a2 al hb; replace a3 := cell_keep a3 al hb; replace al := lt_keep al hb; replace s0 := cell_keep s0 sl hb; replace s1 := cell_keep s1 sl hb; replace sl := lt_keep sl hb; replace B := Lib.hid (below_next B.out hb); clear hb)
        (try go_wp2_with fail)
        refine hK.out _ _ ?_ (fun hHeld => ?_)
        · (try dsimp only)
          exact ⟨a0, a1, a2, a3, s0, s1⟩
        clear hK K
        (try simp only [Act.put, List.setIfInBounds_toArray, List.set_cons_zero, List.set_cons_succ])
        refine wpAnyH_take (i := 7) (oi := ⟨_, _, _, _, _, _⟩) (v := ?_) rfl (by kernel_rfl) (by kernel_rfl) (by kernel_rfl) (fun _ _ _ h => h) (Or.inl ⟨by rfl, ?_⟩) (by assumption) ?_
        rotate_left
        · intro w hSw
          (try dsimp only at hSw)
          go_simp
          (try with_reducible rfl)
        (try simp only [Act.put, List.setIfInBounds_toArray, List.set_cons_zero, List.set_cons_succ])
        refine wpAnyH_take (i := 8) (oi := ⟨_, _, _, _, _, _⟩) (v := ?_) rfl (by kernel_rfl) (by kernel_rfl) (by kernel_rfl) (fun _ _ _ h => h) (Or.inl ⟨by rfl, ?_⟩) (by assumption) ?_
        rotate_left
        · intro w hSw
          (try dsimp only at hSw)
          go_simp
          (try with_reducible rfl)
        (try simp only [Act.put, List.setIfInBounds_toArray, List.set_cons_zero, List.set_cons_succ])
        refine wpAnyH_take (i := 9) (oi := ⟨_, _, _, _, _, _⟩) (v := ?_) rfl (by kernel_rfl) (by kernel_rfl) (by kernel_rfl) (fun _ _ _ h => h) (Or.inl ⟨by rfl, ?_⟩) (by assumption) ?_
        rotate_left
        · intro w hSw
          (try dsimp only at hSw)
          go_simp
          (try with_reducible rfl)
        (try simp only [Act.put, List.setIfInBounds_toArray, List.set_cons_zero, List.set_cons_succ])
        refine wpAnyH_ready (rs := [10]) (by kernel_rfl) (by simp) ?_
        refine AllReadyH.cons (o := ⟨_, _, _, _, _, _⟩) rfl (fun K hK => ?_) AllReadyH.nil
        go_simp
        obtain ⟨wz, hWn⟩ : ∃ W5, W5 = wy.alloc (.cells #[.int .i64 0, .int .i64 0] 59) := ⟨_, rfl⟩
        have hb : Below wy.heap.size wy wz := by rw [hWn]; exact below_new (Below.refl _ _) _
        obtain ⟨gt, hgp⟩ : ∃ gp, gp = wy.heap.size := ⟨_, rfl⟩
        have TB := Lib.hid (show SpotBox wz gt 0 0 by rw [hWn, hgp]; exact heap_alloc_new _ _)
        have Hgt := Lib.hid (show w.heap.size + 1 < gt by rw [hgp]; exact sl)
        rw [← hWn]
        (try rw [← hgp])
        clear hWn hgp
        replace a0 := cell_keep a0 al hb
        replace a1 := cell_keep a1 al hb
        replace a2 := cell_keep a2 al hb
        replace a3 := cell_keep a3 al hb
        replace al := lt_keep al hb
        replace s0 := cell_keep s0 sl hb
        replace s1 := cell_keep s1 sl hb
        replace sl := lt_keep sl hb
        replace B := Lib.hid (below_next B.out hb)
        clear hb
        refine hK.out _ _ ?_ (fun hHeld => ?_)
        · (try dsimp only)
          exact ⟨a0, a1, a2, a3, s0, s1⟩
        clear hK K
        (try simp only [Act.put, List.setIfInBounds_toArray, List.set_cons_zero, List.set_cons_succ])
        refine wpAnyH_ready (rs := [11]) (by kernel_rfl) (by simp) ?_
        refine AllReadyH.cons (o := ⟨_, _, _, _, _, _⟩) rfl (fun K hK => ?_) AllReadyH.nil
        have z0 := TB.out.c0; have z1 := TB.out.c1
        have f0 : wz.frozen? ⟨gt, 0, none⟩ = false := frozen_of_row wz _ 0 _ _ TB.out
        have f1 : wz.frozen? ⟨gt, 1, none⟩ = false := frozen_of_row wz _ 1 _ _ TB.out
        go_simp
        obtain ⟨W6, hWn⟩ : ∃ W6, W6 = (wz.setCell ⟨gt, 0, none⟩ (.int .i64 P)).setCell ⟨gt, 1, none⟩ (.int .i64 R) := ⟨_, rfl⟩
        have hgr : wz.grownBy W6 (some gt) := by rw [hWn]; exact grown_next (grownSet _ ⟨gt, 0, none⟩ _) (grownSet _ ⟨gt, 1, none⟩ _)
        replace TB := Lib.hid (show SpotBox W6 gt P R by rw [hWn]; exact TB.out.set _ _)
        replace B := Lib.hid (B.out.grown hgr B.out.size (fun g9 h9 => by injection h9 with h9; have := Hgt.out; omega))
        have hgne := Hgt.out
        replace a0 := hgr.cell a0 (by simp; omega)
        replace a1 := hgr.cell a1 (by simp; omega)
        replace a2 := hgr.cell a2 (by simp; omega)
        replace a3 := hgr.cell a3 (by simp; omega)
        replace al := Nat.lt_of_lt_of_le al hgr.size
        replace s0 := hgr.cell s0 (by simp; omega)
        replace s1 := hgr.cell s1 (by simp; omega)
        replace sl := Nat.lt_of_lt_of_le sl hgr.size
        rw [← hWn]
        clear hWn hgr z0 z1 f0 f1 hgne
        refine hK.out _ _ ?_ (fun hHeld => ?_)
        · (try dsimp only)
          exact ⟨a0, a1, a2, a3, s0, s1⟩
        clear hK K
        (try simp only [Act.put, List.setIfInBounds_toArray, List.set_cons_zero, List.set_cons_succ])
        refine wpAnyH_take (i := 12) (oi := ⟨_, _, _, _, _, _⟩) (v := ?_) rfl (by kernel_rfl) (by kernel_rfl) (by kernel_rfl) (fun _ _ _ h => h) (Or.inl ⟨by rfl, ?_⟩) (by assumption) ?_
        rotate_left
        · intro w hSw
          (try dsimp only at hSw)
          go_simp
          (try with_reducible rfl)
        (try simp only [Act.put, List.setIfInBounds_toArray, List.set_cons_zero, List.set_cons_succ])
        refine wpAnyH_done (by kernel_rfl) ?_ _
        clear hHeld
        clear a0 a1 a2 a3 s0 s1 al sl
        have t0 := TB.out.c0; have t1 := TB.out.c1
        go_wp2
        go_ret2
        exact ⟨by rw [stepV_no OK.out, OK.out]; rfl, (by repeat (first | exact B.out | refine below_drewN ?_ _ | refine Below.drew ?_))⟩
      · go_simp
        obtain ⟨wz, hWn⟩ : ∃ W5, W5 = wx.alloc (.cells #[.int .i64 0, .int .i64 0] 59) := ⟨_, rfl⟩
        have hb : Below wx.heap.size wx wz := by rw [hWn]; exact below_new (Below.refl _ _) _
        obtain ⟨gt, hgp⟩ : ∃ gp, gp = wx.heap.size := ⟨_, rfl⟩
        have TB := Lib.hid (show SpotBox wz gt 0 0 by rw [hWn, hgp]; exact heap_alloc_new _ _)
        have Hgt := Lib.hid (show w.heap.size + 1 < gt by rw [hgp]; exact sl)
        rw [← hWn]
        (try rw [← hgp])
        clear hWn hgp
        replace a0 := cell_keep a0 al hb
        replace a1 := cell_keep a1 al hb
        replace a2 := cell_keep a2 al hb
        replace a3 := cell_keep a3 al hb
        replace al := lt_keep al hb
        replace s0 := cell_keep s0 sl hb
        replace s1 := cell_keep s1 sl hb
        replace sl := lt_keep sl hb
        replace B := Lib.hid (below_next B.out hb)
        clear hb
        refine hK.out _ _ ?_ (fun hHeld => ?_)
        · (try dsimp only)
          exact ⟨a0, a1, a2, a3, s0, s1⟩
        clear hK K
        (try simp only [Act.put, List.setIfInBounds_toArray, List.set_cons_zero, List.set_cons_succ])
        refine wpAnyH_ready (rs := [6]) (by kernel_rfl) (by simp) ?_
        refine AllReadyH.cons (o := ⟨_, _, _, _, _, _⟩) rfl (fun K hK => ?_) AllReadyH.nil
        go_simp
        (go_at_call 57; refine (HAF.out _).mono ?_; rw [hi]; rintro e wy ⟨rfl, hb⟩; (repeat (first | replace hb := below_undrew hb | replace hb := below_undrewN hb)); replace a0 := cell_keep a0 al hb; replace a1 := cell_keep a1 al hb; replace a2 := cell_keep a2 al hb; replace a3 := cell_keep a3 al hb; replace al := lt_keep al hb; replace s0 := cell_keep s0 sl hb; replace s1 := cell_keep s1 sl hb; replace sl := lt_keep sl hb; replace TB := Lib.hid (TB.out.keep hb); replace B := Lib.hid (below_next B.out hb); clear hb)
        (try go_wp2_with fail)
        refine hK.out _ _ ?_ (fun hHeld => ?_)
        · (try dsimp only)
          exact ⟨a0, a1, a2, a3, s0, s1⟩
        clear hK K
        (try simp only [Act.put, List.setIfInBounds_toArray, List.set_cons_zero, List.set_cons_succ])
        refine wpAnyH_take (i := 7) (oi := ⟨_, _, _, _, _, _⟩) (v := ?_) rfl (by kernel_rfl) (by kernel_rfl) (by kernel_rfl) (fun _ _ _ h => h) (Or.inl ⟨by rfl, ?_⟩) (by assumption) ?_
        rotate_left
        · intro w hSw
          (try dsimp only at hSw)
          go_simp
          (try with_reducible rfl)
        (try simp only [Act.put, List.setIfInBounds_toArray, List.set_cons_zero, List.set_cons_succ])
        refine wpAnyH_take (i := 8) (oi := ⟨_, _, _, _, _, _⟩) (v := ?_) rfl (by kernel_rfl) (by kernel_rfl) (by kernel_rfl) (fun _ _ _ h => h) (Or.inl ⟨by rfl, ?_⟩) (by assumption) ?_
        rotate_left
        · intro w hSw
          (try dsimp only at hSw)
          go_simp
          (try with_reducible rfl)
        (try simp only [Act.put, List.setIfInBounds_toArray, List.set_cons_zero, List.set_cons_succ])
        refine wpAnyH_take (i := 9) (oi := ⟨_, _, _, _, _, _⟩) (v := ?_) rfl (by kernel_rfl) (by kernel_rfl) (by kernel_rfl) (fun _ _ _ h => h) (Or.inl ⟨by rfl, ?_⟩) (by assumption) ?_
        rotate_left
        · intro w hSw
          (try dsimp only at hSw)
          go_simp
          (try with_reducible rfl)
        (try simp only [Act.put, List.setIfInBounds_toArray, List.set_cons_zero, List.set_cons_succ])
        refine wpAnyH_ready (rs := [11]) (by kernel_rfl) (by simp) ?_
        refine AllReadyH.cons (o := ⟨_, _, _, _, _, _⟩) rfl (fun K hK => ?_) AllReadyH.nil
        have z0 := TB.out.c0; have z1 := TB.out.c1
        have f0 : wy.frozen? ⟨gt, 0, none⟩ = false := frozen_of_row wy _ 0 _ _ TB.out
        have f1 : wy.frozen? ⟨gt, 1, none⟩ = false := frozen_of_row wy _ 1 _ _ TB.out
        go_simp
        obtain ⟨W6, hWn⟩ : ∃ W6, W6 = (wy.setCell ⟨gt, 0, none⟩ (.int .i64 P)).setCell ⟨gt, 1, none⟩ (.int .i64 R) := ⟨_, rfl⟩
        have hgr : wy.grownBy W6 (some gt) := by rw [hWn]; exact grown_next (grownSet _ ⟨gt, 0, none⟩ _) (grownSet _ ⟨gt, 1, none⟩ _)
        replace TB := Lib.hid (show SpotBox W6 gt P R by rw [hWn]; exact TB.out.set _ _)
        replace B := Lib.hid (B.out.grown hgr B.out.size (fun g9 h9 => by injection h9 with h9; have := Hgt.out; omega))
        have hgne := Hgt.out
        replace a0 := hgr.cell a0 (by simp; omega)
        replace a1 := hgr.cell a1 (by simp; omega)
        replace a2 := hgr.cell a2 (by simp; omega)
        replace a3 := hgr.cell a3 (by simp; omega)
        replace al := Nat.lt_of_lt_of_le al hgr.size
        replace s0 := hgr.cell s0 (by simp; omega)
        replace s1 := hgr.cell s1 (by simp; omega)
        replace sl := Nat.lt_of_lt_of_le sl hgr.size
        rw [← hWn]
        clear hWn hgr z0 z1 f0 f1 hgne
        refine hK.out _ _ ?_ (fun hHeld => ?_)
        · (try dsimp only)
          exact ⟨a0, a1, a2, a3, s0, s1⟩
        clear hK K
        (try simp only [Act.put, List.setIfInBounds_toArray, List.set_cons_zero, List.set_cons_succ])
        refine wpAnyH_take (i := 12) (oi := ⟨_, _, _, _, _, _⟩) (v := ?_) rfl (by kernel_rfl) (by kernel_rfl) (by kernel_rfl) (fun _ _ _ h => h) (Or.inl ⟨by rfl, ?_⟩) (by assumption) ?_
        rotate_left
        · intro w hSw
          (try dsimp only at hSw)
          go_simp
          (try with_reducible rfl)
        (try simp only [Act.put, List.setIfInBounds_toArray, List.set_cons_zero, List.set_cons_succ])
        refine wpAnyH_done (by kernel_rfl) ?_ _
        clear hHeld
        clear a0 a1 a2 a3 s0 s1 al sl
        have t0 := TB.out.c0; have t1 := TB.out.c1
        go_wp2
        go_ret2
        exact ⟨by rw [stepV_no OK.out, OK.out]; rfl, (by repeat (first | exact B.out | refine below_drewN ?_ _ | refine Below.drew ?_))⟩
    · go_simp
      obtain ⟨wz, hWn⟩ : ∃ W5, W5 = wv.alloc (.cells #[.int .i64 0, .int .i64 0] 59) := ⟨_, rfl⟩
      have hb : Below wv.heap.size wv wz := by rw [hWn]; exact below_new (Below.refl _ _) _
      obtain ⟨gt, hgp⟩ : ∃ gp, gp = wv.heap.size := ⟨_, rfl⟩
      have TB := Lib.hid (show SpotBox wz gt 0 0 by rw [hWn, hgp]; exact heap_alloc_new _ _)
      have Hgt := Lib.hid (show w.heap.size + 1 < gt by rw [hgp]; exact sl)
      rw [← hWn]
      (try rw [← hgp])
      clear hWn hgp
      replace a0 := cell_keep a0 al hb
      replace a1 := cell_keep a1 al hb
      replace a2 := cell_keep a2 al hb
      replace a3 := cell_keep a3 al hb
      replace al := lt_keep al hb
      replace s0 := cell_keep s0 sl hb
      replace s1 := cell_keep s1 sl hb
      replace sl := lt_keep sl hb
      replace B := Lib.hid (below_next B.out hb)
      clear hb
      refine hK.out _ _ ?_ (fun hHeld => ?_)
      · (try dsimp only)
        exact ⟨a0, a1, a2, a3, s0, s1⟩
      clear hK K
      (try simp only [Act.put, List.setIfInBounds_toArray, List.set_cons_zero, List.set_cons_succ])
      refine wpAnyH_ready (rs := [4]) (by kernel_rfl) (by simp) ?_
      refine AllReadyH.cons (o := ⟨_, _, _, _, _, _⟩) rfl (fun K hK => ?_) AllReadyH.nil
      go_simp
      (go_at_call 58; refine (HNU.out _).mono ?_; rintro e wx ⟨rfl, hb⟩; (repeat (first | replace hb := below_undrew hb | replace hb := below_undrewN hb)); replace a0 := cell_keep a0 al hb; replace a1 := cell_keep a1 al hb; replace a2 := cell_keep a2 al hb; replace a3 := cell_keep a3 al hb; replace al := lt_keep al hb; replace s0 := cell_keep s0 sl hb; replace s1 := cell_keep s1 sl hb; replace sl := lt_keep sl hb; replace TB := Lib.hid (TB.out.keep hb); replace B := Lib.hid (below_next B.out hb); clear hb)
      (try go_wp2_with fail)
      refine hK.out _ _ ?_ (fun hHeld => ?_)
      · (try dsimp only)
        exact ⟨a0, a1, a2, a3, s0, s1⟩
      clear hK K
      (try simp only [Act.put, List.setIfInBounds_toArray, List.set_cons_zero, List.set_cons_succ])
      refine wpAnyH_ready (rs := [6]) (by kernel_rfl) (by simp) ?_
      refine AllReadyH.cons (o := ⟨_, _, _, _, _, _⟩) rfl (fun K hK => ?_) AllReadyH.nil
      go_simp
      (go_at_call 57; refine (HAF.out _).mono ?_; rw [hi]; rintro e wy ⟨rfl, hb⟩; (repeat (first | replace hb := below_undrew hb | replace hb := below_undrewN hb)); replace a0 := cell_keep a0 al hb; replace a1 := cell_keep a1 al hb; replace a2 := cell_keep a2 al hb; replace a3 := cell_keep a3 al hb; replace al := lt_keep al hb; replace s0 := cell_keep s0 sl hb; replace s1 := cell_keep s1 sl hb; replace sl := lt_keep sl hb; replace TB := Lib.hid (TB.out.keep hb); replace B := Lib.hid (below_next B.out hb); clear hb)
      (try go_wp2_with fail)
      refine hK.out _ _ ?_ (fun hHeld => ?_)
      · (try dsimp only)
        exact ⟨a0, a1, a2, a3, s0, s1⟩
      clear hK K
      (try simp only [Act.put, List.setIfInBounds_toArray, List.set_cons_zero, List.set_cons_succ])
      refine wpAnyH_take (i := 7) (oi := ⟨_, _, _, _, _, _⟩) (v := ?_) rfl (by kernel_rfl) (by kernel_rfl) (by kernel_rfl) (fun _ _ _ h => h) (Or.inl ⟨by rfl, ?_⟩) (by assumption) ?_
      rotate_left
      · intro w hSw
        (try dsimp only at hSw)
        go_simp
        (try with_reducible rfl)
      (try simp only [Act.put, List.setIfInBounds_toArray, List.set_cons_zero, List.set_cons_succ])
      refine wpAnyH_take (i := 8) (oi := ⟨_, _, _, _, _, _⟩) (v := ?_) rfl (by kernel_rfl) (by kernel_rfl) (by kernel_rfl) (fun _ _ _ h => h) (Or.inl ⟨by rfl, ?_⟩) (by assumption) ?_
      rotate_left
      · intro w hSw
        (try dsimp only at hSw)
        go_simp
        (try with_reducible rfl)
      (try simp only [Act.put, List.setIfInBounds_toArray, List.set_cons_zero, List.set_cons_succ])
      refine wpAnyH_take (i := 9) (oi := ⟨_, _, _, _, _, _⟩) (v := ?_) rfl (by kernel_rfl) (by kernel_rfl) (by kernel_rfl) (fun _ _ _ h => h) (Or.inl ⟨by rfl, ?_⟩) (by assumption) ?_
      rotate_left
      · intro w hSw
        (try dsimp only at hSw)
        go_simp
        (try with_reducible rfl)
      (try simp only [Act.put, List.setIfInBounds_toArray, List.set_cons_zero, List.set_cons_succ])
      refine wpAnyH_ready (rs := [11]) (by kernel_rfl) (by simp) ?_
      refine AllReadyH.cons (o := ⟨_, _, _, _, _, _⟩) rfl (fun K hK => ?_) AllReadyH.nil
      have z0 := TB.out.c0; have z1 := TB.out.c1
      have f0 : wy.frozen? ⟨gt, 0, none⟩ = false := frozen_of_row wy _ 0 _ _ TB.out
      have f1 : wy.frozen? ⟨gt, 1, none⟩ = false := frozen_of_row wy _ 1 _ _ TB.out
      go_simp
      obtain ⟨W6, hWn⟩ : ∃ W6, W6 = (wy.setCell ⟨gt, 0, none⟩ (.int .i64 P)).setCell ⟨gt, 1, none⟩ (.int .i64 R) := ⟨_, rfl⟩
      have hgr : wy.grownBy W6 (some gt) := by rw [hWn]; exact grown_next (grownSet _ ⟨gt, 0, none⟩ _) (grownSet _ ⟨gt, 1, none⟩ _)
      replace TB := Lib.hid (show SpotBox W6 gt P R by rw [hWn]; exact TB.out.set _ _)
      replace B := Lib.hid (B.out.grown hgr B.out.size (fun g9 h9 => by injection h9 with h9; have := Hgt.out; omega))
      have hgne := Hgt.out
      replace a0 := hgr.cell a0 (by simp; omega)
      replace a1 := hgr.cell a1 (by simp; omega)
      replace a2 := hgr.cell a2 (by simp; omega)
      replace a3 := hgr.cell a3 (by simp; omega)
      replace al := Nat.lt_of_lt_of_le al hgr.size
      replace s0 := hgr.cell s0 (by simp; omega)
      replace s1 := hgr.cell s1 (by simp; omega)
      replace sl := Nat.lt_of_lt_of_le sl hgr.size
      rw [← hWn]
      clear hWn hgr z0 z1 f0 f1 hgne
      refine hK.out _ _ ?_ (fun hHeld => ?_)
      · (try dsimp only)
        exact ⟨a0, a1, a2, a3, s0, s1⟩
      clear hK K
      (try simp only [Act.put, List.setIfInBounds_toArray, List.set_cons_zero, List.set_cons_succ])
      refine wpAnyH_take (i := 12) (oi := ⟨_, _, _, _, _, _⟩) (v := ?_) rfl (by kernel_rfl) (by kernel_rfl) (by kernel_rfl) (fun _ _ _ h => h) (Or.inl ⟨by rfl, ?_⟩) (by assumption) ?_
      rotate_left
      · intro w hSw
        (try dsimp only at hSw)
        go_simp
        (try with_reducible rfl)
      (try simp only [Act.put, List.setIfInBounds_toArray, List.set_cons_zero, List.set_cons_succ])
      refine wpAnyH_done (by kernel_rfl) ?_ _
      clear hHeld
      clear a0 a1 a2 a3 s0 s1 al sl
      have t0 := TB.out.c0; have t1 := TB.out.c1
      go_wp2
      go_ret2
      exact ⟨by rw [stepV_no OK.out, OK.out]; rfl, (by repeat (first | exact B.out | refine below_drewN ?_ _ | refine Below.drew ?_))⟩
  · have OK := Lib.hid (show okStep W H ac up q x y = true by rw [HOK.out, HSY.out hi]; simp; have := numA hi; omega)
    have HPB := Lib.hid (show -5000 ≤ P ∧ P ≤ 5000 by have := inA_iff.1 hi; have := goodA_iff.1 HG.out; omega)
    have HRW := Lib.hid (show -5000 ≤ R * W ∧ R * W ≤ 5000 by have h1 := inA_iff.1 hi; have h2 := goodA_iff.1 HG.out; have := mul12 (x := R) (y := W) (by omega) (by omega); omega)
    go_enter Try.func21, Try.ntmps21
    go_wp2_with fail
    rw [← hW2]
    clear hW2
    refine (isAroundWith_any W H ac up _ 1 1 [q] _ RQ.out).mono ?_
    rw [HQ1.out, HQ.out]
    rintro e wv ⟨rfl, hb⟩
    replace a0 := cell_keep a0 al hb
    replace a1 := cell_keep a1 al hb
    replace a2 := cell_keep a2 al hb
    replace a3 := cell_keep a3 al hb
    replace al := lt_keep al hb
    replace s0 := cell_keep s0 sl hb
    replace s1 := cell_keep s1 sl hb
    replace sl := lt_keep sl hb
    replace B := Lib.hid (below_next B.out hb)
    clear hb
    clear RQ HQ1
    go_wp2_with fail
    refine (isWithin_any x y 20 _ (by decide) (by decide)).mono ?_
    rw [by_within, HY.out]
    rintro e wv ⟨rfl, hb⟩
    replace a0 := cell_keep a0 al hb
    replace a1 := cell_keep a1 al hb
    replace a2 := cell_keep a2 al hb
    replace a3 := cell_keep a3 al hb
    replace al := lt_keep al hb
    replace s0 := cell_keep s0 sl hb
    replace s1 := cell_keep s1 sl hb
    replace sl := lt_keep sl hb
    replace B := Lib.hid (below_next B.out hb)
    clear hb
    go_wp2_with fail
    refine wp_region_held_drew (S := fun w' => w'.cell? ⟨w.heap.size, 0, none⟩ = some (.int .i64 W) ∧ w'.cell? ⟨w.heap.size, 1, none⟩ = some (.int .i64 H) ∧ w'.cell? ⟨w.heap.size, 2, none⟩ = some (.bool ac) ∧ w'.cell? ⟨w.heap.size, 3, none⟩ = some (.bool up) ∧ w'.cell? ⟨w.heap.size + 1, 0, none⟩ = some (.int .i64 x) ∧ w'.cell? ⟨w.heap.size + 1, 1, none⟩ = some (.int .i64 y)) (by kernel_rfl) ?_ (fun hHeld => ?_)
    · (try dsimp only)
      exact ⟨a0, a1, a2, a3, s0, s1⟩
    refine wpAnyH_take (i := 0) (oi := ⟨_, _, _, _, _, _⟩) (v := ?_) rfl (by kernel_rfl) (by kernel_rfl) (by kernel_rfl) (fun _ _ _ h => h) (Or.inl ⟨by rfl, ?_⟩) (by assumption) ?_
    rotate_left
    · intro w hSw
      (try dsimp only at hSw)
      go_simp
      (try with_reducible rfl)
    (try simp only [Act.put, List.setIfInBounds_toArray, List.set_cons_zero, List.set_cons_succ])
    refine wpAnyH_take (i := 1) (oi := ⟨_, _, _, _, _, _⟩) (v := ?_) rfl (by kernel_rfl) (by kernel_rfl) (by kernel_rfl) (fun _ _ _ h => h) (Or.inl ⟨by rfl, ?_⟩) (by assumption) ?_
    rotate_left
    · intro w hSw
      (try dsimp only at hSw)
      go_simp
      (try with_reducible rfl)
    (try simp only [Act.put, List.setIfInBounds_toArray, List.set_cons_zero, List.set_cons_succ])
    refine wpAnyH_take (i := 2) (oi := ⟨_, _, _, _, _, _⟩) (v := ?_) rfl (by kernel_rfl) (by kernel_rfl) (by kernel_rfl) (fun _ _ _ h => h) (Or.inl ⟨by rfl, ?_⟩) (by assumption) ?_
    rotate_left
    · intro w hSw
      (try dsimp only at hSw)
      go_simp
      (try with_reducible rfl)
    (try simp only [Act.put, List.setIfInBounds_toArray, List.set_cons_zero, List.set_cons_succ])
    refine wpAnyH_take (i := 5) (oi := ⟨_, _, _, _, _, _⟩) (v := ?_) rfl (by kernel_rfl) (by kernel_rfl) (by kernel_rfl) (fun _ _ _ h => h) (Or.inl ⟨by rfl, ?_⟩) (by assumption) ?_
    rotate_left
    · intro w hSw
      (try dsimp only at hSw)
      go_simp
      (try with_reducible rfl)
    (try simp only [Act.put, List.setIfInBounds_toArray, List.set_cons_zero, List.set_cons_succ])
    refine wpAnyH_take (i := 3) (oi := ⟨_, _, _, _, _, _⟩) (v := ?_) rfl (by kernel_rfl) (by kernel_rfl) (by kernel_rfl) (fun _ _ _ h => h) (Or.inl ⟨by rfl, ?_⟩) (by assumption) ?_
    rotate_left
    · intro w hSw
      (try dsimp only at hSw)
      go_simp
      (try with_reducible rfl)
    (try simp only [Act.put, List.setIfInBounds_toArray, List.set_cons_zero, List.set_cons_succ])
    refine wpAnyH_ready (rs := [4, 10]) (by kernel_rfl) (by simp) ?_
    refine AllReadyH.cons (o := ⟨_, _, _, _, _, _⟩) rfl (fun K hK => ?_) (AllReadyH.cons (o := ⟨_, _, _, _, _, _⟩) rfl (fun K hK => ?_) AllReadyH.nil)
    · go_simp
      (go_at_call 58; refine (HNU.out _).mono ?_; rintro e wx ⟨rfl, hb⟩; (repeat (first | replace hb := below_undrew hb | replace hb := below_undrewN hb)); replace a0 := cell_keep a0 al hb; replace a1 := cell_keep a1 al hb; replace a2 := cell_keep a2 al hb; replace a3 := cell_keep a3 al hb; replace al := lt_keep al hb; replace s0 := cell_keep s0 sl hb; replace s1 := cell_keep s1 sl hb; replace sl := lt_keep sl hb; replace B := Lib.hid (below_next B.out hb); clear hb)
      (try go_wp2_with fail)
      refine hK.out _ _ ?_ (fun hHeld => ?_)
      · (try dsimp only)
        exact ⟨a0, a1, a2, a3, s0, s1⟩
      clear hK K
      (try simp only [Act.put, List.setIfInBounds_toArray, List.set_cons_zero, List.set_cons_succ])
      refine wpAnyH_ready (rs := [6, 10]) (by kernel_rfl) (by simp) ?_
      refine AllReadyH.cons (o := ⟨_, _, _, _, _, _⟩) rfl (fun K hK => ?_) (AllReadyH.cons (o := ⟨_, _, _, _, _, _⟩) rfl (fun K hK => ?_) AllReadyH.nil)
      · go_simp
        (go_at_call 57; refine (HAF.out _).mono ?_; rw [hi]; rintro e wy ⟨rfl, hb⟩; (repeat (first | replace hb := below_undrew hb | replace hb := below_undrewN hb)); replace a0 := cell_keep a0 al hb; replace a1 := cell_keep a1 al hb; replace a2 := cell_keep a2 al hb; replace a3 := cell_keep a3 al hb; replace al := lt_keep al hb; replace s0 := cell_keep s0 sl hb; replace s1 := cell_keep s1 sl hb; replace sl := lt_keep sl hb; replace B := Lib.hid (below_next B.out hb); clear hb)
        (try go_wp2_with fail)
        refine hK.out _ _ ?_ (fun hHeld => ?_)
        · (try dsimp only)
          exact ⟨a0, a1, a2, a3, s0, s1⟩
        clear hK K
        (try simp only [Act.put, List.setIfInBounds_toArray, List.set_cons_zero, List.set_cons_succ])
        refine wpAnyH_take (i := 7) (oi := ⟨_, _, _, _, _, _⟩) (v := ?_) rfl (by kernel_rfl) (by kernel_rfl) (by kernel_rfl) (fun _ _ _ h => h) (Or.inl ⟨by rfl, ?_⟩) (by assumption) ?_
        rotate_left
        · intro w hSw
          (try dsimp only at hSw)
          go_simp
          (try with_reducible rfl)
        (try simp only [Act.put, List.setIfInBounds_toArray, List.set_cons_zero, List.set_cons_succ])
        refine wpAnyH_take (i := 8) (oi := ⟨_, _, _, _, _, _⟩) (v := ?_) rfl (by kernel_rfl) (by kernel_rfl) (by kernel_rfl) (fun _ _ _ h => h) (Or.inl ⟨by rfl, ?_⟩) (by assumption) ?_
        rotate_left
        · intro w hSw
          (try dsimp only at hSw)
          go_simp
          (try with_reducible rfl)
        (try simp only [Act.put, List.setIfInBounds_toArray, List.set_cons_zero, List.set_cons_succ])
        refine wpAnyH_take (i := 9) (oi := ⟨_, _, _, _, _, _⟩) (v := ?_) rfl (by kernel_rfl) (by kernel_rfl) (by kernel_rfl) (fun _ _ _ h => h) (Or.inl ⟨by rfl, ?_⟩) (by assumption) ?_
        rotate_left
        · intro w hSw
          (try dsimp only at hSw)
          go_simp
          (try with_reducible rfl)
        (try simp only [Act.put, List.setIfInBounds_toArray, List.set_cons_zero, List.set_cons_succ])
        refine wpAnyH_ready (rs := [10]) (by kernel_rfl) (by simp) ?_
        refine AllReadyH.cons (o := ⟨_, _, _, _, _, _⟩) rfl (fun K hK => ?_) AllReadyH.nil
        go_simp
        obtain ⟨wz, hWn⟩ : ∃ W5, W5 = wy.alloc (.cells #[.int .i64 0, .int .i64 0] 59) := ⟨_, rfl⟩
        have hb : Below wy.heap.size wy wz := by rw [hWn]; exact below_new (Below.refl _ _) _
        obtain ⟨gt, hgp⟩ : ∃ gp, gp = wy.heap.size := ⟨_, rfl⟩
        have TB := Lib.hid (show SpotBox wz gt 0 0 by rw [hWn, hgp]; exact heap_alloc_new _ _)
        have Hgt := Lib.hid (show w.heap.size + 1 < gt by rw [hgp]; exact sl)
        rw [← hWn]
        (try rw [← hgp])
        clear hWn hgp
        replace a0 := cell_keep a0 al hb
        replace a1 := cell_keep a1 al hb
        replace a2 := cell_keep a2 al hb
        replace a3 := cell_keep a3 al hb
        replace al := lt_keep al hb
        replace s0 := cell_keep s0 sl hb
        replace s1 := cell_keep s1 sl hb
        replace sl := lt_keep sl hb
        replace B := Lib.hid (below_next B.out hb)
        clear hb
        refine hK.out _ _ ?_ (fun hHeld => ?_)
        · (try dsimp only)
          exact ⟨a0, a1, a2, a3, s0, s1⟩
        clear hK K
        (try simp only [Act.put, List.setIfInBounds_toArray, List.set_cons_zero, List.set_cons_succ])
        refine wpAnyH_ready (rs := [11]) (by kernel_rfl) (by simp) ?_
        refine AllReadyH.cons (o := ⟨_, _, _, _, _, _⟩) rfl (fun K hK => ?_) AllReadyH.nil
        have z0 := TB.out.c0; have z1 := TB.out.c1
        have f0 : wz.frozen? ⟨gt, 0, none⟩ = false := frozen_of_row wz _ 0 _ _ TB.out
        have f1 : wz.frozen? ⟨gt, 1, none⟩ = false := frozen_of_row wz _ 1 _ _ TB.out
        go_simp
        obtain ⟨W6, hWn⟩ : ∃ W6, W6 = (wz.setCell ⟨gt, 0, none⟩ (.int .i64 P)).setCell ⟨gt, 1, none⟩ (.int .i64 R) := ⟨_, rfl⟩
        have hgr : wz.grownBy W6 (some gt) := by rw [hWn]; exact grown_next (grownSet _ ⟨gt, 0, none⟩ _) (grownSet _ ⟨gt, 1, none⟩ _)
        replace TB := Lib.hid (show SpotBox W6 gt P R by rw [hWn]; exact TB.out.set _ _)
        replace B := Lib.hid (B.out.grown hgr B.out.size (fun g9 h9 => by injection h9 with h9; have := Hgt.out; omega))
        have hgne := Hgt.out
        replace a0 := hgr.cell a0 (by simp; omega)
        replace a1 := hgr.cell a1 (by simp; omega)
        replace a2 := hgr.cell a2 (by simp; omega)
        replace a3 := hgr.cell a3 (by simp; omega)
        replace al := Nat.lt_of_lt_of_le al hgr.size
        replace s0 := hgr.cell s0 (by simp; omega)
        replace s1 := hgr.cell s1 (by simp; omega)
        replace sl := Nat.lt_of_lt_of_le sl hgr.size
        rw [← hWn]
        clear hWn hgr z0 z1 f0 f1 hgne
        refine hK.out _ _ ?_ (fun hHeld => ?_)
        · (try dsimp only)
          exact ⟨a0, a1, a2, a3, s0, s1⟩
        clear hK K
        (try simp only [Act.put, List.setIfInBounds_toArray, List.set_cons_zero, List.set_cons_succ])
        refine wpAnyH_take (i := 12) (oi := ⟨_, _, _, _, _, _⟩) (v := ?_) rfl (by kernel_rfl) (by kernel_rfl) (by kernel_rfl) (fun _ _ _ h => h) (Or.inl ⟨by rfl, ?_⟩) (by assumption) ?_
        rotate_left
        · intro w hSw
          (try dsimp only at hSw)
          go_simp
          (try with_reducible rfl)
        (try simp only [Act.put, List.setIfInBounds_toArray, List.set_cons_zero, List.set_cons_succ])
        refine wpAnyH_done (by kernel_rfl) ?_ _
        clear hHeld
        have t0 := TB.out.c0; have t1 := TB.out.c1
        go_wp2_with fail
        refine (number_gen P R W _ HPB.out HRW.out).mono ?_
        rintro e wv9 ⟨rfl, hb⟩
        replace B := Lib.hid (B.out.trans (hb.mono B.out.size))
        clear hb t0 t1
        clear a0 a1 a2 a3 s0 s1 al sl
        go_wp2
        go_ret2
        exact ⟨by rw [HV.out, OK.out, HSY.out hi]; rfl, B.out⟩
      · go_simp
        obtain ⟨wz, hWn⟩ : ∃ W5, W5 = wx.alloc (.cells #[.int .i64 0, .int .i64 0] 59) := ⟨_, rfl⟩
        have hb : Below wx.heap.size wx wz := by rw [hWn]; exact below_new (Below.refl _ _) _
        obtain ⟨gt, hgp⟩ : ∃ gp, gp = wx.heap.size := ⟨_, rfl⟩
        have TB := Lib.hid (show SpotBox wz gt 0 0 by rw [hWn, hgp]; exact heap_alloc_new _ _)
        have Hgt := Lib.hid (show w.heap.size + 1 < gt by rw [hgp]; exact sl)
        rw [← hWn]
        (try rw [← hgp])
        clear hWn hgp
        replace a0 := cell_keep a0 al hb
        replace a1 := cell_keep a1 al hb
        replace a2 := cell_keep a2 al hb
        replace a3 := cell_keep a3 al hb
        replace al := lt_keep al hb
        replace s0 := cell_keep s0 sl hb
        replace s1 := cell_keep s1 sl hb
        replace sl := lt_keep sl hb
        replace B := Lib.hid (below_next B.out hb)
        clear hb
        refine hK.out _ _ ?_ (fun hHeld => ?_)
        · (try dsimp only)
          exact ⟨a0, a1, a2, a3, s0, s1⟩
        clear hK K
        (try simp only [Act.put, List.setIfInBounds_toArray, List.set_cons_zero, List.set_cons_succ])
        refine wpAnyH_ready (rs := [6]) (by kernel_rfl) (by simp) ?_
        refine AllReadyH.cons (o := ⟨_, _, _, _, _, _⟩) rfl (fun K hK => ?_) AllReadyH.nil
        go_simp
        (go_at_call 57; refine (HAF.out _).mono ?_; rw [hi]; rintro e wy ⟨rfl, hb⟩; (repeat (first | replace hb := below_undrew hb | replace hb := below_undrewN hb)); replace a0 := cell_keep a0 al hb; replace a1 := cell_keep a1 al hb; replace a2 := cell_keep a2 al hb; replace a3 := cell_keep a3 al hb; replace al := lt_keep al hb; replace s0 := cell_keep s0 sl hb; replace s1 := cell_keep s1 sl hb; replace sl := lt_keep sl hb; replace TB := Lib.hid (TB.out.keep hb); replace B := Lib.hid (below_next B.out hb); clear hb)
        (try go_wp2_with fail)
        refine hK.out _ _ ?_ (fun hHeld => ?_)
        · (try dsimp only)
          exact ⟨a0, a1, a2, a3, s0, s1⟩
        clear hK K
        (try simp only [Act.put, List.setIfInBounds_toArray, List.set_cons_zero, List.set_cons_succ])
        refine wpAnyH_take (i := 7) (oi := ⟨_, _, _, _, _, _⟩) (v := ?_) rfl (by kernel_rfl) (by kernel_rfl) (by kernel_rfl) (fun _ _ _ h => h) (Or.inl ⟨by rfl, ?_⟩) (by assumption) ?_
        rotate_left
        · intro w hSw
          (try dsimp only at hSw)
          go_simp
          (try with_reducible rfl)
        (try simp only [Act.put, List.setIfInBounds_toArray, List.set_cons_zero, List.set_cons_succ])
        refine wpAnyH_take (i := 8) (oi := ⟨_, _, _, _, _, _⟩) (v := ?_) rfl (by kernel_rfl) (by kernel_rfl) (by kernel_rfl) (fun _ _ _ h => h) (Or.inl ⟨by rfl, ?_⟩) (by assumption) ?_
        rotate_left
        · intro w hSw
          (try dsimp only at hSw)
          go_simp
          (try with_reducible rfl)
        (try simp only [Act.put, List.setIfInBounds_toArray, List.set_cons_zero, List.set_cons_succ])
        refine wpAnyH_take (i := 9) (oi := ⟨_, _, _, _, _, _⟩) (v := ?_) rfl (by kernel_rfl) (by kernel_rfl) (by kernel_rfl) (fun _ _ _ h => h) (Or.inl ⟨by rfl, ?_⟩) (by assumption) ?_
        rotate_left
        · intro w hSw
          (try dsimp only at hSw)
          go_simp
          (try with_reducible rfl)
        (try simp only [Act.put, List.setIfInBounds_toArray, List.set_cons_zero, List.set_cons_succ])
        refine wpAnyH_ready (rs := [11]) (by kernel_rfl) (by simp) ?_
        refine AllReadyH.cons (o := ⟨_, _, _, _, _, _⟩) rfl (fun K hK => ?_) AllReadyH.nil
        have z0 := TB.out.c0; have z1 := TB.out.c1
        have f0 : wy.frozen? ⟨gt, 0, none⟩ = false := frozen_of_row wy _ 0 _ _ TB.out
        have f1 : wy.frozen? ⟨gt, 1, none⟩ = false := frozen_of_row wy _ 1 _ _ TB.out
        go_simp
        obtain ⟨W6, hWn⟩ : ∃ W6, W6 = (wy.setCell ⟨gt, 0, none⟩ (.int .i64 P)).setCell ⟨gt, 1, none⟩ (.int .i64 R) := ⟨_, rfl⟩
        have hgr : wy.grownBy W6 (some gt) := by rw [hWn]; exact grown_next (grownSet _ ⟨gt, 0, none⟩ _) (grownSet _ ⟨gt, 1, none⟩ _)
        replace TB := Lib.hid (show SpotBox W6 gt P R by rw [hWn]; exact TB.out.set _ _)
        replace B := Lib.hid (B.out.grown hgr B.out.size (fun g9 h9 => by injection h9 with h9; have := Hgt.out; omega))
        have hgne := Hgt.out
        replace a0 := hgr.cell a0 (by simp; omega)
        replace a1 := hgr.cell a1 (by simp; omega)
        replace a2 := hgr.cell a2 (by simp; omega)
        replace a3 := hgr.cell a3 (by simp; omega)
        replace al := Nat.lt_of_lt_of_le al hgr.size
        replace s0 := hgr.cell s0 (by simp; omega)
        replace s1 := hgr.cell s1 (by simp; omega)
        replace sl := Nat.lt_of_lt_of_le sl hgr.size
        rw [← hWn]
        clear hWn hgr z0 z1 f0 f1 hgne
        refine hK.out _ _ ?_ (fun hHeld => ?_)
        · (try dsimp only)
          exact ⟨a0, a1, a2, a3, s0, s1⟩
        clear hK K
        (try simp only [Act.put, List.setIfInBounds_toArray, List.set_cons_zero, List.set_cons_succ])
        refine wpAnyH_take (i := 12) (oi := ⟨_, _, _, _, _, _⟩) (v := ?_) rfl (by kernel_rfl) (by kernel_rfl) (by kernel_rfl) (fun _ _ _ h => h) (Or.inl ⟨by rfl, ?_⟩) (by assumption) ?_
        rotate_left
        · intro w hSw
          (try dsimp only at hSw)
          go_simp
          (try with_reducible rfl)
        (try simp only [Act.put, List.setIfInBounds_toArray, List.set_cons_zero, List.set_cons_succ])
        refine wpAnyH_done (by kernel_rfl) ?_ _
        clear hHeld
        have t0 := TB.out.c0; have t1 := TB.out.c1
        go_wp2_with fail
        refine (number_gen P R W _ HPB.out HRW.out).mono ?_
        rintro e wv9 ⟨rfl, hb⟩
        replace B := Lib.hid (B.out.trans (hb.mono B.out.size))
        clear hb t0 t1
        clear a0 a1 a2 a3 s0 s1 al sl
        go_wp2
        go_ret2
        exact ⟨by rw [HV.out, OK.out, HSY.out hi]; rfl, B.out⟩
    · go_simp
      obtain ⟨wz, hWn⟩ : ∃ W5, W5 = wv.alloc (.cells #[.int .i64 0, .int .i64 0] 59) := ⟨_, rfl⟩
      have hb : Below wv.heap.size wv wz := by rw [hWn]; exact below_new (Below.refl _ _) _
      obtain ⟨gt, hgp⟩ : ∃ gp, gp = wv.heap.size := ⟨_, rfl⟩
      have TB := Lib.hid (show SpotBox wz gt 0 0 by rw [hWn, hgp]; exact heap_alloc_new _ _)
      have Hgt := Lib.hid (show w.heap.size + 1 < gt by rw [hgp]; exact sl)
      rw [← hWn]
      (try rw [← hgp])
      clear hWn hgp
      replace a0 := cell_keep a0 al hb
      replace a1 := cell_keep a1 al hb
      replace a2 := cell_keep a2 al hb
      replace a3 := cell_keep a3 al hb
      replace al := lt_keep al hb
      replace s0 := cell_keep s0 sl hb
      replace s1 := cell_keep s1 sl hb
      replace sl := lt_keep sl hb
      replace B := Lib.hid (below_next B.out hb)
      clear hb
      refine hK.out _ _ ?_ (fun hHeld => ?_)
      · (try dsimp only)
        exact ⟨a0, a1, a2, a3, s0, s1⟩
      clear hK K
      (try simp only [Act.put, List.setIfInBounds_toArray, List.set_cons_zero, List.set_cons_succ])
      refine wpAnyH_ready (rs := [4]) (by kernel_rfl) (by simp) ?_
      refine AllReadyH.cons (o := ⟨_, _, _, _, _, _⟩) rfl (fun K hK => ?_) AllReadyH.nil
      go_simp
      (go_at_call 58; refine (HNU.out _).mono ?_; rintro e wx ⟨rfl, hb⟩; (repeat (first | replace hb := below_undrew hb | replace hb := below_undrewN hb)); replace a0 := cell_keep a0 al hb; replace a1 := cell_keep a1 al hb; replace a2 := cell_keep a2 al hb; replace a3 := cell_keep a3 al hb; replace al := lt_keep al hb; replace s0 := cell_keep s0 sl hb; replace s1 := cell_keep s1 sl hb; replace sl := lt_keep sl hb; replace TB := Lib.hid (TB.out.keep hb); replace B := Lib.hid (below_next B.out hb); clear hb)
      (try go_wp2_with fail)
      refine hK.out _ _ ?_ (fun hHeld => ?_)
      · (try dsimp only)
        exact ⟨a0, a1, a2, a3, s0, s1⟩
      clear hK K
      (try simp only [Act.put, List.setIfInBounds_toArray, List.set_cons_zero, List.set_cons_succ])
      refine wpAnyH_ready (rs := [6]) (by kernel_rfl) (by simp) ?_
      refine AllReadyH.cons (o := ⟨_, _, _, _, _, _⟩) rfl (fun K hK => ?_) AllReadyH.nil
      go_simp
      (go_at_call 57; refine (HAF.out _).mono ?_; rw [hi]; rintro e wy ⟨rfl, hb⟩; (repeat (first | replace hb := below_undrew hb | replace hb := below_undrewN hb)); replace a0 := cell_keep a0 al hb; replace a1 := cell_keep a1 al hb; replace a2 := cell_keep a2 al hb; replace a3 := cell_keep a3 al hb; replace al := lt_keep al hb; replace s0 := cell_keep s0 sl hb; replace s1 := cell_keep s1 sl hb; replace sl := lt_keep sl hb; replace TB := Lib.hid (TB.out.keep hb); replace B := Lib.hid (below_next B.out hb); clear hb)
      (try go_wp2_with fail)
      refine hK.out _ _ ?_ (fun hHeld => ?_)
      · (try dsimp only)
        exact ⟨a0, a1, a2, a3, s0, s1⟩
      clear hK K
      (try simp only [Act.put, List.setIfInBounds_toArray, List.set_cons_zero, List.set_cons_succ])
      refine wpAnyH_take (i := 7) (oi := ⟨_, _, _, _, _, _⟩) (v := ?_) rfl (by kernel_rfl) (by kernel_rfl) (by kernel_rfl) (fun _ _ _ h => h) (Or.inl ⟨by rfl, ?_⟩) (by assumption) ?_
      rotate_left
      · intro w hSw
        (try dsimp only at hSw)
        go_simp
        (try with_reducible rfl)
      (try simp only [Act.put, List.setIfInBounds_toArray, List.set_cons_zero, List.set_cons_succ])
      refine wpAnyH_take (i := 8) (oi := ⟨_, _, _, _, _, _⟩) (v := ?_) rfl (by kernel_rfl) (by kernel_rfl) (by kernel_rfl) (fun _ _ _ h => h) (Or.inl ⟨by rfl, ?_⟩) (by assumption) ?_
      rotate_left
      · intro w hSw
        (try dsimp only at hSw)
        go_simp
        (try with_reducible rfl)
      (try simp only [Act.put, List.setIfInBounds_toArray, List.set_cons_zero, List.set_cons_succ])
      refine wpAnyH_take (i := 9) (oi := ⟨_, _, _, _, _, _⟩) (v := ?_) rfl (by kernel_rfl) (by kernel_rfl) (by kernel_rfl) (fun _ _ _ h => h) (Or.inl ⟨by rfl, ?_⟩) (by assumption) ?_
      rotate_left
      · intro w hSw
        (try dsimp only at hSw)
        go_simp
        (try with_reducible rfl)
      (try simp only [Act.put, List.setIfInBounds_toArray, List.set_cons_zero, List.set_cons_succ])
      refine wpAnyH_ready (rs := [11]) (by kernel_rfl) (by simp) ?_
      refine AllReadyH.cons (o := ⟨_, _, _, _, _, _⟩) rfl (fun K hK => ?_) AllReadyH.nil
      have z0 := TB.out.c0; have z1 := TB.out.c1
      have f0 : wy.frozen? ⟨gt, 0, none⟩ = false := frozen_of_row wy _ 0 _ _ TB.out
      have f1 : wy.frozen? ⟨gt, 1, none⟩ = false := frozen_of_row wy _ 1 _ _ TB.out
      go_simp
      obtain ⟨W6, hWn⟩ : ∃ W6, W6 = (wy.setCell ⟨gt, 0, none⟩ (.int .i64 P)).setCell ⟨gt, 1, none⟩ (.int .i64 R) := ⟨_, rfl⟩
      have hgr : wy.grownBy W6 (some gt) := by rw [hWn]; exact grown_next (grownSet _ ⟨gt, 0, none⟩ _) (grownSet _ ⟨gt, 1, none⟩ _)
      replace TB := Lib.hid (show SpotBox W6 gt P R by rw [hWn]; exact TB.out.set _ _)
      replace B := Lib.hid (B.out.grown hgr B.out.size (fun g9 h9 => by injection h9 with h9; have := Hgt.out; omega))
      have hgne := Hgt.out
      replace a0 := hgr.cell a0 (by simp; omega)
      replace a1 := hgr.cell a1 (by simp; omega)
      replace a2 := hgr.cell a2 (by simp; omega)
      replace a3 := hgr.cell a3 (by simp; omega)
      replace al := Nat.lt_of_lt_of_le al hgr.size
      replace s0 := hgr.cell s0 (by simp; omega)
      replace s1 := hgr.cell s1 (by simp; omega)
      replace sl := Nat.lt_of_lt_of_le sl hgr.size
      rw [← hWn]
      clear hWn hgr z0 z1 f0 f1 hgne
      refine hK.out _ _ ?_ (fun hHeld => ?_)
      · (try dsimp only)
        exact ⟨a0, a1, a2, a3, s0, s1⟩
      clear hK K
      (try simp only [Act.put, List.setIfInBounds_toArray, List.set_cons_zero, List.set_cons_succ])
      refine wpAnyH_take (i := 12) (oi := ⟨_, _, _, _, _, _⟩) (v := ?_) rfl (by kernel_rfl) (by kernel_rfl) (by kernel_rfl) (fun _ _ _ h => h) (Or.inl ⟨by rfl, ?_⟩) (by assumption) ?_
      rotate_left
      · intro w hSw
        (try dsimp only at hSw)
        go_simp
        (try with_reducible rfl)
      (try simp only [Act.put, List.setIfInBounds_toArray, List.set_cons_zero, List.set_cons_succ])
      refine wpAnyH_done (by kernel_rfl) ?_ _
      clear hHeld
      have t0 := TB.out.c0; have t1 := TB.out.c1
      go_wp2_with fail
      refine (number_gen P R W _ HPB.out HRW.out).mono ?_
      rintro e wv9 ⟨rfl, hb⟩
      replace B := Lib.hid (B.out.trans (hb.mono B.out.size))
      clear hb t0 t1
      clear a0 a1 a2 a3 s0 s1 al sl
      go_wp2
      go_ret2
      exact ⟨by rw [HV.out, OK.out, HSY.out hi]; rfl, B.out⟩

end Go.Proofs.Ytaliknhfcdmohaa
