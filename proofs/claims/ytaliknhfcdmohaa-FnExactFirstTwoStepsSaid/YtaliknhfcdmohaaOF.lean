/-
  Contracts: TwoSteps and VisitsAll, in the model and in the program.
-/
import Derived.Test.YtaliknhfcdmohaaOC
import Derived.Test.YtaliknhfcdmohaaOD
import Derived.Test.YtaliknhfcdmohaaOE
namespace Go.Proofs.Ytaliknhfcdmohaa
open Go.RowKit

def visA (W H : Int) (ac up : Bool) (s1 s2 : Int × Int) (t : Int) : Bool := decide (((turnsL W H ac up s1 s2 t).length : Int) = W * H)
def visV (W H : Int) (ac up : Bool) (a b f s t : Int) : Bool := okT W H a b f s t && visA W H ac up (stepN a b f) (stepN a b s) t
theorem visV_no {W H a b f s t : Int} {ac up : Bool} (h : okT W H a b f s t = false) : visV W H ac up a b f s t = false := by rw [visV, h]; rfl

set_option maxRecDepth 100000 in
set_option maxHeartbeats 2000000 in
theorem spec_TwoSteps (W H : Int) (ac up : Bool) (a b f s t : Int) (w : World) :
    Calls Try.prog 42 #[ard W H ac up, lpr a b, .int .i64 f, .int .i64 s, .int .i64 t] w fun e w' => ∃ A' n' c', e = .returned (.tuple #[.slice A' n' c', .bool (okT W H a b f s t)]) ∧ OwnI 3 w' w.heap.size A' n' c' (turnsV W H ac up a b f s t) ∧ Below w.heap.size w w' := by
  obtain ⟨W2, hW2⟩ : ∃ W2, W2 = (w.alloc (.cells #[.int .i64 W, .int .i64 H, .bool ac, .bool up] 25)).alloc (.cells #[.int .i64 a, .int .i64 b] 36) := ⟨_, rfl⟩
  have hsz : W2.heap.size = w.heap.size + 2 := by rw [hW2]; simp
  have a0 : W2.cell? ⟨w.heap.size, 0, none⟩ = some (.int .i64 W) := by rw [hW2]; go_simp
  have a1 : W2.cell? ⟨w.heap.size, 1, none⟩ = some (.int .i64 H) := by rw [hW2]; go_simp
  have a2 : W2.cell? ⟨w.heap.size, 2, none⟩ = some (.bool ac) := by rw [hW2]; go_simp
  have a3 : W2.cell? ⟨w.heap.size, 3, none⟩ = some (.bool up) := by rw [hW2]; go_simp
  have al : w.heap.size < W2.heap.size := by omega
  have l0 : W2.cell? ⟨w.heap.size + 1, 0, none⟩ = some (.int .i64 a) := by rw [hW2]; go_simp
  have l1 : W2.cell? ⟨w.heap.size + 1, 1, none⟩ = some (.int .i64 b) := by rw [hW2]; go_simp
  have ll : w.heap.size + 1 < W2.heap.size := by omega
  have B := Lib.hid (show Below w.heap.size w W2 by rw [hW2]; repeat (first | exact Below.refl _ _ | refine below_new ?_ _))
  cases ho : okT W H a b f s t
  · have OK := Lib.hid ho
    go_enter Try.func42, Try.ntmps42
    go_wp2_with fail
    rw [← hW2]
    clear hW2
    refine (arAsked_any _ _ _ _ _ _ _ _ _ _).mono ?_
    rw [ho]
    rintro e wv ⟨rfl, hb⟩
    replace a0 := cell_keep a0 al hb
    replace a1 := cell_keep a1 al hb
    replace a2 := cell_keep a2 al hb
    replace a3 := cell_keep a3 al hb
    replace al := lt_keep al hb
    replace l0 := cell_keep l0 ll hb
    replace l1 := cell_keep l1 ll hb
    replace ll := lt_keep ll hb
    replace B := Lib.hid (below_next B.out hb)
    clear hb
    clear a0 a1 a2 a3 l0 l1 al ll
    go_wp2
    go_ret2
    exact ⟨none, 0, 0, by first | (rw [OK.out]; rfl) | rfl, by rw [turnsV_no OK.out]; exact OwnI.none_ _ _ _, B.out⟩
  · have OK := Lib.hid ho
    have HOK := Lib.hid (okT_iff.1 ho)
    obtain ⟨fn, rfl⟩ : ∃ fn : Nat, f = (fn : Int) := ⟨f.toNat, by have := HOK.out.2.2.1; omega⟩
    obtain ⟨sn, rfl⟩ : ∃ sn : Nat, s = (sn : Int) := ⟨s.toNat, by have := HOK.out.2.2.2.1; omega⟩
    have HTU := Lib.hid (fun w' => arTurns_any W H ac up a b fn sn t w' HOK.out.2.1 HOK.out.1 (by have := HOK.out.2.2.1.2; unfold lenA at this; omega) (by have := HOK.out.2.2.2.1.2; unfold lenA at this; omega) HOK.out.2.2.2.2)
    have HTE := Lib.hid (show turnsL W H ac up ((stepsL a b).getD fn (0, 0)) ((stepsL a b).getD sn (0, 0)) t = turnsL W H ac up (stepN a b fn) (stepN a b sn) t from rfl)
    rw [HTE.out] at HTU
    have HTL := Lib.hid (turnsL_len (t := t) (ac := ac) (up := up) (s1 := stepN a b fn) (s2 := stepN a b sn) HOK.out.2.1)
    go_enter Try.func42, Try.ntmps42
    go_wp2_with fail
    rw [← hW2]
    clear hW2
    refine (arAsked_any _ _ _ _ _ _ _ _ _ _).mono ?_
    rw [ho]
    rintro e wv ⟨rfl, hb⟩
    replace a0 := cell_keep a0 al hb
    replace a1 := cell_keep a1 al hb
    replace a2 := cell_keep a2 al hb
    replace a3 := cell_keep a3 al hb
    replace al := lt_keep al hb
    replace l0 := cell_keep l0 ll hb
    replace l1 := cell_keep l1 ll hb
    replace ll := lt_keep ll hb
    replace B := Lib.hid (below_next B.out hb)
    clear hb
    go_wp2_with fail
    refine (HTU.out _).mono ?_
    rintro e wx ⟨A', n', c', rfl, hown, hb⟩
    have O := Lib.hid (hown.lower B.out.size)
    replace B := Lib.hid (below_next B.out hb)
    clear hown hb
    clear a0 a1 a2 a3 l0 l1 al ll
    go_wp2
    go_ret2
    exact ⟨A', n', c', by first | (rw [OK.out]; rfl) | rfl, by rw [turnsV, if_pos OK.out]; exact O.out, B.out⟩

set_option maxRecDepth 100000 in
set_option maxHeartbeats 2000000 in
theorem spec_VisitsAll (W H : Int) (ac up : Bool) (a b f s t : Int) (w : World) :
    Calls Try.prog 44 #[ard W H ac up, lpr a b, .int .i64 f, .int .i64 s, .int .i64 t] w fun e w' => e = .returned (.tuple #[.bool (visV W H ac up a b f s t), .bool (okT W H a b f s t)]) ∧ Below w.heap.size w w' := by
  obtain ⟨W2, hW2⟩ : ∃ W2, W2 = (w.alloc (.cells #[.int .i64 W, .int .i64 H, .bool ac, .bool up] 25)).alloc (.cells #[.int .i64 a, .int .i64 b] 36) := ⟨_, rfl⟩
  have hsz : W2.heap.size = w.heap.size + 2 := by rw [hW2]; simp
  have a0 : W2.cell? ⟨w.heap.size, 0, none⟩ = some (.int .i64 W) := by rw [hW2]; go_simp
  have a1 : W2.cell? ⟨w.heap.size, 1, none⟩ = some (.int .i64 H) := by rw [hW2]; go_simp
  have a2 : W2.cell? ⟨w.heap.size, 2, none⟩ = some (.bool ac) := by rw [hW2]; go_simp
  have a3 : W2.cell? ⟨w.heap.size, 3, none⟩ = some (.bool up) := by rw [hW2]; go_simp
  have al : w.heap.size < W2.heap.size := by omega
  have l0 : W2.cell? ⟨w.heap.size + 1, 0, none⟩ = some (.int .i64 a) := by rw [hW2]; go_simp
  have l1 : W2.cell? ⟨w.heap.size + 1, 1, none⟩ = some (.int .i64 b) := by rw [hW2]; go_simp
  have ll : w.heap.size + 1 < W2.heap.size := by omega
  have B := Lib.hid (show Below w.heap.size w W2 by rw [hW2]; repeat (first | exact Below.refl _ _ | refine below_new ?_ _))
  cases ho : okT W H a b f s t
  · have OK := Lib.hid ho
    go_enter Try.func44, Try.ntmps44
    go_wp2_with fail
    rw [← hW2]
    clear hW2
    refine (arAsked_any _ _ _ _ _ _ _ _ _ _).mono ?_
    rw [ho]
    rintro e wv ⟨rfl, hb⟩
    replace a0 := cell_keep a0 al hb
    replace a1 := cell_keep a1 al hb
    replace a2 := cell_keep a2 al hb
    replace a3 := cell_keep a3 al hb
    replace al := lt_keep al hb
    replace l0 := cell_keep l0 ll hb
    replace l1 := cell_keep l1 ll hb
    replace ll := lt_keep ll hb
    replace B := Lib.hid (below_next B.out hb)
    clear hb
    clear a0 a1 a2 a3 l0 l1 al ll
    go_wp2
    go_ret2
    exact ⟨by rw [visV_no OK.out]; first | (rw [OK.out]; rfl) | rfl, B.out⟩
  · have OK := Lib.hid ho
    have HOK := Lib.hid (okT_iff.1 ho)
    obtain ⟨fn, rfl⟩ : ∃ fn : Nat, f = (fn : Int) := ⟨f.toNat, by have := HOK.out.2.2.1; omega⟩
    obtain ⟨sn, rfl⟩ : ∃ sn : Nat, s = (sn : Int) := ⟨s.toNat, by have := HOK.out.2.2.2.1; omega⟩
    have HTU := Lib.hid (fun w' => arTurns_any W H ac up a b fn sn t w' HOK.out.2.1 HOK.out.1 (by have := HOK.out.2.2.1.2; unfold lenA at this; omega) (by have := HOK.out.2.2.2.1.2; unfold lenA at this; omega) HOK.out.2.2.2.2)
    have HTE := Lib.hid (show turnsL W H ac up ((stepsL a b).getD fn (0, 0)) ((stepsL a b).getD sn (0, 0)) t = turnsL W H ac up (stepN a b fn) (stepN a b sn) t from rfl)
    rw [HTE.out] at HTU
    have HTL := Lib.hid (turnsL_len (t := t) (ac := ac) (up := up) (s1 := stepN a b fn) (s2 := stepN a b sn) HOK.out.2.1)
    have hA := areaA HOK.out.2.1
    obtain ⟨A1, A2⟩ := hA
    have hww : IntKind.i64.wrap (W * H) = W * H := IntWalk.i64_in _ (by omega)
    go_enter Try.func44, Try.ntmps44
    go_wp2_with fail
    rw [← hW2]
    clear hW2
    refine (arAsked_any _ _ _ _ _ _ _ _ _ _).mono ?_
    rw [ho]
    rintro e wv ⟨rfl, hb⟩
    replace a0 := cell_keep a0 al hb
    replace a1 := cell_keep a1 al hb
    replace a2 := cell_keep a2 al hb
    replace a3 := cell_keep a3 al hb
    replace al := lt_keep al hb
    replace l0 := cell_keep l0 ll hb
    replace l1 := cell_keep l1 ll hb
    replace ll := lt_keep ll hb
    replace B := Lib.hid (below_next B.out hb)
    clear hb
    go_wp2_with fail
    refine wp_region_held_drew (S := fun w' => w'.cell? ⟨w.heap.size, 0, none⟩ = some (.int .i64 W) ∧ w'.cell? ⟨w.heap.size, 1, none⟩ = some (.int .i64 H) ∧ w'.cell? ⟨w.heap.size, 2, none⟩ = some (.bool ac) ∧ w'.cell? ⟨w.heap.size, 3, none⟩ = some (.bool up) ∧ w'.cell? ⟨w.heap.size + 1, 0, none⟩ = some (.int .i64 a) ∧ w'.cell? ⟨w.heap.size + 1, 1, none⟩ = some (.int .i64 b)) (by kernel_rfl) ?_ (fun hHeld => ?_)
    · (try dsimp only)
      exact ⟨a0, a1, a2, a3, l0, l1⟩
    refine wpAnyH_take (i := 0) (oi := ⟨_, _, _, _, _, _⟩) (v := ?_) rfl (by kernel_rfl) (by kernel_rfl) (by kernel_rfl) (fun _ _ _ h => h) (Or.inl ⟨by rfl, ?_⟩) (by assumption) ?_
    rotate_left
    · intro w hSw
      (try dsimp only at hSw)
      go_simp
      (try with_reducible rfl)
    (try simp only [Act.put, List.setIfInBounds_toArray, List.set_cons_zero, List.set_cons_succ])
    refine wpAnyH_take (i := 1) (oi := ⟨_, _, _, _, _, _⟩) (v := ?_) rfl (by kernel_rfl) (by kernel_rfl) (by kernel_rfl) (fun _ _ _ h => h) (Or.inl ⟨by rfl, ?_⟩) (by assumption) ?_
    rotate_left
    · intro w hSw
      (try dsimp only at hSw)
      go_simp
      (try with_reducible rfl)
    (try simp only [Act.put, List.setIfInBounds_toArray, List.set_cons_zero, List.set_cons_succ])
    refine wpAnyH_take (i := 2) (oi := ⟨_, _, _, _, _, _⟩) (v := ?_) rfl (by kernel_rfl) (by kernel_rfl) (by kernel_rfl) (fun _ _ _ h => h) (Or.inl ⟨by rfl, ?_⟩) (by assumption) ?_
    rotate_left
    · intro w hSw
      (try dsimp only at hSw)
      go_simp
      (try with_reducible rfl)
    (try simp only [Act.put, List.setIfInBounds_toArray, List.set_cons_zero, List.set_cons_succ])
    refine wpAnyH_take (i := 3) (oi := ⟨_, _, _, _, _, _⟩) (v := ?_) rfl (by kernel_rfl) (by kernel_rfl) (by kernel_rfl) (fun _ _ _ h => h) (Or.inl ⟨by rfl, ?_⟩) (by assumption) ?_
    rotate_left
    · intro w hSw
      (try dsimp only at hSw)
      go_simp
      (try with_reducible rfl)
    (try simp only [Act.put, List.setIfInBounds_toArray, List.set_cons_zero, List.set_cons_succ])
    refine wpAnyH_take (i := 4) (oi := ⟨_, _, _, _, _, _⟩) (v := ?_) rfl (by kernel_rfl) (by kernel_rfl) (by kernel_rfl) (fun _ _ _ h => h) (Or.inl ⟨by rfl, ?_⟩) (by assumption) ?_
    rotate_left
    · intro w hSw
      (try dsimp only at hSw)
      go_simp
      (try with_reducible rfl)
    (try simp only [Act.put, List.setIfInBounds_toArray, List.set_cons_zero, List.set_cons_succ])
    refine wpAnyH_take (i := 7) (oi := ⟨_, _, _, _, _, _⟩) (v := ?_) rfl (by kernel_rfl) (by kernel_rfl) (by kernel_rfl) (fun _ _ _ h => h) (Or.inl ⟨by rfl, ?_⟩) (by assumption) ?_
    rotate_left
    · intro w hSw
      (try dsimp only at hSw)
      go_simp
      (try with_reducible rfl)
    (try simp only [Act.put, List.setIfInBounds_toArray, List.set_cons_zero, List.set_cons_succ])
    refine wpAnyH_take (i := 9) (oi := ⟨_, _, _, _, _, _⟩) (v := ?_) rfl (by kernel_rfl) (by kernel_rfl) (by kernel_rfl) (fun _ _ _ h => h) (Or.inl ⟨by rfl, ?_⟩) (by assumption) ?_
    rotate_left
    · intro w hSw
      (try dsimp only at hSw)
      go_simp
      (try with_reducible rfl)
    (try simp only [Act.put, List.setIfInBounds_toArray, List.set_cons_zero, List.set_cons_succ])
    refine wpAnyH_take (i := 8) (oi := ⟨_, _, _, _, _, _⟩) (v := ?_) rfl (by kernel_rfl) (by kernel_rfl) (by kernel_rfl) (fun _ _ _ h => h) (Or.inl ⟨by rfl, ?_⟩) (by assumption) ?_
    rotate_left
    · intro w hSw
      (try dsimp only at hSw)
      go_simp
      (try with_reducible rfl)
    (try simp only [Act.put, List.setIfInBounds_toArray, List.set_cons_zero, List.set_cons_succ])
    refine wpAnyH_take (i := 10) (oi := ⟨_, _, _, _, _, _⟩) (v := ?_) rfl (by kernel_rfl) (by kernel_rfl) (by kernel_rfl) (fun _ _ _ h => h) (Or.inl ⟨by rfl, ?_⟩) (by assumption) ?_
    rotate_left
    · intro w hSw
      (try dsimp only at hSw)
      go_simp
      (try with_reducible rfl)
    (try simp only [Act.put, List.setIfInBounds_toArray, List.set_cons_zero, List.set_cons_succ])
    refine wpAnyH_take (i := 11) (oi := ⟨_, _, _, _, _, _⟩) (v := ?_) rfl (by kernel_rfl) (by kernel_rfl) (by kernel_rfl) (fun _ _ _ h => h) (Or.inl ⟨by rfl, ?_⟩) (by assumption) ?_
    rotate_left
    · intro w hSw
      (try dsimp only at hSw)
      go_simp
      (try with_reducible rfl)
    (try simp only [Act.put, List.setIfInBounds_toArray, List.set_cons_zero, List.set_cons_succ])
    refine wpAnyH_ready (rs := [5]) (by kernel_rfl) (by simp) ?_
    refine AllReadyH.cons (o := ⟨_, _, _, _, _, _⟩) rfl (fun K hK => ?_) AllReadyH.nil
    go_simp
    (go_at_call 78; refine (HTU.out _).mono ?_; rintro e wx ⟨A', n', c', rfl, hown, hb⟩; (repeat (first | replace hb := below_undrew hb | replace hb := below_undrewN hb)); have HNL := Lib.hid hown.len; clear hown; replace a0 := cell_keep a0 al hb; replace a1 := cell_keep a1 al hb; replace a2 := cell_keep a2 al hb; replace a3 := cell_keep a3 al hb; replace al := lt_keep al hb; replace l0 := cell_keep l0 ll hb; replace l1 := cell_keep l1 ll hb; replace ll := lt_keep ll hb; replace B := Lib.hid (below_next B.out hb); clear hb)
    (try go_wp2_with fail)
    refine hK.out _ _ ?_ (fun hHeld => ?_)
    · (try dsimp only)
      exact ⟨a0, a1, a2, a3, l0, l1⟩
    clear hK K
    (try simp only [Act.put, List.setIfInBounds_toArray, List.set_cons_zero, List.set_cons_succ])
    refine wpAnyH_take (i := 6) (oi := ⟨_, _, _, _, _, _⟩) (v := ?_) rfl (by kernel_rfl) (by kernel_rfl) (by kernel_rfl) (fun _ _ _ h => h) (Or.inl ⟨by rfl, ?_⟩) (by assumption) ?_
    rotate_left
    · intro w hSw
      (try dsimp only at hSw)
      go_simp
      (try with_reducible rfl)
    (try simp only [Act.put, List.setIfInBounds_toArray, List.set_cons_zero, List.set_cons_succ])
    refine wpAnyH_take (i := 12) (oi := ⟨_, _, _, _, _, _⟩) (v := ?_) rfl (by kernel_rfl) (by kernel_rfl) (by kernel_rfl) (fun _ _ _ h => h) (Or.inl ⟨by rfl, ?_⟩) (by assumption) ?_
    rotate_left
    · intro w hSw
      (try dsimp only at hSw)
      go_simp
      (try with_reducible rfl)
    (try simp only [Act.put, List.setIfInBounds_toArray, List.set_cons_zero, List.set_cons_succ])
    refine wpAnyH_take (i := 13) (oi := ⟨_, _, _, _, _, _⟩) (v := ?_) rfl (by kernel_rfl) (by kernel_rfl) (by kernel_rfl) (fun _ _ _ h => h) (Or.inl ⟨by rfl, ?_⟩) (by assumption) ?_
    rotate_left
    · intro w hSw
      (try dsimp only at hSw)
      go_simp
      (try with_reducible rfl)
    (try simp only [Act.put, List.setIfInBounds_toArray, List.set_cons_zero, List.set_cons_succ])
    refine wpAnyH_take (i := 14) (oi := ⟨_, _, _, _, _, _⟩) (v := ?_) rfl (by kernel_rfl) (by kernel_rfl) (by kernel_rfl) (fun _ _ _ h => h) (Or.inl ⟨by rfl, ?_⟩) (by assumption) ?_
    rotate_left
    · intro w hSw
      (try dsimp only at hSw)
      go_simp
      (try with_reducible rfl)
    (try simp only [Act.put, List.setIfInBounds_toArray, List.set_cons_zero, List.set_cons_succ])
    refine wpAnyH_done (by kernel_rfl) ?_ _
    clear hHeld
    clear a0 a1 a2 a3 l0 l1 al ll
    go_wp2
    go_ret2
    exact ⟨by rw [visV, OK.out, visA, HNL.out, Bool.true_and]; rfl, (by repeat (first | exact B.out | refine below_drewN ?_ _ | refine Below.drew ?_))⟩

set_option maxRecDepth 100000 in
set_option maxHeartbeats 2000000 in
theorem visitsAll_any (W H : Int) (ac up : Bool) (dx1 dy1 dx2 dy2 t : Int) (w : World) (hg : goodA W H = true) (h1 : -5 ≤ dx1 ∧ dx1 ≤ 5 ∧ -5 ≤ dy1 ∧ dy1 ≤ 5) (h2 : -5 ≤ dx2 ∧ dx2 ≤ 5 ∧ -5 ≤ dy2 ∧ dy2 ≤ 5) (ht : 2 ≤ t ∧ t ≤ 150) :
    Calls Try.prog 81 #[ard W H ac up, lpr dx1 dy1, lpr dx2 dy2, .int .i64 t] w fun e w' => e = .returned (.bool (visA W H ac up (dx1, dy1) (dx2, dy2) t)) ∧ Below w.heap.size w w' := by
  have HG := Lib.hid hg
  have hA := areaA hg
  obtain ⟨A1, A2⟩ := hA
  have HTU := Lib.hid (fun w' => twoSteps_any W H ac up dx1 dy1 dx2 dy2 t w' hg h1 h2 ht)
  have HTL := Lib.hid (turnsL_len (t := t) (ac := ac) (up := up) (s1 := (dx1, dy1)) (s2 := (dx2, dy2)) hg)
  obtain ⟨W2, hW2⟩ : ∃ W2, W2 = ((w.alloc (.cells #[.int .i64 W, .int .i64 H, .bool ac, .bool up] 25)).alloc (.cells #[.int .i64 dx1, .int .i64 dy1] 59)).alloc (.cells #[.int .i64 dx2, .int .i64 dy2] 59) := ⟨_, rfl⟩
  have hsz : W2.heap.size = w.heap.size + 3 := by rw [hW2]; simp
  have a0 : W2.cell? ⟨w.heap.size, 0, none⟩ = some (.int .i64 W) := by rw [hW2]; go_simp
  have a1 : W2.cell? ⟨w.heap.size, 1, none⟩ = some (.int .i64 H) := by rw [hW2]; go_simp
  have a2 : W2.cell? ⟨w.heap.size, 2, none⟩ = some (.bool ac) := by rw [hW2]; go_simp
  have a3 : W2.cell? ⟨w.heap.size, 3, none⟩ = some (.bool up) := by rw [hW2]; go_simp
  have al : w.heap.size < W2.heap.size := by omega
  have o0 : W2.cell? ⟨w.heap.size + 1, 0, none⟩ = some (.int .i64 dx1) := by rw [hW2]; go_simp
  have o1 : W2.cell? ⟨w.heap.size + 1, 1, none⟩ = some (.int .i64 dy1) := by rw [hW2]; go_simp
  have ol : w.heap.size + 1 < W2.heap.size := by omega
  have d0 : W2.cell? ⟨w.heap.size + 1 + 1, 0, none⟩ = some (.int .i64 dx2) := by rw [hW2]; go_simp
  have d1 : W2.cell? ⟨w.heap.size + 1 + 1, 1, none⟩ = some (.int .i64 dy2) := by rw [hW2]; go_simp
  have dl : w.heap.size + 1 + 1 < W2.heap.size := by omega
  have B := Lib.hid (show Below w.heap.size w W2 by rw [hW2]; repeat (first | exact Below.refl _ _ | refine below_new ?_ _))
  go_enter Try.func81, Try.ntmps81
  go_wp2_with fail
  rw [← hW2]
  clear hW2 hg hsz h1 h2
  refine wp_region_held_drew (S := fun w' => w'.cell? ⟨w.heap.size, 0, none⟩ = some (.int .i64 W) ∧ w'.cell? ⟨w.heap.size, 1, none⟩ = some (.int .i64 H) ∧ w'.cell? ⟨w.heap.size, 2, none⟩ = some (.bool ac) ∧ w'.cell? ⟨w.heap.size, 3, none⟩ = some (.bool up) ∧ w'.cell? ⟨w.heap.size + 1, 0, none⟩ = some (.int .i64 dx1) ∧ w'.cell? ⟨w.heap.size + 1, 1, none⟩ = some (.int .i64 dy1) ∧ w'.cell? ⟨w.heap.size + 1 + 1, 0, none⟩ = some (.int .i64 dx2) ∧ w'.cell? ⟨w.heap.size + 1 + 1, 1, none⟩ = some (.int .i64 dy2)) (by kernel_rfl) ?_ (fun hHeld => ?_)
  · (try dsimp only)
    exact ⟨a0, a1, a2, a3, o0, o1, d0, d1⟩
  refine wpAnyH_take (i := 0) (oi := ⟨_, _, _, _, _, _⟩) (v := ?_) rfl (by kernel_rfl) (by kernel_rfl) (by kernel_rfl) (fun _ _ _ h => h) (Or.inl ⟨by rfl, ?_⟩) (by assumption) ?_
  rotate_left
  · intro w hSw
    (try dsimp only at hSw)
    go_simp
    (try with_reducible rfl)
  (try simp only [Act.put, List.setIfInBounds_toArray, List.set_cons_zero, List.set_cons_succ])
  refine wpAnyH_take (i := 1) (oi := ⟨_, _, _, _, _, _⟩) (v := ?_) rfl (by kernel_rfl) (by kernel_rfl) (by kernel_rfl) (fun _ _ _ h => h) (Or.inl ⟨by rfl, ?_⟩) (by assumption) ?_
  rotate_left
  · intro w hSw
    (try dsimp only at hSw)
    go_simp
    (try with_reducible rfl)
  (try simp only [Act.put, List.setIfInBounds_toArray, List.set_cons_zero, List.set_cons_succ])
  refine wpAnyH_take (i := 2) (oi := ⟨_, _, _, _, _, _⟩) (v := ?_) rfl (by kernel_rfl) (by kernel_rfl) (by kernel_rfl) (fun _ _ _ h => h) (Or.inl ⟨by rfl, ?_⟩) (by assumption) ?_
  rotate_left
  · intro w hSw
    (try dsimp only at hSw)
    go_simp
    (try with_reducible rfl)
  (try simp only [Act.put, List.setIfInBounds_toArray, List.set_cons_zero, List.set_cons_succ])
  refine wpAnyH_take (i := 3) (oi := ⟨_, _, _, _, _, _⟩) (v := ?_) rfl (by kernel_rfl) (by kernel_rfl) (by kernel_rfl) (fun _ _ _ h => h) (Or.inl ⟨by rfl, ?_⟩) (by assumption) ?_
  rotate_left
  · intro w hSw
    (try dsimp only at hSw)
    go_simp
    (try with_reducible rfl)
  (try simp only [Act.put, List.setIfInBounds_toArray, List.set_cons_zero, List.set_cons_succ])
  refine wpAnyH_take (i := 6) (oi := ⟨_, _, _, _, _, _⟩) (v := ?_) rfl (by kernel_rfl) (by kernel_rfl) (by kernel_rfl) (fun _ _ _ h => h) (Or.inl ⟨by rfl, ?_⟩) (by assumption) ?_
  rotate_left
  · intro w hSw
    (try dsimp only at hSw)
    go_simp
    (try with_reducible rfl)
  (try simp only [Act.put, List.setIfInBounds_toArray, List.set_cons_zero, List.set_cons_succ])
  refine wpAnyH_ready (rs := [4]) (by kernel_rfl) (by simp) ?_
  refine AllReadyH.cons (o := ⟨_, _, _, _, _, _⟩) rfl (fun K hK => ?_) AllReadyH.nil
  go_simp
  (go_at_call 80; refine (HTU.out _).mono ?_; rintro e wx ⟨A', n', c', rfl, hown, hb⟩; (repeat (first | replace hb := below_undrew hb | replace hb := below_undrewN hb)); have HNL := Lib.hid hown.len; clear hown; replace a0 := cell_keep a0 al hb; replace a1 := cell_keep a1 al hb; replace a2 := cell_keep a2 al hb; replace a3 := cell_keep a3 al hb; replace al := lt_keep al hb; replace o0 := cell_keep o0 ol hb; replace o1 := cell_keep o1 ol hb; replace ol := lt_keep ol hb; replace d0 := cell_keep d0 dl hb; replace d1 := cell_keep d1 dl hb; replace dl := lt_keep dl hb; replace B := Lib.hid (below_next B.out hb); clear hb)
  (try go_wp2_with fail)
  refine hK.out _ _ ?_ (fun hHeld => ?_)
  · (try dsimp only)
    exact ⟨a0, a1, a2, a3, o0, o1, d0, d1⟩
  clear hK K
  (try simp only [Act.put, List.setIfInBounds_toArray, List.set_cons_zero, List.set_cons_succ])
  refine wpAnyH_take (i := 5) (oi := ⟨_, _, _, _, _, _⟩) (v := ?_) rfl (by kernel_rfl) (by kernel_rfl) (by kernel_rfl) (fun _ _ _ h => h) (Or.inl ⟨by rfl, ?_⟩) (by assumption) ?_
  rotate_left
  · intro w hSw
    (try dsimp only at hSw)
    go_simp
    (try with_reducible rfl)
  (try simp only [Act.put, List.setIfInBounds_toArray, List.set_cons_zero, List.set_cons_succ])
  refine wpAnyH_ready (rs := [7]) (by kernel_rfl) (by simp) ?_
  refine AllReadyH.cons (o := ⟨_, _, _, _, _, _⟩) rfl (fun K hK => ?_) AllReadyH.nil
  go_simp
  (go_at_call 76; refine (sizeA_any W H ac up _ HG.out).mono ?_; rintro e wy ⟨rfl, hb⟩; (repeat (first | replace hb := below_undrew hb | replace hb := below_undrewN hb)); replace a0 := cell_keep a0 al hb; replace a1 := cell_keep a1 al hb; replace a2 := cell_keep a2 al hb; replace a3 := cell_keep a3 al hb; replace al := lt_keep al hb; replace o0 := cell_keep o0 ol hb; replace o1 := cell_keep o1 ol hb; replace ol := lt_keep ol hb; replace d0 := cell_keep d0 dl hb; replace d1 := cell_keep d1 dl hb; replace dl := lt_keep dl hb; replace B := Lib.hid (below_next B.out hb); clear hb)
  (try go_wp2_with fail)
  refine hK.out _ _ ?_ (fun hHeld => ?_)
  · (try dsimp only)
    exact ⟨a0, a1, a2, a3, o0, o1, d0, d1⟩
  clear hK K
  (try simp only [Act.put, List.setIfInBounds_toArray, List.set_cons_zero, List.set_cons_succ])
  refine wpAnyH_take (i := 8) (oi := ⟨_, _, _, _, _, _⟩) (v := ?_) rfl (by kernel_rfl) (by kernel_rfl) (by kernel_rfl) (fun _ _ _ h => h) (Or.inl ⟨by rfl, ?_⟩) (by assumption) ?_
  rotate_left
  · intro w hSw
    (try dsimp only at hSw)
    go_simp
    (try with_reducible rfl)
  (try simp only [Act.put, List.setIfInBounds_toArray, List.set_cons_zero, List.set_cons_succ])
  refine wpAnyH_take (i := 9) (oi := ⟨_, _, _, _, _, _⟩) (v := ?_) rfl (by kernel_rfl) (by kernel_rfl) (by kernel_rfl) (fun _ _ _ h => h) (Or.inl ⟨by rfl, ?_⟩) (by assumption) ?_
  rotate_left
  · intro w hSw
    (try dsimp only at hSw)
    go_simp
    (try with_reducible rfl)
  (try simp only [Act.put, List.setIfInBounds_toArray, List.set_cons_zero, List.set_cons_succ])
  refine wpAnyH_done (by kernel_rfl) ?_ _
  clear hHeld
  clear a0 a1 a2 a3 o0 o1 d0 d1 al ol dl
  go_wp2
  go_ret
  exact ⟨ret_bool (by rw [visA, HNL.out]; first | rfl | (rw [Bool.eq_iff_iff]; simp; done) | (trace_state; simp)), (by repeat (first | exact B.out | refine below_drewN ?_ _ | refine Below.drew ?_))⟩

set_option maxRecDepth 100000 in
set_option maxHeartbeats 2000000 in
theorem impl_TwoSteps (W H : Int) (ac up : Bool) (a b f s t : Int) (w : World) :
    Calls Try.prog 43 #[ard W H ac up, lpr a b, .int .i64 f, .int .i64 s, .int .i64 t] w fun e w' => ∃ A' n' c', e = .returned (.tuple #[.slice A' n' c', .bool (okT W H a b f s t)]) ∧ OwnI 3 w' w.heap.size A' n' c' (turnsV W H ac up a b f s t) ∧ Below w.heap.size w w' := by
  obtain ⟨W2, hW2⟩ : ∃ W2, W2 = (w.alloc (.cells #[.int .i64 W, .int .i64 H, .bool ac, .bool up] 25)).alloc (.cells #[.int .i64 a, .int .i64 b] 36) := ⟨_, rfl⟩
  have hsz : W2.heap.size = w.heap.size + 2 := by rw [hW2]; simp
  have a0 : W2.cell? ⟨w.heap.size, 0, none⟩ = some (.int .i64 W) := by rw [hW2]; go_simp
  have a1 : W2.cell? ⟨w.heap.size, 1, none⟩ = some (.int .i64 H) := by rw [hW2]; go_simp
  have a2 : W2.cell? ⟨w.heap.size, 2, none⟩ = some (.bool ac) := by rw [hW2]; go_simp
  have a3 : W2.cell? ⟨w.heap.size, 3, none⟩ = some (.bool up) := by rw [hW2]; go_simp
  have al : w.heap.size < W2.heap.size := by omega
  have l0 : W2.cell? ⟨w.heap.size + 1, 0, none⟩ = some (.int .i64 a) := by rw [hW2]; go_simp
  have l1 : W2.cell? ⟨w.heap.size + 1, 1, none⟩ = some (.int .i64 b) := by rw [hW2]; go_simp
  have ll : w.heap.size + 1 < W2.heap.size := by omega
  have B := Lib.hid (show Below w.heap.size w W2 by rw [hW2]; repeat (first | exact Below.refl _ _ | refine below_new ?_ _))
  cases ho : okT W H a b f s t
  · have OK := Lib.hid ho
    have HS1 := Lib.hid (show stepO W H a b f s t f = (0, 0) by rw [stepO, ho]; rfl); have HS2 := Lib.hid (show stepO W H a b f s t s = (0, 0) by rw [stepO, ho]; rfl)
    go_enter Try.func43, Try.ntmps43
    go_wp2_with fail
    rw [← hW2]
    clear hW2
    refine (twoStepsOf_any _ _ _ _ _ _ _ _ _ _).mono ?_
    rw [ho, HS1.out, HS2.out]
    rintro e wv ⟨rfl, hb⟩
    replace a0 := cell_keep a0 al hb
    replace a1 := cell_keep a1 al hb
    replace a2 := cell_keep a2 al hb
    replace a3 := cell_keep a3 al hb
    replace al := lt_keep al hb
    replace l0 := cell_keep l0 ll hb
    replace l1 := cell_keep l1 ll hb
    replace ll := lt_keep ll hb
    replace B := Lib.hid (below_next B.out hb)
    clear hb
    clear a0 a1 a2 a3 l0 l1 al ll
    go_wp2
    go_ret2
    exact ⟨none, 0, 0, by first | (rw [OK.out]; rfl) | rfl, by rw [turnsV_no OK.out]; exact OwnI.none_ _ _ _, (by repeat (first | exact B.out | refine below_new ?_ _))⟩
  · have OK := Lib.hid ho
    have HOK := Lib.hid (okT_iff.1 ho)
    have HF := Lib.hid (stepN_at (a := a) (b := b) (f := f) HOK.out.2.2.1); have HS := Lib.hid (stepN_at (a := a) (b := b) (f := s) HOK.out.2.2.2.1)
    obtain ⟨⟨dx1, dy1⟩, hp1⟩ : ∃ p, stepN a b f = p := ⟨_, rfl⟩
    obtain ⟨⟨dx2, dy2⟩, hp2⟩ : ∃ p, stepN a b s = p := ⟨_, rfl⟩
    rw [hp1] at HF
    rw [hp2] at HS
    have HB1 := Lib.hid (stepsL_bd HOK.out.1 (List.mem_of_getElem? HF.out)); have HB2 := Lib.hid (stepsL_bd HOK.out.1 (List.mem_of_getElem? HS.out))
    have HS1 := Lib.hid (show stepO W H a b f s t f = (dx1, dy1) by rw [stepO, if_pos ho, hp1]); have HS2 := Lib.hid (show stepO W H a b f s t s = (dx2, dy2) by rw [stepO, if_pos ho, hp2])
    have HP1 := Lib.hid hp1; have HP2 := Lib.hid hp2
    clear hp1 hp2 HF HS
    go_enter Try.func43, Try.ntmps43
    go_wp2_with fail
    rw [← hW2]
    clear hW2
    refine (twoStepsOf_any _ _ _ _ _ _ _ _ _ _).mono ?_
    rw [ho, HS1.out, HS2.out]
    rintro e wv ⟨rfl, hb⟩
    replace a0 := cell_keep a0 al hb
    replace a1 := cell_keep a1 al hb
    replace a2 := cell_keep a2 al hb
    replace a3 := cell_keep a3 al hb
    replace al := lt_keep al hb
    replace l0 := cell_keep l0 ll hb
    replace l1 := cell_keep l1 ll hb
    replace ll := lt_keep ll hb
    replace B := Lib.hid (below_next B.out hb)
    clear hb
    go_upto_region 2 with fail
    obtain ⟨W5, hW5⟩ : ∃ W5, W5 = (wv.alloc (.cells #[.int .i64 dx1, .int .i64 dy1] 59)).alloc (.cells #[.int .i64 dx2, .int .i64 dy2] 59) := ⟨_, rfl⟩
    obtain ⟨g5, hg5⟩ : ∃ g5, g5 = wv.heap.size := ⟨_, rfl⟩
    have o0 : W5.cell? ⟨g5, 0, none⟩ = some (.int .i64 dx1) := by rw [hW5, hg5]; go_simp
    have o1 : W5.cell? ⟨g5, 1, none⟩ = some (.int .i64 dy1) := by rw [hW5, hg5]; go_simp
    have d0 : W5.cell? ⟨g5 + 1, 0, none⟩ = some (.int .i64 dx2) := by rw [hW5, hg5]; go_simp
    have d1 : W5.cell? ⟨g5 + 1, 1, none⟩ = some (.int .i64 dy2) := by rw [hW5, hg5]; go_simp
    have hb : Below wv.heap.size wv W5 := by rw [hW5]; exact below_new (below_new (Below.refl _ _) _) _
    rw [← hW5, ← hg5]
    clear hW5 hg5
    replace a0 := cell_keep a0 al hb
    replace a1 := cell_keep a1 al hb
    replace a2 := cell_keep a2 al hb
    replace a3 := cell_keep a3 al hb
    replace al := lt_keep al hb
    replace l0 := cell_keep l0 ll hb
    replace l1 := cell_keep l1 ll hb
    replace ll := lt_keep ll hb
    replace B := Lib.hid (below_next B.out hb)
    clear hb
    go_wp2_with fail
    refine (twoSteps_any W H ac up dx1 dy1 dx2 dy2 t _ HOK.out.2.1 HB1.out HB2.out HOK.out.2.2.2.2).mono ?_
    rintro e wx ⟨A', n', c', rfl, hown, hb⟩
    have O := Lib.hid (hown.lower B.out.size)
    replace B := Lib.hid (below_next B.out hb)
    clear hown hb o0 o1 d0 d1
    clear a0 a1 a2 a3 l0 l1 al ll
    go_wp2
    go_ret2
    exact ⟨A', n', c', by first | (rw [OK.out]; rfl) | rfl, by rw [turnsV, if_pos OK.out, HP1.out, HP2.out]; exact O.out, B.out⟩

set_option maxRecDepth 100000 in
set_option maxHeartbeats 2000000 in
theorem impl_VisitsAll (W H : Int) (ac up : Bool) (a b f s t : Int) (w : World) :
    Calls Try.prog 45 #[ard W H ac up, lpr a b, .int .i64 f, .int .i64 s, .int .i64 t] w fun e w' => e = .returned (.tuple #[.bool (visV W H ac up a b f s t), .bool (okT W H a b f s t)]) ∧ Below w.heap.size w w' := by
  obtain ⟨W2, hW2⟩ : ∃ W2, W2 = (w.alloc (.cells #[.int .i64 W, .int .i64 H, .bool ac, .bool up] 25)).alloc (.cells #[.int .i64 a, .int .i64 b] 36) := ⟨_, rfl⟩
  have hsz : W2.heap.size = w.heap.size + 2 := by rw [hW2]; simp
  have a0 : W2.cell? ⟨w.heap.size, 0, none⟩ = some (.int .i64 W) := by rw [hW2]; go_simp
  have a1 : W2.cell? ⟨w.heap.size, 1, none⟩ = some (.int .i64 H) := by rw [hW2]; go_simp
  have a2 : W2.cell? ⟨w.heap.size, 2, none⟩ = some (.bool ac) := by rw [hW2]; go_simp
  have a3 : W2.cell? ⟨w.heap.size, 3, none⟩ = some (.bool up) := by rw [hW2]; go_simp
  have al : w.heap.size < W2.heap.size := by omega
  have l0 : W2.cell? ⟨w.heap.size + 1, 0, none⟩ = some (.int .i64 a) := by rw [hW2]; go_simp
  have l1 : W2.cell? ⟨w.heap.size + 1, 1, none⟩ = some (.int .i64 b) := by rw [hW2]; go_simp
  have ll : w.heap.size + 1 < W2.heap.size := by omega
  have B := Lib.hid (show Below w.heap.size w W2 by rw [hW2]; repeat (first | exact Below.refl _ _ | refine below_new ?_ _))
  cases ho : okT W H a b f s t
  · have OK := Lib.hid ho
    have HS1 := Lib.hid (show stepO W H a b f s t f = (0, 0) by rw [stepO, ho]; rfl); have HS2 := Lib.hid (show stepO W H a b f s t s = (0, 0) by rw [stepO, ho]; rfl)
    go_enter Try.func45, Try.ntmps45
    go_wp2_with fail
    rw [← hW2]
    clear hW2
    refine (twoStepsOf_any _ _ _ _ _ _ _ _ _ _).mono ?_
    rw [ho, HS1.out, HS2.out]
    rintro e wv ⟨rfl, hb⟩
    replace a0 := cell_keep a0 al hb
    replace a1 := cell_keep a1 al hb
    replace a2 := cell_keep a2 al hb
    replace a3 := cell_keep a3 al hb
    replace al := lt_keep al hb
    replace l0 := cell_keep l0 ll hb
    replace l1 := cell_keep l1 ll hb
    replace ll := lt_keep ll hb
    replace B := Lib.hid (below_next B.out hb)
    clear hb
    clear a0 a1 a2 a3 l0 l1 al ll
    go_wp2
    go_ret2
    exact ⟨by rw [visV_no OK.out]; first | (rw [OK.out]; rfl) | rfl, (by repeat (first | exact B.out | refine below_new ?_ _))⟩
  · have OK := Lib.hid ho
    have HOK := Lib.hid (okT_iff.1 ho)
    have HF := Lib.hid (stepN_at (a := a) (b := b) (f := f) HOK.out.2.2.1); have HS := Lib.hid (stepN_at (a := a) (b := b) (f := s) HOK.out.2.2.2.1)
    obtain ⟨⟨dx1, dy1⟩, hp1⟩ : ∃ p, stepN a b f = p := ⟨_, rfl⟩
    obtain ⟨⟨dx2, dy2⟩, hp2⟩ : ∃ p, stepN a b s = p := ⟨_, rfl⟩
    rw [hp1] at HF
    rw [hp2] at HS
    have HB1 := Lib.hid (stepsL_bd HOK.out.1 (List.mem_of_getElem? HF.out)); have HB2 := Lib.hid (stepsL_bd HOK.out.1 (List.mem_of_getElem? HS.out))
    have HS1 := Lib.hid (show stepO W H a b f s t f = (dx1, dy1) by rw [stepO, if_pos ho, hp1]); have HS2 := Lib.hid (show stepO W H a b f s t s = (dx2, dy2) by rw [stepO, if_pos ho, hp2])
    have HP1 := Lib.hid hp1; have HP2 := Lib.hid hp2
    clear hp1 hp2 HF HS
    go_enter Try.func45, Try.ntmps45
    go_wp2_with fail
    rw [← hW2]
    clear hW2
    refine (twoStepsOf_any _ _ _ _ _ _ _ _ _ _).mono ?_
    rw [ho, HS1.out, HS2.out]
    rintro e wv ⟨rfl, hb⟩
    replace a0 := cell_keep a0 al hb
    replace a1 := cell_keep a1 al hb
    replace a2 := cell_keep a2 al hb
    replace a3 := cell_keep a3 al hb
    replace al := lt_keep al hb
    replace l0 := cell_keep l0 ll hb
    replace l1 := cell_keep l1 ll hb
    replace ll := lt_keep ll hb
    replace B := Lib.hid (below_next B.out hb)
    clear hb
    go_upto_region 2 with fail
    obtain ⟨W5, hW5⟩ : ∃ W5, W5 = (wv.alloc (.cells #[.int .i64 dx1, .int .i64 dy1] 59)).alloc (.cells #[.int .i64 dx2, .int .i64 dy2] 59) := ⟨_, rfl⟩
    obtain ⟨g5, hg5⟩ : ∃ g5, g5 = wv.heap.size := ⟨_, rfl⟩
    have o0 : W5.cell? ⟨g5, 0, none⟩ = some (.int .i64 dx1) := by rw [hW5, hg5]; go_simp
    have o1 : W5.cell? ⟨g5, 1, none⟩ = some (.int .i64 dy1) := by rw [hW5, hg5]; go_simp
    have d0 : W5.cell? ⟨g5 + 1, 0, none⟩ = some (.int .i64 dx2) := by rw [hW5, hg5]; go_simp
    have d1 : W5.cell? ⟨g5 + 1, 1, none⟩ = some (.int .i64 dy2) := by rw [hW5, hg5]; go_simp
    have hb : Below wv.heap.size wv W5 := by rw [hW5]; exact below_new (below_new (Below.refl _ _) _) _
    rw [← hW5, ← hg5]
    clear hW5 hg5
    replace a0 := cell_keep a0 al hb
    replace a1 := cell_keep a1 al hb
    replace a2 := cell_keep a2 al hb
    replace a3 := cell_keep a3 al hb
    replace al := lt_keep al hb
    replace l0 := cell_keep l0 ll hb
    replace l1 := cell_keep l1 ll hb
    replace ll := lt_keep ll hb
    replace B := Lib.hid (below_next B.out hb)
    clear hb
    go_wp2_with fail
    refine (visitsAll_any W H ac up dx1 dy1 dx2 dy2 t _ HOK.out.2.1 HB1.out HB2.out HOK.out.2.2.2.2).mono ?_
    rintro e wx ⟨rfl, hb⟩
    replace B := Lib.hid (below_next B.out hb)
    clear hb o0 o1 d0 d1
    clear a0 a1 a2 a3 l0 l1 al ll
    go_wp2
    go_ret2
    exact ⟨by rw [visV, OK.out, HP1.out, HP2.out]; rfl, B.out⟩

end Go.Proofs.Ytaliknhfcdmohaa
