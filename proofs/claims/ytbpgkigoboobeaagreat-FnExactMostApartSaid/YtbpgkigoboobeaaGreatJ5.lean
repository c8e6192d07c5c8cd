/-
  Contracts: lines that cross, in the program.
-/
import Derived.Test.YtbpgkigoboobeaaGreatJ4
import Derived.ChangeKeysEq
namespace Go.Proofs.YtbpgkigoboobeaaGreat
open Go.RowKit

theorem infoSpot : (Tryz.prog.info? 66).map (fun i => (i.zero, i.size, i.bytes)) = some (some (.agg #[.int .i64 0, .int .i64 0]), 2, 16) := by kernel_rfl
theorem eq_line (x y u v s t p q : Int) (w : World) : Sem.run Tryz.prog (Op.equalIn 10000 68 (lnv x y u v) (lnv s t p q)) w = .ok ((x == s && y == t) && (u == p && v == q)) w := by
  have u3 := Tryz.underlying3
  have a3 := Tryz.isAgg3
  have z3 := Tryz.sizeOf3
  have hu : Tryz.prog.underlying 68 = some (.array 2 66) := by kernel_rfl
  obtain ⟨i0, hi, hz0, hz1, hz2⟩ := info_parts infoSpot
  have hS : Tryz.prog.underlying 66 = some (.struct (Tryz.prog.fieldsOf 66)) := by kernel_rfl
  have hp : Tryz.prog.stoodInHeld 66 = false := by kernel_rfl
  have hc : Tryz.prog.cellsOf 66 = 2 := by kernel_rfl
  have za := Tryz.sizeOf66
  have aa := Tryz.isAgg66
  have hpart : ∀ (a b c d : Int) (w : World), (Sem.run Tryz.prog (part 66 #[.int .i64 a, .int .i64 b, .int .i64 c, .int .i64 d] 0) w = .ok (.agg #[.int .i64 a, .int .i64 b]) w) ∧ (Sem.run Tryz.prog (part 66 #[.int .i64 a, .int .i64 b, .int .i64 c, .int .i64 d] 2) w = .ok (.agg #[.int .i64 c, .int .i64 d]) w) := fun a b c d w => ⟨by go_simp, by go_simp⟩
  have heq : ∀ (a b c d : Int) (w : World), Sem.run Tryz.prog (Op.equalIn 9999 66 (.agg #[.int .i64 a, .int .i64 b]) (.agg #[.int .i64 c, .int .i64 d])) w = .ok (a == c && b == d) w := fun a b c d w => by
    rw [show (9999 : Nat) = 9998 + 1 from rfl, run_equalIn_agg w 9998 66 _ _ hS hp]
    simp only [Program.fieldsOf, Tryz.underlying66]
    go_simp
    by_cases h1 : a = c <;> by_cases h2 : b = d <;> simp [h1, h2]
  rw [show (10000 : Nat) = 9999 + 1 from rfl, run_equalIn_array w 9999 _ _ hu hi, hc]
  rw [show List.range 2 = [0, 1] from rfl]
  have hpa := fun a b c d w => (hpart a b c d w).1
  have hpb := fun a b c d w => (hpart a b c d w).2
  cases h1 : (x == s && y == t) <;> cases h2 : (u == p && v == q)
  all_goals simp only [Op.eqItems, Sem.run_bind, Nat.zero_mul, Nat.one_mul, hpa, hpb, Result.andThen_ok, heq, h1, h2, Sem.run_pure, Bool.not_false, Bool.not_true, if_true, Bool.false_eq_true, if_false, Bool.and_false, Bool.and_true]

theorem pair_ne {x y s t : Int} (h : ¬ x = s ∨ ¬ y = t) : decide (((x, y) : Int × Int) = (s, t)) = false := decide_eq_false (fun e => by injection e with e1 e2; rcases h with h | h; exact h e1; exact h e2)
theorem pair_ne2 {x y u v s t p q : Int} (h : ¬ x = s ∨ ¬ y = t ∨ ¬ u = p ∨ ¬ v = q) : decide (((x, y) : Int × Int) = (s, t) ∧ ((u, v) : Int × Int) = (p, q)) = false := decide_eq_false (fun ⟨e, e'⟩ => by injection e with e1 e2; injection e' with e3 e4; rcases h with h | h | h | h; exact h e1; exact h e2; exact h e3; exact h e4)

set_option maxRecDepth 100000 in
set_option maxHeartbeats 2000000 in
theorem endsAt_any (x y u v s t : Int) (w : World) :
    Calls Tryz.prog 97 #[lnv x y u v, lpr s t] w fun e w' => e = .returned (.bool (endsS ((x, y), (u, v)) (s, t))) ∧ Below w.heap.size w w' := by
  have h1 : (s = x ∧ t = y) ∨ ¬ s = x ∨ ¬ t = y := by omega
  have h2 : (s = u ∧ t = v) ∨ ¬ s = u ∨ ¬ t = v := by omega
  rcases h1 with ⟨rfl, rfl⟩ | h1
  · clear h2
    go_enter Tryz.func97, Tryz.ntmps97
    go_wp2
    go_ret
    exact ⟨ret_bool (by simp [endsS]), (by repeat (first | exact Below.refl _ _ | refine below_drewN ?_ _ | refine Below.drew ?_ | refine Below.setCell ?_ (by first | (simp; done) | (simp; omega) | omega) _ | refine below_new ?_ _))⟩
  · have E1 := Lib.hid (pair_ne h1)
    rcases h1 with h1 | h1 <;> rcases h2 with ⟨rfl, rfl⟩ | h2 | h2
    all_goals
      first
        | have E2 := Lib.hid (show decide (((s, t) : Int × Int) = (u, v)) = false from pair_ne (Or.inl h2))
        | have E2 := Lib.hid (show decide (((s, t) : Int × Int) = (u, v)) = false from pair_ne (Or.inr h2))
        | have E2 := Lib.hid (show decide (((s, t) : Int × Int) = (s, t)) = true from decide_eq_true rfl)
      go_enter Tryz.func97, Tryz.ntmps97
      go_wp2
      go_ret
      exact ⟨ret_bool (by simp only [endsS]; rw [E1.out, E2.out]; rfl), (by repeat (first | exact Below.refl _ _ | refine below_drewN ?_ _ | refine Below.drew ?_ | refine Below.setCell ?_ (by first | (simp; done) | (simp; omega) | omega) _ | refine below_new ?_ _))⟩

set_option maxRecDepth 100000 in
set_option maxHeartbeats 2000000 in
theorem parts_any (x y u v s t p q : Int) (w : World) (hx : Co x) (hy : Co y) (hu : Co u) (hv : Co v) (hs : Co s) (ht : Co t) (hp : Co p) (hq : Co q) :
    Calls Tryz.prog 69 #[lnv x y u v, lnv s t p q] w fun e w' => e = .returned (.bool (partsS (x, y) (u, v) (s, t) (p, q))) ∧ Below w.heap.size w w' := by
  have h1 := turn_bd hx hy hu hv hs ht
  have h2 := turn_bd hx hy hu hv hp hq
  have HX := Lib.hid hx; have HY := Lib.hid hy; have HU := Lib.hid hu; have HV := Lib.hid hv; have HS := Lib.hid hs; have HT := Lib.hid ht; have HP := Lib.hid hp; have HQ := Lib.hid hq
  clear hx hy hu hv hs ht hp hq
  have hm : -70000000 ≤ turnS (x, y) (u, v) (s, t) * turnS (x, y) (u, v) (p, q) ∧ turnS (x, y) (u, v) (s, t) * turnS (x, y) (u, v) (p, q) ≤ 70000000 := by
    generalize turnS (x, y) (u, v) (s, t) = a at *
    generalize turnS (x, y) (u, v) (p, q) = b at *
    have k1 := Int.mul_nonneg (show 0 ≤ 8192 + a by omega) (show 0 ≤ 8192 + b by omega)
    have k2 := Int.mul_nonneg (show 0 ≤ 8192 - a by omega) (show 0 ≤ 8192 - b by omega)
    have k3 := Int.mul_nonneg (show 0 ≤ 8192 + a by omega) (show 0 ≤ 8192 - b by omega)
    have k4 := Int.mul_nonneg (show 0 ≤ 8192 - a by omega) (show 0 ≤ 8192 + b by omega)
    rw [Int.add_mul, Int.mul_add, Int.mul_add] at k1
    rw [Int.sub_mul, Int.mul_sub, Int.mul_sub] at k2
    rw [Int.add_mul, Int.mul_sub, Int.mul_sub] at k3
    rw [Int.sub_mul, Int.mul_add, Int.mul_add] at k4
    omega
  have w1 : IntKind.i64.wrap (turnS (x, y) (u, v) (s, t) * turnS (x, y) (u, v) (p, q)) = turnS (x, y) (u, v) (s, t) * turnS (x, y) (u, v) (p, q) := IntWalk.i64_in _ (by omega)
  clear h1 h2 hm
  obtain ⟨W2, hW2⟩ : ∃ W2, W2 = (w.alloc (.cells #[.int .i64 x, .int .i64 y, .int .i64 u, .int .i64 v] 68)).alloc (.cells #[.int .i64 s, .int .i64 t, .int .i64 p, .int .i64 q] 68) := ⟨_, rfl⟩
  have a0 : W2.cell? ⟨w.heap.size, 0, none⟩ = some (.int .i64 x) := by rw [hW2]; go_simp
  have a1 : W2.cell? ⟨w.heap.size, 1, none⟩ = some (.int .i64 y) := by rw [hW2]; go_simp
  have a2 : W2.cell? ⟨w.heap.size, 2, none⟩ = some (.int .i64 u) := by rw [hW2]; go_simp
  have a3 : W2.cell? ⟨w.heap.size, 3, none⟩ = some (.int .i64 v) := by rw [hW2]; go_simp
  have d0 : W2.cell? ⟨w.heap.size + 1, 0, none⟩ = some (.int .i64 s) := by rw [hW2]; go_simp
  have d1 : W2.cell? ⟨w.heap.size + 1, 1, none⟩ = some (.int .i64 t) := by rw [hW2]; go_simp
  have d2 : W2.cell? ⟨w.heap.size + 1, 2, none⟩ = some (.int .i64 p) := by rw [hW2]; go_simp
  have d3 : W2.cell? ⟨w.heap.size + 1, 3, none⟩ = some (.int .i64 q) := by rw [hW2]; go_simp
  have al : w.heap.size < W2.heap.size := by rw [hW2]; simp; omega
  have dl : w.heap.size + 1 < W2.heap.size := by rw [hW2]; simp
  have B := Lib.hid (show Below w.heap.size w W2 by rw [hW2]; exact below_new (below_new (Below.refl _ _) _) _)
  go_enter Tryz.func69, Tryz.ntmps69
  go_wp2_with fail
  rw [← hW2]
  clear hW2
  refine wp_region_held_drew (S := fun w' => w'.cell? ⟨w.heap.size, 0, none⟩ = some (.int .i64 x) ∧ w'.cell? ⟨w.heap.size, 1, none⟩ = some (.int .i64 y) ∧ w'.cell? ⟨w.heap.size, 2, none⟩ = some (.int .i64 u) ∧ w'.cell? ⟨w.heap.size, 3, none⟩ = some (.int .i64 v) ∧ w'.cell? ⟨w.heap.size + 1, 0, none⟩ = some (.int .i64 s) ∧ w'.cell? ⟨w.heap.size + 1, 1, none⟩ = some (.int .i64 t) ∧ w'.cell? ⟨w.heap.size + 1, 2, none⟩ = some (.int .i64 p) ∧ w'.cell? ⟨w.heap.size + 1, 3, none⟩ = some (.int .i64 q)) (by kernel_rfl) ?_ (fun hHeld => ?_)
  · (try dsimp only)
    exact ⟨a0, a1, a2, a3, d0, d1, d2, d3⟩
  refine wpAnyH_take (i := 0) (oi := ⟨_, _, _, _, _, _⟩) (v := ?_) rfl (by kernel_rfl) (by kernel_rfl) (by kernel_rfl) (fun _ _ _ h => h) (Or.inl ⟨by rfl, ?_⟩) (by assumption) ?_
  rotate_left
  · intro w hSw
    (try dsimp only at hSw)
    go_simp
    (try with_reducible rfl)
  (try simp only [Act.put, List.setIfInBounds_toArray, List.set_cons_zero, List.set_cons_succ])
  refine wpAnyH_take (i := 1) (oi := ⟨_, _, _, _, _, _⟩) (v := ?_) rfl (by kernel_rfl) (by kernel_rfl) (by kernel_rfl) (fun _ _ _ h => h) (Or.inl ⟨by rfl, ?_⟩) (by assumption) ?_
  rotate_left
  · intro w hSw
    (try dsimp only at hSw)
    go_simp
    (try with_reducible rfl)
  (try simp only [Act.put, List.setIfInBounds_toArray, List.set_cons_zero, List.set_cons_succ])
  refine wpAnyH_take (i := 2) (oi := ⟨_, _, _, _, _, _⟩) (v := ?_) rfl (by kernel_rfl) (by kernel_rfl) (by kernel_rfl) (fun _ _ _ h => h) (Or.inl ⟨by rfl, ?_⟩) (by assumption) ?_
  rotate_left
  · intro w hSw
    (try dsimp only at hSw)
    go_simp
    (try with_reducible rfl)
  (try simp only [Act.put, List.setIfInBounds_toArray, List.set_cons_zero, List.set_cons_succ])
  refine wpAnyH_take (i := 3) (oi := ⟨_, _, _, _, _, _⟩) (v := ?_) rfl (by kernel_rfl) (by kernel_rfl) (by kernel_rfl) (fun _ _ _ h => h) (Or.inl ⟨by rfl, ?_⟩) (by assumption) ?_
  rotate_left
  · intro w hSw
    (try dsimp only at hSw)
    go_simp
    (try with_reducible rfl)
  (try simp only [Act.put, List.setIfInBounds_toArray, List.set_cons_zero, List.set_cons_succ])
  refine wpAnyH_take (i := 4) (oi := ⟨_, _, _, _, _, _⟩) (v := ?_) rfl (by kernel_rfl) (by kernel_rfl) (by kernel_rfl) (fun _ _ _ h => h) (Or.inl ⟨by rfl, ?_⟩) (by assumption) ?_
  rotate_left
  · intro w hSw
    (try dsimp only at hSw)
    go_simp
    (try with_reducible rfl)
  (try simp only [Act.put, List.setIfInBounds_toArray, List.set_cons_zero, List.set_cons_succ])
  refine wpAnyH_take (i := 5) (oi := ⟨_, _, _, _, _, _⟩) (v := ?_) rfl (by kernel_rfl) (by kernel_rfl) (by kernel_rfl) (fun _ _ _ h => h) (Or.inl ⟨by rfl, ?_⟩) (by assumption) ?_
  rotate_left
  · intro w hSw
    (try dsimp only at hSw)
    go_simp
    (try with_reducible rfl)
  (try simp only [Act.put, List.setIfInBounds_toArray, List.set_cons_zero, List.set_cons_succ])
  refine wpAnyH_take (i := 7) (oi := ⟨_, _, _, _, _, _⟩) (v := ?_) rfl (by kernel_rfl) (by kernel_rfl) (by kernel_rfl) (fun _ _ _ h => h) (Or.inl ⟨by rfl, ?_⟩) (by assumption) ?_
  rotate_left
  · intro w hSw
    (try dsimp only at hSw)
    go_simp
    (try with_reducible rfl)
  (try simp only [Act.put, List.setIfInBounds_toArray, List.set_cons_zero, List.set_cons_succ])
  refine wpAnyH_take (i := 8) (oi := ⟨_, _, _, _, _, _⟩) (v := ?_) rfl (by kernel_rfl) (by kernel_rfl) (by kernel_rfl) (fun _ _ _ h => h) (Or.inl ⟨by rfl, ?_⟩) (by assumption) ?_
  rotate_left
  · intro w hSw
    (try dsimp only at hSw)
    go_simp
    (try with_reducible rfl)
  (try simp only [Act.put, List.setIfInBounds_toArray, List.set_cons_zero, List.set_cons_succ])
  refine wpAnyH_take (i := 9) (oi := ⟨_, _, _, _, _, _⟩) (v := ?_) rfl (by kernel_rfl) (by kernel_rfl) (by kernel_rfl) (fun _ _ _ h => h) (Or.inl ⟨by rfl, ?_⟩) (by assumption) ?_
  rotate_left
  · intro w hSw
    (try dsimp only at hSw)
    go_simp
    (try with_reducible rfl)
  (try simp only [Act.put, List.setIfInBounds_toArray, List.set_cons_zero, List.set_cons_succ])
  refine wpAnyH_take (i := 10) (oi := ⟨_, _, _, _, _, _⟩) (v := ?_) rfl (by kernel_rfl) (by kernel_rfl) (by kernel_rfl) (fun _ _ _ h => h) (Or.inl ⟨by rfl, ?_⟩) (by assumption) ?_
  rotate_left
  · intro w hSw
    (try dsimp only at hSw)
    go_simp
    (try with_reducible rfl)
  (try simp only [Act.put, List.setIfInBounds_toArray, List.set_cons_zero, List.set_cons_succ])
  refine wpAnyH_take (i := 11) (oi := ⟨_, _, _, _, _, _⟩) (v := ?_) rfl (by kernel_rfl) (by kernel_rfl) (by kernel_rfl) (fun _ _ _ h => h) (Or.inl ⟨by rfl, ?_⟩) (by assumption) ?_
  rotate_left
  · intro w hSw
    (try dsimp only at hSw)
    go_simp
    (try with_reducible rfl)
  (try simp only [Act.put, List.setIfInBounds_toArray, List.set_cons_zero, List.set_cons_succ])
  refine wpAnyH_take (i := 12) (oi := ⟨_, _, _, _, _, _⟩) (v := ?_) rfl (by kernel_rfl) (by kernel_rfl) (by kernel_rfl) (fun _ _ _ h => h) (Or.inl ⟨by rfl, ?_⟩) (by assumption) ?_
  rotate_left
  · intro w hSw
    (try dsimp only at hSw)
    go_simp
    (try with_reducible rfl)
  (try simp only [Act.put, List.setIfInBounds_toArray, List.set_cons_zero, List.set_cons_succ])
  refine wpAnyH_ready (rs := [6]) (by kernel_rfl) (by simp) ?_
  refine AllReadyH.cons (o := ⟨_, _, _, _, _, _⟩) rfl (fun K hK => ?_) AllReadyH.nil
  go_simp
  (go_at_call 94; refine (turn_any x y u v s t _ HX.out HY.out HU.out HV.out HS.out HT.out).mono ?_; rintro e wx ⟨rfl, hb⟩; (repeat (first | replace hb := below_undrew hb | replace hb := below_undrewN hb)); replace a0 := cell_keep a0 al hb; replace a1 := cell_keep a1 al hb; replace a2 := cell_keep a2 al hb; replace a3 := cell_keep a3 al hb; replace d0 := cell_keep d0 dl hb; replace d1 := cell_keep d1 dl hb; replace d2 := cell_keep d2 dl hb; replace d3 := cell_keep d3 dl hb; replace al := lt_keep al hb; replace dl := lt_keep dl hb; replace B := Lib.hid (below_next B.out hb); clear hb)
  (try go_wp2_with fail)
  refine hK.out _ _ ?_ (fun hHeld => ?_)
  · (try dsimp only)
    exact ⟨a0, a1, a2, a3, d0, d1, d2, d3⟩
  clear hK K
  (try simp only [Act.put, List.setIfInBounds_toArray, List.set_cons_zero, List.set_cons_succ])
  refine wpAnyH_ready (rs := [13]) (by kernel_rfl) (by simp) ?_
  refine AllReadyH.cons (o := ⟨_, _, _, _, _, _⟩) rfl (fun K hK => ?_) AllReadyH.nil
  go_simp
  (go_at_call 94; refine (turn_any x y u v p q _ HX.out HY.out HU.out HV.out HP.out HQ.out).mono ?_; rintro e wx ⟨rfl, hb⟩; (repeat (first | replace hb := below_undrew hb | replace hb := below_undrewN hb)); replace a0 := cell_keep a0 al hb; replace a1 := cell_keep a1 al hb; replace a2 := cell_keep a2 al hb; replace a3 := cell_keep a3 al hb; replace d0 := cell_keep d0 dl hb; replace d1 := cell_keep d1 dl hb; replace d2 := cell_keep d2 dl hb; replace d3 := cell_keep d3 dl hb; replace al := lt_keep al hb; replace dl := lt_keep dl hb; replace B := Lib.hid (below_next B.out hb); clear hb)
  (try go_wp2_with fail)
  refine hK.out _ _ ?_ (fun hHeld => ?_)
  · (try dsimp only)
    exact ⟨a0, a1, a2, a3, d0, d1, d2, d3⟩
  clear hK K
  (try simp only [Act.put, List.setIfInBounds_toArray, List.set_cons_zero, List.set_cons_succ])
  refine wpAnyH_take (i := 14) (oi := ⟨_, _, _, _, _, _⟩) (v := ?_) rfl (by kernel_rfl) (by kernel_rfl) (by kernel_rfl) (fun _ _ _ h => h) (Or.inl ⟨by rfl, ?_⟩) (by assumption) ?_
  rotate_left
  · intro w hSw
    (try dsimp only at hSw)
    go_simp
    (try with_reducible rfl)
  (try simp only [Act.put, List.setIfInBounds_toArray, List.set_cons_zero, List.set_cons_succ])
  refine wpAnyH_take (i := 15) (oi := ⟨_, _, _, _, _, _⟩) (v := ?_) rfl (by kernel_rfl) (by kernel_rfl) (by kernel_rfl) (fun _ _ _ h => h) (Or.inl ⟨by rfl, ?_⟩) (by assumption) ?_
  rotate_left
  · intro w hSw
    (try dsimp only at hSw)
    go_simp
    (try with_reducible rfl)
  (try simp only [Act.put, List.setIfInBounds_toArray, List.set_cons_zero, List.set_cons_succ])
  refine wpAnyH_take (i := 16) (oi := ⟨_, _, _, _, _, _⟩) (v := ?_) rfl (by kernel_rfl) (by kernel_rfl) (by kernel_rfl) (fun _ _ _ h => h) (Or.inl ⟨by rfl, ?_⟩) (by assumption) ?_
  rotate_left
  · intro w hSw
    (try dsimp only at hSw)
    go_simp
    (try with_reducible rfl)
  (try simp only [Act.put, List.setIfInBounds_toArray, List.set_cons_zero, List.set_cons_succ])
  refine wpAnyH_done (by kernel_rfl) ?_ _
  go_wp2
  go_ret
  exact ⟨ret_bool rfl, B.out⟩

set_option maxRecDepth 100000 in
set_option maxHeartbeats 8000000 in
theorem crosses_any (x y u v s t p q : Int) (w : World) (hx : Co x) (hy : Co y) (hu : Co u) (hv : Co v) (hs : Co s) (ht : Co t) (hp : Co p) (hq : Co q) :
    Calls Tryz.prog 40 #[lnv x y u v, lnv s t p q] w fun e w' => e = .returned (.bool (cr ((x, y), (u, v)) ((s, t), (p, q)))) ∧ Below w.heap.size w w' := by
  have HX := Lib.hid hx; have HY := Lib.hid hy; have HU := Lib.hid hu; have HV := Lib.hid hv; have HS := Lib.hid hs; have HT := Lib.hid ht; have HP := Lib.hid hp; have HQ := Lib.hid hq
  clear hx hy hu hv hs ht hp hq
  show Calls Tryz.prog 40 #[lnv x y u v, lnv s t p q] w fun e w' => e = .returned (.bool (crosS (x, y) (u, v) (s, t) (p, q))) ∧ Below w.heap.size w w'
  have hE : (x = s ∧ y = t ∧ u = p ∧ v = q) ∨ (¬ x = s ∨ ¬ y = t ∨ ¬ u = p ∨ ¬ v = q) := by omega
  rcases hE with ⟨rfl, rfl, rfl, rfl⟩ | hE
  · have hEQ : ∀ w, Sem.run Tryz.prog (Op.equalIn 10000 68 (lnv x y u v) (lnv x y u v)) w = .ok true w := fun w => by rw [eq_line]; simp
    go_enter Tryz.func40, Tryz.ntmps40
    go_wp2
    go_ret
    exact ⟨ret_bool (by simp [crosS]), (by repeat (first | exact Below.refl _ _ | refine below_drewN ?_ _ | refine Below.drew ?_ | refine Below.setCell ?_ (by first | (simp; done) | (simp; omega) | omega) _ | refine below_new ?_ _))⟩
  · have E1 := Lib.hid (pair_ne2 hE)
    obtain ⟨W2, hW2⟩ : ∃ W2, W2 = (w.alloc (.cells #[.int .i64 x, .int .i64 y, .int .i64 u, .int .i64 v] 68)).alloc (.cells #[.int .i64 s, .int .i64 t, .int .i64 p, .int .i64 q] 68) := ⟨_, rfl⟩
    have a0 : W2.cell? ⟨w.heap.size, 0, none⟩ = some (.int .i64 x) := by rw [hW2]; go_simp
    have a1 : W2.cell? ⟨w.heap.size, 1, none⟩ = some (.int .i64 y) := by rw [hW2]; go_simp
    have a2 : W2.cell? ⟨w.heap.size, 2, none⟩ = some (.int .i64 u) := by rw [hW2]; go_simp
    have a3 : W2.cell? ⟨w.heap.size, 3, none⟩ = some (.int .i64 v) := by rw [hW2]; go_simp
    have d0 : W2.cell? ⟨w.heap.size + 1, 0, none⟩ = some (.int .i64 s) := by rw [hW2]; go_simp
    have d1 : W2.cell? ⟨w.heap.size + 1, 1, none⟩ = some (.int .i64 t) := by rw [hW2]; go_simp
    have d2 : W2.cell? ⟨w.heap.size + 1, 2, none⟩ = some (.int .i64 p) := by rw [hW2]; go_simp
    have d3 : W2.cell? ⟨w.heap.size + 1, 3, none⟩ = some (.int .i64 q) := by rw [hW2]; go_simp
    have al : w.heap.size < W2.heap.size := by rw [hW2]; simp; omega
    have dl : w.heap.size + 1 < W2.heap.size := by rw [hW2]; simp
    have B := Lib.hid (show Below w.heap.size w W2 by rw [hW2]; exact below_new (below_new (Below.refl _ _) _) _)
    have hEQ : ∀ w, Sem.run Tryz.prog (Op.equalIn 10000 68 (lnv x y u v) (lnv s t p q)) w = .ok false w := fun w => by
      rw [eq_line]
      rcases hE with h | h | h | h <;> simp [h]
    clear hE
    go_enter Tryz.func40, Tryz.ntmps40
    go_upto_region 1 with fail
    rw [← hW2]
    clear hW2
    cases hK1 : partsS (x, y) (u, v) (s, t) (p, q) with
    | true =>
      have K1 := Lib.hid hK1
      clear hK1
      go_wp2_with fail
      refine (parts_any x y u v s t p q _ HX.out HY.out HU.out HV.out HS.out HT.out HP.out HQ.out).mono ?_
      (try rw [K1.out])
      rintro e wx ⟨rfl, hb⟩
      replace a0 := cell_keep a0 al hb; replace a1 := cell_keep a1 al hb; replace a2 := cell_keep a2 al hb; replace a3 := cell_keep a3 al hb; replace d0 := cell_keep d0 dl hb; replace d1 := cell_keep d1 dl hb; replace d2 := cell_keep d2 dl hb; replace d3 := cell_keep d3 dl hb; replace al := lt_keep al hb; replace dl := lt_keep dl hb; replace B := Lib.hid (below_next B.out hb); clear hb
      cases hK2 : partsS (s, t) (p, q) (x, y) (u, v) with
      | true =>
        have K2 := Lib.hid hK2
        clear hK2
        go_wp2_with fail
        refine (parts_any s t p q x y u v _ HS.out HT.out HP.out HQ.out HX.out HY.out HU.out HV.out).mono ?_
        (try rw [K2.out])
        rintro e wx ⟨rfl, hb⟩
        replace a0 := cell_keep a0 al hb; replace a1 := cell_keep a1 al hb; replace a2 := cell_keep a2 al hb; replace a3 := cell_keep a3 al hb; replace d0 := cell_keep d0 dl hb; replace d1 := cell_keep d1 dl hb; replace d2 := cell_keep d2 dl hb; replace d3 := cell_keep d3 dl hb; replace al := lt_keep al hb; replace dl := lt_keep dl hb; replace B := Lib.hid (below_next B.out hb); clear hb
        go_wp2
        go_ret
        exact ⟨ret_bool (by rw [crosS, E1.out, K1.out, K2.out]; simp), B.out⟩
      | false =>
        have K2 := Lib.hid hK2
        clear hK2
        go_wp2_with fail
        refine (parts_any s t p q x y u v _ HS.out HT.out HP.out HQ.out HX.out HY.out HU.out HV.out).mono ?_
        (try rw [K2.out])
        rintro e wx ⟨rfl, hb⟩
        replace a0 := cell_keep a0 al hb; replace a1 := cell_keep a1 al hb; replace a2 := cell_keep a2 al hb; replace a3 := cell_keep a3 al hb; replace d0 := cell_keep d0 dl hb; replace d1 := cell_keep d1 dl hb; replace d2 := cell_keep d2 dl hb; replace d3 := cell_keep d3 dl hb; replace al := lt_keep al hb; replace dl := lt_keep dl hb; replace B := Lib.hid (below_next B.out hb); clear hb
        cases hK3 : passS (x, y) (u, v) (s, t) with
        | true =>
          have K3 := Lib.hid hK3
          clear hK3
          go_wp2_with fail
          refine (passes_any x y u v s t _ HX.out HY.out HU.out HV.out HS.out HT.out).mono ?_
          (try rw [K3.out])
          rintro e wx ⟨rfl, hb⟩
          replace a0 := cell_keep a0 al hb; replace a1 := cell_keep a1 al hb; replace a2 := cell_keep a2 al hb; replace a3 := cell_keep a3 al hb; replace d0 := cell_keep d0 dl hb; replace d1 := cell_keep d1 dl hb; replace d2 := cell_keep d2 dl hb; replace d3 := cell_keep d3 dl hb; replace al := lt_keep al hb; replace dl := lt_keep dl hb; replace B := Lib.hid (below_next B.out hb); clear hb
          go_wp2
          go_ret
          exact ⟨ret_bool (by rw [crosS, E1.out, K1.out, K2.out, K3.out]; simp), B.out⟩
        | false =>
          have K3 := Lib.hid hK3
          clear hK3
          go_wp2_with fail
          refine (passes_any x y u v s t _ HX.out HY.out HU.out HV.out HS.out HT.out).mono ?_
          (try rw [K3.out])
          rintro e wx ⟨rfl, hb⟩
          replace a0 := cell_keep a0 al hb; replace a1 := cell_keep a1 al hb; replace a2 := cell_keep a2 al hb; replace a3 := cell_keep a3 al hb; replace d0 := cell_keep d0 dl hb; replace d1 := cell_keep d1 dl hb; replace d2 := cell_keep d2 dl hb; replace d3 := cell_keep d3 dl hb; replace al := lt_keep al hb; replace dl := lt_keep dl hb; replace B := Lib.hid (below_next B.out hb); clear hb
          cases hK4 : passS (x, y) (u, v) (p, q) with
          | true =>
            have K4 := Lib.hid hK4
            clear hK4
            go_wp2_with fail
            refine (passes_any x y u v p q _ HX.out HY.out HU.out HV.out HP.out HQ.out).mono ?_
            (try rw [K4.out])
            rintro e wx ⟨rfl, hb⟩
            replace a0 := cell_keep a0 al hb; replace a1 := cell_keep a1 al hb; replace a2 := cell_keep a2 al hb; replace a3 := cell_keep a3 al hb; replace d0 := cell_keep d0 dl hb; replace d1 := cell_keep d1 dl hb; replace d2 := cell_keep d2 dl hb; replace d3 := cell_keep d3 dl hb; replace al := lt_keep al hb; replace dl := lt_keep dl hb; replace B := Lib.hid (below_next B.out hb); clear hb
            go_wp2
            go_ret
            exact ⟨ret_bool (by rw [crosS, E1.out, K1.out, K2.out, K3.out, K4.out]; simp), B.out⟩
          | false =>
            have K4 := Lib.hid hK4
            clear hK4
            go_wp2_with fail
            refine (passes_any x y u v p q _ HX.out HY.out HU.out HV.out HP.out HQ.out).mono ?_
            (try rw [K4.out])
            rintro e wx ⟨rfl, hb⟩
            replace a0 := cell_keep a0 al hb; replace a1 := cell_keep a1 al hb; replace a2 := cell_keep a2 al hb; replace a3 := cell_keep a3 al hb; replace d0 := cell_keep d0 dl hb; replace d1 := cell_keep d1 dl hb; replace d2 := cell_keep d2 dl hb; replace d3 := cell_keep d3 dl hb; replace al := lt_keep al hb; replace dl := lt_keep dl hb; replace B := Lib.hid (below_next B.out hb); clear hb
            cases hK5 : passS (s, t) (p, q) (x, y) with
            | true =>
              have K5 := Lib.hid hK5
              clear hK5
              go_wp2_with fail
              refine (passes_any s t p q x y _ HS.out HT.out HP.out HQ.out HX.out HY.out).mono ?_
              (try rw [K5.out])
              rintro e wx ⟨rfl, hb⟩
              replace a0 := cell_keep a0 al hb; replace a1 := cell_keep a1 al hb; replace a2 := cell_keep a2 al hb; replace a3 := cell_keep a3 al hb; replace d0 := cell_keep d0 dl hb; replace d1 := cell_keep d1 dl hb; replace d2 := cell_keep d2 dl hb; replace d3 := cell_keep d3 dl hb; replace al := lt_keep al hb; replace dl := lt_keep dl hb; replace B := Lib.hid (below_next B.out hb); clear hb
              go_wp2
              go_ret
              exact ⟨ret_bool (by rw [crosS, E1.out, K1.out, K2.out, K3.out, K4.out, K5.out]; simp), B.out⟩
            | false =>
              have K5 := Lib.hid hK5
              clear hK5
              go_wp2_with fail
              refine (passes_any s t p q x y _ HS.out HT.out HP.out HQ.out HX.out HY.out).mono ?_
              (try rw [K5.out])
              rintro e wx ⟨rfl, hb⟩
              replace a0 := cell_keep a0 al hb; replace a1 := cell_keep a1 al hb; replace a2 := cell_keep a2 al hb; replace a3 := cell_keep a3 al hb; replace d0 := cell_keep d0 dl hb; replace d1 := cell_keep d1 dl hb; replace d2 := cell_keep d2 dl hb; replace d3 := cell_keep d3 dl hb; replace al := lt_keep al hb; replace dl := lt_keep dl hb; replace B := Lib.hid (below_next B.out hb); clear hb
              cases hK6 : passS (s, t) (p, q) (u, v) with
              | true =>
                have K6 := Lib.hid hK6
                clear hK6
                go_wp2_with fail
                refine (passes_any s t p q u v _ HS.out HT.out HP.out HQ.out HU.out HV.out).mono ?_
                (try rw [K6.out])
                rintro e wx ⟨rfl, hb⟩
                replace a0 := cell_keep a0 al hb; replace a1 := cell_keep a1 al hb; replace a2 := cell_keep a2 al hb; replace a3 := cell_keep a3 al hb; replace d0 := cell_keep d0 dl hb; replace d1 := cell_keep d1 dl hb; replace d2 := cell_keep d2 dl hb; replace d3 := cell_keep d3 dl hb; replace al := lt_keep al hb; replace dl := lt_keep dl hb; replace B := Lib.hid (below_next B.out hb); clear hb
                go_wp2
                go_ret
                exact ⟨ret_bool (by rw [crosS, E1.out, K1.out, K2.out, K3.out, K4.out, K5.out, K6.out]; simp), B.out⟩
              | false =>
                have K6 := Lib.hid hK6
                clear hK6
                go_wp2_with fail
                refine (passes_any s t p q u v _ HS.out HT.out HP.out HQ.out HU.out HV.out).mono ?_
                (try rw [K6.out])
                rintro e wx ⟨rfl, hb⟩
                replace a0 := cell_keep a0 al hb; replace a1 := cell_keep a1 al hb; replace a2 := cell_keep a2 al hb; replace a3 := cell_keep a3 al hb; replace d0 := cell_keep d0 dl hb; replace d1 := cell_keep d1 dl hb; replace d2 := cell_keep d2 dl hb; replace d3 := cell_keep d3 dl hb; replace al := lt_keep al hb; replace dl := lt_keep dl hb; replace B := Lib.hid (below_next B.out hb); clear hb
                go_wp2
                go_ret
                exact ⟨ret_bool (by rw [crosS, E1.out, K1.out, K2.out, K3.out, K4.out, K5.out, K6.out]; simp), B.out⟩
    | false =>
      have K1 := Lib.hid hK1
      clear hK1
      go_wp2_with fail
      refine (parts_any x y u v s t p q _ HX.out HY.out HU.out HV.out HS.out HT.out HP.out HQ.out).mono ?_
      (try rw [K1.out])
      rintro e wx ⟨rfl, hb⟩
      replace a0 := cell_keep a0 al hb; replace a1 := cell_keep a1 al hb; replace a2 := cell_keep a2 al hb; replace a3 := cell_keep a3 al hb; replace d0 := cell_keep d0 dl hb; replace d1 := cell_keep d1 dl hb; replace d2 := cell_keep d2 dl hb; replace d3 := cell_keep d3 dl hb; replace al := lt_keep al hb; replace dl := lt_keep dl hb; replace B := Lib.hid (below_next B.out hb); clear hb
      cases hK3 : passS (x, y) (u, v) (s, t) with
      | true =>
        have K3 := Lib.hid hK3
        clear hK3
        go_wp2_with fail
        refine (passes_any x y u v s t _ HX.out HY.out HU.out HV.out HS.out HT.out).mono ?_
        (try rw [K3.out])
        rintro e wx ⟨rfl, hb⟩
        replace a0 := cell_keep a0 al hb; replace a1 := cell_keep a1 al hb; replace a2 := cell_keep a2 al hb; replace a3 := cell_keep a3 al hb; replace d0 := cell_keep d0 dl hb; replace d1 := cell_keep d1 dl hb; replace d2 := cell_keep d2 dl hb; replace d3 := cell_keep d3 dl hb; replace al := lt_keep al hb; replace dl := lt_keep dl hb; replace B := Lib.hid (below_next B.out hb); clear hb
        go_wp2
        go_ret
        exact ⟨ret_bool (by rw [crosS, E1.out, K1.out, K3.out]; simp), B.out⟩
      | false =>
        have K3 := Lib.hid hK3
        clear hK3
        go_wp2_with fail
        refine (passes_any x y u v s t _ HX.out HY.out HU.out HV.out HS.out HT.out).mono ?_
        (try rw [K3.out])
        rintro e wx ⟨rfl, hb⟩
        replace a0 := cell_keep a0 al hb; replace a1 := cell_keep a1 al hb; replace a2 := cell_keep a2 al hb; replace a3 := cell_keep a3 al hb; replace d0 := cell_keep d0 dl hb; replace d1 := cell_keep d1 dl hb; replace d2 := cell_keep d2 dl hb; replace d3 := cell_keep d3 dl hb; replace al := lt_keep al hb; replace dl := lt_keep dl hb; replace B := Lib.hid (below_next B.out hb); clear hb
        cases hK4 : passS (x, y) (u, v) (p, q) with
        | true =>
          have K4 := Lib.hid hK4
          clear hK4
          go_wp2_with fail
          refine (passes_any x y u v p q _ HX.out HY.out HU.out HV.out HP.out HQ.out).mono ?_
          (try rw [K4.out])
          rintro e wx ⟨rfl, hb⟩
          replace a0 := cell_keep a0 al hb; replace a1 := cell_keep a1 al hb; replace a2 := cell_keep a2 al hb; replace a3 := cell_keep a3 al hb; replace d0 := cell_keep d0 dl hb; replace d1 := cell_keep d1 dl hb; replace d2 := cell_keep d2 dl hb; replace d3 := cell_keep d3 dl hb; replace al := lt_keep al hb; replace dl := lt_keep dl hb; replace B := Lib.hid (below_next B.out hb); clear hb
          go_wp2
          go_ret
          exact ⟨ret_bool (by rw [crosS, E1.out, K1.out, K3.out, K4.out]; simp), B.out⟩
        | false =>
          have K4 := Lib.hid hK4
          clear hK4
          go_wp2_with fail
          refine (passes_any x y u v p q _ HX.out HY.out HU.out HV.out HP.out HQ.out).mono ?_
          (try rw [K4.out])
          rintro e wx ⟨rfl, hb⟩
          replace a0 := cell_keep a0 al hb; replace a1 := cell_keep a1 al hb; replace a2 := cell_keep a2 al hb; replace a3 := cell_keep a3 al hb; replace d0 := cell_keep d0 dl hb; replace d1 := cell_keep d1 dl hb; replace d2 := cell_keep d2 dl hb; replace d3 := cell_keep d3 dl hb; replace al := lt_keep al hb; replace dl := lt_keep dl hb; replace B := Lib.hid (below_next B.out hb); clear hb
          cases hK5 : passS (s, t) (p, q) (x, y) with
          | true =>
            have K5 := Lib.hid hK5
            clear hK5
            go_wp2_with fail
            refine (passes_any s t p q x y _ HS.out HT.out HP.out HQ.out HX.out HY.out).mono ?_
            (try rw [K5.out])
            rintro e wx ⟨rfl, hb⟩
            replace a0 := cell_keep a0 al hb; replace a1 := cell_keep a1 al hb; replace a2 := cell_keep a2 al hb; replace a3 := cell_keep a3 al hb; replace d0 := cell_keep d0 dl hb; replace d1 := cell_keep d1 dl hb; replace d2 := cell_keep d2 dl hb; replace d3 := cell_keep d3 dl hb; replace al := lt_keep al hb; replace dl := lt_keep dl hb; replace B := Lib.hid (below_next B.out hb); clear hb
            go_wp2
            go_ret
            exact ⟨ret_bool (by rw [crosS, E1.out, K1.out, K3.out, K4.out, K5.out]; simp), B.out⟩
          | false =>
            have K5 := Lib.hid hK5
            clear hK5
            go_wp2_with fail
            refine (passes_any s t p q x y _ HS.out HT.out HP.out HQ.out HX.out HY.out).mono ?_
            (try rw [K5.out])
            rintro e wx ⟨rfl, hb⟩
            replace a0 := cell_keep a0 al hb; replace a1 := cell_keep a1 al hb; replace a2 := cell_keep a2 al hb; replace a3 := cell_keep a3 al hb; replace d0 := cell_keep d0 dl hb; replace d1 := cell_keep d1 dl hb; replace d2 := cell_keep d2 dl hb; replace d3 := cell_keep d3 dl hb; replace al := lt_keep al hb; replace dl := lt_keep dl hb; replace B := Lib.hid (below_next B.out hb); clear hb
            cases hK6 : passS (s, t) (p, q) (u, v) with
            | true =>
              have K6 := Lib.hid hK6
              clear hK6
              go_wp2_with fail
              refine (passes_any s t p q u v _ HS.out HT.out HP.out HQ.out HU.out HV.out).mono ?_
              (try rw [K6.out])
              rintro e wx ⟨rfl, hb⟩
              replace a0 := cell_keep a0 al hb; replace a1 := cell_keep a1 al hb; replace a2 := cell_keep a2 al hb; replace a3 := cell_keep a3 al hb; replace d0 := cell_keep d0 dl hb; replace d1 := cell_keep d1 dl hb; replace d2 := cell_keep d2 dl hb; replace d3 := cell_keep d3 dl hb; replace al := lt_keep al hb; replace dl := lt_keep dl hb; replace B := Lib.hid (below_next B.out hb); clear hb
              go_wp2
              go_ret
              exact ⟨ret_bool (by rw [crosS, E1.out, K1.out, K3.out, K4.out, K5.out, K6.out]; simp), B.out⟩
            | false =>
              have K6 := Lib.hid hK6
              clear hK6
              go_wp2_with fail
              refine (passes_any s t p q u v _ HS.out HT.out HP.out HQ.out HU.out HV.out).mono ?_
              (try rw [K6.out])
              rintro e wx ⟨rfl, hb⟩
              replace a0 := cell_keep a0 al hb; replace a1 := cell_keep a1 al hb; replace a2 := cell_keep a2 al hb; replace a3 := cell_keep a3 al hb; replace d0 := cell_keep d0 dl hb; replace d1 := cell_keep d1 dl hb; replace d2 := cell_keep d2 dl hb; replace d3 := cell_keep d3 dl hb; replace al := lt_keep al hb; replace dl := lt_keep dl hb; replace B := Lib.hid (below_next B.out hb); clear hb
              go_wp2
              go_ret
              exact ⟨ret_bool (by rw [crosS, E1.out, K1.out, K3.out, K4.out, K5.out, K6.out]; simp), B.out⟩

end Go.Proofs.YtbpgkigoboobeaaGreat
