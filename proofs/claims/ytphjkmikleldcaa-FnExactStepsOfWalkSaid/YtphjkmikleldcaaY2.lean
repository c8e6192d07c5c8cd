/-
  Contracts: the steps of a walk: which they are; slices.Index at spots.
-/
import Derived.Test.YtphjkmikleldcaaZ3
import Derived.Test.YtphjkmikleldcaaY0
import Derived.Test.YtphjkmikleldcaaS4
import Derived.Deep.RegionHeld3
namespace Go.Proofs.Ytphjkmikleldcaa
open Go.RowKit

theorem rowIn {W H x : Int} (hW : 1 ≤ W ∧ W ≤ 8) (hx : 0 ≤ x ∧ x < W * H) : 0 ≤ x / W ∧ x / W < H :=
  ⟨Int.ediv_nonneg hx.1 (by omega), Int.ediv_lt_of_lt_mul (by omega) (by rw [Int.mul_comm]; exact hx.2)⟩
theorem colIn {W x : Int} (hW : 1 ≤ W ∧ W ≤ 8) : 0 ≤ x % W ∧ x % W < W := ⟨Int.emod_nonneg _ (by omega), Int.emod_lt_of_pos _ (by omega)⟩
theorem okH {W H a b : Int} {xs ps : List Int} (h : okWk W H xs a b ps = true) : 1 ≤ H ∧ H ≤ 8 := (goodB_iff.1 (two_gK (ok_two h))).2.1
theorem okIn {W H a b : Int} {xs ps : List Int} (h : okWk W H xs a b ps = true) : ∀ x ∈ ps, 0 ≤ x ∧ x < W * H := fun x hx => (hasB_iff.1 (path_has (walk_path2 (ok_walk h)) x hx)).1
def diffP (W x y : Int) : Int × Int := (y % W - x % W, y / W - x / W)
theorem goes_leap {W H a b : Int} {hs : List Int} : ∀ (ps : List Int) (o : Option Int) (i : Nat) (x y : Int), goesB W H hs a b o ps = true → ps[i]? = some x → ps[i + 1]? = some y → leapB W a b x y = true
  | [], _, _, _, _, _, h, _ => by simp at h
  | [_], _, i, _, _, _, _, h => by simp at h
  | c :: d :: t, o, 0, x, y, h, h1, h2 => by
    simp only [List.getElem?_cons_zero, List.getElem?_cons_succ, Option.some.injEq] at h1 h2
    subst h1 h2
    simp only [goesB, Bool.and_eq_true] at h
    exact h.2.1.2
  | c :: d :: t, o, i + 1, x, y, h, h1, h2 => by
    have h3 : goesB W H hs a b (some c) (d :: t) = true := by
      simp only [goesB, Bool.and_eq_true] at h ⊢
      exact ⟨⟨h.2.1.1, h.2.1.2⟩, h.2.2⟩
    exact goes_leap (d :: t) (some c) i x y h3 (by simpa using h1) (by simpa using h2)
theorem leap_step {W a b x y : Int} (hl : leaperB a b = true) (h : leapB W a b x y = true) : diffP W x y ∈ stepsL a b := by
  rw [stepsL_mem hl]
  simp only [leapB, decide_eq_true_eq] at h
  unfold stepB
  apply decide_eq_true
  show (absV (y % W - x % W) = a ∧ absV (y / W - x / W) = b) ∨ (absV (y % W - x % W) = b ∧ absV (y / W - x / W) = a)
  rcases h with ⟨h1, h2⟩ | ⟨h1, h2⟩
  · exact Or.inl ⟨(absV_sub _ _).trans h1, (absV_sub _ _).trans h2⟩
  · exact Or.inr ⟨(absV_sub _ _).trans h1, (absV_sub _ _).trans h2⟩
theorem idx_first {p : Int × Int} : ∀ (qs : List (Int × Int)) (k : Nat), qs[k]? = some p → (∀ j, j < k → qs[j]? ≠ some p) → qs.idxOf p = k
  | [], _, h, _ => by simp at h
  | q :: t, 0, h, _ => by
    simp only [List.getElem?_cons_zero, Option.some.injEq] at h
    subst h
    exact List.idxOf_cons_self
  | q :: t, k + 1, h, hn => by
    have hq : q ≠ p := fun e => hn 0 (by omega) (by rw [List.getElem?_cons_zero, e])
    have hb : (q == p) = false := by simpa using hq
    rw [List.idxOf_cons, hb, cond_false, idx_first t k (by simpa using h) (fun j hj => by have := hn (j + 1) (by omega); simpa using this)]
theorem idx_only {p : Int × Int} {qs : List (Int × Int)} {j : Nat} (hn : qs.Nodup) (h : qs[j]? = some p) : qs.idxOf p = j :=
  idx_first qs j h fun i hi he => by
    obtain ⟨h1, e1⟩ := List.getElem?_eq_some_iff.1 h
    obtain ⟨h2, e2⟩ := List.getElem?_eq_some_iff.1 he
    have := (List.nodup_iff_pairwise_ne.1 hn)
    exact (List.pairwise_iff_getElem.1 this i j h2 h1 hi) (e2.trans e1.symm)
def stepI (W a b : Int) (ps : List Int) (i : Nat) : Int := ((stepsL a b).idxOf (diffP W (ps.getD i 0) (ps.getD (i + 1) 0)) : Int)
def stepIs (W a b : Int) (ps : List Int) (n : Nat) : List Int := (List.range n).map (stepI W a b ps)
theorem stepIs_succ (W a b : Int) (ps : List Int) (n : Nat) : stepIs W a b ps (n + 1) = stepIs W a b ps n ++ [stepI W a b ps n] := by
  rw [stepIs, List.range_succ, List.map_append]; rfl
theorem stepIs_len (W a b : Int) (ps : List Int) (n : Nat) : (stepIs W a b ps n).length = n := by simp [stepIs]
def wstepsV (W H : Int) (xs : List Int) (a b : Int) (ps : List Int) : List Int := if okWk W H xs a b ps then stepIs W a b ps (ps.length - 1) else []
theorem len_StepsOfWalk (W H : Int) (xs : List Int) (a b : Int) (ps : List Int) : (wstepsV W H xs a b ps).length ≤ 1000000 := by
  unfold wstepsV; split
  · rename_i h; have := ok_len h; rw [stepIs_len]; omega
  · simp
theorem ok_leaper {W H a b : Int} {xs ps : List Int} (h : okWk W H xs a b ps = true) : leaperB a b = true := by
  have := ok_two h
  simp only [twoV, Bool.and_eq_true] at this
  exact this.2
theorem ok_step {W H a b x y : Int} {xs ps : List Int} {i : Nat} (h : okWk W H xs a b ps = true) (hx : ps[i]? = some x) (hy : ps[i + 1]? = some y) : diffP W x y ∈ stepsL a b := by
  have h1 := walk_path2 (ok_walk h)
  simp only [pathB, Bool.and_eq_true] at h1
  exact leap_step (ok_leaper h) (goes_leap ps none i x y h1.2 hx hy)
theorem stepI_at {W a b x y : Int} {ps : List Int} {i : Nat} (hx : ps[i]? = some x) (hy : ps[i + 1]? = some y) : stepI W a b ps i = ((stepsL a b).idxOf (diffP W x y) : Int) := by
  rw [stepI, List.getD_eq_getElem?_getD, List.getD_eq_getElem?_getD, hx, hy]; rfl

set_option maxRecDepth 100000 in
set_option maxHeartbeats 2000000 in
theorem indexP_any (lo : Nat) (A : Option Addr) (n c : Nat) (qs : List (Int × Int)) (x y : Int) (w : World) (hst : OwnP 71 w lo A n c qs) (hn : n ≤ 1000) (hm : (x, y) ∈ qs) :
    Calls Try.prog 88 #[.slice A n c, lpr x y] w fun e w' => e = .returned (.int .i64 (qs.idxOf (x, y) : Int)) ∧ Below w.heap.size w w' := by
  obtain ⟨W2, hW2⟩ : ∃ W2, W2 = w.alloc (.cells #[.int .i64 x, .int .i64 y] 71) := ⟨_, rfl⟩
  have v0 : W2.cell? ⟨w.heap.size, 0, none⟩ = some (.int .i64 x) := by rw [hW2]; go_simp
  have v1 : W2.cell? ⟨w.heap.size, 1, none⟩ = some (.int .i64 y) := by rw [hW2]; go_simp
  have vl : w.heap.size < W2.heap.size := by rw [hW2]; simp
  have B := Lib.hid (show Below w.heap.size w W2 by rw [hW2]; exact below_new (Below.refl _ _) _)
  have ST := Lib.hid (hst.keep B.out)
  have SL := Lib.hid hst.len
  have VV := Lib.hid (⟨v0, v1⟩ : W2.cell? ⟨w.heap.size, 0, none⟩ = some (.int .i64 x) ∧ W2.cell? ⟨w.heap.size, 1, none⟩ = some (.int .i64 y))
  have VL := Lib.hid vl
  have HM := Lib.hid hm
  clear hst hm v0 v1 vl
  go_enter Try.func88, Try.ntmps88
  go_wp2
  rw [← hW2]
  clear hW2
  go_loopw [8] (fun i wr => ∃ k : Nat, k ≤ n ∧ i = .int .i64 k ∧ (∀ j, j < k → qs[j]? ≠ some (x, y)) ∧ Below W2.heap.size W2 wr) (fun i _ => n - (intOf i).toNat)
  case atStart => exact ⟨0, Nat.zero_le _, rfl, fun j hj => absurd hj (Nat.not_lt_zero _), Below.refl _ _⟩
  case round =>
    obtain ⟨k, hk, rfl, hno, hbw⟩ := hrel
    have HNO := Lib.hid hno
    have HB := Lib.hid hbw
    clear hno
    by_cases hlt : k < n
    · obtain ⟨⟨dx, dy⟩, hx⟩ : ∃ p, qs[k]? = some p := ⟨_, List.getElem?_eq_getElem (show k < qs.length by have := SL.out; omega)⟩
      obtain ⟨g1, rfl, _, hg1⟩ := ST.out.some_ hlt
      obtain ⟨x0, x1⟩ := pair_at ST.out hx
      simp only at x0 x1
      have HX := Lib.hid hx
      replace x0 := cell_keep x0 hg1 hbw; replace x1 := cell_keep x1 hg1 hbw
      have v0 := cell_keep VV.out.1 VL.out hbw; have v1 := cell_keep VV.out.2 VL.out hbw
      clear hx hbw hg1
      by_cases he : (x, y) = (dx, dy)
      · obtain ⟨he1, he2⟩ : x = dx ∧ y = dy := by simpa using he
        have HI := Lib.hid (show qs.idxOf (x, y) = k from idx_first qs k (by rw [HX.out, he]) HNO.out)
        clear he
        go_wp2_with fail
        refine wp_region_held_drew (S := fun w' => w'.cell? ⟨w.heap.size, 0, none⟩ = some (.int .i64 x) ∧ w'.cell? ⟨w.heap.size, 1, none⟩ = some (.int .i64 y) ∧ w'.cell? ⟨g1, k * 2, none⟩ = some (.int .i64 dx) ∧ w'.cell? ⟨g1, k * 2 + 1, none⟩ = some (.int .i64 dy)) (by kernel_rfl) ?_ (fun hHeld => ?_)
        · (try dsimp only)
          exact ⟨v0, v1, x0, x1⟩
        refine wpAnyH_take (i := 0) (oi := ⟨_, _, _, _, _, _⟩) (v := ?_) rfl (by kernel_rfl) (by kernel_rfl) (by kernel_rfl) (fun _ _ _ h => h) (Or.inl ⟨by rfl, ?_⟩) (by assumption) ?_
        rotate_left
        · intro w hSw
          (try dsimp only at hSw)
          go_simp
          (try with_reducible rfl)
        (try simp only [Act.put, List.setIfInBounds_toArray, List.set_cons_zero, List.set_cons_succ])
        refine wpAnyH_take (i := 1) (oi := ⟨_, _, _, _, _, _⟩) (v := ?_) rfl (by kernel_rfl) (by kernel_rfl) (by kernel_rfl) (fun _ _ _ h => h) (Or.inl ⟨by rfl, ?_⟩) (by assumption) ?_
        rotate_left
        · intro w hSw
          (try dsimp only at hSw)
          go_simp
          (try with_reducible rfl)
        (try simp only [Act.put, List.setIfInBounds_toArray, List.set_cons_zero, List.set_cons_succ])
        refine wpAnyH_take (i := 2) (oi := ⟨_, _, _, _, _, _⟩) (v := ?_) rfl (by kernel_rfl) (by kernel_rfl) (by kernel_rfl) (fun _ _ _ h => h) (Or.inl ⟨by rfl, ?_⟩) (by assumption) ?_
        rotate_left
        · intro w hSw
          (try dsimp only at hSw)
          go_simp
          (try with_reducible rfl)
        (try simp only [Act.put, List.setIfInBounds_toArray, List.set_cons_zero, List.set_cons_succ])
        refine wpAnyH_take (i := 3) (oi := ⟨_, _, _, _, _, _⟩) (v := ?_) rfl (by kernel_rfl) (by kernel_rfl) (by kernel_rfl) (fun _ _ _ h => h) (Or.inl ⟨by rfl, ?_⟩) (by assumption) ?_
        rotate_left
        · intro w hSw
          (try dsimp only at hSw)
          go_simp
          (try with_reducible rfl)
        (try simp only [Act.put, List.setIfInBounds_toArray, List.set_cons_zero, List.set_cons_succ])
        refine wpAnyH_take (i := 4) (oi := ⟨_, _, _, _, _, _⟩) (v := ?_) rfl (by kernel_rfl) (by kernel_rfl) (by kernel_rfl) (fun _ _ _ h => h) (Or.inl ⟨by rfl, ?_⟩) (by assumption) ?_
        rotate_left
        · intro w hSw
          (try dsimp only at hSw)
          go_simp
          (try with_reducible rfl)
        (try simp only [Act.put, List.setIfInBounds_toArray, List.set_cons_zero, List.set_cons_succ])
        refine wpAnyH_take (i := 5) (oi := ⟨_, _, _, _, _, _⟩) (v := ?_) rfl (by kernel_rfl) (by kernel_rfl) (by kernel_rfl) (fun _ _ _ h => h) (Or.inl ⟨by rfl, ?_⟩) (by assumption) ?_
        rotate_left
        · intro w hSw
          (try dsimp only at hSw)
          go_simp
          (try with_reducible rfl)
        (try simp only [Act.put, List.setIfInBounds_toArray, List.set_cons_zero, List.set_cons_succ])
        refine wpAnyH_done (by kernel_rfl) ?_ _
        clear x0 x1 v0 v1
        go_wp2
        go_ret
        exact ⟨ret_int (by rw [HI.out]), below_drewN (B.out.trans (HB.out.mono B.out.size)) 1⟩
      · have HE := Lib.hid (show qs[k]? ≠ some (x, y) by rw [HX.out]; intro h; injection h with h; exact he h.symm)
        by_cases he1 : x = dx
        · have he2 : ¬ y = dy := fun h => he (by rw [he1, h])
          clear he
          go_wp2_with fail
          refine wp_region_held_drew (S := fun w' => w'.cell? ⟨w.heap.size, 0, none⟩ = some (.int .i64 x) ∧ w'.cell? ⟨w.heap.size, 1, none⟩ = some (.int .i64 y) ∧ w'.cell? ⟨g1, k * 2, none⟩ = some (.int .i64 dx) ∧ w'.cell? ⟨g1, k * 2 + 1, none⟩ = some (.int .i64 dy)) (by kernel_rfl) ?_ (fun hHeld => ?_)
          · (try dsimp only)
            exact ⟨v0, v1, x0, x1⟩
          refine wpAnyH_take (i := 0) (oi := ⟨_, _, _, _, _, _⟩) (v := ?_) rfl (by kernel_rfl) (by kernel_rfl) (by kernel_rfl) (fun _ _ _ h => h) (Or.inl ⟨by rfl, ?_⟩) (by assumption) ?_
          rotate_left
          · intro w hSw
            (try dsimp only at hSw)
            go_simp
            (try with_reducible rfl)
          (try simp only [Act.put, List.setIfInBounds_toArray, List.set_cons_zero, List.set_cons_succ])
          refine wpAnyH_take (i := 1) (oi := ⟨_, _, _, _, _, _⟩) (v := ?_) rfl (by kernel_rfl) (by kernel_rfl) (by kernel_rfl) (fun _ _ _ h => h) (Or.inl ⟨by rfl, ?_⟩) (by assumption) ?_
          rotate_left
          · intro w hSw
            (try dsimp only at hSw)
            go_simp
            (try with_reducible rfl)
          (try simp only [Act.put, List.setIfInBounds_toArray, List.set_cons_zero, List.set_cons_succ])
          refine wpAnyH_take (i := 2) (oi := ⟨_, _, _, _, _, _⟩) (v := ?_) rfl (by kernel_rfl) (by kernel_rfl) (by kernel_rfl) (fun _ _ _ h => h) (Or.inl ⟨by rfl, ?_⟩) (by assumption) ?_
          rotate_left
          · intro w hSw
            (try dsimp only at hSw)
            go_simp
            (try with_reducible rfl)
          (try simp only [Act.put, List.setIfInBounds_toArray, List.set_cons_zero, List.set_cons_succ])
          refine wpAnyH_take (i := 3) (oi := ⟨_, _, _, _, _, _⟩) (v := ?_) rfl (by kernel_rfl) (by kernel_rfl) (by kernel_rfl) (fun _ _ _ h => h) (Or.inl ⟨by rfl, ?_⟩) (by assumption) ?_
          rotate_left
          · intro w hSw
            (try dsimp only at hSw)
            go_simp
            (try with_reducible rfl)
          (try simp only [Act.put, List.setIfInBounds_toArray, List.set_cons_zero, List.set_cons_succ])
          refine wpAnyH_take (i := 4) (oi := ⟨_, _, _, _, _, _⟩) (v := ?_) rfl (by kernel_rfl) (by kernel_rfl) (by kernel_rfl) (fun _ _ _ h => h) (Or.inl ⟨by rfl, ?_⟩) (by assumption) ?_
          rotate_left
          · intro w hSw
            (try dsimp only at hSw)
            go_simp
            (try with_reducible rfl)
          (try simp only [Act.put, List.setIfInBounds_toArray, List.set_cons_zero, List.set_cons_succ])
          refine wpAnyH_take (i := 5) (oi := ⟨_, _, _, _, _, _⟩) (v := ?_) rfl (by kernel_rfl) (by kernel_rfl) (by kernel_rfl) (fun _ _ _ h => h) (Or.inl ⟨by rfl, ?_⟩) (by assumption) ?_
          rotate_left
          · intro w hSw
            (try dsimp only at hSw)
            go_simp
            (try with_reducible rfl)
          (try simp only [Act.put, List.setIfInBounds_toArray, List.set_cons_zero, List.set_cons_succ])
          refine wpAnyH_done (by kernel_rfl) ?_ _
          clear x0 x1 v0 v1 he1 he2
          go_wp2
          go_roundw
          case rel => exact ⟨k + 1, by omega, by go_num, fun j hj => by
            by_cases hjk : j = k
            · subst hjk; exact HE.out
            · exact HNO.out j (by omega), below_drewN HB.out 1⟩
          case measure => simp [intOf]; omega
        · clear he
          go_wp2_with fail
          refine wp_region_held_drew (S := fun w' => w'.cell? ⟨w.heap.size, 0, none⟩ = some (.int .i64 x) ∧ w'.cell? ⟨w.heap.size, 1, none⟩ = some (.int .i64 y) ∧ w'.cell? ⟨g1, k * 2, none⟩ = some (.int .i64 dx) ∧ w'.cell? ⟨g1, k * 2 + 1, none⟩ = some (.int .i64 dy)) (by kernel_rfl) ?_ (fun hHeld => ?_)
          · (try dsimp only)
            exact ⟨v0, v1, x0, x1⟩
          refine wpAnyH_take (i := 0) (oi := ⟨_, _, _, _, _, _⟩) (v := ?_) rfl (by kernel_rfl) (by kernel_rfl) (by kernel_rfl) (fun _ _ _ h => h) (Or.inl ⟨by rfl, ?_⟩) (by assumption) ?_
          rotate_left
          · intro w hSw
            (try dsimp only at hSw)
            go_simp
            (try with_reducible rfl)
          (try simp only [Act.put, List.setIfInBounds_toArray, List.set_cons_zero, List.set_cons_succ])
          refine wpAnyH_take (i := 1) (oi := ⟨_, _, _, _, _, _⟩) (v := ?_) rfl (by kernel_rfl) (by kernel_rfl) (by kernel_rfl) (fun _ _ _ h => h) (Or.inl ⟨by rfl, ?_⟩) (by assumption) ?_
          rotate_left
          · intro w hSw
            (try dsimp only at hSw)
            go_simp
            (try with_reducible rfl)
          (try simp only [Act.put, List.setIfInBounds_toArray, List.set_cons_zero, List.set_cons_succ])
          refine wpAnyH_take (i := 2) (oi := ⟨_, _, _, _, _, _⟩) (v := ?_) rfl (by kernel_rfl) (by kernel_rfl) (by kernel_rfl) (fun _ _ _ h => h) (Or.inl ⟨by rfl, ?_⟩) (by assumption) ?_
          rotate_left
          · intro w hSw
            (try dsimp only at hSw)
            go_simp
            (try with_reducible rfl)
          (try simp only [Act.put, List.setIfInBounds_toArray, List.set_cons_zero, List.set_cons_succ])
          refine wpAnyH_take (i := 3) (oi := ⟨_, _, _, _, _, _⟩) (v := ?_) rfl (by kernel_rfl) (by kernel_rfl) (by kernel_rfl) (fun _ _ _ h => h) (Or.inl ⟨by rfl, ?_⟩) (by assumption) ?_
          rotate_left
          · intro w hSw
            (try dsimp only at hSw)
            go_simp
            (try with_reducible rfl)
          (try simp only [Act.put, List.setIfInBounds_toArray, List.set_cons_zero, List.set_cons_succ])
          refine wpAnyH_take (i := 4) (oi := ⟨_, _, _, _, _, _⟩) (v := ?_) rfl (by kernel_rfl) (by kernel_rfl) (by kernel_rfl) (fun _ _ _ h => h) (Or.inl ⟨by rfl, ?_⟩) (by assumption) ?_
          rotate_left
          · intro w hSw
            (try dsimp only at hSw)
            go_simp
            (try with_reducible rfl)
          (try simp only [Act.put, List.setIfInBounds_toArray, List.set_cons_zero, List.set_cons_succ])
          refine wpAnyH_take (i := 5) (oi := ⟨_, _, _, _, _, _⟩) (v := ?_) rfl (by kernel_rfl) (by kernel_rfl) (by kernel_rfl) (fun _ _ _ h => h) (Or.inl ⟨by rfl, ?_⟩) (by assumption) ?_
          rotate_left
          · intro w hSw
            (try dsimp only at hSw)
            go_simp
            (try with_reducible rfl)
          (try simp only [Act.put, List.setIfInBounds_toArray, List.set_cons_zero, List.set_cons_succ])
          refine wpAnyH_done (by kernel_rfl) ?_ _
          clear x0 x1 v0 v1 he1
          go_wp2
          go_roundw
          case rel => exact ⟨k + 1, by omega, by go_num, fun j hj => by
            by_cases hjk : j = k
            · subst hjk; exact HE.out
            · exact HNO.out j (by omega), below_drewN HB.out 1⟩
          case measure => simp [intOf]; omega
    · exfalso
      obtain ⟨j, hj, he⟩ := List.mem_iff_getElem.1 HM.out
      exact HNO.out j (by have := SL.out; omega) (by rw [List.getElem?_eq_getElem hj, he])

end Go.Proofs.Ytphjkmikleldcaa
