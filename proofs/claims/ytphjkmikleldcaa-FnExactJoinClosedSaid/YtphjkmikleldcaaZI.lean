/-
  Contracts: JoinClosed, in the program.
-/
import Derived.Test.YtphjkmikleldcaaZH
namespace Go.Proofs.Ytphjkmikleldcaa
open Go.RowKit

theorem concatRound_any (gS b2 o2 k c3 j : Nat) (qs : List Int) (w : World) (hg : gS < w.heap.size) (s0 : w.cell? ⟨gS, 0, none⟩ = some (.slice (some ⟨b2, o2 + j, none⟩) (k - j) (c3 - j))) (s1 : w.cell? ⟨gS, 1, none⟩ = some (.slice (some ⟨b2, o2, none⟩) j c3))
    (hq : Rd w (some ⟨b2, o2, none⟩) k qs) (hj : j ≤ k) (h1 : 1 ≤ k ∧ k ≤ 64) :
    Calls Try.prog 74 #[.slice (some ⟨gS, 0, none⟩) 2 2] w fun e w' => ∃ A' c', e = .returned (.slice A' k c') ∧ OwnI 3 w' w.heap.size A' k c' (roundL qs j) ∧ Below w.heap.size w w' := by
  have h := concat2_any gS ⟨b2, o2 + j, none⟩ ⟨b2, o2, none⟩ (k - j) (c3 - j) j c3 (qs.drop j) (qs.take j) w hg s0 s1 (hq.drop hj) (hq.take hj) (by omega) (by omega)
  rw [Nat.sub_add_cancel hj] at h
  exact h
theorem concatJoin_any (gS bb oo m c2 i : Nat) (a2 a3 : Addr) (k c7 r e9 : Nat) (ps L us : List Int) (w : World) (hg : gS < w.heap.size) (s0 : w.cell? ⟨gS, 0, none⟩ = some (.slice (some ⟨bb, oo, none⟩) (i + 1) c2)) (s1 : w.cell? ⟨gS, 1, none⟩ = some (.slice (some a2) k c7)) (s2 : w.cell? ⟨gS, 2, none⟩ = some (.slice (some a3) r e9))
    (hp : Rd w (some ⟨bb, oo, none⟩) m ps) (hL : Rd w (some a2) k L) (hu : Rd w (some a3) r us) (hus : us = ps.drop (i + 1)) (hi : i < m) (hr : r = m - (i + 1)) (hm : m ≤ 64) (hk : k ≤ 64) :
    Calls Try.prog 74 #[.slice (some ⟨gS, 0, none⟩) 3 3] w fun e w' => ∃ A' c', e = .returned (.slice A' (m + k) c') ∧ OwnI 3 w' w.heap.size A' (m + k) c' (ps.take (i + 1) ++ L ++ ps.drop (i + 1)) ∧ Below w.heap.size w w' := by
  have h := concat3_any gS ⟨bb, oo, none⟩ a2 a3 (i + 1) c2 k c7 r e9 (ps.take (i + 1)) L us w hg s0 s1 s2 (hp.take (by omega)) hL hu (by omega) (by omega)
  rw [show i + 1 + k + r = m + k by omega, hus] at h
  exact h

set_option maxRecDepth 100000 in
set_option maxHeartbeats 4000000 in
theorem joined_any (i j : Nat) (back : Bool) (A2 : Option Addr) (m c2 : Nat) (ps : List Int) (A3 : Option Addr) (k c3 : Nat) (qs : List Int) (w : World) (hp : Rd w A2 m ps) (hcap : m ≤ c2) (hq : Rd w A3 k qs) (hcapq : k ≤ c3) (hi : i < m) (hj : j < k) (hm : m ≤ 64) (hk : 2 ≤ k ∧ k ≤ 64) :
    Calls Try.prog 69 #[.agg #[.int .i64 (i : Int), .int .i64 (j : Int), .int .i64 (if back then -1 else 1)], .slice A2 m c2, .slice A3 k c3] w fun e w' => ∃ A' c', e = .returned (.slice A' (m + k) c') ∧ OwnI 3 w' w.heap.size A' (m + k) c' (joinedL ps qs (i, j, back)) ∧ Below w.heap.size w w' := by
  obtain ⟨bb, oo, xp, rfl, -, -, -⟩ := hp.at_ hi
  obtain ⟨b2, o2, xq, rfl, -, -, -⟩ := hq.at_ hj
  obtain ⟨hk2, hk64⟩ := hk
  cases back with
  | false =>
    obtain ⟨W2, hW2⟩ : ∃ W2, W2 = w.alloc (.cells #[.int .i64 (i : Int), .int .i64 (j : Int), .int .i64 (1)] 61) := ⟨_, rfl⟩
    have j0 : W2.cell? ⟨w.heap.size, 0, none⟩ = some (.int .i64 (i : Int)) := by rw [hW2]; go_simp
    have j1 : W2.cell? ⟨w.heap.size, 1, none⟩ = some (.int .i64 (j : Int)) := by rw [hW2]; go_simp
    have j2 : W2.cell? ⟨w.heap.size, 2, none⟩ = some (.int .i64 (1)) := by rw [hW2]; go_simp
    have jl : w.heap.size < W2.heap.size := by rw [hW2]; simp
    have B := Lib.hid (show Below w.heap.size w W2 by rw [hW2]; exact below_new (Below.refl _ _) _)
    have RP := Lib.hid (hp.keep B.out); have RQ := Lib.hid (hq.keep B.out)
    have HPL := Lib.hid hp.1; have HQL := Lib.hid hq.1
    have HP0 := Lib.hid hp
    have HJL := Lib.hid jl
    clear hp hq
    have hjc : (j : Int) ≤ (c3 : Int) := by omega
    have hjk : (j : Int) ≤ (k : Int) := by omega
    have hkc : (k : Int) ≤ (c3 : Int) := by omega
    have hj0 : (0 : Int) ≤ (j : Int) := by omega
    have hcj : ¬ c3 = j := by omega
    go_enter Try.func69, Try.ntmps69
    go_wp2_with fail
    rw [← hW2]
    clear hW2
    refine wp_region_held_drew (S := fun w' => w'.cell? ⟨w.heap.size, 1, none⟩ = some (.int .i64 (j : Int))) (by kernel_rfl) ?_ (fun hHeld => ?_)
    · (try dsimp only)
      first | exact j1 | go_simp
    refine wpAnyH_take (i := 0) (oi := ⟨_, _, _, _, _, _⟩) (v := ?_) rfl (by kernel_rfl) (by kernel_rfl) (by kernel_rfl) (fun _ _ _ h => h) (Or.inl ⟨by rfl, ?_⟩) (by assumption) ?_
    rotate_left
    · intro w hSw
      (try dsimp only at hSw)
      go_simp
      (try with_reducible rfl)
    (try simp only [Act.put, List.setIfInBounds_toArray, List.set_cons_zero, List.set_cons_succ])
    refine wpAnyH_take (i := 1) (oi := ⟨_, _, _, _, _, _⟩) (v := ?_) rfl (by kernel_rfl) (by kernel_rfl) (by kernel_rfl) (fun _ _ _ h => h) (Or.inl ⟨by rfl, ?_⟩) (by assumption) ?_
    rotate_left
    · intro w hSw
      (try dsimp only at hSw)
      go_simp
      (try with_reducible rfl)
    (try simp only [Act.put, List.setIfInBounds_toArray, List.set_cons_zero, List.set_cons_succ])
    refine wpAnyH_take (i := 2) (oi := ⟨_, _, _, _, _, _⟩) (v := ?_) rfl (by kernel_rfl) (by kernel_rfl) (by kernel_rfl) (fun _ _ _ h => h) (Or.inl ⟨by rfl, ?_⟩) (by assumption) ?_
    rotate_left
    · intro w hSw
      (try dsimp only at hSw)
      go_simp
      (try with_reducible rfl)
    (try simp only [Act.put, List.setIfInBounds_toArray, List.set_cons_zero, List.set_cons_succ])
    refine wpAnyH_take (i := 3) (oi := ⟨_, _, _, _, _, _⟩) (v := ?_) rfl (by kernel_rfl) (by kernel_rfl) (by kernel_rfl) (fun _ _ _ h => h) (Or.inl ⟨by rfl, ?_⟩) (by assumption) ?_
    rotate_left
    · intro w hSw
      (try dsimp only at hSw)
      go_simp
      (try with_reducible rfl)
    (try simp only [Act.put, List.setIfInBounds_toArray, List.set_cons_zero, List.set_cons_succ])
    refine wpAnyH_take (i := 4) (oi := ⟨_, _, _, _, _, _⟩) (v := ?_) rfl (by kernel_rfl) (by kernel_rfl) (by kernel_rfl) (fun _ _ _ h => h) (Or.inl ⟨by rfl, ?_⟩) (by assumption) ?_
    rotate_left
    · intro w hSw
      (try dsimp only at hSw)
      go_simp
      (try with_reducible rfl)
    (try simp only [Act.put, List.setIfInBounds_toArray, List.set_cons_zero, List.set_cons_succ])
    refine wpAnyH_take (i := 5) (oi := ⟨_, _, _, _, _, _⟩) (v := ?_) rfl (by kernel_rfl) (by kernel_rfl) (by kernel_rfl) (fun _ _ _ h => h) (Or.inl ⟨by rfl, ?_⟩) (by assumption) ?_
    rotate_left
    · intro w hSw
      (try dsimp only at hSw)
      go_simp
      (try with_reducible rfl)
    (try simp only [Act.put, List.setIfInBounds_toArray, List.set_cons_zero, List.set_cons_succ])
    refine wpAnyH_take (i := 6) (oi := ⟨_, _, _, _, _, _⟩) (v := ?_) rfl (by kernel_rfl) (by kernel_rfl) (by kernel_rfl) (fun _ _ _ h => h) (Or.inl ⟨by rfl, ?_⟩) (by assumption) ?_
    rotate_left
    · intro w hSw
      (try dsimp only at hSw)
      go_simp
      (try with_reducible rfl)
    (try simp only [Act.put, List.setIfInBounds_toArray, List.set_cons_zero, List.set_cons_succ])
    refine wpAnyH_take (i := 7) (oi := ⟨_, _, _, _, _, _⟩) (v := ?_) rfl (by kernel_rfl) (by kernel_rfl) (by kernel_rfl) (fun _ _ _ h => h) (Or.inl ⟨by rfl, ?_⟩) (by assumption) ?_
    rotate_left
    · intro w hSw
      (try dsimp only at hSw)
      go_simp
      (try with_reducible rfl)
    (try simp only [Act.put, List.setIfInBounds_toArray, List.set_cons_zero, List.set_cons_succ])
    refine wpAnyH_ready (rs := [8]) (by kernel_rfl) (by simp) ?_
    refine AllReadyH.cons (o := ⟨_, _, _, _, _, _⟩) rfl (fun K hK => ?_) AllReadyH.nil
    go_simp
    skip
    (try go_wp2_with fail)
    refine hK.out _ _ ?_ (fun hHeld => ?_)
    · (try dsimp only)
      first | exact j1 | go_simp
    clear hK K
    (try simp only [Act.put, List.setIfInBounds_toArray, List.set_cons_zero, List.set_cons_succ])
    refine wpAnyH_ready (rs := [9]) (by kernel_rfl) (by simp) ?_
    refine AllReadyH.cons (o := ⟨_, _, _, _, _, _⟩) rfl (fun K hK => ?_) AllReadyH.nil
    go_simp
    (go_at_call 74; refine (concatRound_any _ b2 o2 k c3 j qs _ ?_ ?_ ?_ ?_ ?_ ?_).mono ?_; (first | simp | (simp; omega)); (first | go_simp | simp); (first | go_simp | simp); (first | exact RQ.out.alloc _ | exact Rd.drew1 (RQ.out.alloc _) | exact RQ.out.drew1.alloc _ | exact (RQ.out.drewN _).alloc _ | exact (RQ.out.drew1.alloc _).drew1 | exact ((RQ.out.drewN _).alloc _).drewN _); (omega); (omega); rintro e wx ⟨A7, c7, rfl, own, hb⟩; (repeat (first | replace hb := below_undrew hb | replace hb := below_undrewN hb)); replace hb := below_box hb; (repeat (first | replace hb := below_undrew hb | replace hb := below_undrewN hb)); have O7 := Lib.hid (own.lower (show W2.heap.size ≤ _ by simp)); replace j0 := cell_keep j0 jl hb; replace j1 := cell_keep j1 jl hb; replace j2 := cell_keep j2 jl hb; replace jl := lt_keep jl hb; replace RP := Lib.hid (RP.out.keep hb); replace B := Lib.hid (below_next B.out hb); clear own hb)
    (try go_wp2_with fail)
    refine hK.out _ _ ?_ (fun hHeld => ?_)
    · (try dsimp only)
      first | exact j1 | go_simp
    clear hK K
    (try simp only [Act.put, List.setIfInBounds_toArray, List.set_cons_zero, List.set_cons_succ])
    refine wpAnyH_take (i := 10) (oi := ⟨_, _, _, _, _, _⟩) (v := ?_) rfl (by kernel_rfl) (by kernel_rfl) (by kernel_rfl) (fun _ _ _ h => h) (Or.inl ⟨by rfl, ?_⟩) (by assumption) ?_
    rotate_left
    · intro w hSw
      (try dsimp only at hSw)
      go_simp
      (try with_reducible rfl)
    (try simp only [Act.put, List.setIfInBounds_toArray, List.set_cons_zero, List.set_cons_succ])
    refine wpAnyH_done (by kernel_rfl) ?_ _
    obtain ⟨g, rfl, hg1, hg2⟩ := O7.out.some_ (k := 0) (by omega)
    have OII := Lib.hid (show OwnI 3 wx w.heap.size (some ⟨g, 0, none⟩) k c7 (innerL qs j false) from OwnI.lower O7.out (Nat.le_of_lt HJL.out))
    clear O7 RQ j1
    obtain ⟨L, hL⟩ : ∃ L, L = innerL qs j false := ⟨_, rfl⟩
    have OI := Lib.hid (show OwnI 3 _ w.heap.size (some ⟨g, 0, none⟩) k c7 L by rw [hL]; exact OII.out)
    have HLL := Lib.hid hL
    clear hL OII
    have hi1c : (i : Int) + 1 ≤ (c2 : Int) := by omega
    have hi1m : (i : Int) + 1 ≤ (m : Int) := by omega
    have hi0 : (0 : Int) ≤ (i : Int) + 1 := by omega
    have hmc : (m : Int) ≤ (c2 : Int) := by omega
    have hwi : IntKind.i64.wrap ((i : Int) + 1) = (i : Int) + 1 := IntWalk.i64_in _ (by omega)
    have hti : ((i : Int) + 1).toNat = i + 1 := by omega
    by_cases hcc : c2 = i + 1
    · have hmi : m = i + 1 := by omega
      subst hmi
      subst hcc
      have HD0 := Lib.hid (show ps.drop (i + 1) = [] from List.drop_of_length_le (by rw [HPL.out]; omega))
      go_wp2_with fail
      refine wp_region_held_drew (S := fun w' => w'.cell? ⟨w.heap.size, 0, none⟩ = some (.int .i64 (i : Int))) (by kernel_rfl) ?_ (fun hHeld => ?_)
      · (try dsimp only)
        first | exact j0 | go_simp
      refine wpAnyH_take (i := 0) (oi := ⟨_, _, _, _, _, _⟩) (v := ?_) rfl (by kernel_rfl) (by kernel_rfl) (by kernel_rfl) (fun _ _ _ h => h) (Or.inl ⟨by rfl, ?_⟩) (by assumption) ?_
      rotate_left
      · intro w hSw
        (try dsimp only at hSw)
        go_simp
        (try with_reducible rfl)
      (try simp only [Act.put, List.setIfInBounds_toArray, List.set_cons_zero, List.set_cons_succ])
      refine wpAnyH_take (i := 1) (oi := ⟨_, _, _, _, _, _⟩) (v := ?_) rfl (by kernel_rfl) (by kernel_rfl) (by kernel_rfl) (fun _ _ _ h => h) (Or.inl ⟨by rfl, ?_⟩) (by assumption) ?_
      rotate_left
      · intro w hSw
        (try dsimp only at hSw)
        go_simp
        (try with_reducible rfl)
      (try simp only [Act.put, List.setIfInBounds_toArray, List.set_cons_zero, List.set_cons_succ])
      refine wpAnyH_take (i := 2) (oi := ⟨_, _, _, _, _, _⟩) (v := ?_) rfl (by kernel_rfl) (by kernel_rfl) (by kernel_rfl) (fun _ _ _ h => h) (Or.inl ⟨by rfl, ?_⟩) (by assumption) ?_
      rotate_left
      · intro w hSw
        (try dsimp only at hSw)
        go_simp
        (try with_reducible rfl)
      (try simp only [Act.put, List.setIfInBounds_toArray, List.set_cons_zero, List.set_cons_succ])
      refine wpAnyH_take (i := 3) (oi := ⟨_, _, _, _, _, _⟩) (v := ?_) rfl (by kernel_rfl) (by kernel_rfl) (by kernel_rfl) (fun _ _ _ h => h) (Or.inl ⟨by rfl, ?_⟩) (by assumption) ?_
      rotate_left
      · intro w hSw
        (try dsimp only at hSw)
        go_simp
        (try with_reducible rfl)
      (try simp only [Act.put, List.setIfInBounds_toArray, List.set_cons_zero, List.set_cons_succ])
      refine wpAnyH_take (i := 4) (oi := ⟨_, _, _, _, _, _⟩) (v := ?_) rfl (by kernel_rfl) (by kernel_rfl) (by kernel_rfl) (fun _ _ _ h => h) (Or.inl ⟨by rfl, ?_⟩) (by assumption) ?_
      rotate_left
      · intro w hSw
        (try dsimp only at hSw)
        go_simp
        (try with_reducible rfl)
      (try simp only [Act.put, List.setIfInBounds_toArray, List.set_cons_zero, List.set_cons_succ])
      refine wpAnyH_take (i := 5) (oi := ⟨_, _, _, _, _, _⟩) (v := ?_) rfl (by kernel_rfl) (by kernel_rfl) (by kernel_rfl) (fun _ _ _ h => h) (Or.inl ⟨by rfl, ?_⟩) (by assumption) ?_
      rotate_left
      · intro w hSw
        (try dsimp only at hSw)
        go_simp
        (try with_reducible rfl)
      (try simp only [Act.put, List.setIfInBounds_toArray, List.set_cons_zero, List.set_cons_succ])
      refine wpAnyH_take (i := 6) (oi := ⟨_, _, _, _, _, _⟩) (v := ?_) rfl (by kernel_rfl) (by kernel_rfl) (by kernel_rfl) (fun _ _ _ h => h) (Or.inl ⟨by rfl, ?_⟩) (by assumption) ?_
      rotate_left
      · intro w hSw
        (try dsimp only at hSw)
        go_simp
        (try with_reducible rfl)
      (try simp only [Act.put, List.setIfInBounds_toArray, List.set_cons_zero, List.set_cons_succ])
      refine wpAnyH_take (i := 7) (oi := ⟨_, _, _, _, _, _⟩) (v := ?_) rfl (by kernel_rfl) (by kernel_rfl) (by kernel_rfl) (fun _ _ _ h => h) (Or.inl ⟨by rfl, ?_⟩) (by assumption) ?_
      rotate_left
      · intro w hSw
        (try dsimp only at hSw)
        go_simp
        (try with_reducible rfl)
      (try simp only [Act.put, List.setIfInBounds_toArray, List.set_cons_zero, List.set_cons_succ])
      refine wpAnyH_take (i := 8) (oi := ⟨_, _, _, _, _, _⟩) (v := ?_) rfl (by kernel_rfl) (by kernel_rfl) (by kernel_rfl) (fun _ _ _ h => h) (Or.inl ⟨by rfl, ?_⟩) (by assumption) ?_
      rotate_left
      · intro w hSw
        (try dsimp only at hSw)
        go_simp
        (try with_reducible rfl)
      (try simp only [Act.put, List.setIfInBounds_toArray, List.set_cons_zero, List.set_cons_succ])
      refine wpAnyH_take (i := 9) (oi := ⟨_, _, _, _, _, _⟩) (v := ?_) rfl (by kernel_rfl) (by kernel_rfl) (by kernel_rfl) (fun _ _ _ h => h) (Or.inl ⟨by rfl, ?_⟩) (by assumption) ?_
      rotate_left
      · intro w hSw
        (try dsimp only at hSw)
        go_simp
        (try with_reducible rfl)
      (try simp only [Act.put, List.setIfInBounds_toArray, List.set_cons_zero, List.set_cons_succ])
      refine wpAnyH_take (i := 10) (oi := ⟨_, _, _, _, _, _⟩) (v := ?_) rfl (by kernel_rfl) (by kernel_rfl) (by kernel_rfl) (fun _ _ _ h => h) (Or.inl ⟨by rfl, ?_⟩) (by assumption) ?_
      rotate_left
      · intro w hSw
        (try dsimp only at hSw)
        go_simp
        (try with_reducible rfl)
      (try simp only [Act.put, List.setIfInBounds_toArray, List.set_cons_zero, List.set_cons_succ])
      refine wpAnyH_ready (rs := [11]) (by kernel_rfl) (by simp) ?_
      refine AllReadyH.cons (o := ⟨_, _, _, _, _, _⟩) rfl (fun K hK => ?_) AllReadyH.nil
      go_simp
      skip
      (try go_wp2_with fail)
      refine hK.out _ _ ?_ (fun hHeld => ?_)
      · (try dsimp only)
        first | exact j0 | go_simp
      clear hK K
      (try simp only [Act.put, List.setIfInBounds_toArray, List.set_cons_zero, List.set_cons_succ])
      refine wpAnyH_ready (rs := [12]) (by kernel_rfl) (by simp) ?_
      refine AllReadyH.cons (o := ⟨_, _, _, _, _, _⟩) rfl (fun K hK => ?_) AllReadyH.nil
      go_simp
      (go_at_call 74; refine (concatJoin_any _ bb oo (i + 1) (i + 1) i ⟨g, 0, none⟩ ⟨bb, oo, none⟩ k c7 0 0 ps L [] _ ?_ ?_ ?_ ?_ ?_ ?_ ?_ ?_ ?_ ?_ ?_ ?_).mono ?_; (first | simp | (simp; omega)); (first | go_simp | simp); (first | go_simp | simp); (first | go_simp | simp); (first | exact RP.out.alloc _ | exact Rd.drew1 (RP.out.alloc _) | exact RP.out.drew1.alloc _ | exact (RP.out.drewN _).alloc _ | exact (RP.out.drew1.alloc _).drew1 | exact ((RP.out.drewN _).alloc _).drewN _); (first | exact OI.out.rd.alloc _ | exact Rd.drew1 (OI.out.rd.alloc _) | exact OI.out.rd.drew1.alloc _ | exact (OI.out.rd.drewN _).alloc _ | exact (OI.out.rd.drew1.alloc _).drew1 | exact ((OI.out.rd.drewN _).alloc _).drewN _); (exact Rd.nil _ _); (exact HD0.out.symm); (exact hi); (omega); (omega); (omega); rintro e wx ⟨A8, c8, rfl, own, hb⟩; (repeat (first | replace hb := below_undrew hb | replace hb := below_undrewN hb)); replace hb := below_box hb; (repeat (first | replace hb := below_undrew hb | replace hb := below_undrewN hb)); have O8 := Lib.hid (own.lower (show w.heap.size ≤ _ by have := B.out.size; simp; omega)); replace j0 := cell_keep j0 jl hb; replace jl := lt_keep jl hb; replace B := Lib.hid (below_next B.out hb); clear own hb)
      (try go_wp2_with fail)
      refine hK.out _ _ ?_ (fun hHeld => ?_)
      · (try dsimp only)
        first | exact j0 | go_simp
      clear hK K
      (try simp only [Act.put, List.setIfInBounds_toArray, List.set_cons_zero, List.set_cons_succ])
      refine wpAnyH_take (i := 13) (oi := ⟨_, _, _, _, _, _⟩) (v := ?_) rfl (by kernel_rfl) (by kernel_rfl) (by kernel_rfl) (fun _ _ _ h => h) (Or.inl ⟨by rfl, ?_⟩) (by assumption) ?_
      rotate_left
      · intro w hSw
        (try dsimp only at hSw)
        go_simp
        (try with_reducible rfl)
      (try simp only [Act.put, List.setIfInBounds_toArray, List.set_cons_zero, List.set_cons_succ])
      refine wpAnyH_done (by kernel_rfl) ?_ _
      go_wp2
      go_ret
      exact ⟨_, _, rfl, by rw [show joinedL ps qs (i, j, false) = ps.take (i + 1) ++ L ++ ps.drop (i + 1) by rw [HLL.out]; rfl]; exact O8.out, B.out⟩
    · have RD := Lib.hid (RP.out.drop (show i + 1 ≤ m by omega))
      go_wp2_with fail
      refine wp_region_held_drew (S := fun w' => w'.cell? ⟨w.heap.size, 0, none⟩ = some (.int .i64 (i : Int))) (by kernel_rfl) ?_ (fun hHeld => ?_)
      · (try dsimp only)
        first | exact j0 | go_simp
      refine wpAnyH_take (i := 0) (oi := ⟨_, _, _, _, _, _⟩) (v := ?_) rfl (by kernel_rfl) (by kernel_rfl) (by kernel_rfl) (fun _ _ _ h => h) (Or.inl ⟨by rfl, ?_⟩) (by assumption) ?_
      rotate_left
      · intro w hSw
        (try dsimp only at hSw)
        go_simp
        (try with_reducible rfl)
      (try simp only [Act.put, List.setIfInBounds_toArray, List.set_cons_zero, List.set_cons_succ])
      refine wpAnyH_take (i := 1) (oi := ⟨_, _, _, _, _, _⟩) (v := ?_) rfl (by kernel_rfl) (by kernel_rfl) (by kernel_rfl) (fun _ _ _ h => h) (Or.inl ⟨by rfl, ?_⟩) (by assumption) ?_
      rotate_left
      · intro w hSw
        (try dsimp only at hSw)
        go_simp
        (try with_reducible rfl)
      (try simp only [Act.put, List.setIfInBounds_toArray, List.set_cons_zero, List.set_cons_succ])
      refine wpAnyH_take (i := 2) (oi := ⟨_, _, _, _, _, _⟩) (v := ?_) rfl (by kernel_rfl) (by kernel_rfl) (by kernel_rfl) (fun _ _ _ h => h) (Or.inl ⟨by rfl, ?_⟩) (by assumption) ?_
      rotate_left
      · intro w hSw
        (try dsimp only at hSw)
        go_simp
        (try with_reducible rfl)
      (try simp only [Act.put, List.setIfInBounds_toArray, List.set_cons_zero, List.set_cons_succ])
      refine wpAnyH_take (i := 3) (oi := ⟨_, _, _, _, _, _⟩) (v := ?_) rfl (by kernel_rfl) (by kernel_rfl) (by kernel_rfl) (fun _ _ _ h => h) (Or.inl ⟨by rfl, ?_⟩) (by assumption) ?_
      rotate_left
      · intro w hSw
        (try dsimp only at hSw)
        go_simp
        (try with_reducible rfl)
      (try simp only [Act.put, List.setIfInBounds_toArray, List.set_cons_zero, List.set_cons_succ])
      refine wpAnyH_take (i := 4) (oi := ⟨_, _, _, _, _, _⟩) (v := ?_) rfl (by kernel_rfl) (by kernel_rfl) (by kernel_rfl) (fun _ _ _ h => h) (Or.inl ⟨by rfl, ?_⟩) (by assumption) ?_
      rotate_left
      · intro w hSw
        (try dsimp only at hSw)
        go_simp
        (try with_reducible rfl)
      (try simp only [Act.put, List.setIfInBounds_toArray, List.set_cons_zero, List.set_cons_succ])
      refine wpAnyH_take (i := 5) (oi := ⟨_, _, _, _, _, _⟩) (v := ?_) rfl (by kernel_rfl) (by kernel_rfl) (by kernel_rfl) (fun _ _ _ h => h) (Or.inl ⟨by rfl, ?_⟩) (by assumption) ?_
      rotate_left
      · intro w hSw
        (try dsimp only at hSw)
        go_simp
        (try with_reducible rfl)
      (try simp only [Act.put, List.setIfInBounds_toArray, List.set_cons_zero, List.set_cons_succ])
      refine wpAnyH_take (i := 6) (oi := ⟨_, _, _, _, _, _⟩) (v := ?_) rfl (by kernel_rfl) (by kernel_rfl) (by kernel_rfl) (fun _ _ _ h => h) (Or.inl ⟨by rfl, ?_⟩) (by assumption) ?_
      rotate_left
      · intro w hSw
        (try dsimp only at hSw)
        go_simp
        (try with_reducible rfl)
      (try simp only [Act.put, List.setIfInBounds_toArray, List.set_cons_zero, List.set_cons_succ])
      refine wpAnyH_take (i := 7) (oi := ⟨_, _, _, _, _, _⟩) (v := ?_) rfl (by kernel_rfl) (by kernel_rfl) (by kernel_rfl) (fun _ _ _ h => h) (Or.inl ⟨by rfl, ?_⟩) (by assumption) ?_
      rotate_left
      · intro w hSw
        (try dsimp only at hSw)
        go_simp
        (try with_reducible rfl)
      (try simp only [Act.put, List.setIfInBounds_toArray, List.set_cons_zero, List.set_cons_succ])
      refine wpAnyH_take (i := 8) (oi := ⟨_, _, _, _, _, _⟩) (v := ?_) rfl (by kernel_rfl) (by kernel_rfl) (by kernel_rfl) (fun _ _ _ h => h) (Or.inl ⟨by rfl, ?_⟩) (by assumption) ?_
      rotate_left
      · intro w hSw
        (try dsimp only at hSw)
        go_simp
        (try with_reducible rfl)
      (try simp only [Act.put, List.setIfInBounds_toArray, List.set_cons_zero, List.set_cons_succ])
      refine wpAnyH_take (i := 9) (oi := ⟨_, _, _, _, _, _⟩) (v := ?_) rfl (by kernel_rfl) (by kernel_rfl) (by kernel_rfl) (fun _ _ _ h => h) (Or.inl ⟨by rfl, ?_⟩) (by assumption) ?_
      rotate_left
      · intro w hSw
        (try dsimp only at hSw)
        go_simp
        (try with_reducible rfl)
      (try simp only [Act.put, List.setIfInBounds_toArray, List.set_cons_zero, List.set_cons_succ])
      refine wpAnyH_take (i := 10) (oi := ⟨_, _, _, _, _, _⟩) (v := ?_) rfl (by kernel_rfl) (by kernel_rfl) (by kernel_rfl) (fun _ _ _ h => h) (Or.inl ⟨by rfl, ?_⟩) (by assumption) ?_
      rotate_left
      · intro w hSw
        (try dsimp only at hSw)
        go_simp
        (try with_reducible rfl)
      (try simp only [Act.put, List.setIfInBounds_toArray, List.set_cons_zero, List.set_cons_succ])
      refine wpAnyH_ready (rs := [11]) (by kernel_rfl) (by simp) ?_
      refine AllReadyH.cons (o := ⟨_, _, _, _, _, _⟩) rfl (fun K hK => ?_) AllReadyH.nil
      go_simp
      skip
      (try go_wp2_with fail)
      refine hK.out _ _ ?_ (fun hHeld => ?_)
      · (try dsimp only)
        first | exact j0 | go_simp
      clear hK K
      (try simp only [Act.put, List.setIfInBounds_toArray, List.set_cons_zero, List.set_cons_succ])
      refine wpAnyH_ready (rs := [12]) (by kernel_rfl) (by simp) ?_
      refine AllReadyH.cons (o := ⟨_, _, _, _, _, _⟩) rfl (fun K hK => ?_) AllReadyH.nil
      go_simp
      (go_at_call 74; refine (concatJoin_any _ bb oo m c2 i ⟨g, 0, none⟩ ⟨bb, oo + (i + 1), none⟩ k c7 (m - (i + 1)) (c2 - (i + 1)) ps L (ps.drop (i + 1)) _ ?_ ?_ ?_ ?_ ?_ ?_ ?_ ?_ ?_ ?_ ?_ ?_).mono ?_; (first | simp | (simp; omega)); (first | go_simp | simp); (first | go_simp | simp); (first | go_simp | simp); (first | exact RP.out.alloc _ | exact Rd.drew1 (RP.out.alloc _) | exact RP.out.drew1.alloc _ | exact (RP.out.drewN _).alloc _ | exact (RP.out.drew1.alloc _).drew1 | exact ((RP.out.drewN _).alloc _).drewN _); (first | exact OI.out.rd.alloc _ | exact Rd.drew1 (OI.out.rd.alloc _) | exact OI.out.rd.drew1.alloc _ | exact (OI.out.rd.drewN _).alloc _ | exact (OI.out.rd.drew1.alloc _).drew1 | exact ((OI.out.rd.drewN _).alloc _).drewN _); (first | exact RD.out.alloc _ | exact Rd.drew1 (RD.out.alloc _) | exact RD.out.drew1.alloc _ | exact (RD.out.drewN _).alloc _ | exact (RD.out.drew1.alloc _).drew1 | exact ((RD.out.drewN _).alloc _).drewN _); (rfl); (exact hi); (omega); (omega); (omega); rintro e wx ⟨A8, c8, rfl, own, hb⟩; (repeat (first | replace hb := below_undrew hb | replace hb := below_undrewN hb)); replace hb := below_box hb; (repeat (first | replace hb := below_undrew hb | replace hb := below_undrewN hb)); have O8 := Lib.hid (own.lower (show w.heap.size ≤ _ by have := B.out.size; simp; omega)); replace j0 := cell_keep j0 jl hb; replace jl := lt_keep jl hb; replace B := Lib.hid (below_next B.out hb); clear own hb)
      (try go_wp2_with fail)
      refine hK.out _ _ ?_ (fun hHeld => ?_)
      · (try dsimp only)
        first | exact j0 | go_simp
      clear hK K
      (try simp only [Act.put, List.setIfInBounds_toArray, List.set_cons_zero, List.set_cons_succ])
      refine wpAnyH_take (i := 13) (oi := ⟨_, _, _, _, _, _⟩) (v := ?_) rfl (by kernel_rfl) (by kernel_rfl) (by kernel_rfl) (fun _ _ _ h => h) (Or.inl ⟨by rfl, ?_⟩) (by assumption) ?_
      rotate_left
      · intro w hSw
        (try dsimp only at hSw)
        go_simp
        (try with_reducible rfl)
      (try simp only [Act.put, List.setIfInBounds_toArray, List.set_cons_zero, List.set_cons_succ])
      refine wpAnyH_done (by kernel_rfl) ?_ _
      go_wp2
      go_ret
      exact ⟨_, _, rfl, by rw [show joinedL ps qs (i, j, false) = ps.take (i + 1) ++ L ++ ps.drop (i + 1) by rw [HLL.out]; rfl]; exact O8.out, B.out⟩
  | true =>
    obtain ⟨W2, hW2⟩ : ∃ W2, W2 = w.alloc (.cells #[.int .i64 (i : Int), .int .i64 (j : Int), .int .i64 (-1)] 61) := ⟨_, rfl⟩
    have j0 : W2.cell? ⟨w.heap.size, 0, none⟩ = some (.int .i64 (i : Int)) := by rw [hW2]; go_simp
    have j1 : W2.cell? ⟨w.heap.size, 1, none⟩ = some (.int .i64 (j : Int)) := by rw [hW2]; go_simp
    have j2 : W2.cell? ⟨w.heap.size, 2, none⟩ = some (.int .i64 (-1)) := by rw [hW2]; go_simp
    have jl : w.heap.size < W2.heap.size := by rw [hW2]; simp
    have B := Lib.hid (show Below w.heap.size w W2 by rw [hW2]; exact below_new (Below.refl _ _) _)
    have RP := Lib.hid (hp.keep B.out); have RQ := Lib.hid (hq.keep B.out)
    have HPL := Lib.hid hp.1; have HQL := Lib.hid hq.1
    have HP0 := Lib.hid hp
    have HJL := Lib.hid jl
    clear hp hq
    have hjc : (j : Int) ≤ (c3 : Int) := by omega
    have hjk : (j : Int) ≤ (k : Int) := by omega
    have hkc : (k : Int) ≤ (c3 : Int) := by omega
    have hj0 : (0 : Int) ≤ (j : Int) := by omega
    have hcj : ¬ c3 = j := by omega
    go_enter Try.func69, Try.ntmps69
    go_wp2_with fail
    rw [← hW2]
    clear hW2
    refine wp_region_held_drew (S := fun w' => w'.cell? ⟨w.heap.size, 1, none⟩ = some (.int .i64 (j : Int))) (by kernel_rfl) ?_ (fun hHeld => ?_)
    · (try dsimp only)
      first | exact j1 | go_simp
    refine wpAnyH_take (i := 0) (oi := ⟨_, _, _, _, _, _⟩) (v := ?_) rfl (by kernel_rfl) (by kernel_rfl) (by kernel_rfl) (fun _ _ _ h => h) (Or.inl ⟨by rfl, ?_⟩) (by assumption) ?_
    rotate_left
    · intro w hSw
      (try dsimp only at hSw)
      go_simp
      (try with_reducible rfl)
    (try simp only [Act.put, List.setIfInBounds_toArray, List.set_cons_zero, List.set_cons_succ])
    refine wpAnyH_take (i := 1) (oi := ⟨_, _, _, _, _, _⟩) (v := ?_) rfl (by kernel_rfl) (by kernel_rfl) (by kernel_rfl) (fun _ _ _ h => h) (Or.inl ⟨by rfl, ?_⟩) (by assumption) ?_
    rotate_left
    · intro w hSw
      (try dsimp only at hSw)
      go_simp
      (try with_reducible rfl)
    (try simp only [Act.put, List.setIfInBounds_toArray, List.set_cons_zero, List.set_cons_succ])
    refine wpAnyH_take (i := 2) (oi := ⟨_, _, _, _, _, _⟩) (v := ?_) rfl (by kernel_rfl) (by kernel_rfl) (by kernel_rfl) (fun _ _ _ h => h) (Or.inl ⟨by rfl, ?_⟩) (by assumption) ?_
    rotate_left
    · intro w hSw
      (try dsimp only at hSw)
      go_simp
      (try with_reducible rfl)
    (try simp only [Act.put, List.setIfInBounds_toArray, List.set_cons_zero, List.set_cons_succ])
    refine wpAnyH_take (i := 3) (oi := ⟨_, _, _, _, _, _⟩) (v := ?_) rfl (by kernel_rfl) (by kernel_rfl) (by kernel_rfl) (fun _ _ _ h => h) (Or.inl ⟨by rfl, ?_⟩) (by assumption) ?_
    rotate_left
    · intro w hSw
      (try dsimp only at hSw)
      go_simp
      (try with_reducible rfl)
    (try simp only [Act.put, List.setIfInBounds_toArray, List.set_cons_zero, List.set_cons_succ])
    refine wpAnyH_take (i := 4) (oi := ⟨_, _, _, _, _, _⟩) (v := ?_) rfl (by kernel_rfl) (by kernel_rfl) (by kernel_rfl) (fun _ _ _ h => h) (Or.inl ⟨by rfl, ?_⟩) (by assumption) ?_
    rotate_left
    · intro w hSw
      (try dsimp only at hSw)
      go_simp
      (try with_reducible rfl)
    (try simp only [Act.put, List.setIfInBounds_toArray, List.set_cons_zero, List.set_cons_succ])
    refine wpAnyH_take (i := 5) (oi := ⟨_, _, _, _, _, _⟩) (v := ?_) rfl (by kernel_rfl) (by kernel_rfl) (by kernel_rfl) (fun _ _ _ h => h) (Or.inl ⟨by rfl, ?_⟩) (by assumption) ?_
    rotate_left
    · intro w hSw
      (try dsimp only at hSw)
      go_simp
      (try with_reducible rfl)
    (try simp only [Act.put, List.setIfInBounds_toArray, List.set_cons_zero, List.set_cons_succ])
    refine wpAnyH_take (i := 6) (oi := ⟨_, _, _, _, _, _⟩) (v := ?_) rfl (by kernel_rfl) (by kernel_rfl) (by kernel_rfl) (fun _ _ _ h => h) (Or.inl ⟨by rfl, ?_⟩) (by assumption) ?_
    rotate_left
    · intro w hSw
      (try dsimp only at hSw)
      go_simp
      (try with_reducible rfl)
    (try simp only [Act.put, List.setIfInBounds_toArray, List.set_cons_zero, List.set_cons_succ])
    refine wpAnyH_take (i := 7) (oi := ⟨_, _, _, _, _, _⟩) (v := ?_) rfl (by kernel_rfl) (by kernel_rfl) (by kernel_rfl) (fun _ _ _ h => h) (Or.inl ⟨by rfl, ?_⟩) (by assumption) ?_
    rotate_left
    · intro w hSw
      (try dsimp only at hSw)
      go_simp
      (try with_reducible rfl)
    (try simp only [Act.put, List.setIfInBounds_toArray, List.set_cons_zero, List.set_cons_succ])
    refine wpAnyH_ready (rs := [8]) (by kernel_rfl) (by simp) ?_
    refine AllReadyH.cons (o := ⟨_, _, _, _, _, _⟩) rfl (fun K hK => ?_) AllReadyH.nil
    go_simp
    skip
    (try go_wp2_with fail)
    refine hK.out _ _ ?_ (fun hHeld => ?_)
    · (try dsimp only)
      first | exact j1 | go_simp
    clear hK K
    (try simp only [Act.put, List.setIfInBounds_toArray, List.set_cons_zero, List.set_cons_succ])
    refine wpAnyH_ready (rs := [9]) (by kernel_rfl) (by simp) ?_
    refine AllReadyH.cons (o := ⟨_, _, _, _, _, _⟩) rfl (fun K hK => ?_) AllReadyH.nil
    go_simp
    (go_at_call 74; refine (concatRound_any _ b2 o2 k c3 j qs _ ?_ ?_ ?_ ?_ ?_ ?_).mono ?_; (first | simp | (simp; omega)); (first | go_simp | simp); (first | go_simp | simp); (first | exact RQ.out.alloc _ | exact Rd.drew1 (RQ.out.alloc _) | exact RQ.out.drew1.alloc _ | exact (RQ.out.drewN _).alloc _ | exact (RQ.out.drew1.alloc _).drew1 | exact ((RQ.out.drewN _).alloc _).drewN _); (omega); (omega); rintro e wx ⟨A7, c7, rfl, own, hb⟩; (repeat (first | replace hb := below_undrew hb | replace hb := below_undrewN hb)); replace hb := below_box hb; (repeat (first | replace hb := below_undrew hb | replace hb := below_undrewN hb)); have O7 := Lib.hid (own.lower (show W2.heap.size ≤ _ by simp)); replace j0 := cell_keep j0 jl hb; replace j1 := cell_keep j1 jl hb; replace j2 := cell_keep j2 jl hb; replace jl := lt_keep jl hb; replace RP := Lib.hid (RP.out.keep hb); replace B := Lib.hid (below_next B.out hb); clear own hb)
    (try go_wp2_with fail)
    refine hK.out _ _ ?_ (fun hHeld => ?_)
    · (try dsimp only)
      first | exact j1 | go_simp
    clear hK K
    (try simp only [Act.put, List.setIfInBounds_toArray, List.set_cons_zero, List.set_cons_succ])
    refine wpAnyH_take (i := 10) (oi := ⟨_, _, _, _, _, _⟩) (v := ?_) rfl (by kernel_rfl) (by kernel_rfl) (by kernel_rfl) (fun _ _ _ h => h) (Or.inl ⟨by rfl, ?_⟩) (by assumption) ?_
    rotate_left
    · intro w hSw
      (try dsimp only at hSw)
      go_simp
      (try with_reducible rfl)
    (try simp only [Act.put, List.setIfInBounds_toArray, List.set_cons_zero, List.set_cons_succ])
    refine wpAnyH_done (by kernel_rfl) ?_ _
    obtain ⟨g, rfl, hg1, hg2⟩ := O7.out.some_ (k := 0) (by omega)
    have hkc1 : ¬ c7 = 1 := by have := O7.out.cap; omega
    have hc7k : (k : Int) ≤ (c7 : Int) := by have := O7.out.cap; omega
    have hk1 : (1 : Int) ≤ (k : Int) := by omega
    have hc71 : (1 : Int) ≤ (c7 : Int) := by omega
    have HRL := Lib.hid (show (roundL qs j).length = k by rw [round_len, HQL.out])
    have hlt0 : (-1 : Int) < 0 := by omega
    go_wp2_with fail
    (try simp only [Nat.zero_add])
    refine (Try.slices_Reverse_int_cells g 1 (k - 1) (c7 - 1) ((roundL qs j).drop 1) _ (by rw [List.length_drop]; have := HRL.out; omega) (by omega) (fun t ht => ?_) (fun t _ => O7.out.frozen _)).mono ?_
    · rw [List.length_drop] at ht
      have hx : (roundL qs j)[1 + t]? = some (roundL qs j)[1 + t] := List.getElem?_eq_getElem (by omega)
      rw [List.getD_eq_getElem?_getD, List.getElem?_drop, hx]
      exact O7.out.cell hx
    rintro e wz ⟨rfl, q, rfl⟩
    have hl9 : (((roundL qs j).drop 1).take (k - 1)).reverse = ((roundL qs j).drop 1).reverse := by rw [List.take_of_length_le (by rw [List.length_drop]; have := HRL.out; omega)]
    rw [hl9]
    obtain ⟨h2, g2⟩ := setAllZ ((roundL qs j).drop 1).reverse 1 (O7.out.drewN q) (by rw [List.length_reverse, List.length_drop]; have := HRL.out; omega)
    have e9 : (roundL qs j).drop (1 + ((roundL qs j).drop 1).reverse.length) = [] := List.drop_of_length_le (by rw [List.length_reverse, List.length_drop]; omega)
    rw [e9, List.append_nil] at h2
    obtain ⟨W9, hW9⟩ : ∃ W9, W9 = (wx.drewN q).setCells g 1 (((roundL qs j).drop 1).reverse.map (Value.int .i64)) := ⟨_, rfl⟩
    rw [← hW9] at h2 g2 ⊢
    have hgw : w.heap.size < g := by have := HJL.out; omega
    have OII := Lib.hid (show OwnI 3 W9 w.heap.size (some ⟨g, 0, none⟩) k c7 (innerL qs j true) from OwnI.lower h2 (Nat.le_of_lt HJL.out))
    replace j0 := g2.cell (show (wx.drewN q).cell? ⟨w.heap.size, 0, none⟩ = _ from j0) (by simp; omega)
    replace jl : w.heap.size < W9.heap.size := Nat.lt_of_lt_of_le jl g2.size
    replace B := Lib.hid ((below_drewN B.out q).grown g2 (show w.heap.size ≤ (wx.drewN q).heap.size from B.out.size) (fun g' h => by injection h with h; omega))
    replace RP := Lib.hid (HP0.out.keep B.out)
    clear hW9 h2 g2 e9 hl9 O7 hgw j1 j2 RQ
    obtain ⟨L, hL⟩ : ∃ L, L = innerL qs j true := ⟨_, rfl⟩
    have OI := Lib.hid (show OwnI 3 _ w.heap.size (some ⟨g, 0, none⟩) k c7 L by rw [hL]; exact OII.out)
    have HLL := Lib.hid hL
    clear hL OII
    have hi1c : (i : Int) + 1 ≤ (c2 : Int) := by omega
    have hi1m : (i : Int) + 1 ≤ (m : Int) := by omega
    have hi0 : (0 : Int) ≤ (i : Int) + 1 := by omega
    have hmc : (m : Int) ≤ (c2 : Int) := by omega
    have hwi : IntKind.i64.wrap ((i : Int) + 1) = (i : Int) + 1 := IntWalk.i64_in _ (by omega)
    have hti : ((i : Int) + 1).toNat = i + 1 := by omega
    by_cases hcc : c2 = i + 1
    · have hmi : m = i + 1 := by omega
      subst hmi
      subst hcc
      have HD0 := Lib.hid (show ps.drop (i + 1) = [] from List.drop_of_length_le (by rw [HPL.out]; omega))
      go_wp2_with fail
      refine wp_region_held_drew (S := fun w' => w'.cell? ⟨w.heap.size, 0, none⟩ = some (.int .i64 (i : Int))) (by kernel_rfl) ?_ (fun hHeld => ?_)
      · (try dsimp only)
        first | exact j0 | go_simp
      refine wpAnyH_take (i := 0) (oi := ⟨_, _, _, _, _, _⟩) (v := ?_) rfl (by kernel_rfl) (by kernel_rfl) (by kernel_rfl) (fun _ _ _ h => h) (Or.inl ⟨by rfl, ?_⟩) (by assumption) ?_
      rotate_left
      · intro w hSw
        (try dsimp only at hSw)
        go_simp
        (try with_reducible rfl)
      (try simp only [Act.put, List.setIfInBounds_toArray, List.set_cons_zero, List.set_cons_succ])
      refine wpAnyH_take (i := 1) (oi := ⟨_, _, _, _, _, _⟩) (v := ?_) rfl (by kernel_rfl) (by kernel_rfl) (by kernel_rfl) (fun _ _ _ h => h) (Or.inl ⟨by rfl, ?_⟩) (by assumption) ?_
      rotate_left
      · intro w hSw
        (try dsimp only at hSw)
        go_simp
        (try with_reducible rfl)
      (try simp only [Act.put, List.setIfInBounds_toArray, List.set_cons_zero, List.set_cons_succ])
      refine wpAnyH_take (i := 2) (oi := ⟨_, _, _, _, _, _⟩) (v := ?_) rfl (by kernel_rfl) (by kernel_rfl) (by kernel_rfl) (fun _ _ _ h => h) (Or.inl ⟨by rfl, ?_⟩) (by assumption) ?_
      rotate_left
      · intro w hSw
        (try dsimp only at hSw)
        go_simp
        (try with_reducible rfl)
      (try simp only [Act.put, List.setIfInBounds_toArray, List.set_cons_zero, List.set_cons_succ])
      refine wpAnyH_take (i := 3) (oi := ⟨_, _, _, _, _, _⟩) (v := ?_) rfl (by kernel_rfl) (by kernel_rfl) (by kernel_rfl) (fun _ _ _ h => h) (Or.inl ⟨by rfl, ?_⟩) (by assumption) ?_
      rotate_left
      · intro w hSw
        (try dsimp only at hSw)
        go_simp
        (try with_reducible rfl)
      (try simp only [Act.put, List.setIfInBounds_toArray, List.set_cons_zero, List.set_cons_succ])
      refine wpAnyH_take (i := 4) (oi := ⟨_, _, _, _, _, _⟩) (v := ?_) rfl (by kernel_rfl) (by kernel_rfl) (by kernel_rfl) (fun _ _ _ h => h) (Or.inl ⟨by rfl, ?_⟩) (by assumption) ?_
      rotate_left
      · intro w hSw
        (try dsimp only at hSw)
        go_simp
        (try with_reducible rfl)
      (try simp only [Act.put, List.setIfInBounds_toArray, List.set_cons_zero, List.set_cons_succ])
      refine wpAnyH_take (i := 5) (oi := ⟨_, _, _, _, _, _⟩) (v := ?_) rfl (by kernel_rfl) (by kernel_rfl) (by kernel_rfl) (fun _ _ _ h => h) (Or.inl ⟨by rfl, ?_⟩) (by assumption) ?_
      rotate_left
      · intro w hSw
        (try dsimp only at hSw)
        go_simp
        (try with_reducible rfl)
      (try simp only [Act.put, List.setIfInBounds_toArray, List.set_cons_zero, List.set_cons_succ])
      refine wpAnyH_take (i := 6) (oi := ⟨_, _, _, _, _, _⟩) (v := ?_) rfl (by kernel_rfl) (by kernel_rfl) (by kernel_rfl) (fun _ _ _ h => h) (Or.inl ⟨by rfl, ?_⟩) (by assumption) ?_
      rotate_left
      · intro w hSw
        (try dsimp only at hSw)
        go_simp
        (try with_reducible rfl)
      (try simp only [Act.put, List.setIfInBounds_toArray, List.set_cons_zero, List.set_cons_succ])
      refine wpAnyH_take (i := 7) (oi := ⟨_, _, _, _, _, _⟩) (v := ?_) rfl (by kernel_rfl) (by kernel_rfl) (by kernel_rfl) (fun _ _ _ h => h) (Or.inl ⟨by rfl, ?_⟩) (by assumption) ?_
      rotate_left
      · intro w hSw
        (try dsimp only at hSw)
        go_simp
        (try with_reducible rfl)
      (try simp only [Act.put, List.setIfInBounds_toArray, List.set_cons_zero, List.set_cons_succ])
      refine wpAnyH_take (i := 8) (oi := ⟨_, _, _, _, _, _⟩) (v := ?_) rfl (by kernel_rfl) (by kernel_rfl) (by kernel_rfl) (fun _ _ _ h => h) (Or.inl ⟨by rfl, ?_⟩) (by assumption) ?_
      rotate_left
      · intro w hSw
        (try dsimp only at hSw)
        go_simp
        (try with_reducible rfl)
      (try simp only [Act.put, List.setIfInBounds_toArray, List.set_cons_zero, List.set_cons_succ])
      refine wpAnyH_take (i := 9) (oi := ⟨_, _, _, _, _, _⟩) (v := ?_) rfl (by kernel_rfl) (by kernel_rfl) (by kernel_rfl) (fun _ _ _ h => h) (Or.inl ⟨by rfl, ?_⟩) (by assumption) ?_
      rotate_left
      · intro w hSw
        (try dsimp only at hSw)
        go_simp
        (try with_reducible rfl)
      (try simp only [Act.put, List.setIfInBounds_toArray, List.set_cons_zero, List.set_cons_succ])
      refine wpAnyH_take (i := 10) (oi := ⟨_, _, _, _, _, _⟩) (v := ?_) rfl (by kernel_rfl) (by kernel_rfl) (by kernel_rfl) (fun _ _ _ h => h) (Or.inl ⟨by rfl, ?_⟩) (by assumption) ?_
      rotate_left
      · intro w hSw
        (try dsimp only at hSw)
        go_simp
        (try with_reducible rfl)
      (try simp only [Act.put, List.setIfInBounds_toArray, List.set_cons_zero, List.set_cons_succ])
      refine wpAnyH_ready (rs := [11]) (by kernel_rfl) (by simp) ?_
      refine AllReadyH.cons (o := ⟨_, _, _, _, _, _⟩) rfl (fun K hK => ?_) AllReadyH.nil
      go_simp
      skip
      (try go_wp2_with fail)
      refine hK.out _ _ ?_ (fun hHeld => ?_)
      · (try dsimp only)
        first | exact j0 | go_simp
      clear hK K
      (try simp only [Act.put, List.setIfInBounds_toArray, List.set_cons_zero, List.set_cons_succ])
      refine wpAnyH_ready (rs := [12]) (by kernel_rfl) (by simp) ?_
      refine AllReadyH.cons (o := ⟨_, _, _, _, _, _⟩) rfl (fun K hK => ?_) AllReadyH.nil
      go_simp
      (go_at_call 74; refine (concatJoin_any _ bb oo (i + 1) (i + 1) i ⟨g, 0, none⟩ ⟨bb, oo, none⟩ k c7 0 0 ps L [] _ ?_ ?_ ?_ ?_ ?_ ?_ ?_ ?_ ?_ ?_ ?_ ?_).mono ?_; (first | simp | (simp; omega)); (first | go_simp | simp); (first | go_simp | simp); (first | go_simp | simp); (first | exact RP.out.alloc _ | exact Rd.drew1 (RP.out.alloc _) | exact RP.out.drew1.alloc _ | exact (RP.out.drewN _).alloc _ | exact (RP.out.drew1.alloc _).drew1 | exact ((RP.out.drewN _).alloc _).drewN _); (first | exact OI.out.rd.alloc _ | exact Rd.drew1 (OI.out.rd.alloc _) | exact OI.out.rd.drew1.alloc _ | exact (OI.out.rd.drewN _).alloc _ | exact (OI.out.rd.drew1.alloc _).drew1 | exact ((OI.out.rd.drewN _).alloc _).drewN _); (exact Rd.nil _ _); (exact HD0.out.symm); (exact hi); (omega); (omega); (omega); rintro e wx ⟨A8, c8, rfl, own, hb⟩; (repeat (first | replace hb := below_undrew hb | replace hb := below_undrewN hb)); replace hb := below_box hb; (repeat (first | replace hb := below_undrew hb | replace hb := below_undrewN hb)); have O8 := Lib.hid (own.lower (show w.heap.size ≤ _ by have := B.out.size; simp; omega)); replace j0 := cell_keep j0 jl hb; replace jl := lt_keep jl hb; replace B := Lib.hid (below_next B.out hb); clear own hb)
      (try go_wp2_with fail)
      refine hK.out _ _ ?_ (fun hHeld => ?_)
      · (try dsimp only)
        first | exact j0 | go_simp
      clear hK K
      (try simp only [Act.put, List.setIfInBounds_toArray, List.set_cons_zero, List.set_cons_succ])
      refine wpAnyH_take (i := 13) (oi := ⟨_, _, _, _, _, _⟩) (v := ?_) rfl (by kernel_rfl) (by kernel_rfl) (by kernel_rfl) (fun _ _ _ h => h) (Or.inl ⟨by rfl, ?_⟩) (by assumption) ?_
      rotate_left
      · intro w hSw
        (try dsimp only at hSw)
        go_simp
        (try with_reducible rfl)
      (try simp only [Act.put, List.setIfInBounds_toArray, List.set_cons_zero, List.set_cons_succ])
      refine wpAnyH_done (by kernel_rfl) ?_ _
      go_wp2
      go_ret
      exact ⟨_, _, rfl, by rw [show joinedL ps qs (i, j, true) = ps.take (i + 1) ++ L ++ ps.drop (i + 1) by rw [HLL.out]; rfl]; exact O8.out, B.out⟩
    · have RD := Lib.hid (RP.out.drop (show i + 1 ≤ m by omega))
      go_wp2_with fail
      refine wp_region_held_drew (S := fun w' => w'.cell? ⟨w.heap.size, 0, none⟩ = some (.int .i64 (i : Int))) (by kernel_rfl) ?_ (fun hHeld => ?_)
      · (try dsimp only)
        first | exact j0 | go_simp
      refine wpAnyH_take (i := 0) (oi := ⟨_, _, _, _, _, _⟩) (v := ?_) rfl (by kernel_rfl) (by kernel_rfl) (by kernel_rfl) (fun _ _ _ h => h) (Or.inl ⟨by rfl, ?_⟩) (by assumption) ?_
      rotate_left
      · intro w hSw
        (try dsimp only at hSw)
        go_simp
        (try with_reducible rfl)
      (try simp only [Act.put, List.setIfInBounds_toArray, List.set_cons_zero, List.set_cons_succ])
      refine wpAnyH_take (i := 1) (oi := ⟨_, _, _, _, _, _⟩) (v := ?_) rfl (by kernel_rfl) (by kernel_rfl) (by kernel_rfl) (fun _ _ _ h => h) (Or.inl ⟨by rfl, ?_⟩) (by assumption) ?_
      rotate_left
      · intro w hSw
        (try dsimp only at hSw)
        go_simp
        (try with_reducible rfl)
      (try simp only [Act.put, List.setIfInBounds_toArray, List.set_cons_zero, List.set_cons_succ])
      refine wpAnyH_take (i := 2) (oi := ⟨_, _, _, _, _, _⟩) (v := ?_) rfl (by kernel_rfl) (by kernel_rfl) (by kernel_rfl) (fun _ _ _ h => h) (Or.inl ⟨by rfl, ?_⟩) (by assumption) ?_
      rotate_left
      · intro w hSw
        (try dsimp only at hSw)
        go_simp
        (try with_reducible rfl)
      (try simp only [Act.put, List.setIfInBounds_toArray, List.set_cons_zero, List.set_cons_succ])
      refine wpAnyH_take (i := 3) (oi := ⟨_, _, _, _, _, _⟩) (v := ?_) rfl (by kernel_rfl) (by kernel_rfl) (by kernel_rfl) (fun _ _ _ h => h) (Or.inl ⟨by rfl, ?_⟩) (by assumption) ?_
      rotate_left
      · intro w hSw
        (try dsimp only at hSw)
        go_simp
        (try with_reducible rfl)
      (try simp only [Act.put, List.setIfInBounds_toArray, List.set_cons_zero, List.set_cons_succ])
      refine wpAnyH_take (i := 4) (oi := ⟨_, _, _, _, _, _⟩) (v := ?_) rfl (by kernel_rfl) (by kernel_rfl) (by kernel_rfl) (fun _ _ _ h => h) (Or.inl ⟨by rfl, ?_⟩) (by assumption) ?_
      rotate_left
      · intro w hSw
        (try dsimp only at hSw)
        go_simp
        (try with_reducible rfl)
      (try simp only [Act.put, List.setIfInBounds_toArray, List.set_cons_zero, List.set_cons_succ])
      refine wpAnyH_take (i := 5) (oi := ⟨_, _, _, _, _, _⟩) (v := ?_) rfl (by kernel_rfl) (by kernel_rfl) (by kernel_rfl) (fun _ _ _ h => h) (Or.inl ⟨by rfl, ?_⟩) (by assumption) ?_
      rotate_left
      · intro w hSw
        (try dsimp only at hSw)
        go_simp
        (try with_reducible rfl)
      (try simp only [Act.put, List.setIfInBounds_toArray, List.set_cons_zero, List.set_cons_succ])
      refine wpAnyH_take (i := 6) (oi := ⟨_, _, _, _, _, _⟩) (v := ?_) rfl (by kernel_rfl) (by kernel_rfl) (by kernel_rfl) (fun _ _ _ h => h) (Or.inl ⟨by rfl, ?_⟩) (by assumption) ?_
      rotate_left
      · intro w hSw
        (try dsimp only at hSw)
        go_simp
        (try with_reducible rfl)
      (try simp only [Act.put, List.setIfInBounds_toArray, List.set_cons_zero, List.set_cons_succ])
      refine wpAnyH_take (i := 7) (oi := ⟨_, _, _, _, _, _⟩) (v := ?_) rfl (by kernel_rfl) (by kernel_rfl) (by kernel_rfl) (fun _ _ _ h => h) (Or.inl ⟨by rfl, ?_⟩) (by assumption) ?_
      rotate_left
      · intro w hSw
        (try dsimp only at hSw)
        go_simp
        (try with_reducible rfl)
      (try simp only [Act.put, List.setIfInBounds_toArray, List.set_cons_zero, List.set_cons_succ])
      refine wpAnyH_take (i := 8) (oi := ⟨_, _, _, _, _, _⟩) (v := ?_) rfl (by kernel_rfl) (by kernel_rfl) (by kernel_rfl) (fun _ _ _ h => h) (Or.inl ⟨by rfl, ?_⟩) (by assumption) ?_
      rotate_left
      · intro w hSw
        (try dsimp only at hSw)
        go_simp
        (try with_reducible rfl)
      (try simp only [Act.put, List.setIfInBounds_toArray, List.set_cons_zero, List.set_cons_succ])
      refine wpAnyH_take (i := 9) (oi := ⟨_, _, _, _, _, _⟩) (v := ?_) rfl (by kernel_rfl) (by kernel_rfl) (by kernel_rfl) (fun _ _ _ h => h) (Or.inl ⟨by rfl, ?_⟩) (by assumption) ?_
      rotate_left
      · intro w hSw
        (try dsimp only at hSw)
        go_simp
        (try with_reducible rfl)
      (try simp only [Act.put, List.setIfInBounds_toArray, List.set_cons_zero, List.set_cons_succ])
      refine wpAnyH_take (i := 10) (oi := ⟨_, _, _, _, _, _⟩) (v := ?_) rfl (by kernel_rfl) (by kernel_rfl) (by kernel_rfl) (fun _ _ _ h => h) (Or.inl ⟨by rfl, ?_⟩) (by assumption) ?_
      rotate_left
      · intro w hSw
        (try dsimp only at hSw)
        go_simp
        (try with_reducible rfl)
      (try simp only [Act.put, List.setIfInBounds_toArray, List.set_cons_zero, List.set_cons_succ])
      refine wpAnyH_ready (rs := [11]) (by kernel_rfl) (by simp) ?_
      refine AllReadyH.cons (o := ⟨_, _, _, _, _, _⟩) rfl (fun K hK => ?_) AllReadyH.nil
      go_simp
      skip
      (try go_wp2_with fail)
      refine hK.out _ _ ?_ (fun hHeld => ?_)
      · (try dsimp only)
        first | exact j0 | go_simp
      clear hK K
      (try simp only [Act.put, List.setIfInBounds_toArray, List.set_cons_zero, List.set_cons_succ])
      refine wpAnyH_ready (rs := [12]) (by kernel_rfl) (by simp) ?_
      refine AllReadyH.cons (o := ⟨_, _, _, _, _, _⟩) rfl (fun K hK => ?_) AllReadyH.nil
      go_simp
      (go_at_call 74; refine (concatJoin_any _ bb oo m c2 i ⟨g, 0, none⟩ ⟨bb, oo + (i + 1), none⟩ k c7 (m - (i + 1)) (c2 - (i + 1)) ps L (ps.drop (i + 1)) _ ?_ ?_ ?_ ?_ ?_ ?_ ?_ ?_ ?_ ?_ ?_ ?_).mono ?_; (first | simp | (simp; omega)); (first | go_simp | simp); (first | go_simp | simp); (first | go_simp | simp); (first | exact RP.out.alloc _ | exact Rd.drew1 (RP.out.alloc _) | exact RP.out.drew1.alloc _ | exact (RP.out.drewN _).alloc _ | exact (RP.out.drew1.alloc _).drew1 | exact ((RP.out.drewN _).alloc _).drewN _); (first | exact OI.out.rd.alloc _ | exact Rd.drew1 (OI.out.rd.alloc _) | exact OI.out.rd.drew1.alloc _ | exact (OI.out.rd.drewN _).alloc _ | exact (OI.out.rd.drew1.alloc _).drew1 | exact ((OI.out.rd.drewN _).alloc _).drewN _); (first | exact RD.out.alloc _ | exact Rd.drew1 (RD.out.alloc _) | exact RD.out.drew1.alloc _ | exact (RD.out.drewN _).alloc _ | exact (RD.out.drew1.alloc _).drew1 | exact ((RD.out.drewN _).alloc _).drewN _); (rfl); (exact hi); (omega); (omega); (omega); rintro e wx ⟨A8, c8, rfl, own, hb⟩; (repeat (first | replace hb := below_undrew hb | replace hb := below_undrewN hb)); replace hb := below_box hb; (repeat (first | replace hb := below_undrew hb | replace hb := below_undrewN hb)); have O8 := Lib.hid (own.lower (show w.heap.size ≤ _ by have := B.out.size; simp; omega)); replace j0 := cell_keep j0 jl hb; replace jl := lt_keep jl hb; replace B := Lib.hid (below_next B.out hb); clear own hb)
      (try go_wp2_with fail)
      refine hK.out _ _ ?_ (fun hHeld => ?_)
      · (try dsimp only)
        first | exact j0 | go_simp
      clear hK K
      (try simp only [Act.put, List.setIfInBounds_toArray, List.set_cons_zero, List.set_cons_succ])
      refine wpAnyH_take (i := 13) (oi := ⟨_, _, _, _, _, _⟩) (v := ?_) rfl (by kernel_rfl) (by kernel_rfl) (by kernel_rfl) (fun _ _ _ h => h) (Or.inl ⟨by rfl, ?_⟩) (by assumption) ?_
      rotate_left
      · intro w hSw
        (try dsimp only at hSw)
        go_simp
        (try with_reducible rfl)
      (try simp only [Act.put, List.setIfInBounds_toArray, List.set_cons_zero, List.set_cons_succ])
      refine wpAnyH_done (by kernel_rfl) ?_ _
      go_wp2
      go_ret
      exact ⟨_, _, rfl, by rw [show joinedL ps qs (i, j, true) = ps.take (i + 1) ++ L ++ ps.drop (i + 1) by rw [HLL.out]; rfl]; exact O8.out, B.out⟩

end Go.Proofs.Ytphjkmikleldcaa
