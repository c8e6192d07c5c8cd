/-
  Contracts: IsRoute, the program.
-/
import Derived.Test.YtagdmdjofcjilaaT7b
namespace Go.Proofs.Ytagdmdjofcjilaa
open Go.RowKit

theorem onB_nil {W H a b : Int} {xs : List Int} : onB W H xs a b [] = okTwo W H xs a b := by simp [onB]

set_option maxRecDepth 100000 in
set_option maxHeartbeats 2000000 in
theorem isShortest_any (W H a b : Int) (xs : List Int) (N lo0 mb s t k : Nat) (dv : Int) (A2 : Option Addr) (c2 : Nat) (ps : List Int) (w : World) (hF : OnFacts W H xs a b N) (hP : hasB W H xs (s : Int) = true) (ht : t < N) (hdv : dv = distV W H xs a b (s : Int) (t : Int)) (hk : k < 64) (hx : ps[0]? = some (s : Int)) (hy : ps[k]? = some (t : Int)) (hom : OnMap w lo0 mb (cellsL W H xs) (leapsL W H xs a b)) (hp : Rd w A2 (k + 1) ps) :
    Calls Try.prog 74 #[.map (some mb), .slice A2 (k + 1) c2] w fun e w' => e = .returned (.bool (decide (dv = (k : Int)))) ∧ Below w.heap.size w w' := by
  have HF := Lib.hid hF; have HP := Lib.hid hP; have HX := Lib.hid hx; have HY := Lib.hid hy; have HM := Lib.hid hom; have HR := Lib.hid hp
  have HD := Lib.hid (dist_at hF hP ht)
  have DLO := HD.out.2.1
  have DHI := HD.out.2.2
  rw [← hdv] at DLO DHI
  have HDV := Lib.hid hdv
  have hp0 := (hasB_iff.1 hP).1
  rw [hF.wh] at hp0
  have hs : s < N := by omega
  have n64 := hF.n.2
  clear hF hP hx hy hom hp hdv hp0
  obtain ⟨bb, oo, z, rfl, hz1, hz, z0⟩ := HR.out.at_ (k := 0) (by omega)
  rw [HX.out] at hz
  injection hz with hz
  subst hz
  have z0' : w.cell? ⟨bb, oo, none⟩ = some (.int .i64 (s : Int)) := z0
  clear z0
  obtain ⟨b4, o4, z4, he4, hz4, hzz, z5⟩ := HR.out.at_ (k := k) (by omega)
  rw [HY.out] at hzz
  injection hzz with hzz
  subst hzz
  injection he4 with he4
  injection he4 with he4 he5
  subst he4 he5
  have hix : ∀ w', (Instr.index 73 (.agg ((farL (leapsL W H xs a b) 64 s).map (Value.int .i64)).toArray) (.int .i64 (t : Int))).run Try.prog w' = .ok (.int .i64 dv) w' := fun w' =>
    run_far _ (by rw [far64 HF.out HP.out, List.length_append, dist_len HF.out HP.out, List.length_replicate]; omega) t (by omega) dv (by rw [far64 HF.out HP.out, List.getElem?_append_left (by rw [dist_len HF.out HP.out]; exact ht), HDV.out]; exact HD.out.1) w'
  have df : ∀ w9, OnMap w9 lo0 mb (cellsL W H xs) (leapsL W H xs a b) → Calls Try.prog 58 #[.map (some mb), .int .i64 (s : Int)] w9 fun e w' => e = .returned (.agg ((farL (leapsL W H xs a b) 64 s).map (Value.int .i64)).toArray) ∧ Below w9.heap.size w9 w' := fun w9 hm =>
    distancesFrom_any _ mb (cellsL W H xs) (leapsL W H xs a b) s _ hm (by omega) (cellsL_mem.2 HP.out) (cells_in HF.out) adj_in
  generalize (Value.agg ((farL (leapsL W H xs a b) 64 s).map (Value.int .i64)).toArray) = fv at hix df
  have DF := Lib.hid df
  have hw3 : IntKind.i64.wrap (((k + 1 : Nat) : Int) - 1) = (k : Int) := by rw [show (((k + 1 : Nat) : Int) - 1) = (k : Int) by omega]; exact IntWalk.i64_in _ (by omega)
  obtain ⟨m, hm⟩ : ∃ m, m = k + 1 := ⟨_, rfl⟩
  have hw4 : IntKind.i64.wrap ((m : Int) - 1) = (k : Int) := by rw [hm]; exact hw3
  have k0 : (0 : Int) ≤ (k : Int) := by omega
  have km : (k : Int) < (m : Int) := by omega
  have m0 : 0 < m := by omega
  have B := Lib.hid (Below.refl w.heap.size w)
  rw [← hm]
  clear hm hw3 df
  go_enter Try.func74, Try.ntmps74
  go_wp2_with fail
  refine wp_region_held_drew (S := fun w' => w'.cell? ⟨bb, oo, none⟩ = some (.int .i64 (s : Int)) ∧ w'.cell? ⟨bb, oo + k, none⟩ = some (.int .i64 (t : Int))) (by kernel_rfl) ?_ (fun hHeld => ?_)
  · (try dsimp only)
    exact ⟨z0', z5⟩
  refine wpAnyH_take (i := 0) (oi := ⟨_, _, _, _, _, _⟩) (v := ?_) rfl (by kernel_rfl) (by kernel_rfl) (by kernel_rfl) (fun _ _ _ h => h) (Or.inl ⟨by rfl, ?_⟩) (by assumption) ?_
  rotate_left
  · intro w hSw
    (try dsimp only at hSw)
    go_simp
    (try with_reducible rfl)
  (try simp only [Act.put, List.setIfInBounds_toArray, List.set_cons_zero, List.set_cons_succ])
  refine wpAnyH_take (i := 1) (oi := ⟨_, _, _, _, _, _⟩) (v := ?_) rfl (by kernel_rfl) (by kernel_rfl) (by kernel_rfl) (fun _ _ _ h => h) (Or.inl ⟨by rfl, ?_⟩) (by assumption) ?_
  rotate_left
  · intro w hSw
    (try dsimp only at hSw)
    go_simp
    (try with_reducible rfl)
  (try simp only [Act.put, List.setIfInBounds_toArray, List.set_cons_zero, List.set_cons_succ])
  refine wpAnyH_take (i := 2) (oi := ⟨_, _, _, _, _, _⟩) (v := ?_) rfl (by kernel_rfl) (by kernel_rfl) (by kernel_rfl) (fun _ _ _ h => h) (Or.inl ⟨by rfl, ?_⟩) (by assumption) ?_
  rotate_left
  · intro w hSw
    (try dsimp only at hSw)
    go_simp
    (try with_reducible rfl)
  (try simp only [Act.put, List.setIfInBounds_toArray, List.set_cons_zero, List.set_cons_succ])
  refine wpAnyH_take (i := 3) (oi := ⟨_, _, _, _, _, _⟩) (v := ?_) rfl (by kernel_rfl) (by kernel_rfl) (by kernel_rfl) (fun _ _ _ h => h) (Or.inl ⟨by rfl, ?_⟩) (by assumption) ?_
  rotate_left
  · intro w hSw
    (try dsimp only at hSw)
    go_simp
    (try with_reducible rfl)
  (try simp only [Act.put, List.setIfInBounds_toArray, List.set_cons_zero, List.set_cons_succ])
  refine wpAnyH_take (i := 5) (oi := ⟨_, _, _, _, _, _⟩) (v := ?_) rfl (by kernel_rfl) (by kernel_rfl) (by kernel_rfl) (fun _ _ _ h => h) (Or.inl ⟨by rfl, ?_⟩) (by assumption) ?_
  rotate_left
  · intro w hSw
    (try dsimp only at hSw)
    go_simp
    (try with_reducible rfl)
  (try simp only [Act.put, List.setIfInBounds_toArray, List.set_cons_zero, List.set_cons_succ])
  refine wpAnyH_take (i := 6) (oi := ⟨_, _, _, _, _, _⟩) (v := ?_) rfl (by kernel_rfl) (by kernel_rfl) (by kernel_rfl) (fun _ _ _ h => h) (Or.inl ⟨by rfl, ?_⟩) (by assumption) ?_
  rotate_left
  · intro w hSw
    (try dsimp only at hSw)
    go_simp
    (try with_reducible rfl)
  (try simp only [Act.put, List.setIfInBounds_toArray, List.set_cons_zero, List.set_cons_succ])
  refine wpAnyH_take (i := 7) (oi := ⟨_, _, _, _, _, _⟩) (v := ?_) rfl (by kernel_rfl) (by kernel_rfl) (by kernel_rfl) (fun _ _ _ h => h) (Or.inl ⟨by rfl, ?_⟩) (by assumption) ?_
  rotate_left
  · intro w hSw
    (try dsimp only at hSw)
    go_simp
    (try with_reducible rfl)
  (try simp only [Act.put, List.setIfInBounds_toArray, List.set_cons_zero, List.set_cons_succ])
  refine wpAnyH_take (i := 8) (oi := ⟨_, _, _, _, _, _⟩) (v := ?_) rfl (by kernel_rfl) (by kernel_rfl) (by kernel_rfl) (fun _ _ _ h => h) (Or.inl ⟨by rfl, ?_⟩) (by assumption) ?_
  rotate_left
  · intro w hSw
    (try dsimp only at hSw)
    go_simp
    (try with_reducible rfl)
  (try simp only [Act.put, List.setIfInBounds_toArray, List.set_cons_zero, List.set_cons_succ])
  refine wpAnyH_take (i := 10) (oi := ⟨_, _, _, _, _, _⟩) (v := ?_) rfl (by kernel_rfl) (by kernel_rfl) (by kernel_rfl) (fun _ _ _ h => h) (Or.inl ⟨by rfl, ?_⟩) (by assumption) ?_
  rotate_left
  · intro w hSw
    (try dsimp only at hSw)
    go_simp
    (try with_reducible rfl)
  (try simp only [Act.put, List.setIfInBounds_toArray, List.set_cons_zero, List.set_cons_succ])
  refine wpAnyH_ready (rs := [4]) (by kernel_rfl) (by simp) ?_
  refine AllReadyH.cons (o := ⟨_, _, _, _, _, _⟩) rfl (fun K hK => ?_) AllReadyH.nil
  go_simp
  (go_at_call 58; refine (DF.out _ ?_).mono ?_; (exact HM.out); rintro e wy ⟨rfl, hb⟩; (repeat (first | replace hb := below_undrew hb | replace hb := below_undrewN hb)); replace z0' := cell_keep z0' hz1 hb; replace z5 := cell_keep z5 hz1 hb; replace B := Lib.hid (below_next B.out hb); clear hb HM)
  (try go_wp2_with fail)
  refine hK.out _ _ ?_ (fun hHeld => ?_)
  · (try dsimp only)
    exact ⟨z0', z5⟩
  clear hK K
  (try simp only [Act.put, List.setIfInBounds_toArray, List.set_cons_zero, List.set_cons_succ])
  refine wpAnyH_take (i := 9) (oi := ⟨_, _, _, _, _, _⟩) (v := ?_) rfl (by kernel_rfl) (by kernel_rfl) (by kernel_rfl) (fun _ _ _ h => h) (Or.inl ⟨by rfl, ?_⟩) (by assumption) ?_
  rotate_left
  · intro w hSw
    (try dsimp only at hSw)
    go_simp
    (try with_reducible rfl)
  (try simp only [Act.put, List.setIfInBounds_toArray, List.set_cons_zero, List.set_cons_succ])
  refine wpAnyH_take (i := 11) (oi := ⟨_, _, _, _, _, _⟩) (v := ?_) rfl (by kernel_rfl) (by kernel_rfl) (by kernel_rfl) (fun _ _ _ h => h) (Or.inl ⟨by rfl, ?_⟩) (by assumption) ?_
  rotate_left
  · intro w hSw
    (try dsimp only at hSw)
    go_simp
    (try with_reducible rfl)
  (try simp only [Act.put, List.setIfInBounds_toArray, List.set_cons_zero, List.set_cons_succ])
  refine wpAnyH_take (i := 12) (oi := ⟨_, _, _, _, _, _⟩) (v := ?_) rfl (by kernel_rfl) (by kernel_rfl) (by kernel_rfl) (fun _ _ _ h => h) (Or.inl ⟨by rfl, ?_⟩) (by assumption) ?_
  rotate_left
  · intro w hSw
    (try dsimp only at hSw)
    go_simp
    (try with_reducible rfl)
  (try simp only [Act.put, List.setIfInBounds_toArray, List.set_cons_zero, List.set_cons_succ])
  refine wpAnyH_done (by kernel_rfl) ?_ _
  all_goals go_wp2
  all_goals go_ret
  all_goals exact ⟨ret_bool (by first | rfl | simp | exact beq_eq_decide _ _), B.out⟩

set_option maxRecDepth 100000 in
set_option maxHeartbeats 2000000 in
theorem impl_IsRoute (W H : Int) (A : Option Addr) (n c : Nat) (xs : List Int) (a b : Int) (A2 : Option Addr) (m c2 : Nat) (ps : List Int) (w : World) (ha : Rd w A n xs) (hp : Rd w A2 m ps) :
    Calls Try.prog 45 #[brd W H A n c, lpr a b, .slice A2 m c2] w fun e w' => e = .returned (.tuple #[.bool (isRouteV W H xs a b ps), .bool (okTwo W H xs a b)]) ∧ Below w.heap.size w w' := by
  by_cases ho : onB W H xs a b [] = true
  · by_cases hpp : pathB W H xs a b ps = true
    · have hok : okTwo W H xs a b = true := by rw [← onB_nil, ho]
      have FO := on_facts hok
      obtain ⟨hm1, hm64, hhas⟩ := path_has hpp
      have hlen := hp.1
      obtain ⟨k, rfl⟩ : ∃ k, m = k + 1 := ⟨m - 1, by omega⟩
      obtain ⟨N, hN⟩ : ∃ N, N = (W * H).toNat := ⟨_, rfl⟩
      rw [← hN] at FO
      obtain ⟨x0, hx0⟩ : ∃ x, ps[0]? = some x := ⟨_, List.getElem?_eq_getElem (show 0 < ps.length by omega)⟩
      obtain ⟨y0, hy0⟩ : ∃ x, ps[k]? = some x := ⟨_, List.getElem?_eq_getElem (show k < ps.length by omega)⟩
      have HP := Lib.hid (hhas _ (List.mem_of_getElem? hx0))
      have HQ := Lib.hid (hhas _ (List.mem_of_getElem? hy0))
      have hp0 := (hasB_iff.1 HP.out).1
      have hq0 := (hasB_iff.1 HQ.out).1
      rw [FO.wh] at hp0 hq0
      obtain ⟨s, rfl⟩ : ∃ s : Nat, x0 = (s : Int) := ⟨x0.toNat, by omega⟩
      obtain ⟨t, rfl⟩ : ∃ t : Nat, y0 = (t : Int) := ⟨y0.toNat, by omega⟩
      have hs : s < N := by omega
      have ht0 : t < N := by omega
      have HF := Lib.hid FO
      have n64 := FO.n.2
      have HD := Lib.hid (dist_at FO HP.out ht0)
      have DLO := HD.out.2.1
      have DHI := HD.out.2.2
      obtain ⟨dv, hdv⟩ : ∃ dv, dv = distV W H xs a b (s : Int) (t : Int) := ⟨_, rfl⟩
      rw [← hdv] at DLO DHI
      have HDV := Lib.hid hdv
      have hL : farL (leapsL W H xs a b) N (s : Int) = distL W H xs a b (s : Int) := by rw [distL, hN]
      have HL := Lib.hid hL
      have HX := Lib.hid hx0; have HY := Lib.hid hy0
      have ANS : Hid (isRouteV W H xs a b ps = decide (dv = (k : Int))) := Lib.hid (by
        rw [isRouteV, hok, routeB, hpp, show ps.getD 0 0 = (s : Int) by rw [List.getD_eq_getElem?_getD, hx0]; rfl, show ps.getD (ps.length - 1) 0 = (t : Int) by rw [hlen, Nat.add_sub_cancel, List.getD_eq_getElem?_getD, hy0]; rfl, ← hdv, hlen]
        simp)
      have hk64 : k < 64 := by omega
      clear FO hp0 hq0 hN hdv hL hx0 hy0 hhas hm1 hm64 hlen
      go_enter Try.func45, Try.ntmps45
      go_wp2_with fail
      refine (isLeaperOn_any _ _ _ _ _ _ _ _ _ _ _ [] _ ((ha.alloc _).alloc _) (Rd.nil _ _)).mono ?_
      rw [ho]
      rintro e wv ⟨rfl, hb⟩
      have hbx0 := below_box hb
      have a0 : wv.cell? ⟨w.heap.size, 0, none⟩ = some (.int .i64 W) := by simpa using newbox hbx0 0
      have a1 : wv.cell? ⟨w.heap.size, 1, none⟩ = some (.int .i64 H) := by simpa using newbox hbx0 1
      have a2 : wv.cell? ⟨w.heap.size, 2, none⟩ = some (.slice A n c) := by simpa using newbox hbx0 2
      have al : w.heap.size < wv.heap.size := by simpa using newbox_lt hbx0
      have l0 : wv.cell? ⟨w.heap.size + 1, 0, none⟩ = some (.int .i64 a) := by simpa using newbox hb 0
      have l1 : wv.cell? ⟨w.heap.size + 1, 1, none⟩ = some (.int .i64 b) := by simpa using newbox hb 1
      have ll : w.heap.size + 1 < wv.heap.size := by simpa using newbox_lt hb
      have B := Lib.hid (below_box hbx0)
      clear hb hbx0
      go_wp2_with fail
      refine (isPath_any _ _ _ _ _ _ _ _ _ _ _ _ _ (ha.keep B.out) (hp.keep B.out) (on_facts (onB_nil.symm.trans ho)).g).mono ?_
      rw [hpp]
      rintro e wv ⟨rfl, hb⟩
      replace a0 := cell_keep a0 al hb
      replace a1 := cell_keep a1 al hb
      replace a2 := cell_keep a2 al hb
      replace al := lt_keep al hb
      replace l0 := cell_keep l0 ll hb
      replace l1 := cell_keep l1 ll hb
      replace ll := lt_keep ll hb
      replace B := Lib.hid (below_next B.out hb)
      clear hb
      go_wp2_with fail
      refine (onwardOf_any W H A n c xs a b _ (ha.keep B.out) HF.out.g HF.out.l).mono ?_
      rintro e wx ⟨mb, rfl, hom, hb⟩
      replace B := Lib.hid (below_next B.out hb)
      clear hb
      go_wp2_with fail
      refine (isShortest_any W H a b xs N _ mb s t k dv A2 c2 ps _ HF.out HP.out ht0 HDV.out hk64 HX.out HY.out hom (hp.keep B.out)).mono ?_
      rintro e wy ⟨rfl, hb⟩
      replace B := Lib.hid (below_next B.out hb)
      clear hb hom
      go_wp2
      go_ret2
      exact ⟨by rw [hok, ANS.out]; rfl, B.out⟩
    · have hpp' : pathB W H xs a b ps = false := by simpa using hpp
      go_enter Try.func45, Try.ntmps45
      go_wp2_with fail
      refine (isLeaperOn_any _ _ _ _ _ _ _ _ _ _ _ [] _ ((ha.alloc _).alloc _) (Rd.nil _ _)).mono ?_
      rw [ho]
      rintro e wv ⟨rfl, hb⟩
      have hbx0 := below_box hb
      have a0 : wv.cell? ⟨w.heap.size, 0, none⟩ = some (.int .i64 W) := by simpa using newbox hbx0 0
      have a1 : wv.cell? ⟨w.heap.size, 1, none⟩ = some (.int .i64 H) := by simpa using newbox hbx0 1
      have a2 : wv.cell? ⟨w.heap.size, 2, none⟩ = some (.slice A n c) := by simpa using newbox hbx0 2
      have al : w.heap.size < wv.heap.size := by simpa using newbox_lt hbx0
      have l0 : wv.cell? ⟨w.heap.size + 1, 0, none⟩ = some (.int .i64 a) := by simpa using newbox hb 0
      have l1 : wv.cell? ⟨w.heap.size + 1, 1, none⟩ = some (.int .i64 b) := by simpa using newbox hb 1
      have ll : w.heap.size + 1 < wv.heap.size := by simpa using newbox_lt hb
      have B := Lib.hid (below_box hbx0)
      clear hb hbx0
      go_wp2_with fail
      refine (isPath_any _ _ _ _ _ _ _ _ _ _ _ _ _ (ha.keep B.out) (hp.keep B.out) (on_facts (onB_nil.symm.trans ho)).g).mono ?_
      rw [hpp']
      rintro e wv ⟨rfl, hb⟩
      replace a0 := cell_keep a0 al hb
      replace a1 := cell_keep a1 al hb
      replace a2 := cell_keep a2 al hb
      replace al := lt_keep al hb
      replace l0 := cell_keep l0 ll hb
      replace l1 := cell_keep l1 ll hb
      replace ll := lt_keep ll hb
      replace B := Lib.hid (below_next B.out hb)
      clear hb
      go_wp2
      go_ret2
      exact ⟨by rw [show okTwo W H xs a b = true by rw [← onB_nil, ho], isRouteV, routeB, hpp']; simp, B.out⟩
  · have ho' : onB W H xs a b [] = false := by simpa using ho
    go_enter Try.func45, Try.ntmps45
    go_wp2_with fail
    refine (isLeaperOn_any _ _ _ _ _ _ _ _ _ _ _ [] _ ((ha.alloc _).alloc _) (Rd.nil _ _)).mono ?_
    rw [ho']
    rintro e wv ⟨rfl, hb⟩
    have hbx0 := below_box hb
    have a0 : wv.cell? ⟨w.heap.size, 0, none⟩ = some (.int .i64 W) := by simpa using newbox hbx0 0
    have a1 : wv.cell? ⟨w.heap.size, 1, none⟩ = some (.int .i64 H) := by simpa using newbox hbx0 1
    have a2 : wv.cell? ⟨w.heap.size, 2, none⟩ = some (.slice A n c) := by simpa using newbox hbx0 2
    have al : w.heap.size < wv.heap.size := by simpa using newbox_lt hbx0
    have l0 : wv.cell? ⟨w.heap.size + 1, 0, none⟩ = some (.int .i64 a) := by simpa using newbox hb 0
    have l1 : wv.cell? ⟨w.heap.size + 1, 1, none⟩ = some (.int .i64 b) := by simpa using newbox hb 1
    have ll : w.heap.size + 1 < wv.heap.size := by simpa using newbox_lt hb
    have B := Lib.hid (below_box hbx0)
    clear hb hbx0
    go_wp2
    go_ret2
    exact ⟨by rw [show okTwo W H xs a b = false by rw [← onB_nil, ho'], isRouteV, show okTwo W H xs a b = false by rw [← onB_nil, ho']]; rfl, B.out⟩

end Go.Proofs.Ytagdmdjofcjilaa
