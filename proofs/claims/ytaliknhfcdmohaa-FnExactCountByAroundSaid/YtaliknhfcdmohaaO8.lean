/-
  Contracts: the leaps from a cell around, in the program.
-/
import Derived.Test.YtaliknhfcdmohaaO3
import Derived.Test.YtaliknhfcdmohaaO4
import Derived.Test.YtaliknhfcdmohaaO6
import Derived.Test.YtaliknhfcdmohaaS4
namespace Go.Proofs.Ytaliknhfcdmohaa
open Go.RowKit

set_option maxRecDepth 100000 in
set_option maxHeartbeats 4000000 in
theorem leapsAround_any (W H : Int) (ac up : Bool) (a b q : Int) (w : World) (hg : goodA W H = true) (hl : leaperB a b = true) (hq : 0 ≤ q ∧ q < W * H) :
    Calls Try.prog 63 #[ard W H ac up, lpr a b, .int .i64 q] w fun e w' => ∃ A' n' c', e = .returned (.slice A' n' c') ∧ OwnI 3 w' w.heap.size A' n' c' (leapsA W H ac up a b q) ∧ Below w.heap.size w w' := by
  have HG := Lib.hid hg; have HL := Lib.hid hl; have HQ := Lib.hid hq
  obtain ⟨⟨hW1, hW2b⟩, hH1, hH2⟩ := goodA_iff.1 hg
  have HMB := Lib.hid (mod_bdA (W := W) (q := q) ⟨hW1, hW2b⟩); have HDB := Lib.hid (div_bdA (W := W) (H := H) (q := q) hW1 hq)
  have HNU := Lib.hid (fun w' => numbered_any q W w' ⟨hW1, hW2b⟩ (by have := areaA hg; omega))
  obtain ⟨i0, hi, hz0, hz1, hz2⟩ := info_parts infoI
  have HI := Lib.hid hi; have HZ0 := Lib.hid hz0; have HZ1 := Lib.hid hz1; have HZ2 := Lib.hid hz2
  clear hg hl hq hi hz0 hz1 hz2 hW1 hW2b hH1 hH2
  obtain ⟨W2, hW2⟩ : ∃ W2, W2 = (w.alloc (.cells #[.int .i64 W, .int .i64 H, .bool ac, .bool up] 25)).alloc (.cells #[.int .i64 a, .int .i64 b] 36) := ⟨_, rfl⟩
  have hsz : W2.heap.size = w.heap.size + 2 := by rw [hW2]; simp
  have a0 : W2.cell? ⟨w.heap.size, 0, none⟩ = some (.int .i64 W) := by rw [hW2]; go_simp
  have a1 : W2.cell? ⟨w.heap.size, 1, none⟩ = some (.int .i64 H) := by rw [hW2]; go_simp
  have a2 : W2.cell? ⟨w.heap.size, 2, none⟩ = some (.bool ac) := by rw [hW2]; go_simp
  have a3 : W2.cell? ⟨w.heap.size, 3, none⟩ = some (.bool up) := by rw [hW2]; go_simp
  have al : w.heap.size < W2.heap.size := by omega
  have l0 : W2.cell? ⟨w.heap.size + 1, 0, none⟩ = some (.int .i64 a) := by rw [hW2]; go_simp
  have l1 : W2.cell? ⟨w.heap.size + 1, 1, none⟩ = some (.int .i64 b) := by rw [hW2]; go_simp
  have ll : w.heap.size + 1 < W2.heap.size := by omega
  have B := Lib.hid (show Below w.heap.size w W2 by rw [hW2]; repeat (first | exact Below.refl _ _ | refine below_new ?_ _))
  go_enter Try.func63, Try.ntmps63
  go_wp2_with fail
  rw [← hW2]
  clear hW2
  refine (stepsOf_any a b _ HL.out).mono ?_
  rintro e ws ⟨A1, n1, c1, rfl, hst, hb⟩
  replace a0 := cell_keep a0 al hb
  replace a1 := cell_keep a1 al hb
  replace a2 := cell_keep a2 al hb
  replace a3 := cell_keep a3 al hb
  replace al := lt_keep al hb
  replace l0 := cell_keep l0 ll hb
  replace l1 := cell_keep l1 ll hb
  replace ll := lt_keep ll hb
  replace B := Lib.hid (below_next B.out hb)
  have ST := Lib.hid hst; have SL := Lib.hid hst.len
  have n8 : n1 ≤ 8 := by have := stepsL_len HL.out; have := hst.len; omega
  clear hst hb l0 l1 ll hsz
  go_wp2
  go_loopw [7, 15] (fun v i wr => ∃ (k n' c' : Nat) (A' : Option Addr), k ≤ n1 ∧ i = .int .i64 k ∧ v = .slice A' n' c' ∧ OwnI 3 wr ws.heap.size A' n' c' (endsA W H ac up q ((stepsL a b).take k)) ∧ Below ws.heap.size ws wr) (fun _ i _ => n1 - (intOf i).toNat)
  case atStart => exact ⟨0, 0, 0, none, by omega, rfl, rfl, OwnI.none_ _ _ _, Below.refl _ _⟩
  case round =>
    obtain ⟨k, n', c', A', hk, rfl, rfl, hown, hbw⟩ := hrel
    by_cases hlt : k < n1
    · obtain ⟨⟨dx, dy⟩, hx⟩ : ∃ p, (stepsL a b)[k]? = some p := ⟨_, List.getElem?_eq_getElem (show k < (stepsL a b).length by have := SL.out; omega)⟩
      obtain ⟨g1, rfl, _, hg1⟩ := ST.out.some_ hlt
      obtain ⟨x0, x1⟩ := pair_at ST.out hx
      have hbd := stepsL_bd HL.out (List.mem_of_getElem? hx)
      simp only at x0 x1 hbd
      replace x0 := cell_keep x0 hg1 hbw; replace x1 := cell_keep x1 hg1 hbw
      have HAF := Lib.hid (fun w' => after_any W H ac up (q % W) (q / W) dx dy w' HG.out (by have := HMB.out; omega) (by have := HDB.out; have := goodA_iff.1 HG.out; omega) (by omega) (by omega))
      have HYES := Lib.hid (endsA_yes (W := W) (H := H) (q := q) (ac := ac) (up := up) hx); have HNO := Lib.hid (endsA_no (W := W) (H := H) (q := q) (ac := ac) (up := up) hx)
      have HOI := Lib.hid (okA_iff (W := W) (H := H) (q := q) (ac := ac) (up := up) (p := (dx, dy)))
      have HSN := Lib.hid (stepA_no (W := W) (H := H) (q := q) (x := dx) (y := dy) (ac := ac) (up := up)); have HSY := Lib.hid (stepA_yes (W := W) (H := H) (q := q) (x := dx) (y := dy) (ac := ac) (up := up))
      have hn8 : n' ≤ 8 := by have h1 := hown.len; have h2 := endsA_len (W := W) (H := H) (q := q) (ac := ac) (up := up) (l := (stepsL a b).take k); rw [List.length_take] at h2; omega
      simp only at HYES HOI
      obtain ⟨S, hS⟩ : ∃ S, stepA W H ac up q dx dy = S := ⟨_, rfl⟩
      obtain ⟨P, hP⟩ : ∃ P, colA ac W (q % W + dx) = P := ⟨_, rfl⟩
      obtain ⟨R, hR⟩ : ∃ R, colA up H (q / W + dy) = R := ⟨_, rfl⟩
      rw [hS] at HYES HOI HSN HSY
      rw [hP, hR] at HAF HSN HSY
      have HO := Lib.hid hown; have HB := Lib.hid hbw
      have b0 := cell_keep a0 al hbw; have b1 := cell_keep a1 al hbw; have b2 := cell_keep a2 al hbw; have b3 := cell_keep a3 al hbw
      have bl := lt_keep al hbw
      have hsw := hbw.size
      have HBS := Lib.hid (show w.heap.size < ws.heap.size from al)
      clear hx hown hbw hbd hS hP hR
      go_upto_region 5 with fail
      obtain ⟨W3, hW3⟩ : ∃ W3, W3 = wr.alloc (.cells #[.int .i64 dx, .int .i64 dy] 59) := ⟨_, rfl⟩
      obtain ⟨gs, hgs⟩ : ∃ gs, gs = wr.heap.size := ⟨_, rfl⟩
      have SB := Lib.hid (show SpotBox W3 gs dx dy by rw [hW3, hgs]; exact heap_alloc_new _ _)
      have hb : Below wr.heap.size wr W3 := by rw [hW3]; exact below_new (Below.refl _ _) _
      have HGS := Lib.hid (show ws.heap.size ≤ gs by rw [hgs]; exact hsw)
      have s0 := SB.out.c0; have s1 := SB.out.c1; have sl := SB.out.lt
      replace b0 := cell_keep b0 bl hb; replace b1 := cell_keep b1 bl hb; replace b2 := cell_keep b2 bl hb; replace b3 := cell_keep b3 bl hb; replace bl := lt_keep bl hb
      replace HO := Lib.hid (HO.out.keep hb); replace HB := Lib.hid (HB.out.trans (hb.mono HB.out.size)); replace hsw := Nat.le_trans hsw hb.size
      rw [← hW3, ← hgs]
      clear hW3 hgs hb x0 x1
      cases hi : inA W H P R with
      | false =>
        have HE := Lib.hid (HNO.out (by rw [Bool.eq_false_iff]; intro h; have := HOI.out.1 h; have := HSN.out hi; omega))
        refine wp_region_held_drew (S := fun w' => w'.cell? ⟨w.heap.size, 0, none⟩ = some (.int .i64 W) ∧ w'.cell? ⟨w.heap.size, 1, none⟩ = some (.int .i64 H) ∧ w'.cell? ⟨w.heap.size, 2, none⟩ = some (.bool ac) ∧ w'.cell? ⟨w.heap.size, 3, none⟩ = some (.bool up) ∧ w'.cell? ⟨gs, 0, none⟩ = some (.int .i64 dx) ∧ w'.cell? ⟨gs, 1, none⟩ = some (.int .i64 dy)) (by kernel_rfl) ?_ (fun hHeld => ?_)
        · (try dsimp only)
          exact ⟨b0, b1, b2, b3, s0, s1⟩
        refine wpAnyH_take (i := 0) (oi := ⟨_, _, _, _, _, _⟩) (v := ?_) rfl (by kernel_rfl) (by kernel_rfl) (by kernel_rfl) (fun _ _ _ h => h) (Or.inl ⟨by rfl, ?_⟩) (by assumption) ?_
        rotate_left
        · intro w hSw
          (try dsimp only at hSw)
          go_simp
          (try with_reducible rfl)
        (try simp only [Act.put, List.setIfInBounds_toArray, List.set_cons_zero, List.set_cons_succ])
        refine wpAnyH_take (i := 1) (oi := ⟨_, _, _, _, _, _⟩) (v := ?_) rfl (by kernel_rfl) (by kernel_rfl) (by kernel_rfl) (fun _ _ _ h => h) (Or.inl ⟨by rfl, ?_⟩) (by assumption) ?_
        rotate_left
        · intro w hSw
          (try dsimp only at hSw)
          go_simp
          (try with_reducible rfl)
        (try simp only [Act.put, List.setIfInBounds_toArray, List.set_cons_zero, List.set_cons_succ])
        refine wpAnyH_take (i := 2) (oi := ⟨_, _, _, _, _, _⟩) (v := ?_) rfl (by kernel_rfl) (by kernel_rfl) (by kernel_rfl) (fun _ _ _ h => h) (Or.inl ⟨by rfl, ?_⟩) (by assumption) ?_
        rotate_left
        · intro w hSw
          (try dsimp only at hSw)
          go_simp
          (try with_reducible rfl)
        (try simp only [Act.put, List.setIfInBounds_toArray, List.set_cons_zero, List.set_cons_succ])
        refine wpAnyH_take (i := 5) (oi := ⟨_, _, _, _, _, _⟩) (v := ?_) rfl (by kernel_rfl) (by kernel_rfl) (by kernel_rfl) (fun _ _ _ h => h) (Or.inl ⟨by rfl, ?_⟩) (by assumption) ?_
        rotate_left
        · intro w hSw
          (try dsimp only at hSw)
          go_simp
          (try with_reducible rfl)
        (try simp only [Act.put, List.setIfInBounds_toArray, List.set_cons_zero, List.set_cons_succ])
        refine wpAnyH_take (i := 3) (oi := ⟨_, _, _, _, _, _⟩) (v := ?_) rfl (by kernel_rfl) (by kernel_rfl) (by kernel_rfl) (fun _ _ _ h => h) (Or.inl ⟨by rfl, ?_⟩) (by assumption) ?_
        rotate_left
        · intro w hSw
          (try dsimp only at hSw)
          go_simp
          (try with_reducible rfl)
        (try simp only [Act.put, List.setIfInBounds_toArray, List.set_cons_zero, List.set_cons_succ])
        refine wpAnyH_ready (rs := [4, 10]) (by kernel_rfl) (by simp) ?_
        refine AllReadyH.cons (o := ⟨_, _, _, _, _, _⟩) rfl (fun K hK => ?_) (AllReadyH.cons (o := ⟨_, _, _, _, _, _⟩) rfl (fun K hK => ?_) AllReadyH.nil)
        · go_simp
          (go_at_call 58; refine (HNU.out _).mono ?_; rintro e wx ⟨rfl, hb⟩; (repeat (first | replace hb := below_undrew hb | replace hb := below_undrewN hb)); replace b0 := cell_keep b0 bl hb; replace b1 := cell_keep b1 bl hb; replace b2 := cell_keep b2 bl hb; replace b3 := cell_keep b3 bl hb; replace bl := lt_keep bl hb; replace HO := Lib.hid (HO.out.keep hb); replace HB := Lib.hid (HB.out.trans (hb.mono HB.out.size)); replace hsw := Nat.le_trans hsw hb.size; replace SB := Lib.hid (SB.out.keep hb); replace s0 := cell_keep s0 sl hb; replace s1 := cell_keep s1 sl hb; replace sl := lt_keep sl hb; clear hb)
          (try go_wp2_with fail)
          refine hK.out _ _ ?_ (fun hHeld => ?_)
          · (try dsimp only)
            exact ⟨b0, b1, b2, b3, s0, s1⟩
          clear hK K
          (try simp only [Act.put, List.setIfInBounds_toArray, List.set_cons_zero, List.set_cons_succ])
          refine wpAnyH_ready (rs := [6, 10]) (by kernel_rfl) (by simp) ?_
          refine AllReadyH.cons (o := ⟨_, _, _, _, _, _⟩) rfl (fun K hK => ?_) (AllReadyH.cons (o := ⟨_, _, _, _, _, _⟩) rfl (fun K hK => ?_) AllReadyH.nil)
          · go_simp
            (go_at_call 57; refine (HAF.out _).mono ?_; rw [hi]; rintro e wy ⟨rfl, hb⟩; (repeat (first | replace hb := below_undrew hb | replace hb := below_undrewN hb)); replace b0 := cell_keep b0 bl hb; replace b1 := cell_keep b1 bl hb; replace b2 := cell_keep b2 bl hb; replace b3 := cell_keep b3 bl hb; replace bl := lt_keep bl hb; replace HO := Lib.hid (HO.out.keep hb); replace HB := Lib.hid (HB.out.trans (hb.mono HB.out.size)); replace hsw := Nat.le_trans hsw hb.size; replace SB := Lib.hid (SB.out.keep hb); replace s0 := cell_keep s0 sl hb; replace s1 := cell_keep s1 sl hb; replace sl := lt_keep sl hb; clear hb)
            (try go_wp2_with fail)
            refine hK.out _ _ ?_ (fun hHeld => ?_)
            · (try dsimp only)
              exact ⟨b0, b1, b2, b3, s0, s1⟩
            clear hK K
            (try simp only [Act.put, List.setIfInBounds_toArray, List.set_cons_zero, List.set_cons_succ])
            refine wpAnyH_take (i := 7) (oi := ⟨_, _, _, _, _, _⟩) (v := ?_) rfl (by kernel_rfl) (by kernel_rfl) (by kernel_rfl) (fun _ _ _ h => h) (Or.inl ⟨by rfl, ?_⟩) (by assumption) ?_
            rotate_left
            · intro w hSw
              (try dsimp only at hSw)
              go_simp
              (try with_reducible rfl)
            (try simp only [Act.put, List.setIfInBounds_toArray, List.set_cons_zero, List.set_cons_succ])
            refine wpAnyH_take (i := 8) (oi := ⟨_, _, _, _, _, _⟩) (v := ?_) rfl (by kernel_rfl) (by kernel_rfl) (by kernel_rfl) (fun _ _ _ h => h) (Or.inl ⟨by rfl, ?_⟩) (by assumption) ?_
            rotate_left
            · intro w hSw
              (try dsimp only at hSw)
              go_simp
              (try with_reducible rfl)
            (try simp only [Act.put, List.setIfInBounds_toArray, List.set_cons_zero, List.set_cons_succ])
            refine wpAnyH_take (i := 9) (oi := ⟨_, _, _, _, _, _⟩) (v := ?_) rfl (by kernel_rfl) (by kernel_rfl) (by kernel_rfl) (fun _ _ _ h => h) (Or.inl ⟨by rfl, ?_⟩) (by assumption) ?_
            rotate_left
            · intro w hSw
              (try dsimp only at hSw)
              go_simp
              (try with_reducible rfl)
            (try simp only [Act.put, List.setIfInBounds_toArray, List.set_cons_zero, List.set_cons_succ])
            refine wpAnyH_ready (rs := [10]) (by kernel_rfl) (by simp) ?_
            refine AllReadyH.cons (o := ⟨_, _, _, _, _, _⟩) rfl (fun K hK => ?_) AllReadyH.nil
            go_simp
            obtain ⟨wz, hWn⟩ : ∃ W5, W5 = wy.alloc (.cells #[.int .i64 0, .int .i64 0] 59) := ⟨_, rfl⟩
            have hb : Below wy.heap.size wy wz := by rw [hWn]; exact below_new (Below.refl _ _) _
            obtain ⟨gt, hgp⟩ : ∃ gp, gp = wy.heap.size := ⟨_, rfl⟩
            have HGT := Lib.hid (show gs < gt by rw [hgp]; exact sl)
            have TB := Lib.hid (show SpotBox wz gt 0 0 by rw [hWn, hgp]; exact heap_alloc_new _ _)
            rw [← hWn]
            (try rw [← hgp])
            clear hWn hgp
            replace b0 := cell_keep b0 bl hb
            replace b1 := cell_keep b1 bl hb
            replace b2 := cell_keep b2 bl hb
            replace b3 := cell_keep b3 bl hb
            replace bl := lt_keep bl hb
            replace HO := Lib.hid (HO.out.keep hb)
            replace HB := Lib.hid (HB.out.trans (hb.mono HB.out.size))
            replace hsw := Nat.le_trans hsw hb.size
            replace SB := Lib.hid (SB.out.keep hb)
            replace s0 := cell_keep s0 sl hb
            replace s1 := cell_keep s1 sl hb
            replace sl := lt_keep sl hb
            clear hb
            refine hK.out _ _ ?_ (fun hHeld => ?_)
            · (try dsimp only)
              exact ⟨b0, b1, b2, b3, s0, s1⟩
            clear hK K
            (try simp only [Act.put, List.setIfInBounds_toArray, List.set_cons_zero, List.set_cons_succ])
            refine wpAnyH_ready (rs := [11]) (by kernel_rfl) (by simp) ?_
            refine AllReadyH.cons (o := ⟨_, _, _, _, _, _⟩) rfl (fun K hK => ?_) AllReadyH.nil
            have z0 := TB.out.c0; have z1 := TB.out.c1
            have f0 : wz.frozen? ⟨gt, 0, none⟩ = false := frozen_of_row wz _ 0 _ _ TB.out
            have f1 : wz.frozen? ⟨gt, 1, none⟩ = false := frozen_of_row wz _ 1 _ _ TB.out
            go_simp
            obtain ⟨W6, hWn⟩ : ∃ W6, W6 = (wz.setCell ⟨gt, 0, none⟩ (.int .i64 P)).setCell ⟨gt, 1, none⟩ (.int .i64 R) := ⟨_, rfl⟩
            have hgr : wz.grownBy W6 (some gt) := by rw [hWn]; exact grown_next (grownSet _ ⟨gt, 0, none⟩ _) (grownSet _ ⟨gt, 1, none⟩ _)
            have hgne := HGT.out; have hgse := HGS.out; have hbse := HBS.out
            replace HO := Lib.hid (HO.out.other hgr (fun a9 ha9 he => TB.out.apart HO.out a9 ha9 (by injection he)))
            replace TB := Lib.hid (show SpotBox W6 gt P R by rw [hWn]; exact TB.out.set _ _)
            replace HB := Lib.hid (HB.out.grown hgr HB.out.size (fun g9 h9 => by injection h9 with h9; omega))
            replace b0 := hgr.cell b0 (by simp; omega)
            replace b1 := hgr.cell b1 (by simp; omega)
            replace b2 := hgr.cell b2 (by simp; omega)
            replace b3 := hgr.cell b3 (by simp; omega)
            replace s0 := hgr.cell s0 (by simp; omega)
            replace s1 := hgr.cell s1 (by simp; omega)
            replace bl := Nat.lt_of_lt_of_le bl hgr.size
            replace hsw := Nat.le_trans hsw hgr.size
            rw [← hWn]
            clear hWn hgr z0 z1 f0 f1 hgne hgse hbse
            refine hK.out _ _ ?_ (fun hHeld => ?_)
            · (try dsimp only)
              exact ⟨b0, b1, b2, b3, s0, s1⟩
            clear hK K
            (try simp only [Act.put, List.setIfInBounds_toArray, List.set_cons_zero, List.set_cons_succ])
            refine wpAnyH_take (i := 12) (oi := ⟨_, _, _, _, _, _⟩) (v := ?_) rfl (by kernel_rfl) (by kernel_rfl) (by kernel_rfl) (fun _ _ _ h => h) (Or.inl ⟨by rfl, ?_⟩) (by assumption) ?_
            rotate_left
            · intro w hSw
              (try dsimp only at hSw)
              go_simp
              (try with_reducible rfl)
            (try simp only [Act.put, List.setIfInBounds_toArray, List.set_cons_zero, List.set_cons_succ])
            refine wpAnyH_done (by kernel_rfl) ?_ _
            have t0 := TB.out.c0; have t1 := TB.out.c1
            have tl := TB.out.lt
            clear hHeld s0 s1
            clear t0 t1 tl b0 b1 b2 b3 bl
            go_wp2
            go_roundw
            case rel => exact ⟨k + 1, n', c', A', by omega, by go_num, rfl, by rw [HE.out]; exact HO.out, HB.out⟩
            case measure => simp [intOf]; omega
          · go_simp
            obtain ⟨wz, hWn⟩ : ∃ W5, W5 = wx.alloc (.cells #[.int .i64 0, .int .i64 0] 59) := ⟨_, rfl⟩
            have hb : Below wx.heap.size wx wz := by rw [hWn]; exact below_new (Below.refl _ _) _
            obtain ⟨gt, hgp⟩ : ∃ gp, gp = wx.heap.size := ⟨_, rfl⟩
            have HGT := Lib.hid (show gs < gt by rw [hgp]; exact sl)
            have TB := Lib.hid (show SpotBox wz gt 0 0 by rw [hWn, hgp]; exact heap_alloc_new _ _)
            rw [← hWn]
            (try rw [← hgp])
            clear hWn hgp
            replace b0 := cell_keep b0 bl hb
            replace b1 := cell_keep b1 bl hb
            replace b2 := cell_keep b2 bl hb
            replace b3 := cell_keep b3 bl hb
            replace bl := lt_keep bl hb
            replace HO := Lib.hid (HO.out.keep hb)
            replace HB := Lib.hid (HB.out.trans (hb.mono HB.out.size))
            replace hsw := Nat.le_trans hsw hb.size
            replace SB := Lib.hid (SB.out.keep hb)
            replace s0 := cell_keep s0 sl hb
            replace s1 := cell_keep s1 sl hb
            replace sl := lt_keep sl hb
            clear hb
            refine hK.out _ _ ?_ (fun hHeld => ?_)
            · (try dsimp only)
              exact ⟨b0, b1, b2, b3, s0, s1⟩
            clear hK K
            (try simp only [Act.put, List.setIfInBounds_toArray, List.set_cons_zero, List.set_cons_succ])
            refine wpAnyH_ready (rs := [6]) (by kernel_rfl) (by simp) ?_
            refine AllReadyH.cons (o := ⟨_, _, _, _, _, _⟩) rfl (fun K hK => ?_) AllReadyH.nil
            go_simp
            (go_at_call 57; refine (HAF.out _).mono ?_; rw [hi]; rintro e wy ⟨rfl, hb⟩; (repeat (first | replace hb := below_undrew hb | replace hb := below_undrewN hb)); replace b0 := cell_keep b0 bl hb; replace b1 := cell_keep b1 bl hb; replace b2 := cell_keep b2 bl hb; replace b3 := cell_keep b3 bl hb; replace bl := lt_keep bl hb; replace HO := Lib.hid (HO.out.keep hb); replace HB := Lib.hid (HB.out.trans (hb.mono HB.out.size)); replace hsw := Nat.le_trans hsw hb.size; replace SB := Lib.hid (SB.out.keep hb); replace s0 := cell_keep s0 sl hb; replace s1 := cell_keep s1 sl hb; replace sl := lt_keep sl hb; replace TB := Lib.hid (TB.out.keep hb); clear hb)
            (try go_wp2_with fail)
            refine hK.out _ _ ?_ (fun hHeld => ?_)
            · (try dsimp only)
              exact ⟨b0, b1, b2, b3, s0, s1⟩
            clear hK K
            (try simp only [Act.put, List.setIfInBounds_toArray, List.set_cons_zero, List.set_cons_succ])
            refine wpAnyH_take (i := 7) (oi := ⟨_, _, _, _, _, _⟩) (v := ?_) rfl (by kernel_rfl) (by kernel_rfl) (by kernel_rfl) (fun _ _ _ h => h) (Or.inl ⟨by rfl, ?_⟩) (by assumption) ?_
            rotate_left
            · intro w hSw
              (try dsimp only at hSw)
              go_simp
              (try with_reducible rfl)
            (try simp only [Act.put, List.setIfInBounds_toArray, List.set_cons_zero, List.set_cons_succ])
            refine wpAnyH_take (i := 8) (oi := ⟨_, _, _, _, _, _⟩) (v := ?_) rfl (by kernel_rfl) (by kernel_rfl) (by kernel_rfl) (fun _ _ _ h => h) (Or.inl ⟨by rfl, ?_⟩) (by assumption) ?_
            rotate_left
            · intro w hSw
              (try dsimp only at hSw)
              go_simp
              (try with_reducible rfl)
            (try simp only [Act.put, List.setIfInBounds_toArray, List.set_cons_zero, List.set_cons_succ])
            refine wpAnyH_take (i := 9) (oi := ⟨_, _, _, _, _, _⟩) (v := ?_) rfl (by kernel_rfl) (by kernel_rfl) (by kernel_rfl) (fun _ _ _ h => h) (Or.inl ⟨by rfl, ?_⟩) (by assumption) ?_
            rotate_left
            · intro w hSw
              (try dsimp only at hSw)
              go_simp
              (try with_reducible rfl)
            (try simp only [Act.put, List.setIfInBounds_toArray, List.set_cons_zero, List.set_cons_succ])
            refine wpAnyH_ready (rs := [11]) (by kernel_rfl) (by simp) ?_
            refine AllReadyH.cons (o := ⟨_, _, _, _, _, _⟩) rfl (fun K hK => ?_) AllReadyH.nil
            have z0 := TB.out.c0; have z1 := TB.out.c1
            have f0 : wy.frozen? ⟨gt, 0, none⟩ = false := frozen_of_row wy _ 0 _ _ TB.out
            have f1 : wy.frozen? ⟨gt, 1, none⟩ = false := frozen_of_row wy _ 1 _ _ TB.out
            go_simp
            obtain ⟨W6, hWn⟩ : ∃ W6, W6 = (wy.setCell ⟨gt, 0, none⟩ (.int .i64 P)).setCell ⟨gt, 1, none⟩ (.int .i64 R) := ⟨_, rfl⟩
            have hgr : wy.grownBy W6 (some gt) := by rw [hWn]; exact grown_next (grownSet _ ⟨gt, 0, none⟩ _) (grownSet _ ⟨gt, 1, none⟩ _)
            have hgne := HGT.out; have hgse := HGS.out; have hbse := HBS.out
            replace HO := Lib.hid (HO.out.other hgr (fun a9 ha9 he => TB.out.apart HO.out a9 ha9 (by injection he)))
            replace TB := Lib.hid (show SpotBox W6 gt P R by rw [hWn]; exact TB.out.set _ _)
            replace HB := Lib.hid (HB.out.grown hgr HB.out.size (fun g9 h9 => by injection h9 with h9; omega))
            replace b0 := hgr.cell b0 (by simp; omega)
            replace b1 := hgr.cell b1 (by simp; omega)
            replace b2 := hgr.cell b2 (by simp; omega)
            replace b3 := hgr.cell b3 (by simp; omega)
            replace s0 := hgr.cell s0 (by simp; omega)
            replace s1 := hgr.cell s1 (by simp; omega)
            replace bl := Nat.lt_of_lt_of_le bl hgr.size
            replace hsw := Nat.le_trans hsw hgr.size
            rw [← hWn]
            clear hWn hgr z0 z1 f0 f1 hgne hgse hbse
            refine hK.out _ _ ?_ (fun hHeld => ?_)
            · (try dsimp only)
              exact ⟨b0, b1, b2, b3, s0, s1⟩
            clear hK K
            (try simp only [Act.put, List.setIfInBounds_toArray, List.set_cons_zero, List.set_cons_succ])
            refine wpAnyH_take (i := 12) (oi := ⟨_, _, _, _, _, _⟩) (v := ?_) rfl (by kernel_rfl) (by kernel_rfl) (by kernel_rfl) (fun _ _ _ h => h) (Or.inl ⟨by rfl, ?_⟩) (by assumption) ?_
            rotate_left
            · intro w hSw
              (try dsimp only at hSw)
              go_simp
              (try with_reducible rfl)
            (try simp only [Act.put, List.setIfInBounds_toArray, List.set_cons_zero, List.set_cons_succ])
            refine wpAnyH_done (by kernel_rfl) ?_ _
            have t0 := TB.out.c0; have t1 := TB.out.c1
            have tl := TB.out.lt
            clear hHeld s0 s1
            clear t0 t1 tl b0 b1 b2 b3 bl
            go_wp2
            go_roundw
            case rel => exact ⟨k + 1, n', c', A', by omega, by go_num, rfl, by rw [HE.out]; exact HO.out, HB.out⟩
            case measure => simp [intOf]; omega
        · go_simp
          obtain ⟨wz, hWn⟩ : ∃ W5, W5 = W3.alloc (.cells #[.int .i64 0, .int .i64 0] 59) := ⟨_, rfl⟩
          have hb : Below W3.heap.size W3 wz := by rw [hWn]; exact below_new (Below.refl _ _) _
          obtain ⟨gt, hgp⟩ : ∃ gp, gp = W3.heap.size := ⟨_, rfl⟩
          have HGT := Lib.hid (show gs < gt by rw [hgp]; exact sl)
          have TB := Lib.hid (show SpotBox wz gt 0 0 by rw [hWn, hgp]; exact heap_alloc_new _ _)
          rw [← hWn]
          (try rw [← hgp])
          clear hWn hgp
          replace b0 := cell_keep b0 bl hb
          replace b1 := cell_keep b1 bl hb
          replace b2 := cell_keep b2 bl hb
          replace b3 := cell_keep b3 bl hb
          replace bl := lt_keep bl hb
          replace HO := Lib.hid (HO.out.keep hb)
          replace HB := Lib.hid (HB.out.trans (hb.mono HB.out.size))
          replace hsw := Nat.le_trans hsw hb.size
          replace SB := Lib.hid (SB.out.keep hb)
          replace s0 := cell_keep s0 sl hb
          replace s1 := cell_keep s1 sl hb
          replace sl := lt_keep sl hb
          clear hb
          refine hK.out _ _ ?_ (fun hHeld => ?_)
          · (try dsimp only)
            exact ⟨b0, b1, b2, b3, s0, s1⟩
          clear hK K
          (try simp only [Act.put, List.setIfInBounds_toArray, List.set_cons_zero, List.set_cons_succ])
          refine wpAnyH_ready (rs := [4]) (by kernel_rfl) (by simp) ?_
          refine AllReadyH.cons (o := ⟨_, _, _, _, _, _⟩) rfl (fun K hK => ?_) AllReadyH.nil
          go_simp
          (go_at_call 58; refine (HNU.out _).mono ?_; rintro e wx ⟨rfl, hb⟩; (repeat (first | replace hb := below_undrew hb | replace hb := below_undrewN hb)); replace b0 := cell_keep b0 bl hb; replace b1 := cell_keep b1 bl hb; replace b2 := cell_keep b2 bl hb; replace b3 := cell_keep b3 bl hb; replace bl := lt_keep bl hb; replace HO := Lib.hid (HO.out.keep hb); replace HB := Lib.hid (HB.out.trans (hb.mono HB.out.size)); replace hsw := Nat.le_trans hsw hb.size; replace SB := Lib.hid (SB.out.keep hb); replace s0 := cell_keep s0 sl hb; replace s1 := cell_keep s1 sl hb; replace sl := lt_keep sl hb; replace TB := Lib.hid (TB.out.keep hb); clear hb)
          (try go_wp2_with fail)
          refine hK.out _ _ ?_ (fun hHeld => ?_)
          · (try dsimp only)
            exact ⟨b0, b1, b2, b3, s0, s1⟩
          clear hK K
          (try simp only [Act.put, List.setIfInBounds_toArray, List.set_cons_zero, List.set_cons_succ])
          refine wpAnyH_ready (rs := [6]) (by kernel_rfl) (by simp) ?_
          refine AllReadyH.cons (o := ⟨_, _, _, _, _, _⟩) rfl (fun K hK => ?_) AllReadyH.nil
          go_simp
          (go_at_call 57; refine (HAF.out _).mono ?_; rw [hi]; rintro e wy ⟨rfl, hb⟩; (repeat (first | replace hb := below_undrew hb | replace hb := below_undrewN hb)); replace b0 := cell_keep b0 bl hb; replace b1 := cell_keep b1 bl hb; replace b2 := cell_keep b2 bl hb; replace b3 := cell_keep b3 bl hb; replace bl := lt_keep bl hb; replace HO := Lib.hid (HO.out.keep hb); replace HB := Lib.hid (HB.out.trans (hb.mono HB.out.size)); replace hsw := Nat.le_trans hsw hb.size; replace SB := Lib.hid (SB.out.keep hb); replace s0 := cell_keep s0 sl hb; replace s1 := cell_keep s1 sl hb; replace sl := lt_keep sl hb; replace TB := Lib.hid (TB.out.keep hb); clear hb)
          (try go_wp2_with fail)
          refine hK.out _ _ ?_ (fun hHeld => ?_)
          · (try dsimp only)
            exact ⟨b0, b1, b2, b3, s0, s1⟩
          clear hK K
          (try simp only [Act.put, List.setIfInBounds_toArray, List.set_cons_zero, List.set_cons_succ])
          refine wpAnyH_take (i := 7) (oi := ⟨_, _, _, _, _, _⟩) (v := ?_) rfl (by kernel_rfl) (by kernel_rfl) (by kernel_rfl) (fun _ _ _ h => h) (Or.inl ⟨by rfl, ?_⟩) (by assumption) ?_
          rotate_left
          · intro w hSw
            (try dsimp only at hSw)
            go_simp
            (try with_reducible rfl)
          (try simp only [Act.put, List.setIfInBounds_toArray, List.set_cons_zero, List.set_cons_succ])
          refine wpAnyH_take (i := 8) (oi := ⟨_, _, _, _, _, _⟩) (v := ?_) rfl (by kernel_rfl) (by kernel_rfl) (by kernel_rfl) (fun _ _ _ h => h) (Or.inl ⟨by rfl, ?_⟩) (by assumption) ?_
          rotate_left
          · intro w hSw
            (try dsimp only at hSw)
            go_simp
            (try with_reducible rfl)
          (try simp only [Act.put, List.setIfInBounds_toArray, List.set_cons_zero, List.set_cons_succ])
          refine wpAnyH_take (i := 9) (oi := ⟨_, _, _, _, _, _⟩) (v := ?_) rfl (by kernel_rfl) (by kernel_rfl) (by kernel_rfl) (fun _ _ _ h => h) (Or.inl ⟨by rfl, ?_⟩) (by assumption) ?_
          rotate_left
          · intro w hSw
            (try dsimp only at hSw)
            go_simp
            (try with_reducible rfl)
          (try simp only [Act.put, List.setIfInBounds_toArray, List.set_cons_zero, List.set_cons_succ])
          refine wpAnyH_ready (rs := [11]) (by kernel_rfl) (by simp) ?_
          refine AllReadyH.cons (o := ⟨_, _, _, _, _, _⟩) rfl (fun K hK => ?_) AllReadyH.nil
          have z0 := TB.out.c0; have z1 := TB.out.c1
          have f0 : wy.frozen? ⟨gt, 0, none⟩ = false := frozen_of_row wy _ 0 _ _ TB.out
          have f1 : wy.frozen? ⟨gt, 1, none⟩ = false := frozen_of_row wy _ 1 _ _ TB.out
          go_simp
          obtain ⟨W6, hWn⟩ : ∃ W6, W6 = (wy.setCell ⟨gt, 0, none⟩ (.int .i64 P)).setCell ⟨gt, 1, none⟩ (.int .i64 R) := ⟨_, rfl⟩
          have hgr : wy.grownBy W6 (some gt) := by rw [hWn]; exact grown_next (grownSet _ ⟨gt, 0, none⟩ _) (grownSet _ ⟨gt, 1, none⟩ _)
          have hgne := HGT.out; have hgse := HGS.out; have hbse := HBS.out
          replace HO := Lib.hid (HO.out.other hgr (fun a9 ha9 he => TB.out.apart HO.out a9 ha9 (by injection he)))
          replace TB := Lib.hid (show SpotBox W6 gt P R by rw [hWn]; exact TB.out.set _ _)
          replace HB := Lib.hid (HB.out.grown hgr HB.out.size (fun g9 h9 => by injection h9 with h9; omega))
          replace b0 := hgr.cell b0 (by simp; omega)
          replace b1 := hgr.cell b1 (by simp; omega)
          replace b2 := hgr.cell b2 (by simp; omega)
          replace b3 := hgr.cell b3 (by simp; omega)
          replace s0 := hgr.cell s0 (by simp; omega)
          replace s1 := hgr.cell s1 (by simp; omega)
          replace bl := Nat.lt_of_lt_of_le bl hgr.size
          replace hsw := Nat.le_trans hsw hgr.size
          rw [← hWn]
          clear hWn hgr z0 z1 f0 f1 hgne hgse hbse
          refine hK.out _ _ ?_ (fun hHeld => ?_)
          · (try dsimp only)
            exact ⟨b0, b1, b2, b3, s0, s1⟩
          clear hK K
          (try simp only [Act.put, List.setIfInBounds_toArray, List.set_cons_zero, List.set_cons_succ])
          refine wpAnyH_take (i := 12) (oi := ⟨_, _, _, _, _, _⟩) (v := ?_) rfl (by kernel_rfl) (by kernel_rfl) (by kernel_rfl) (fun _ _ _ h => h) (Or.inl ⟨by rfl, ?_⟩) (by assumption) ?_
          rotate_left
          · intro w hSw
            (try dsimp only at hSw)
            go_simp
            (try with_reducible rfl)
          (try simp only [Act.put, List.setIfInBounds_toArray, List.set_cons_zero, List.set_cons_succ])
          refine wpAnyH_done (by kernel_rfl) ?_ _
          have t0 := TB.out.c0; have t1 := TB.out.c1
          have tl := TB.out.lt
          clear hHeld s0 s1
          clear t0 t1 tl b0 b1 b2 b3 bl
          go_wp2
          go_roundw
          case rel => exact ⟨k + 1, n', c', A', by omega, by go_num, rfl, by rw [HE.out]; exact HO.out, HB.out⟩
          case measure => simp [intOf]; omega
      | true =>
        have HSQ := Lib.hid (HSY.out hi).symm
        have HPB := Lib.hid (show -5000 ≤ P ∧ P ≤ 5000 by have := inA_iff.1 hi; have := goodA_iff.1 HG.out; omega)
        have HRW := Lib.hid (show -5000 ≤ R * W ∧ R * W ≤ 5000 by have h1 := inA_iff.1 hi; have h2 := goodA_iff.1 HG.out; have := mul12 (x := R) (y := W) (by omega) (by omega); omega)
        have HS0 := Lib.hid (show 0 ≤ S by have := numA hi; have := HSQ.out; omega)
        by_cases hsq : S = q
        · have HE := Lib.hid (HNO.out (by rw [Bool.eq_false_iff]; intro h; have := HOI.out.1 h; omega))
          subst hsq
          refine wp_region_held_drew (S := fun w' => w'.cell? ⟨w.heap.size, 0, none⟩ = some (.int .i64 W) ∧ w'.cell? ⟨w.heap.size, 1, none⟩ = some (.int .i64 H) ∧ w'.cell? ⟨w.heap.size, 2, none⟩ = some (.bool ac) ∧ w'.cell? ⟨w.heap.size, 3, none⟩ = some (.bool up) ∧ w'.cell? ⟨gs, 0, none⟩ = some (.int .i64 dx) ∧ w'.cell? ⟨gs, 1, none⟩ = some (.int .i64 dy)) (by kernel_rfl) ?_ (fun hHeld => ?_)
          · (try dsimp only)
            exact ⟨b0, b1, b2, b3, s0, s1⟩
          refine wpAnyH_take (i := 0) (oi := ⟨_, _, _, _, _, _⟩) (v := ?_) rfl (by kernel_rfl) (by kernel_rfl) (by kernel_rfl) (fun _ _ _ h => h) (Or.inl ⟨by rfl, ?_⟩) (by assumption) ?_
          rotate_left
          · intro w hSw
            (try dsimp only at hSw)
            go_simp
            (try with_reducible rfl)
          (try simp only [Act.put, List.setIfInBounds_toArray, List.set_cons_zero, List.set_cons_succ])
          refine wpAnyH_take (i := 1) (oi := ⟨_, _, _, _, _, _⟩) (v := ?_) rfl (by kernel_rfl) (by kernel_rfl) (by kernel_rfl) (fun _ _ _ h => h) (Or.inl ⟨by rfl, ?_⟩) (by assumption) ?_
          rotate_left
          · intro w hSw
            (try dsimp only at hSw)
            go_simp
            (try with_reducible rfl)
          (try simp only [Act.put, List.setIfInBounds_toArray, List.set_cons_zero, List.set_cons_succ])
          refine wpAnyH_take (i := 2) (oi := ⟨_, _, _, _, _, _⟩) (v := ?_) rfl (by kernel_rfl) (by kernel_rfl) (by kernel_rfl) (fun _ _ _ h => h) (Or.inl ⟨by rfl, ?_⟩) (by assumption) ?_
          rotate_left
          · intro w hSw
            (try dsimp only at hSw)
            go_simp
            (try with_reducible rfl)
          (try simp only [Act.put, List.setIfInBounds_toArray, List.set_cons_zero, List.set_cons_succ])
          refine wpAnyH_take (i := 5) (oi := ⟨_, _, _, _, _, _⟩) (v := ?_) rfl (by kernel_rfl) (by kernel_rfl) (by kernel_rfl) (fun _ _ _ h => h) (Or.inl ⟨by rfl, ?_⟩) (by assumption) ?_
          rotate_left
          · intro w hSw
            (try dsimp only at hSw)
            go_simp
            (try with_reducible rfl)
          (try simp only [Act.put, List.setIfInBounds_toArray, List.set_cons_zero, List.set_cons_succ])
          refine wpAnyH_take (i := 3) (oi := ⟨_, _, _, _, _, _⟩) (v := ?_) rfl (by kernel_rfl) (by kernel_rfl) (by kernel_rfl) (fun _ _ _ h => h) (Or.inl ⟨by rfl, ?_⟩) (by assumption) ?_
          rotate_left
          · intro w hSw
            (try dsimp only at hSw)
            go_simp
            (try with_reducible rfl)
          (try simp only [Act.put, List.setIfInBounds_toArray, List.set_cons_zero, List.set_cons_succ])
          refine wpAnyH_ready (rs := [4, 10]) (by kernel_rfl) (by simp) ?_
          refine AllReadyH.cons (o := ⟨_, _, _, _, _, _⟩) rfl (fun K hK => ?_) (AllReadyH.cons (o := ⟨_, _, _, _, _, _⟩) rfl (fun K hK => ?_) AllReadyH.nil)
          · go_simp
            (go_at_call 58; refine (HNU.out _).mono ?_; rintro e wx ⟨rfl, hb⟩; (repeat (first | replace hb := below_undrew hb | replace hb := below_undrewN hb)); replace b0 := cell_keep b0 bl hb; replace b1 := cell_keep b1 bl hb; replace b2 := cell_keep b2 bl hb; replace b3 := cell_keep b3 bl hb; replace bl := lt_keep bl hb; replace HO := Lib.hid (HO.out.keep hb); replace HB := Lib.hid (HB.out.trans (hb.mono HB.out.size)); replace hsw := Nat.le_trans hsw hb.size; replace SB := Lib.hid (SB.out.keep hb); replace s0 := cell_keep s0 sl hb; replace s1 := cell_keep s1 sl hb; replace sl := lt_keep sl hb; clear hb)
            (try go_wp2_with fail)
            refine hK.out _ _ ?_ (fun hHeld => ?_)
            · (try dsimp only)
              exact ⟨b0, b1, b2, b3, s0, s1⟩
            clear hK K
            (try simp only [Act.put, List.setIfInBounds_toArray, List.set_cons_zero, List.set_cons_succ])
            refine wpAnyH_ready (rs := [6, 10]) (by kernel_rfl) (by simp) ?_
            refine AllReadyH.cons (o := ⟨_, _, _, _, _, _⟩) rfl (fun K hK => ?_) (AllReadyH.cons (o := ⟨_, _, _, _, _, _⟩) rfl (fun K hK => ?_) AllReadyH.nil)
            · go_simp
              (go_at_call 57; refine (HAF.out _).mono ?_; rw [hi]; rintro e wy ⟨rfl, hb⟩; (repeat (first | replace hb := below_undrew hb | replace hb := below_undrewN hb)); replace b0 := cell_keep b0 bl hb; replace b1 := cell_keep b1 bl hb; replace b2 := cell_keep b2 bl hb; replace b3 := cell_keep b3 bl hb; replace bl := lt_keep bl hb; replace HO := Lib.hid (HO.out.keep hb); replace HB := Lib.hid (HB.out.trans (hb.mono HB.out.size)); replace hsw := Nat.le_trans hsw hb.size; replace SB := Lib.hid (SB.out.keep hb); replace s0 := cell_keep s0 sl hb; replace s1 := cell_keep s1 sl hb; replace sl := lt_keep sl hb; clear hb)
              (try go_wp2_with fail)
              refine hK.out _ _ ?_ (fun hHeld => ?_)
              · (try dsimp only)
                exact ⟨b0, b1, b2, b3, s0, s1⟩
              clear hK K
              (try simp only [Act.put, List.setIfInBounds_toArray, List.set_cons_zero, List.set_cons_succ])
              refine wpAnyH_take (i := 7) (oi := ⟨_, _, _, _, _, _⟩) (v := ?_) rfl (by kernel_rfl) (by kernel_rfl) (by kernel_rfl) (fun _ _ _ h => h) (Or.inl ⟨by rfl, ?_⟩) (by assumption) ?_
              rotate_left
              · intro w hSw
                (try dsimp only at hSw)
                go_simp
                (try with_reducible rfl)
              (try simp only [Act.put, List.setIfInBounds_toArray, List.set_cons_zero, List.set_cons_succ])
              refine wpAnyH_take (i := 8) (oi := ⟨_, _, _, _, _, _⟩) (v := ?_) rfl (by kernel_rfl) (by kernel_rfl) (by kernel_rfl) (fun _ _ _ h => h) (Or.inl ⟨by rfl, ?_⟩) (by assumption) ?_
              rotate_left
              · intro w hSw
                (try dsimp only at hSw)
                go_simp
                (try with_reducible rfl)
              (try simp only [Act.put, List.setIfInBounds_toArray, List.set_cons_zero, List.set_cons_succ])
              refine wpAnyH_take (i := 9) (oi := ⟨_, _, _, _, _, _⟩) (v := ?_) rfl (by kernel_rfl) (by kernel_rfl) (by kernel_rfl) (fun _ _ _ h => h) (Or.inl ⟨by rfl, ?_⟩) (by assumption) ?_
              rotate_left
              · intro w hSw
                (try dsimp only at hSw)
                go_simp
                (try with_reducible rfl)
              (try simp only [Act.put, List.setIfInBounds_toArray, List.set_cons_zero, List.set_cons_succ])
              refine wpAnyH_ready (rs := [10]) (by kernel_rfl) (by simp) ?_
              refine AllReadyH.cons (o := ⟨_, _, _, _, _, _⟩) rfl (fun K hK => ?_) AllReadyH.nil
              go_simp
              obtain ⟨wz, hWn⟩ : ∃ W5, W5 = wy.alloc (.cells #[.int .i64 0, .int .i64 0] 59) := ⟨_, rfl⟩
              have hb : Below wy.heap.size wy wz := by rw [hWn]; exact below_new (Below.refl _ _) _
              obtain ⟨gt, hgp⟩ : ∃ gp, gp = wy.heap.size := ⟨_, rfl⟩
              have HGT := Lib.hid (show gs < gt by rw [hgp]; exact sl)
              have TB := Lib.hid (show SpotBox wz gt 0 0 by rw [hWn, hgp]; exact heap_alloc_new _ _)
              rw [← hWn]
              (try rw [← hgp])
              clear hWn hgp
              replace b0 := cell_keep b0 bl hb
              replace b1 := cell_keep b1 bl hb
              replace b2 := cell_keep b2 bl hb
              replace b3 := cell_keep b3 bl hb
              replace bl := lt_keep bl hb
              replace HO := Lib.hid (HO.out.keep hb)
              replace HB := Lib.hid (HB.out.trans (hb.mono HB.out.size))
              replace hsw := Nat.le_trans hsw hb.size
              replace SB := Lib.hid (SB.out.keep hb)
              replace s0 := cell_keep s0 sl hb
              replace s1 := cell_keep s1 sl hb
              replace sl := lt_keep sl hb
              clear hb
              refine hK.out _ _ ?_ (fun hHeld => ?_)
              · (try dsimp only)
                exact ⟨b0, b1, b2, b3, s0, s1⟩
              clear hK K
              (try simp only [Act.put, List.setIfInBounds_toArray, List.set_cons_zero, List.set_cons_succ])
              refine wpAnyH_ready (rs := [11]) (by kernel_rfl) (by simp) ?_
              refine AllReadyH.cons (o := ⟨_, _, _, _, _, _⟩) rfl (fun K hK => ?_) AllReadyH.nil
              have z0 := TB.out.c0; have z1 := TB.out.c1
              have f0 : wz.frozen? ⟨gt, 0, none⟩ = false := frozen_of_row wz _ 0 _ _ TB.out
              have f1 : wz.frozen? ⟨gt, 1, none⟩ = false := frozen_of_row wz _ 1 _ _ TB.out
              go_simp
              obtain ⟨W6, hWn⟩ : ∃ W6, W6 = (wz.setCell ⟨gt, 0, none⟩ (.int .i64 P)).setCell ⟨gt, 1, none⟩ (.int .i64 R) := ⟨_, rfl⟩
              have hgr : wz.grownBy W6 (some gt) := by rw [hWn]; exact grown_next (grownSet _ ⟨gt, 0, none⟩ _) (grownSet _ ⟨gt, 1, none⟩ _)
              have hgne := HGT.out; have hgse := HGS.out; have hbse := HBS.out
              replace HO := Lib.hid (HO.out.other hgr (fun a9 ha9 he => TB.out.apart HO.out a9 ha9 (by injection he)))
              replace TB := Lib.hid (show SpotBox W6 gt P R by rw [hWn]; exact TB.out.set _ _)
              replace HB := Lib.hid (HB.out.grown hgr HB.out.size (fun g9 h9 => by injection h9 with h9; omega))
              replace b0 := hgr.cell b0 (by simp; omega)
              replace b1 := hgr.cell b1 (by simp; omega)
              replace b2 := hgr.cell b2 (by simp; omega)
              replace b3 := hgr.cell b3 (by simp; omega)
              replace s0 := hgr.cell s0 (by simp; omega)
              replace s1 := hgr.cell s1 (by simp; omega)
              replace bl := Nat.lt_of_lt_of_le bl hgr.size
              replace hsw := Nat.le_trans hsw hgr.size
              rw [← hWn]
              clear hWn hgr z0 z1 f0 f1 hgne hgse hbse
              refine hK.out _ _ ?_ (fun hHeld => ?_)
              · (try dsimp only)
                exact ⟨b0, b1, b2, b3, s0, s1⟩
              clear hK K
              (try simp only [Act.put, List.setIfInBounds_toArray, List.set_cons_zero, List.set_cons_succ])
              refine wpAnyH_take (i := 12) (oi := ⟨_, _, _, _, _, _⟩) (v := ?_) rfl (by kernel_rfl) (by kernel_rfl) (by kernel_rfl) (fun _ _ _ h => h) (Or.inl ⟨by rfl, ?_⟩) (by assumption) ?_
              rotate_left
              · intro w hSw
                (try dsimp only at hSw)
                go_simp
                (try with_reducible rfl)
              (try simp only [Act.put, List.setIfInBounds_toArray, List.set_cons_zero, List.set_cons_succ])
              refine wpAnyH_done (by kernel_rfl) ?_ _
              have t0 := TB.out.c0; have t1 := TB.out.c1
              have tl := TB.out.lt
              clear hHeld s0 s1
              go_wp2_with fail
              refine (number_gen P R W _ HPB.out HRW.out).mono ?_
              rintro e w9 ⟨rfl, hb⟩
              replace b0 := cell_keep b0 bl hb
              replace b1 := cell_keep b1 bl hb
              replace b2 := cell_keep b2 bl hb
              replace b3 := cell_keep b3 bl hb
              replace bl := lt_keep bl hb
              replace t0 := cell_keep t0 tl hb; replace t1 := cell_keep t1 tl hb; replace tl := lt_keep tl hb
              replace HO := Lib.hid (HO.out.keep hb)
              replace HB := Lib.hid (HB.out.trans (hb.mono HB.out.size))
              replace hsw := Nat.le_trans hsw hb.size
              clear hb
              rw [HSQ.out]
              clear t0 t1 tl b0 b1 b2 b3 bl
              go_wp2
              go_roundw
              case rel => exact ⟨k + 1, n', c', A', by omega, by go_num, rfl, by rw [HE.out]; exact HO.out, HB.out⟩
              case measure => simp [intOf]; omega
            · go_simp
              obtain ⟨wz, hWn⟩ : ∃ W5, W5 = wx.alloc (.cells #[.int .i64 0, .int .i64 0] 59) := ⟨_, rfl⟩
              have hb : Below wx.heap.size wx wz := by rw [hWn]; exact below_new (Below.refl _ _) _
              obtain ⟨gt, hgp⟩ : ∃ gp, gp = wx.heap.size := ⟨_, rfl⟩
              have HGT := Lib.hid (show gs < gt by rw [hgp]; exact sl)
              have TB := Lib.hid (show SpotBox wz gt 0 0 by rw [hWn, hgp]; exact heap_alloc_new _ _)
              rw [← hWn]
              (try rw [← hgp])
              clear hWn hgp
              replace b0 := cell_keep b0 bl hb
              replace b1 := cell_keep b1 bl hb
              replace b2 := cell_keep b2 bl hb
              replace b3 := cell_keep b3 bl hb
              replace bl := lt_keep bl hb
              replace HO := Lib.hid (HO.out.keep hb)
              replace HB := Lib.hid (HB.out.trans (hb.mono HB.out.size))
              replace hsw := Nat.le_trans hsw hb.size
              replace SB := Lib.hid (SB.out.keep hb)
              replace s0 := cell_keep s0 sl hb
              replace s1 := cell_keep s1 sl hb
              replace sl := lt_keep sl hb
              clear hb
              refine hK.out _ _ ?_ (fun hHeld => ?_)
              · (try dsimp only)
                exact ⟨b0, b1, b2, b3, s0, s1⟩
              clear hK K
              (try simp only [Act.put, List.setIfInBounds_toArray, List.set_cons_zero, List.set_cons_succ])
              refine wpAnyH_ready (rs := [6]) (by kernel_rfl) (by simp) ?_
              refine AllReadyH.cons (o := ⟨_, _, _, _, _, _⟩) rfl (fun K hK => ?_) AllReadyH.nil
              go_simp
              (go_at_call 57; refine (HAF.out _).mono ?_; rw [hi]; rintro e wy ⟨rfl, hb⟩; (repeat (first | replace hb := below_undrew hb | replace hb := below_undrewN hb)); replace b0 := cell_keep b0 bl hb; replace b1 := cell_keep b1 bl hb; replace b2 := cell_keep b2 bl hb; replace b3 := cell_keep b3 bl hb; replace bl := lt_keep bl hb; replace HO := Lib.hid (HO.out.keep hb); replace HB := Lib.hid (HB.out.trans (hb.mono HB.out.size)); replace hsw := Nat.le_trans hsw hb.size; replace SB := Lib.hid (SB.out.keep hb); replace s0 := cell_keep s0 sl hb; replace s1 := cell_keep s1 sl hb; replace sl := lt_keep sl hb; replace TB := Lib.hid (TB.out.keep hb); clear hb)
              (try go_wp2_with fail)
              refine hK.out _ _ ?_ (fun hHeld => ?_)
              · (try dsimp only)
                exact ⟨b0, b1, b2, b3, s0, s1⟩
              clear hK K
              (try simp only [Act.put, List.setIfInBounds_toArray, List.set_cons_zero, List.set_cons_succ])
              refine wpAnyH_take (i := 7) (oi := ⟨_, _, _, _, _, _⟩) (v := ?_) rfl (by kernel_rfl) (by kernel_rfl) (by kernel_rfl) (fun _ _ _ h => h) (Or.inl ⟨by rfl, ?_⟩) (by assumption) ?_
              rotate_left
              · intro w hSw
                (try dsimp only at hSw)
                go_simp
                (try with_reducible rfl)
              (try simp only [Act.put, List.setIfInBounds_toArray, List.set_cons_zero, List.set_cons_succ])
              refine wpAnyH_take (i := 8) (oi := ⟨_, _, _, _, _, _⟩) (v := ?_) rfl (by kernel_rfl) (by kernel_rfl) (by kernel_rfl) (fun _ _ _ h => h) (Or.inl ⟨by rfl, ?_⟩) (by assumption) ?_
              rotate_left
              · intro w hSw
                (try dsimp only at hSw)
                go_simp
                (try with_reducible rfl)
              (try simp only [Act.put, List.setIfInBounds_toArray, List.set_cons_zero, List.set_cons_succ])
              refine wpAnyH_take (i := 9) (oi := ⟨_, _, _, _, _, _⟩) (v := ?_) rfl (by kernel_rfl) (by kernel_rfl) (by kernel_rfl) (fun _ _ _ h => h) (Or.inl ⟨by rfl, ?_⟩) (by assumption) ?_
              rotate_left
              · intro w hSw
                (try dsimp only at hSw)
                go_simp
                (try with_reducible rfl)
              (try simp only [Act.put, List.setIfInBounds_toArray, List.set_cons_zero, List.set_cons_succ])
              refine wpAnyH_ready (rs := [11]) (by kernel_rfl) (by simp) ?_
              refine AllReadyH.cons (o := ⟨_, _, _, _, _, _⟩) rfl (fun K hK => ?_) AllReadyH.nil
              have z0 := TB.out.c0; have z1 := TB.out.c1
              have f0 : wy.frozen? ⟨gt, 0, none⟩ = false := frozen_of_row wy _ 0 _ _ TB.out
              have f1 : wy.frozen? ⟨gt, 1, none⟩ = false := frozen_of_row wy _ 1 _ _ TB.out
              go_simp
              obtain ⟨W6, hWn⟩ : ∃ W6, W6 = (wy.setCell ⟨gt, 0, none⟩ (.int .i64 P)).setCell ⟨gt, 1, none⟩ (.int .i64 R) := ⟨_, rfl⟩
              have hgr : wy.grownBy W6 (some gt) := by rw [hWn]; exact grown_next (grownSet _ ⟨gt, 0, none⟩ _) (grownSet _ ⟨gt, 1, none⟩ _)
              have hgne := HGT.out; have hgse := HGS.out; have hbse := HBS.out
              replace HO := Lib.hid (HO.out.other hgr (fun a9 ha9 he => TB.out.apart HO.out a9 ha9 (by injection he)))
              replace TB := Lib.hid (show SpotBox W6 gt P R by rw [hWn]; exact TB.out.set _ _)
              replace HB := Lib.hid (HB.out.grown hgr HB.out.size (fun g9 h9 => by injection h9 with h9; omega))
              replace b0 := hgr.cell b0 (by simp; omega)
              replace b1 := hgr.cell b1 (by simp; omega)
              replace b2 := hgr.cell b2 (by simp; omega)
              replace b3 := hgr.cell b3 (by simp; omega)
              replace s0 := hgr.cell s0 (by simp; omega)
              replace s1 := hgr.cell s1 (by simp; omega)
              replace bl := Nat.lt_of_lt_of_le bl hgr.size
              replace hsw := Nat.le_trans hsw hgr.size
              rw [← hWn]
              clear hWn hgr z0 z1 f0 f1 hgne hgse hbse
              refine hK.out _ _ ?_ (fun hHeld => ?_)
              · (try dsimp only)
                exact ⟨b0, b1, b2, b3, s0, s1⟩
              clear hK K
              (try simp only [Act.put, List.setIfInBounds_toArray, List.set_cons_zero, List.set_cons_succ])
              refine wpAnyH_take (i := 12) (oi := ⟨_, _, _, _, _, _⟩) (v := ?_) rfl (by kernel_rfl) (by kernel_rfl) (by kernel_rfl) (fun _ _ _ h => h) (Or.inl ⟨by rfl, ?_⟩) (by assumption) ?_
              rotate_left
              · intro w hSw
                (try dsimp only at hSw)
                go_simp
                (try with_reducible rfl)
              (try simp only [Act.put, List.setIfInBounds_toArray, List.set_cons_zero, List.set_cons_succ])
              refine wpAnyH_done (by kernel_rfl) ?_ _
              have t0 := TB.out.c0; have t1 := TB.out.c1
              have tl := TB.out.lt
              clear hHeld s0 s1
              go_wp2_with fail
              refine (number_gen P R W _ HPB.out HRW.out).mono ?_
              rintro e w9 ⟨rfl, hb⟩
              replace b0 := cell_keep b0 bl hb
              replace b1 := cell_keep b1 bl hb
              replace b2 := cell_keep b2 bl hb
              replace b3 := cell_keep b3 bl hb
              replace bl := lt_keep bl hb
              replace t0 := cell_keep t0 tl hb; replace t1 := cell_keep t1 tl hb; replace tl := lt_keep tl hb
              replace HO := Lib.hid (HO.out.keep hb)
              replace HB := Lib.hid (HB.out.trans (hb.mono HB.out.size))
              replace hsw := Nat.le_trans hsw hb.size
              clear hb
              rw [HSQ.out]
              clear t0 t1 tl b0 b1 b2 b3 bl
              go_wp2
              go_roundw
              case rel => exact ⟨k + 1, n', c', A', by omega, by go_num, rfl, by rw [HE.out]; exact HO.out, HB.out⟩
              case measure => simp [intOf]; omega
          · go_simp
            obtain ⟨wz, hWn⟩ : ∃ W5, W5 = W3.alloc (.cells #[.int .i64 0, .int .i64 0] 59) := ⟨_, rfl⟩
            have hb : Below W3.heap.size W3 wz := by rw [hWn]; exact below_new (Below.refl _ _) _
            obtain ⟨gt, hgp⟩ : ∃ gp, gp = W3.heap.size := ⟨_, rfl⟩
            have HGT := Lib.hid (show gs < gt by rw [hgp]; exact sl)
            have TB := Lib.hid (show SpotBox wz gt 0 0 by rw [hWn, hgp]; exact heap_alloc_new _ _)
            rw [← hWn]
            (try rw [← hgp])
            clear hWn hgp
            replace b0 := cell_keep b0 bl hb
            replace b1 := cell_keep b1 bl hb
            replace b2 := cell_keep b2 bl hb
            replace b3 := cell_keep b3 bl hb
            replace bl := lt_keep bl hb
            replace HO := Lib.hid (HO.out.keep hb)
            replace HB := Lib.hid (HB.out.trans (hb.mono HB.out.size))
            replace hsw := Nat.le_trans hsw hb.size
            replace SB := Lib.hid (SB.out.keep hb)
            replace s0 := cell_keep s0 sl hb
            replace s1 := cell_keep s1 sl hb
            replace sl := lt_keep sl hb
            clear hb
            refine hK.out _ _ ?_ (fun hHeld => ?_)
            · (try dsimp only)
              exact ⟨b0, b1, b2, b3, s0, s1⟩
            clear hK K
            (try simp only [Act.put, List.setIfInBounds_toArray, List.set_cons_zero, List.set_cons_succ])
            refine wpAnyH_ready (rs := [4]) (by kernel_rfl) (by simp) ?_
            refine AllReadyH.cons (o := ⟨_, _, _, _, _, _⟩) rfl (fun K hK => ?_) AllReadyH.nil
            go_simp
            (go_at_call 58; refine (HNU.out _).mono ?_; rintro e wx ⟨rfl, hb⟩; (repeat (first | replace hb := below_undrew hb | replace hb := below_undrewN hb)); replace b0 := cell_keep b0 bl hb; replace b1 := cell_keep b1 bl hb; replace b2 := cell_keep b2 bl hb; replace b3 := cell_keep b3 bl hb; replace bl := lt_keep bl hb; replace HO := Lib.hid (HO.out.keep hb); replace HB := Lib.hid (HB.out.trans (hb.mono HB.out.size)); replace hsw := Nat.le_trans hsw hb.size; replace SB := Lib.hid (SB.out.keep hb); replace s0 := cell_keep s0 sl hb; replace s1 := cell_keep s1 sl hb; replace sl := lt_keep sl hb; replace TB := Lib.hid (TB.out.keep hb); clear hb)
            (try go_wp2_with fail)
            refine hK.out _ _ ?_ (fun hHeld => ?_)
            · (try dsimp only)
              exact ⟨b0, b1, b2, b3, s0, s1⟩
            clear hK K
            (try simp only [Act.put, List.setIfInBounds_toArray, List.set_cons_zero, List.set_cons_succ])
            refine wpAnyH_ready (rs := [6]) (by kernel_rfl) (by simp) ?_
            refine AllReadyH.cons (o := ⟨_, _, _, _, _, _⟩) rfl (fun K hK => ?_) AllReadyH.nil
            go_simp
            (go_at_call 57; refine (HAF.out _).mono ?_; rw [hi]; rintro e wy ⟨rfl, hb⟩; (repeat (first | replace hb := below_undrew hb | replace hb := below_undrewN hb)); replace b0 := cell_keep b0 bl hb; replace b1 := cell_keep b1 bl hb; replace b2 := cell_keep b2 bl hb; replace b3 := cell_keep b3 bl hb; replace bl := lt_keep bl hb; replace HO := Lib.hid (HO.out.keep hb); replace HB := Lib.hid (HB.out.trans (hb.mono HB.out.size)); replace hsw := Nat.le_trans hsw hb.size; replace SB := Lib.hid (SB.out.keep hb); replace s0 := cell_keep s0 sl hb; replace s1 := cell_keep s1 sl hb; replace sl := lt_keep sl hb; replace TB := Lib.hid (TB.out.keep hb); clear hb)
            (try go_wp2_with fail)
            refine hK.out _ _ ?_ (fun hHeld => ?_)
            · (try dsimp only)
              exact ⟨b0, b1, b2, b3, s0, s1⟩
            clear hK K
            (try simp only [Act.put, List.setIfInBounds_toArray, List.set_cons_zero, List.set_cons_succ])
            refine wpAnyH_take (i := 7) (oi := ⟨_, _, _, _, _, _⟩) (v := ?_) rfl (by kernel_rfl) (by kernel_rfl) (by kernel_rfl) (fun _ _ _ h => h) (Or.inl ⟨by rfl, ?_⟩) (by assumption) ?_
            rotate_left
            · intro w hSw
              (try dsimp only at hSw)
              go_simp
              (try with_reducible rfl)
            (try simp only [Act.put, List.setIfInBounds_toArray, List.set_cons_zero, List.set_cons_succ])
            refine wpAnyH_take (i := 8) (oi := ⟨_, _, _, _, _, _⟩) (v := ?_) rfl (by kernel_rfl) (by kernel_rfl) (by kernel_rfl) (fun _ _ _ h => h) (Or.inl ⟨by rfl, ?_⟩) (by assumption) ?_
            rotate_left
            · intro w hSw
              (try dsimp only at hSw)
              go_simp
              (try with_reducible rfl)
            (try simp only [Act.put, List.setIfInBounds_toArray, List.set_cons_zero, List.set_cons_succ])
            refine wpAnyH_take (i := 9) (oi := ⟨_, _, _, _, _, _⟩) (v := ?_) rfl (by kernel_rfl) (by kernel_rfl) (by kernel_rfl) (fun _ _ _ h => h) (Or.inl ⟨by rfl, ?_⟩) (by assumption) ?_
            rotate_left
            · intro w hSw
              (try dsimp only at hSw)
              go_simp
              (try with_reducible rfl)
            (try simp only [Act.put, List.setIfInBounds_toArray, List.set_cons_zero, List.set_cons_succ])
            refine wpAnyH_ready (rs := [11]) (by kernel_rfl) (by simp) ?_
            refine AllReadyH.cons (o := ⟨_, _, _, _, _, _⟩) rfl (fun K hK => ?_) AllReadyH.nil
            have z0 := TB.out.c0; have z1 := TB.out.c1
            have f0 : wy.frozen? ⟨gt, 0, none⟩ = false := frozen_of_row wy _ 0 _ _ TB.out
            have f1 : wy.frozen? ⟨gt, 1, none⟩ = false := frozen_of_row wy _ 1 _ _ TB.out
            go_simp
            obtain ⟨W6, hWn⟩ : ∃ W6, W6 = (wy.setCell ⟨gt, 0, none⟩ (.int .i64 P)).setCell ⟨gt, 1, none⟩ (.int .i64 R) := ⟨_, rfl⟩
            have hgr : wy.grownBy W6 (some gt) := by rw [hWn]; exact grown_next (grownSet _ ⟨gt, 0, none⟩ _) (grownSet _ ⟨gt, 1, none⟩ _)
            have hgne := HGT.out; have hgse := HGS.out; have hbse := HBS.out
            replace HO := Lib.hid (HO.out.other hgr (fun a9 ha9 he => TB.out.apart HO.out a9 ha9 (by injection he)))
            replace TB := Lib.hid (show SpotBox W6 gt P R by rw [hWn]; exact TB.out.set _ _)
            replace HB := Lib.hid (HB.out.grown hgr HB.out.size (fun g9 h9 => by injection h9 with h9; omega))
            replace b0 := hgr.cell b0 (by simp; omega)
            replace b1 := hgr.cell b1 (by simp; omega)
            replace b2 := hgr.cell b2 (by simp; omega)
            replace b3 := hgr.cell b3 (by simp; omega)
            replace s0 := hgr.cell s0 (by simp; omega)
            replace s1 := hgr.cell s1 (by simp; omega)
            replace bl := Nat.lt_of_lt_of_le bl hgr.size
            replace hsw := Nat.le_trans hsw hgr.size
            rw [← hWn]
            clear hWn hgr z0 z1 f0 f1 hgne hgse hbse
            refine hK.out _ _ ?_ (fun hHeld => ?_)
            · (try dsimp only)
              exact ⟨b0, b1, b2, b3, s0, s1⟩
            clear hK K
            (try simp only [Act.put, List.setIfInBounds_toArray, List.set_cons_zero, List.set_cons_succ])
            refine wpAnyH_take (i := 12) (oi := ⟨_, _, _, _, _, _⟩) (v := ?_) rfl (by kernel_rfl) (by kernel_rfl) (by kernel_rfl) (fun _ _ _ h => h) (Or.inl ⟨by rfl, ?_⟩) (by assumption) ?_
            rotate_left
            · intro w hSw
              (try dsimp only at hSw)
              go_simp
              (try with_reducible rfl)
            (try simp only [Act.put, List.setIfInBounds_toArray, List.set_cons_zero, List.set_cons_succ])
            refine wpAnyH_done (by kernel_rfl) ?_ _
            have t0 := TB.out.c0; have t1 := TB.out.c1
            have tl := TB.out.lt
            clear hHeld s0 s1
            go_wp2_with fail
            refine (number_gen P R W _ HPB.out HRW.out).mono ?_
            rintro e w9 ⟨rfl, hb⟩
            replace b0 := cell_keep b0 bl hb
            replace b1 := cell_keep b1 bl hb
            replace b2 := cell_keep b2 bl hb
            replace b3 := cell_keep b3 bl hb
            replace bl := lt_keep bl hb
            replace t0 := cell_keep t0 tl hb; replace t1 := cell_keep t1 tl hb; replace tl := lt_keep tl hb
            replace HO := Lib.hid (HO.out.keep hb)
            replace HB := Lib.hid (HB.out.trans (hb.mono HB.out.size))
            replace hsw := Nat.le_trans hsw hb.size
            clear hb
            rw [HSQ.out]
            clear t0 t1 tl b0 b1 b2 b3 bl
            go_wp2
            go_roundw
            case rel => exact ⟨k + 1, n', c', A', by omega, by go_num, rfl, by rw [HE.out]; exact HO.out, HB.out⟩
            case measure => simp [intOf]; omega
        · have HE := Lib.hid (HYES.out (HOI.out.2 ⟨HS0.out, hsq⟩))
          have hsq2 : (S == q) = false := by simpa using hsq
          refine wp_region_held_drew (S := fun w' => w'.cell? ⟨w.heap.size, 0, none⟩ = some (.int .i64 W) ∧ w'.cell? ⟨w.heap.size, 1, none⟩ = some (.int .i64 H) ∧ w'.cell? ⟨w.heap.size, 2, none⟩ = some (.bool ac) ∧ w'.cell? ⟨w.heap.size, 3, none⟩ = some (.bool up) ∧ w'.cell? ⟨gs, 0, none⟩ = some (.int .i64 dx) ∧ w'.cell? ⟨gs, 1, none⟩ = some (.int .i64 dy)) (by kernel_rfl) ?_ (fun hHeld => ?_)
          · (try dsimp only)
            exact ⟨b0, b1, b2, b3, s0, s1⟩
          refine wpAnyH_take (i := 0) (oi := ⟨_, _, _, _, _, _⟩) (v := ?_) rfl (by kernel_rfl) (by kernel_rfl) (by kernel_rfl) (fun _ _ _ h => h) (Or.inl ⟨by rfl, ?_⟩) (by assumption) ?_
          rotate_left
          · intro w hSw
            (try dsimp only at hSw)
            go_simp
            (try with_reducible rfl)
          (try simp only [Act.put, List.setIfInBounds_toArray, List.set_cons_zero, List.set_cons_succ])
          refine wpAnyH_take (i := 1) (oi := ⟨_, _, _, _, _, _⟩) (v := ?_) rfl (by kernel_rfl) (by kernel_rfl) (by kernel_rfl) (fun _ _ _ h => h) (Or.inl ⟨by rfl, ?_⟩) (by assumption) ?_
          rotate_left
          · intro w hSw
            (try dsimp only at hSw)
            go_simp
            (try with_reducible rfl)
          (try simp only [Act.put, List.setIfInBounds_toArray, List.set_cons_zero, List.set_cons_succ])
          refine wpAnyH_take (i := 2) (oi := ⟨_, _, _, _, _, _⟩) (v := ?_) rfl (by kernel_rfl) (by kernel_rfl) (by kernel_rfl) (fun _ _ _ h => h) (Or.inl ⟨by rfl, ?_⟩) (by assumption) ?_
          rotate_left
          · intro w hSw
            (try dsimp only at hSw)
            go_simp
            (try with_reducible rfl)
          (try simp only [Act.put, List.setIfInBounds_toArray, List.set_cons_zero, List.set_cons_succ])
          refine wpAnyH_take (i := 5) (oi := ⟨_, _, _, _, _, _⟩) (v := ?_) rfl (by kernel_rfl) (by kernel_rfl) (by kernel_rfl) (fun _ _ _ h => h) (Or.inl ⟨by rfl, ?_⟩) (by assumption) ?_
          rotate_left
          · intro w hSw
            (try dsimp only at hSw)
            go_simp
            (try with_reducible rfl)
          (try simp only [Act.put, List.setIfInBounds_toArray, List.set_cons_zero, List.set_cons_succ])
          refine wpAnyH_take (i := 3) (oi := ⟨_, _, _, _, _, _⟩) (v := ?_) rfl (by kernel_rfl) (by kernel_rfl) (by kernel_rfl) (fun _ _ _ h => h) (Or.inl ⟨by rfl, ?_⟩) (by assumption) ?_
          rotate_left
          · intro w hSw
            (try dsimp only at hSw)
            go_simp
            (try with_reducible rfl)
          (try simp only [Act.put, List.setIfInBounds_toArray, List.set_cons_zero, List.set_cons_succ])
          refine wpAnyH_ready (rs := [4, 10]) (by kernel_rfl) (by simp) ?_
          refine AllReadyH.cons (o := ⟨_, _, _, _, _, _⟩) rfl (fun K hK => ?_) (AllReadyH.cons (o := ⟨_, _, _, _, _, _⟩) rfl (fun K hK => ?_) AllReadyH.nil)
          · go_simp
            (go_at_call 58; refine (HNU.out _).mono ?_; rintro e wx ⟨rfl, hb⟩; (repeat (first | replace hb := below_undrew hb | replace hb := below_undrewN hb)); replace b0 := cell_keep b0 bl hb; replace b1 := cell_keep b1 bl hb; replace b2 := cell_keep b2 bl hb; replace b3 := cell_keep b3 bl hb; replace bl := lt_keep bl hb; replace HO := Lib.hid (HO.out.keep hb); replace HB := Lib.hid (HB.out.trans (hb.mono HB.out.size)); replace hsw := Nat.le_trans hsw hb.size; replace SB := Lib.hid (SB.out.keep hb); replace s0 := cell_keep s0 sl hb; replace s1 := cell_keep s1 sl hb; replace sl := lt_keep sl hb; clear hb)
            (try go_wp2_with fail)
            refine hK.out _ _ ?_ (fun hHeld => ?_)
            · (try dsimp only)
              exact ⟨b0, b1, b2, b3, s0, s1⟩
            clear hK K
            (try simp only [Act.put, List.setIfInBounds_toArray, List.set_cons_zero, List.set_cons_succ])
            refine wpAnyH_ready (rs := [6, 10]) (by kernel_rfl) (by simp) ?_
            refine AllReadyH.cons (o := ⟨_, _, _, _, _, _⟩) rfl (fun K hK => ?_) (AllReadyH.cons (o := ⟨_, _, _, _, _, _⟩) rfl (fun K hK => ?_) AllReadyH.nil)
            · go_simp
              (go_at_call 57; refine (HAF.out _).mono ?_; rw [hi]; rintro e wy ⟨rfl, hb⟩; (repeat (first | replace hb := below_undrew hb | replace hb := below_undrewN hb)); replace b0 := cell_keep b0 bl hb; replace b1 := cell_keep b1 bl hb; replace b2 := cell_keep b2 bl hb; replace b3 := cell_keep b3 bl hb; replace bl := lt_keep bl hb; replace HO := Lib.hid (HO.out.keep hb); replace HB := Lib.hid (HB.out.trans (hb.mono HB.out.size)); replace hsw := Nat.le_trans hsw hb.size; replace SB := Lib.hid (SB.out.keep hb); replace s0 := cell_keep s0 sl hb; replace s1 := cell_keep s1 sl hb; replace sl := lt_keep sl hb; clear hb)
              (try go_wp2_with fail)
              refine hK.out _ _ ?_ (fun hHeld => ?_)
              · (try dsimp only)
                exact ⟨b0, b1, b2, b3, s0, s1⟩
              clear hK K
              (try simp only [Act.put, List.setIfInBounds_toArray, List.set_cons_zero, List.set_cons_succ])
              refine wpAnyH_take (i := 7) (oi := ⟨_, _, _, _, _, _⟩) (v := ?_) rfl (by kernel_rfl) (by kernel_rfl) (by kernel_rfl) (fun _ _ _ h => h) (Or.inl ⟨by rfl, ?_⟩) (by assumption) ?_
              rotate_left
              · intro w hSw
                (try dsimp only at hSw)
                go_simp
                (try with_reducible rfl)
              (try simp only [Act.put, List.setIfInBounds_toArray, List.set_cons_zero, List.set_cons_succ])
              refine wpAnyH_take (i := 8) (oi := ⟨_, _, _, _, _, _⟩) (v := ?_) rfl (by kernel_rfl) (by kernel_rfl) (by kernel_rfl) (fun _ _ _ h => h) (Or.inl ⟨by rfl, ?_⟩) (by assumption) ?_
              rotate_left
              · intro w hSw
                (try dsimp only at hSw)
                go_simp
                (try with_reducible rfl)
              (try simp only [Act.put, List.setIfInBounds_toArray, List.set_cons_zero, List.set_cons_succ])
              refine wpAnyH_take (i := 9) (oi := ⟨_, _, _, _, _, _⟩) (v := ?_) rfl (by kernel_rfl) (by kernel_rfl) (by kernel_rfl) (fun _ _ _ h => h) (Or.inl ⟨by rfl, ?_⟩) (by assumption) ?_
              rotate_left
              · intro w hSw
                (try dsimp only at hSw)
                go_simp
                (try with_reducible rfl)
              (try simp only [Act.put, List.setIfInBounds_toArray, List.set_cons_zero, List.set_cons_succ])
              refine wpAnyH_ready (rs := [10]) (by kernel_rfl) (by simp) ?_
              refine AllReadyH.cons (o := ⟨_, _, _, _, _, _⟩) rfl (fun K hK => ?_) AllReadyH.nil
              go_simp
              obtain ⟨wz, hWn⟩ : ∃ W5, W5 = wy.alloc (.cells #[.int .i64 0, .int .i64 0] 59) := ⟨_, rfl⟩
              have hb : Below wy.heap.size wy wz := by rw [hWn]; exact below_new (Below.refl _ _) _
              obtain ⟨gt, hgp⟩ : ∃ gp, gp = wy.heap.size := ⟨_, rfl⟩
              have HGT := Lib.hid (show gs < gt by rw [hgp]; exact sl)
              have TB := Lib.hid (show SpotBox wz gt 0 0 by rw [hWn, hgp]; exact heap_alloc_new _ _)
              rw [← hWn]
              (try rw [← hgp])
              clear hWn hgp
              replace b0 := cell_keep b0 bl hb
              replace b1 := cell_keep b1 bl hb
              replace b2 := cell_keep b2 bl hb
              replace b3 := cell_keep b3 bl hb
              replace bl := lt_keep bl hb
              replace HO := Lib.hid (HO.out.keep hb)
              replace HB := Lib.hid (HB.out.trans (hb.mono HB.out.size))
              replace hsw := Nat.le_trans hsw hb.size
              replace SB := Lib.hid (SB.out.keep hb)
              replace s0 := cell_keep s0 sl hb
              replace s1 := cell_keep s1 sl hb
              replace sl := lt_keep sl hb
              clear hb
              refine hK.out _ _ ?_ (fun hHeld => ?_)
              · (try dsimp only)
                exact ⟨b0, b1, b2, b3, s0, s1⟩
              clear hK K
              (try simp only [Act.put, List.setIfInBounds_toArray, List.set_cons_zero, List.set_cons_succ])
              refine wpAnyH_ready (rs := [11]) (by kernel_rfl) (by simp) ?_
              refine AllReadyH.cons (o := ⟨_, _, _, _, _, _⟩) rfl (fun K hK => ?_) AllReadyH.nil
              have z0 := TB.out.c0; have z1 := TB.out.c1
              have f0 : wz.frozen? ⟨gt, 0, none⟩ = false := frozen_of_row wz _ 0 _ _ TB.out
              have f1 : wz.frozen? ⟨gt, 1, none⟩ = false := frozen_of_row wz _ 1 _ _ TB.out
              go_simp
              obtain ⟨W6, hWn⟩ : ∃ W6, W6 = (wz.setCell ⟨gt, 0, none⟩ (.int .i64 P)).setCell ⟨gt, 1, none⟩ (.int .i64 R) := ⟨_, rfl⟩
              have hgr : wz.grownBy W6 (some gt) := by rw [hWn]; exact grown_next (grownSet _ ⟨gt, 0, none⟩ _) (grownSet _ ⟨gt, 1, none⟩ _)
              have hgne := HGT.out; have hgse := HGS.out; have hbse := HBS.out
              replace HO := Lib.hid (HO.out.other hgr (fun a9 ha9 he => TB.out.apart HO.out a9 ha9 (by injection he)))
              replace TB := Lib.hid (show SpotBox W6 gt P R by rw [hWn]; exact TB.out.set _ _)
              replace HB := Lib.hid (HB.out.grown hgr HB.out.size (fun g9 h9 => by injection h9 with h9; omega))
              replace b0 := hgr.cell b0 (by simp; omega)
              replace b1 := hgr.cell b1 (by simp; omega)
              replace b2 := hgr.cell b2 (by simp; omega)
              replace b3 := hgr.cell b3 (by simp; omega)
              replace s0 := hgr.cell s0 (by simp; omega)
              replace s1 := hgr.cell s1 (by simp; omega)
              replace bl := Nat.lt_of_lt_of_le bl hgr.size
              replace hsw := Nat.le_trans hsw hgr.size
              rw [← hWn]
              clear hWn hgr z0 z1 f0 f1 hgne hgse hbse
              refine hK.out _ _ ?_ (fun hHeld => ?_)
              · (try dsimp only)
                exact ⟨b0, b1, b2, b3, s0, s1⟩
              clear hK K
              (try simp only [Act.put, List.setIfInBounds_toArray, List.set_cons_zero, List.set_cons_succ])
              refine wpAnyH_take (i := 12) (oi := ⟨_, _, _, _, _, _⟩) (v := ?_) rfl (by kernel_rfl) (by kernel_rfl) (by kernel_rfl) (fun _ _ _ h => h) (Or.inl ⟨by rfl, ?_⟩) (by assumption) ?_
              rotate_left
              · intro w hSw
                (try dsimp only at hSw)
                go_simp
                (try with_reducible rfl)
              (try simp only [Act.put, List.setIfInBounds_toArray, List.set_cons_zero, List.set_cons_succ])
              refine wpAnyH_done (by kernel_rfl) ?_ _
              have t0 := TB.out.c0; have t1 := TB.out.c1
              have tl := TB.out.lt
              clear hHeld s0 s1
              go_wp2_with fail
              refine (number_gen P R W _ HPB.out HRW.out).mono ?_
              rintro e w9 ⟨rfl, hb⟩
              replace b0 := cell_keep b0 bl hb
              replace b1 := cell_keep b1 bl hb
              replace b2 := cell_keep b2 bl hb
              replace b3 := cell_keep b3 bl hb
              replace bl := lt_keep bl hb
              replace t0 := cell_keep t0 tl hb; replace t1 := cell_keep t1 tl hb; replace tl := lt_keep tl hb
              replace HO := Lib.hid (HO.out.keep hb)
              replace HB := Lib.hid (HB.out.trans (hb.mono HB.out.size))
              replace hsw := Nat.le_trans hsw hb.size
              clear hb
              rw [HSQ.out]
              go_wp2_with fail
              refine (number_gen P R W _ HPB.out HRW.out).mono ?_
              rintro e w10 ⟨rfl, hb⟩
              replace b0 := cell_keep b0 bl hb
              replace b1 := cell_keep b1 bl hb
              replace b2 := cell_keep b2 bl hb
              replace b3 := cell_keep b3 bl hb
              replace bl := lt_keep bl hb
              replace t0 := cell_keep t0 tl hb; replace t1 := cell_keep t1 tl hb; replace tl := lt_keep tl hb
              replace HO := Lib.hid (HO.out.keep hb)
              replace HB := Lib.hid (HB.out.trans (hb.mono HB.out.size))
              replace hsw := Nat.le_trans hsw hb.size
              clear hb
              rw [HSQ.out]
              clear t0 t1 tl b0 b1 b2 b3 bl
              go_wp2_with (at_builtin; refine wpList_app1 rfl (.tmp 38) (.tmp 43) 33 3 rfl i0 Try.underlying33 HI.out HZ0.out HZ1.out HZ2.out ws.heap.size A' n' c' _ S rfl HO.out rfl (by omega) hsw ?_; intro A3 c3 w5 hown3 hb5)
              have O3 := Lib.hid hown3
              have B3 := Lib.hid (HB.out.trans hb5)
              clear hown3 hb5
              go_wp2
              go_roundw
              case rel => exact ⟨k + 1, n' + 1, c3, A3, by omega, by go_num, rfl, by rw [HE.out]; exact O3.out, B3.out⟩
              case measure => simp [intOf]; omega
            · go_simp
              obtain ⟨wz, hWn⟩ : ∃ W5, W5 = wx.alloc (.cells #[.int .i64 0, .int .i64 0] 59) := ⟨_, rfl⟩
              have hb : Below wx.heap.size wx wz := by rw [hWn]; exact below_new (Below.refl _ _) _
              obtain ⟨gt, hgp⟩ : ∃ gp, gp = wx.heap.size := ⟨_, rfl⟩
              have HGT := Lib.hid (show gs < gt by rw [hgp]; exact sl)
              have TB := Lib.hid (show SpotBox wz gt 0 0 by rw [hWn, hgp]; exact heap_alloc_new _ _)
              rw [← hWn]
              (try rw [← hgp])
              clear hWn hgp
              replace b0 := cell_keep b0 bl hb
              replace b1 := cell_keep b1 bl hb
              replace b2 := cell_keep b2 bl hb
              replace b3 := cell_keep b3 bl hb
              replace bl := lt_keep bl hb
              replace HO := Lib.hid (HO.out.keep hb)
              replace HB := Lib.hid (HB.out.trans (hb.mono HB.out.size))
              replace hsw := Nat.le_trans hsw hb.size
              replace SB := Lib.hid (SB.out.keep hb)
              replace s0 := cell_keep s0 sl hb
              replace s1 := cell_keep s1 sl hb
              replace sl := lt_keep sl hb
              clear hb
              refine hK.out _ _ ?_ (fun hHeld => ?_)
              · (try dsimp only)
                exact ⟨b0, b1, b2, b3, s0, s1⟩
              clear hK K
              (try simp only [Act.put, List.setIfInBounds_toArray, List.set_cons_zero, List.set_cons_succ])
              refine wpAnyH_ready (rs := [6]) (by kernel_rfl) (by simp) ?_
              refine AllReadyH.cons (o := ⟨_, _, _, _, _, _⟩) rfl (fun K hK => ?_) AllReadyH.nil
              go_simp
              (go_at_call 57; refine (HAF.out _).mono ?_; rw [hi]; rintro e wy ⟨rfl, hb⟩; (repeat (first | replace hb := below_undrew hb | replace hb := below_undrewN hb)); replace b0 := cell_keep b0 bl hb; replace b1 := cell_keep b1 bl hb; replace b2 := cell_keep b2 bl hb; replace b3 := cell_keep b3 bl hb; replace bl := lt_keep bl hb; replace HO := Lib.hid (HO.out.keep hb); replace HB := Lib.hid (HB.out.trans (hb.mono HB.out.size)); replace hsw := Nat.le_trans hsw hb.size; replace SB := Lib.hid (SB.out.keep hb); replace s0 := cell_keep s0 sl hb; replace s1 := cell_keep s1 sl hb; replace sl := lt_keep sl hb; replace TB := Lib.hid (TB.out.keep hb); clear hb)
              (try go_wp2_with fail)
              refine hK.out _ _ ?_ (fun hHeld => ?_)
              · (try dsimp only)
                exact ⟨b0, b1, b2, b3, s0, s1⟩
              clear hK K
              (try simp only [Act.put, List.setIfInBounds_toArray, List.set_cons_zero, List.set_cons_succ])
              refine wpAnyH_take (i := 7) (oi := ⟨_, _, _, _, _, _⟩) (v := ?_) rfl (by kernel_rfl) (by kernel_rfl) (by kernel_rfl) (fun _ _ _ h => h) (Or.inl ⟨by rfl, ?_⟩) (by assumption) ?_
              rotate_left
              · intro w hSw
                (try dsimp only at hSw)
                go_simp
                (try with_reducible rfl)
              (try simp only [Act.put, List.setIfInBounds_toArray, List.set_cons_zero, List.set_cons_succ])
              refine wpAnyH_take (i := 8) (oi := ⟨_, _, _, _, _, _⟩) (v := ?_) rfl (by kernel_rfl) (by kernel_rfl) (by kernel_rfl) (fun _ _ _ h => h) (Or.inl ⟨by rfl, ?_⟩) (by assumption) ?_
              rotate_left
              · intro w hSw
                (try dsimp only at hSw)
                go_simp
                (try with_reducible rfl)
              (try simp only [Act.put, List.setIfInBounds_toArray, List.set_cons_zero, List.set_cons_succ])
              refine wpAnyH_take (i := 9) (oi := ⟨_, _, _, _, _, _⟩) (v := ?_) rfl (by kernel_rfl) (by kernel_rfl) (by kernel_rfl) (fun _ _ _ h => h) (Or.inl ⟨by rfl, ?_⟩) (by assumption) ?_
              rotate_left
              · intro w hSw
                (try dsimp only at hSw)
                go_simp
                (try with_reducible rfl)
              (try simp only [Act.put, List.setIfInBounds_toArray, List.set_cons_zero, List.set_cons_succ])
              refine wpAnyH_ready (rs := [11]) (by kernel_rfl) (by simp) ?_
              refine AllReadyH.cons (o := ⟨_, _, _, _, _, _⟩) rfl (fun K hK => ?_) AllReadyH.nil
              have z0 := TB.out.c0; have z1 := TB.out.c1
              have f0 : wy.frozen? ⟨gt, 0, none⟩ = false := frozen_of_row wy _ 0 _ _ TB.out
              have f1 : wy.frozen? ⟨gt, 1, none⟩ = false := frozen_of_row wy _ 1 _ _ TB.out
              go_simp
              obtain ⟨W6, hWn⟩ : ∃ W6, W6 = (wy.setCell ⟨gt, 0, none⟩ (.int .i64 P)).setCell ⟨gt, 1, none⟩ (.int .i64 R) := ⟨_, rfl⟩
              have hgr : wy.grownBy W6 (some gt) := by rw [hWn]; exact grown_next (grownSet _ ⟨gt, 0, none⟩ _) (grownSet _ ⟨gt, 1, none⟩ _)
              have hgne := HGT.out; have hgse := HGS.out; have hbse := HBS.out
              replace HO := Lib.hid (HO.out.other hgr (fun a9 ha9 he => TB.out.apart HO.out a9 ha9 (by injection he)))
              replace TB := Lib.hid (show SpotBox W6 gt P R by rw [hWn]; exact TB.out.set _ _)
              replace HB := Lib.hid (HB.out.grown hgr HB.out.size (fun g9 h9 => by injection h9 with h9; omega))
              replace b0 := hgr.cell b0 (by simp; omega)
              replace b1 := hgr.cell b1 (by simp; omega)
              replace b2 := hgr.cell b2 (by simp; omega)
              replace b3 := hgr.cell b3 (by simp; omega)
              replace s0 := hgr.cell s0 (by simp; omega)
              replace s1 := hgr.cell s1 (by simp; omega)
              replace bl := Nat.lt_of_lt_of_le bl hgr.size
              replace hsw := Nat.le_trans hsw hgr.size
              rw [← hWn]
              clear hWn hgr z0 z1 f0 f1 hgne hgse hbse
              refine hK.out _ _ ?_ (fun hHeld => ?_)
              · (try dsimp only)
                exact ⟨b0, b1, b2, b3, s0, s1⟩
              clear hK K
              (try simp only [Act.put, List.setIfInBounds_toArray, List.set_cons_zero, List.set_cons_succ])
              refine wpAnyH_take (i := 12) (oi := ⟨_, _, _, _, _, _⟩) (v := ?_) rfl (by kernel_rfl) (by kernel_rfl) (by kernel_rfl) (fun _ _ _ h => h) (Or.inl ⟨by rfl, ?_⟩) (by assumption) ?_
              rotate_left
              · intro w hSw
                (try dsimp only at hSw)
                go_simp
                (try with_reducible rfl)
              (try simp only [Act.put, List.setIfInBounds_toArray, List.set_cons_zero, List.set_cons_succ])
              refine wpAnyH_done (by kernel_rfl) ?_ _
              have t0 := TB.out.c0; have t1 := TB.out.c1
              have tl := TB.out.lt
              clear hHeld s0 s1
              go_wp2_with fail
              refine (number_gen P R W _ HPB.out HRW.out).mono ?_
              rintro e w9 ⟨rfl, hb⟩
              replace b0 := cell_keep b0 bl hb
              replace b1 := cell_keep b1 bl hb
              replace b2 := cell_keep b2 bl hb
              replace b3 := cell_keep b3 bl hb
              replace bl := lt_keep bl hb
              replace t0 := cell_keep t0 tl hb; replace t1 := cell_keep t1 tl hb; replace tl := lt_keep tl hb
              replace HO := Lib.hid (HO.out.keep hb)
              replace HB := Lib.hid (HB.out.trans (hb.mono HB.out.size))
              replace hsw := Nat.le_trans hsw hb.size
              clear hb
              rw [HSQ.out]
              go_wp2_with fail
              refine (number_gen P R W _ HPB.out HRW.out).mono ?_
              rintro e w10 ⟨rfl, hb⟩
              replace b0 := cell_keep b0 bl hb
              replace b1 := cell_keep b1 bl hb
              replace b2 := cell_keep b2 bl hb
              replace b3 := cell_keep b3 bl hb
              replace bl := lt_keep bl hb
              replace t0 := cell_keep t0 tl hb; replace t1 := cell_keep t1 tl hb; replace tl := lt_keep tl hb
              replace HO := Lib.hid (HO.out.keep hb)
              replace HB := Lib.hid (HB.out.trans (hb.mono HB.out.size))
              replace hsw := Nat.le_trans hsw hb.size
              clear hb
              rw [HSQ.out]
              clear t0 t1 tl b0 b1 b2 b3 bl
              go_wp2_with (at_builtin; refine wpList_app1 rfl (.tmp 38) (.tmp 43) 33 3 rfl i0 Try.underlying33 HI.out HZ0.out HZ1.out HZ2.out ws.heap.size A' n' c' _ S rfl HO.out rfl (by omega) hsw ?_; intro A3 c3 w5 hown3 hb5)
              have O3 := Lib.hid hown3
              have B3 := Lib.hid (HB.out.trans hb5)
              clear hown3 hb5
              go_wp2
              go_roundw
              case rel => exact ⟨k + 1, n' + 1, c3, A3, by omega, by go_num, rfl, by rw [HE.out]; exact O3.out, B3.out⟩
              case measure => simp [intOf]; omega
          · go_simp
            obtain ⟨wz, hWn⟩ : ∃ W5, W5 = W3.alloc (.cells #[.int .i64 0, .int .i64 0] 59) := ⟨_, rfl⟩
            have hb : Below W3.heap.size W3 wz := by rw [hWn]; exact below_new (Below.refl _ _) _
            obtain ⟨gt, hgp⟩ : ∃ gp, gp = W3.heap.size := ⟨_, rfl⟩
            have HGT := Lib.hid (show gs < gt by rw [hgp]; exact sl)
            have TB := Lib.hid (show SpotBox wz gt 0 0 by rw [hWn, hgp]; exact heap_alloc_new _ _)
            rw [← hWn]
            (try rw [← hgp])
            clear hWn hgp
            replace b0 := cell_keep b0 bl hb
            replace b1 := cell_keep b1 bl hb
            replace b2 := cell_keep b2 bl hb
            replace b3 := cell_keep b3 bl hb
            replace bl := lt_keep bl hb
            replace HO := Lib.hid (HO.out.keep hb)
            replace HB := Lib.hid (HB.out.trans (hb.mono HB.out.size))
            replace hsw := Nat.le_trans hsw hb.size
            replace SB := Lib.hid (SB.out.keep hb)
            replace s0 := cell_keep s0 sl hb
            replace s1 := cell_keep s1 sl hb
            replace sl := lt_keep sl hb
            clear hb
            refine hK.out _ _ ?_ (fun hHeld => ?_)
            · (try dsimp only)
              exact ⟨b0, b1, b2, b3, s0, s1⟩
            clear hK K
            (try simp only [Act.put, List.setIfInBounds_toArray, List.set_cons_zero, List.set_cons_succ])
            refine wpAnyH_ready (rs := [4]) (by kernel_rfl) (by simp) ?_
            refine AllReadyH.cons (o := ⟨_, _, _, _, _, _⟩) rfl (fun K hK => ?_) AllReadyH.nil
            go_simp
            (go_at_call 58; refine (HNU.out _).mono ?_; rintro e wx ⟨rfl, hb⟩; (repeat (first | replace hb := below_undrew hb | replace hb := below_undrewN hb)); replace b0 := cell_keep b0 bl hb; replace b1 := cell_keep b1 bl hb; replace b2 := cell_keep b2 bl hb; replace b3 := cell_keep b3 bl hb; replace bl := lt_keep bl hb; replace HO := Lib.hid (HO.out.keep hb); replace HB := Lib.hid (HB.out.trans (hb.mono HB.out.size)); replace hsw := Nat.le_trans hsw hb.size; replace SB := Lib.hid (SB.out.keep hb); replace s0 := cell_keep s0 sl hb; replace s1 := cell_keep s1 sl hb; replace sl := lt_keep sl hb; replace TB := Lib.hid (TB.out.keep hb); clear hb)
            (try go_wp2_with fail)
            refine hK.out _ _ ?_ (fun hHeld => ?_)
            · (try dsimp only)
              exact ⟨b0, b1, b2, b3, s0, s1⟩
            clear hK K
            (try simp only [Act.put, List.setIfInBounds_toArray, List.set_cons_zero, List.set_cons_succ])
            refine wpAnyH_ready (rs := [6]) (by kernel_rfl) (by simp) ?_
            refine AllReadyH.cons (o := ⟨_, _, _, _, _, _⟩) rfl (fun K hK => ?_) AllReadyH.nil
            go_simp
            (go_at_call 57; refine (HAF.out _).mono ?_; rw [hi]; rintro e wy ⟨rfl, hb⟩; (repeat (first | replace hb := below_undrew hb | replace hb := below_undrewN hb)); replace b0 := cell_keep b0 bl hb; replace b1 := cell_keep b1 bl hb; replace b2 := cell_keep b2 bl hb; replace b3 := cell_keep b3 bl hb; replace bl := lt_keep bl hb; replace HO := Lib.hid (HO.out.keep hb); replace HB := Lib.hid (HB.out.trans (hb.mono HB.out.size)); replace hsw := Nat.le_trans hsw hb.size; replace SB := Lib.hid (SB.out.keep hb); replace s0 := cell_keep s0 sl hb; replace s1 := cell_keep s1 sl hb; replace sl := lt_keep sl hb; replace TB := Lib.hid (TB.out.keep hb); clear hb)
            (try go_wp2_with fail)
            refine hK.out _ _ ?_ (fun hHeld => ?_)
            · (try dsimp only)
              exact ⟨b0, b1, b2, b3, s0, s1⟩
            clear hK K
            (try simp only [Act.put, List.setIfInBounds_toArray, List.set_cons_zero, List.set_cons_succ])
            refine wpAnyH_take (i := 7) (oi := ⟨_, _, _, _, _, _⟩) (v := ?_) rfl (by kernel_rfl) (by kernel_rfl) (by kernel_rfl) (fun _ _ _ h => h) (Or.inl ⟨by rfl, ?_⟩) (by assumption) ?_
            rotate_left
            · intro w hSw
              (try dsimp only at hSw)
              go_simp
              (try with_reducible rfl)
            (try simp only [Act.put, List.setIfInBounds_toArray, List.set_cons_zero, List.set_cons_succ])
            refine wpAnyH_take (i := 8) (oi := ⟨_, _, _, _, _, _⟩) (v := ?_) rfl (by kernel_rfl) (by kernel_rfl) (by kernel_rfl) (fun _ _ _ h => h) (Or.inl ⟨by rfl, ?_⟩) (by assumption) ?_
            rotate_left
            · intro w hSw
              (try dsimp only at hSw)
              go_simp
              (try with_reducible rfl)
            (try simp only [Act.put, List.setIfInBounds_toArray, List.set_cons_zero, List.set_cons_succ])
            refine wpAnyH_take (i := 9) (oi := ⟨_, _, _, _, _, _⟩) (v := ?_) rfl (by kernel_rfl) (by kernel_rfl) (by kernel_rfl) (fun _ _ _ h => h) (Or.inl ⟨by rfl, ?_⟩) (by assumption) ?_
            rotate_left
            · intro w hSw
              (try dsimp only at hSw)
              go_simp
              (try with_reducible rfl)
            (try simp only [Act.put, List.setIfInBounds_toArray, List.set_cons_zero, List.set_cons_succ])
            refine wpAnyH_ready (rs := [11]) (by kernel_rfl) (by simp) ?_
            refine AllReadyH.cons (o := ⟨_, _, _, _, _, _⟩) rfl (fun K hK => ?_) AllReadyH.nil
            have z0 := TB.out.c0; have z1 := TB.out.c1
            have f0 : wy.frozen? ⟨gt, 0, none⟩ = false := frozen_of_row wy _ 0 _ _ TB.out
            have f1 : wy.frozen? ⟨gt, 1, none⟩ = false := frozen_of_row wy _ 1 _ _ TB.out
            go_simp
            obtain ⟨W6, hWn⟩ : ∃ W6, W6 = (wy.setCell ⟨gt, 0, none⟩ (.int .i64 P)).setCell ⟨gt, 1, none⟩ (.int .i64 R) := ⟨_, rfl⟩
            have hgr : wy.grownBy W6 (some gt) := by rw [hWn]; exact grown_next (grownSet _ ⟨gt, 0, none⟩ _) (grownSet _ ⟨gt, 1, none⟩ _)
            have hgne := HGT.out; have hgse := HGS.out; have hbse := HBS.out
            replace HO := Lib.hid (HO.out.other hgr (fun a9 ha9 he => TB.out.apart HO.out a9 ha9 (by injection he)))
            replace TB := Lib.hid (show SpotBox W6 gt P R by rw [hWn]; exact TB.out.set _ _)
            replace HB := Lib.hid (HB.out.grown hgr HB.out.size (fun g9 h9 => by injection h9 with h9; omega))
            replace b0 := hgr.cell b0 (by simp; omega)
            replace b1 := hgr.cell b1 (by simp; omega)
            replace b2 := hgr.cell b2 (by simp; omega)
            replace b3 := hgr.cell b3 (by simp; omega)
            replace s0 := hgr.cell s0 (by simp; omega)
            replace s1 := hgr.cell s1 (by simp; omega)
            replace bl := Nat.lt_of_lt_of_le bl hgr.size
            replace hsw := Nat.le_trans hsw hgr.size
            rw [← hWn]
            clear hWn hgr z0 z1 f0 f1 hgne hgse hbse
            refine hK.out _ _ ?_ (fun hHeld => ?_)
            · (try dsimp only)
              exact ⟨b0, b1, b2, b3, s0, s1⟩
            clear hK K
            (try simp only [Act.put, List.setIfInBounds_toArray, List.set_cons_zero, List.set_cons_succ])
            refine wpAnyH_take (i := 12) (oi := ⟨_, _, _, _, _, _⟩) (v := ?_) rfl (by kernel_rfl) (by kernel_rfl) (by kernel_rfl) (fun _ _ _ h => h) (Or.inl ⟨by rfl, ?_⟩) (by assumption) ?_
            rotate_left
            · intro w hSw
              (try dsimp only at hSw)
              go_simp
              (try with_reducible rfl)
            (try simp only [Act.put, List.setIfInBounds_toArray, List.set_cons_zero, List.set_cons_succ])
            refine wpAnyH_done (by kernel_rfl) ?_ _
            have t0 := TB.out.c0; have t1 := TB.out.c1
            have tl := TB.out.lt
            clear hHeld s0 s1
            go_wp2_with fail
            refine (number_gen P R W _ HPB.out HRW.out).mono ?_
            rintro e w9 ⟨rfl, hb⟩
            replace b0 := cell_keep b0 bl hb
            replace b1 := cell_keep b1 bl hb
            replace b2 := cell_keep b2 bl hb
            replace b3 := cell_keep b3 bl hb
            replace bl := lt_keep bl hb
            replace t0 := cell_keep t0 tl hb; replace t1 := cell_keep t1 tl hb; replace tl := lt_keep tl hb
            replace HO := Lib.hid (HO.out.keep hb)
            replace HB := Lib.hid (HB.out.trans (hb.mono HB.out.size))
            replace hsw := Nat.le_trans hsw hb.size
            clear hb
            rw [HSQ.out]
            go_wp2_with fail
            refine (number_gen P R W _ HPB.out HRW.out).mono ?_
            rintro e w10 ⟨rfl, hb⟩
            replace b0 := cell_keep b0 bl hb
            replace b1 := cell_keep b1 bl hb
            replace b2 := cell_keep b2 bl hb
            replace b3 := cell_keep b3 bl hb
            replace bl := lt_keep bl hb
            replace t0 := cell_keep t0 tl hb; replace t1 := cell_keep t1 tl hb; replace tl := lt_keep tl hb
            replace HO := Lib.hid (HO.out.keep hb)
            replace HB := Lib.hid (HB.out.trans (hb.mono HB.out.size))
            replace hsw := Nat.le_trans hsw hb.size
            clear hb
            rw [HSQ.out]
            clear t0 t1 tl b0 b1 b2 b3 bl
            go_wp2_with (at_builtin; refine wpList_app1 rfl (.tmp 38) (.tmp 43) 33 3 rfl i0 Try.underlying33 HI.out HZ0.out HZ1.out HZ2.out ws.heap.size A' n' c' _ S rfl HO.out rfl (by omega) hsw ?_; intro A3 c3 w5 hown3 hb5)
            have O3 := Lib.hid hown3
            have B3 := Lib.hid (HB.out.trans hb5)
            clear hown3 hb5
            go_wp2
            go_roundw
            case rel => exact ⟨k + 1, n' + 1, c3, A3, by omega, by go_num, rfl, by rw [HE.out]; exact O3.out, B3.out⟩
            case measure => simp [intOf]; omega
    · have e : k = n1 := by omega
      subst e
      rw [List.take_of_length_le (by have := SL.out; omega)] at hown
      have HO := Lib.hid hown; have HB := Lib.hid hbw
      have hn8 : n' ≤ 8 := by have h1 := hown.len; have h2 := endsA_len (W := W) (H := H) (q := q) (ac := ac) (up := up) (l := stepsL a b); have := SL.out; omega
      have hsw := hbw.size
      clear hown hbw a0 a1 a2 a3 al
      go_wp2_with fail
      refine (sortI_any ws.heap.size A' n' c' _ wr HO.out (by omega) hsw).mono ?_
      rintro e wv ⟨rfl, ⟨ys, hys, hperm, hsort⟩, hb⟩
      have HY := Lib.hid hys; have HB2 := Lib.hid (HB.out.trans hb)
      have HC := Lib.hid (comp_ends hperm hsort)
      clear hys hb hperm hsort HB HO
      go_wp2_with fail
      refine (compactI_any ws.heap.size A' n' c' ys wv HY.out (by omega) HB2.out.size).mono ?_
      rintro e wz ⟨m2, rfl, hown, hb⟩
      rw [show Lib.compact ys = leapsA W H ac up a b q from HC.out] at hown
      have HO := Lib.hid (hown.lower B.out.size); have HB := Lib.hid (B.out.trans ((HB2.out.trans hb).mono B.out.size))
      clear hown hb HB2 HY
      go_wp2
      go_ret
      exact ⟨A', m2, c', rfl, HO.out, HB.out⟩

end Go.Proofs.Ytaliknhfcdmohaa
