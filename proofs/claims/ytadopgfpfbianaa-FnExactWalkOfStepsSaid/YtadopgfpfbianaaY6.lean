/-
  Contracts: WalkOfSteps, in the model.
-/
import Derived.Test.YtadopgfpfbianaaY5
namespace Go.Proofs.Ytadopgfpfbianaa
open Go.RowKit

theorem ws_no {W H a b s : Int} {xs ks : List Int} (h : okWS W H xs a b s ks = false) : wosV W H xs a b s ks = [] := by rw [wosV, if_neg (by rw [h]; simp)]
theorem ws_none {W H a b s : Int} {xs ks : List Int} (h : goA W H xs a b [s] s ks = none) : okWS W H xs a b s ks = false := by rw [okWS, h]; exact Bool.and_false _
theorem ws_dup {W H a b s c : Int} {xs ks l P : List Int} (h : goA W H xs a b [s] s ks = goA W H xs a b P c l) (hn : ¬ P.Nodup) : okWS W H xs a b s ks = false := by rw [okWS, h, fine_dup hn, Bool.and_false]
theorem getD_at {qs : List (Int × Int)} {j : Nat} {p : Int × Int} (h : qs[j]? = some p) : qs.getD (j : Int).toNat (0, 0) = p := by rw [Int.toNat_natCast, List.getD_eq_getElem?_getD, h]; rfl

set_option maxRecDepth 100000 in
set_option maxHeartbeats 8000000 in
theorem spec_WalkOfSteps (W H : Int) (A : Option Addr) (n c : Nat) (xs : List Int) (a b s : Int) (A2 : Option Addr) (m c2 : Nat) (ks : List Int) (w : World) (ha : Rd w A n xs) (hp : Rd w A2 m ks) :
    Calls Try.prog 44 #[brd W H A n c, lpr a b, .int .i64 s, .slice A2 m c2] w fun e w' => ∃ A' n' c', e = .returned (.tuple #[.slice A' n' c', .bool (okWS W H xs a b s ks)]) ∧ OwnI 3 w' w.heap.size A' n' c' (wosV W H xs a b s ks) ∧ Below w.heap.size w w' := by
  have HKL := Lib.hid hp.1
  have m9 := hp.2.1
  obtain ⟨W2, hW2⟩ : ∃ W2, W2 = (w.alloc (.cells #[.int .i64 W, .int .i64 H, .slice A n c] 24)).alloc (.cells #[.int .i64 a, .int .i64 b] 26) := ⟨_, rfl⟩
  have a0 : W2.cell? ⟨w.heap.size, 0, none⟩ = some (.int .i64 W) := by rw [hW2]; go_simp
  have a1 : W2.cell? ⟨w.heap.size, 1, none⟩ = some (.int .i64 H) := by rw [hW2]; go_simp
  have a2 : W2.cell? ⟨w.heap.size, 2, none⟩ = some (.slice A n c) := by rw [hW2]; go_simp
  have l0 : W2.cell? ⟨w.heap.size + 1, 0, none⟩ = some (.int .i64 a) := by rw [hW2]; go_simp
  have l1 : W2.cell? ⟨w.heap.size + 1, 1, none⟩ = some (.int .i64 b) := by rw [hW2]; go_simp
  have hsz : W2.heap.size = w.heap.size + 2 := by rw [hW2]; simp
  have al : w.heap.size < W2.heap.size := by omega
  have ll : w.heap.size + 1 < W2.heap.size := by omega
  have B := Lib.hid (show Below w.heap.size w W2 by rw [hW2]; exact ((Below.refl _ _).alloc (Nat.le_refl _) _).alloc (by simp) _)
  have R := Lib.hid (ha.keep B.out); have RP := Lib.hid (hp.keep B.out)
  clear ha hp hsz
  cases ht : twoV W H xs a b with
  | false =>
    have HT := Lib.hid ht
    have OK := Lib.hid (show okWS W H xs a b s ks = false by rw [okWS, okW0, ht]; rfl)
    clear ht
    go_enter Try.func44, Try.ntmps44
    go_wp2_with fail
    rw [← hW2]
    clear hW2
    refine (boTwoV_any W H A n c xs a b _ R.out).mono ?_
    rw [HT.out]
    rintro e wv ⟨rfl, hb⟩
    replace a0 := cell_keep a0 al hb; replace a1 := cell_keep a1 al hb; replace a2 := cell_keep a2 al hb; replace al := lt_keep al hb
    replace l0 := cell_keep l0 ll hb; replace l1 := cell_keep l1 ll hb; replace ll := lt_keep ll hb
    replace R := Lib.hid (R.out.keep hb); replace RP := Lib.hid (RP.out.keep hb)
    replace B := Lib.hid (below_next B.out hb)
    clear hb
    clear a0 a1 a2 l0 l1 al ll
    go_wp2
    go_ret2
    exact ⟨none, 0, 0, by rw [OK.out]; rfl, by rw [ws_no OK.out]; exact OwnI.none_ _ _ _, B.out⟩
  | true =>
    have HT := Lib.hid ht
    have hgd := two_gK ht
    obtain ⟨hWW, hHH, -, -⟩ := goodB_iff.1 hgd
    have HNN := Lib.hid (cells_le hWW hHH)
    have HWW := Lib.hid hWW; have HHH := Lib.hid hHH
    have HLP := Lib.hid (show leaperB a b = true by simp only [twoV, Bool.and_eq_true] at ht; exact ht.2)
    clear ht hgd hWW hHH
    cases hh : hasB W H xs s with
    | false =>
      have HH := Lib.hid hh
      have OK := Lib.hid (show okWS W H xs a b s ks = false by rw [okWS, okW0, hh, Bool.and_false]; rfl)
      clear hh
      go_enter Try.func44, Try.ntmps44
      go_wp2_with fail
      rw [← hW2]
      clear hW2
      refine (boTwoV_any W H A n c xs a b _ R.out).mono ?_
      rw [HT.out]
      rintro e wv ⟨rfl, hb⟩
      replace a0 := cell_keep a0 al hb; replace a1 := cell_keep a1 al hb; replace a2 := cell_keep a2 al hb; replace al := lt_keep al hb
      replace l0 := cell_keep l0 ll hb; replace l1 := cell_keep l1 ll hb; replace ll := lt_keep ll hb
      replace R := Lib.hid (R.out.keep hb); replace RP := Lib.hid (RP.out.keep hb)
      replace B := Lib.hid (below_next B.out hb)
      clear hb
      go_wp2_with fail
      refine (boHas_any W H A n c s xs _ R.out HNN.out).mono ?_
      rw [HH.out]
      rintro e wv ⟨rfl, hb⟩
      replace a0 := cell_keep a0 al hb; replace a1 := cell_keep a1 al hb; replace a2 := cell_keep a2 al hb; replace al := lt_keep al hb
      replace l0 := cell_keep l0 ll hb; replace l1 := cell_keep l1 ll hb; replace ll := lt_keep ll hb
      replace R := Lib.hid (R.out.keep hb); replace RP := Lib.hid (RP.out.keep hb)
      replace B := Lib.hid (below_next B.out hb)
      clear hb
      clear a0 a1 a2 l0 l1 al ll
      go_wp2
      go_ret2
      exact ⟨none, 0, 0, by rw [OK.out]; rfl, by rw [ws_no OK.out]; exact OwnI.none_ _ _ _, B.out⟩
    | true =>
      have HH := Lib.hid hh
      clear hh
      by_cases hl : m ≤ 63
      · have OK0 := Lib.hid (show okW0 W H xs a b s ks = true by rw [okW0, HT.out, HH.out, HKL.out, decide_eq_true hl]; rfl)
        have hl63 : ¬ (63 : Int) < (m : Int) := by omega
        obtain ⟨i0, hi, hz0, hz1, hz2⟩ := info_parts infoI
        have HI := Lib.hid hi; have HZ0 := Lib.hid hz0; have HZ1 := Lib.hid hz1; have HZ2 := Lib.hid hz2
        clear hi hz0 hz1 hz2
        go_enter Try.func44, Try.ntmps44
        go_wp2_with fail
        rw [← hW2]
        clear hW2
        refine (boTwoV_any W H A n c xs a b _ R.out).mono ?_
        rw [HT.out]
        rintro e wv ⟨rfl, hb⟩
        replace a0 := cell_keep a0 al hb; replace a1 := cell_keep a1 al hb; replace a2 := cell_keep a2 al hb; replace al := lt_keep al hb
        replace l0 := cell_keep l0 ll hb; replace l1 := cell_keep l1 ll hb; replace ll := lt_keep ll hb
        replace R := Lib.hid (R.out.keep hb); replace RP := Lib.hid (RP.out.keep hb)
        replace B := Lib.hid (below_next B.out hb)
        clear hb
        go_wp2_with fail
        refine (boHas_any W H A n c s xs _ R.out HNN.out).mono ?_
        rw [HH.out]
        rintro e wv ⟨rfl, hb⟩
        replace a0 := cell_keep a0 al hb; replace a1 := cell_keep a1 al hb; replace a2 := cell_keep a2 al hb; replace al := lt_keep al hb
        replace l0 := cell_keep l0 ll hb; replace l1 := cell_keep l1 ll hb; replace ll := lt_keep ll hb
        replace R := Lib.hid (R.out.keep hb); replace RP := Lib.hid (RP.out.keep hb)
        replace B := Lib.hid (below_next B.out hb)
        clear hb
        go_wp2_with fail
        refine (boSteps_any a b _ HLP.out).mono ?_
        rintro e w3 ⟨A1, n1, c1, top, rfl, hpa, hb⟩
        have HSS := Lib.hid (OwnSS.of hpa)
        have SLN := Lib.hid (show (stepsL a b).length = n1 by have := hpa.len; rw [List.length_map] at this; exact this)
        have n8 : n1 ≤ 8 := by have := SLN.out; have := stepsL_len HLP.out; omega
        replace a0 := cell_keep a0 al hb; replace a1 := cell_keep a1 al hb; replace a2 := cell_keep a2 al hb; replace al := lt_keep al hb
        replace R := Lib.hid (R.out.keep hb); replace RP := Lib.hid (RP.out.keep hb)
        replace B := Lib.hid (below_next B.out hb)
        have AL := Lib.hid al
        have HA := Lib.hid (⟨a0, a1, a2⟩ : w3.cell? ⟨w.heap.size, 0, none⟩ = some (.int .i64 W) ∧ w3.cell? ⟨w.heap.size, 1, none⟩ = some (.int .i64 H) ∧ w3.cell? ⟨w.heap.size, 2, none⟩ = some (.slice A n c))
        obtain ⟨W4, hW4⟩ : ∃ W4, W4 = w3.alloc (.cells #[.int .i64 s] 3) := ⟨_, rfl⟩
        have O4 := Lib.hid (show OwnI 3 W4 w3.heap.size (some ⟨w3.heap.size, 0, none⟩) 1 1 [s] by rw [hW4]; exact own_lit _ s)
        have B4 := Lib.hid (show Below w3.heap.size w3 W4 by rw [hW4]; exact below_new (Below.refl _ _) _)
        clear hpa hb a0 a1 a2 l0 l1 al ll
        go_wp2
        rw [← hW4]
        clear hW4
        go_loopw [11, 38] (fun v i wr => ∃ (k n' c' : Nat) (A' : Option Addr) (P : List Int) (q : Int), k ≤ m ∧ i = .int .i64 k ∧ v = .slice A' n' c' ∧ n' = k + 1 ∧ OwnI 3 wr w3.heap.size A' n' c' P ∧ P[k]? = some q ∧ P.Nodup ∧ hasB W H xs q = true ∧ goA W H xs a b [s] s ks = goA W H xs a b P q (ks.drop k) ∧ Below w3.heap.size w3 wr) (fun _ i _ => m - (intOf i).toNat)
        case atStart => exact ⟨0, 1, 1, _, [s], s, Nat.zero_le _, rfl, rfl, rfl, O4.out, rfl, by simp, HH.out, by rw [List.drop_zero], B4.out⟩
        case round =>
          obtain ⟨k, n', c', A', P, q, hk, rfl, rfl, hnk, hown, hq, hnd, hhq, hgo, hbw⟩ := hrel
          have HNK := Lib.hid hnk; have HGO := Lib.hid hgo; have HND := Lib.hid hnd; have HQP := Lib.hid hq
          have hqr := (hasB_iff.1 hhq).1
          clear hnk hgo hnd
          by_cases hlt : k < m
          · obtain ⟨bb, oo, x, rfl, hg1, hx, x9⟩ := RP.out.at_ hlt
            replace x9 := cell_keep x9 hg1 hbw
            have HDR := Lib.hid (goA_drop (W := W) (H := H) (xs := xs) (a := a) (b := b) (P := P) (c := q) hx)
            have a0 := cell_keep HA.out.1 AL.out hbw; have a1 := cell_keep HA.out.2.1 AL.out hbw; have a2 := cell_keep HA.out.2.2 AL.out hbw
            have al := lt_keep AL.out hbw
            have RR := Lib.hid (R.out.keep hbw)
            have HO := Lib.hid hown; have HB := Lib.hid hbw
            have HS := Lib.hid (HSS.out.keep hbw)
            have hwn : IntKind.i64.wrap ((n1 : Int) - 1) = (n1 : Int) - 1 := IntWalk.i64_in _ (by omega)
            clear hx hown hbw hg1
            cases hin : inB x 0 ((n1 : Int) - 1) with
            | false =>
              have HIN := Lib.hid hin
              have OK := Lib.hid (ws_none (by rw [HGO.out, HDR.out, stOk, SLN.out, hin]; rfl))
              clear hin hq hhq hqr
              go_wp2_with fail
              refine (l1In_any x 0 ((n1 : Int) - 1) _).mono ?_
              rw [HIN.out]
              rintro e wx ⟨rfl, rfl⟩
              clear a0 a1 a2 al x9
              go_wp2
              go_ret2
              exact ⟨none, 0, 0, by rw [OK.out]; rfl, by rw [ws_no OK.out]; exact OwnI.none_ _ _ _, B.out.trans (HB.out.mono B.out.size)⟩
            | true =>
              have HIN := Lib.hid hin
              simp only [inB, decide_eq_true_eq] at hin
              obtain ⟨j, rfl⟩ : ∃ j : Nat, x = (j : Int) := ⟨x.toNat, by omega⟩
              have hj : j < n1 := by omega
              obtain ⟨g, V, mm, kk, pp, rfl, hg, hcl, hpp, hrow, hVb, -⟩ := HS.out.at_ hj
              obtain ⟨⟨dx, dy⟩, hx⟩ : ∃ p, (stepsL a b)[j]? = some p := ⟨_, List.getElem?_eq_getElem (show j < (stepsL a b).length by have := SLN.out; omega)⟩
              have hpe : pp = [dx, dy] := by rw [List.getElem?_map, hx] at hpp; simp [pairL] at hpp; exact hpp.symm
              subst hpe
              have hmm : mm = 2 := by have := hrow.len; simp at this; omega
              subst hmm
              obtain ⟨gv, rfl, hgv, hgv2⟩ := hrow.some_ (k := 0) (by omega)
              have x0 := hrow.cell (k := 0) (x := dx) rfl
              have x1 := hrow.cell (k := 1) (x := dy) rfl
              obtain ⟨d1, d2, d3, d4⟩ := stepsL_bd HLP.out (List.mem_of_getElem? hx)
              simp only at d1 d2 d3 d4
              have HGD := Lib.hid (getD_at hx)
              have HST := Lib.hid (show stOk W H xs a b q (j : Int) = spotB W H xs (q % W + dx) (q / W + dy) by rw [stOk, SLN.out, HIN.out, HGD.out, Bool.true_and])
              have HTO := Lib.hid (show stTo W a b q (j : Int) = (q / W + dy) * W + (q % W + dx) by rw [stTo, HGD.out])
              have hc1 := colIn (x := q) HWW.out; have hr1 := rowIn HWW.out hqr
              have hW8 := HWW.out; have hH8 := HHH.out
              have hq0 := hqr.1
              have hWne : ¬ W = 0 := by omega
              have htm : q.tmod W = q % W := Int.tmod_eq_emod_of_nonneg hq0
              have htd : q.tdiv W = q / W := Int.tdiv_eq_ediv_of_nonneg hq0
              have hwD : IntKind.i64.wrap (q / W) = q / W := IntWalk.i64_in _ (by omega)
              have hwX : IntKind.i64.wrap (q % W + dx) = q % W + dx := IntWalk.i64_in _ (by omega)
              have hwY : IntKind.i64.wrap (q / W + dy) = q / W + dy := IntWalk.i64_in _ (by omega)
              have hwW : IntKind.i64.wrap (W - 1) = W - 1 := IntWalk.i64_in _ (by omega)
              have hwH : IntKind.i64.wrap (H - 1) = H - 1 := IntWalk.i64_in _ (by omega)
              have hnk := HNK.out
              have hwN : IntKind.i64.wrap ((n' : Int) - 1) = (k : Int) := by rw [show ((n' : Int) - 1) = (k : Int) by omega]; exact IntWalk.i64_in _ (by omega)
              obtain ⟨go_, hgo1, hgo2, hgo3⟩ := HO.out.some_ (k := 0) (by omega)
              subst hgo1
              have q0 := HO.out.cell HQP.out
              have hk0 : (0 : Int) ≤ (k : Int) := by omega
              have hkn : (k : Int) < (n' : Int) := by omega
              have hkn2 : k < n' := by omega
              have hj0 : (0 : Int) ≤ (j : Int) := by omega
              have hjn : (j : Int) < (n1 : Int) := by omega
              have HMB := Lib.hid (mul_bd (y := q / W + dy) (by omega) HWW.out)
              have hwM : IntKind.i64.wrap ((q / W + dy) * W) = (q / W + dy) * W := IntWalk.i64_in _ (by have := HMB.out; omega)
              have hwS : IntKind.i64.wrap ((q / W + dy) * W + (q % W + dx)) = (q / W + dy) * W + (q % W + dx) := IntWalk.i64_in _ (by have := HMB.out; omega)
              have HSN := Lib.hid (fun h => spotB_no (W := W) (H := H) (xs := xs) (x := q % W + dx) (y := q / W + dy) HWW.out h)
              clear hin hq hhq hqr hpp hrow hVb hx d1 d2 d3 d4 hc1 hr1 hW8 hH8 hq0 hnk hg hgv hgv2 hgo2 hgo3
              go_wp2_with fail
              refine (l1In_any (j : Int) 0 ((n1 : Int) - 1) _).mono ?_
              rw [HIN.out]
              rintro e wx ⟨rfl, rfl⟩
              go_wp2_with fail
              refine wp_region_held_drew (S := fun w' => w'.cell? ⟨w.heap.size, 0, none⟩ = some (.int .i64 W) ∧ w'.cell? ⟨g, j, none⟩ = some (.slice (some ⟨gv, 0, none⟩) 2 kk) ∧ w'.cell? ⟨gv, 0, none⟩ = some (.int .i64 dx) ∧ w'.cell? ⟨gv, 1, none⟩ = some (.int .i64 dy)) (by kernel_rfl) ?_ (fun hHeld => ?_)
              · (try dsimp only)
                exact ⟨a0, hcl, x0, x1⟩
              refine wpAnyH_take (i := 0) (oi := ⟨_, _, _, _, _, _⟩) (v := ?_) rfl (by kernel_rfl) (by kernel_rfl) (by kernel_rfl) (fun _ _ _ h => h) (Or.inl ⟨by rfl, ?_⟩) (by assumption) ?_
              rotate_left
              · intro w hSw
                (try dsimp only at hSw)
                go_simp
                (try with_reducible rfl)
              (try simp only [Act.put, List.setIfInBounds_toArray, List.set_cons_zero, List.set_cons_succ])
              refine wpAnyH_take (i := 1) (oi := ⟨_, _, _, _, _, _⟩) (v := ?_) rfl (by kernel_rfl) (by kernel_rfl) (by kernel_rfl) (fun _ _ _ h => h) (Or.inl ⟨by rfl, ?_⟩) (by assumption) ?_
              rotate_left
              · intro w hSw
                (try dsimp only at hSw)
                go_simp
                (try with_reducible rfl)
              (try simp only [Act.put, List.setIfInBounds_toArray, List.set_cons_zero, List.set_cons_succ])
              refine wpAnyH_take (i := 2) (oi := ⟨_, _, _, _, _, _⟩) (v := ?_) rfl (by kernel_rfl) (by kernel_rfl) (by kernel_rfl) (fun _ _ _ h => h) (Or.inl ⟨by rfl, ?_⟩) (by assumption) ?_
              rotate_left
              · intro w hSw
                (try dsimp only at hSw)
                go_simp
                (try with_reducible rfl)
              (try simp only [Act.put, List.setIfInBounds_toArray, List.set_cons_zero, List.set_cons_succ])
              refine wpAnyH_take (i := 3) (oi := ⟨_, _, _, _, _, _⟩) (v := ?_) rfl (by kernel_rfl) (by kernel_rfl) (by kernel_rfl) (fun _ _ _ h => h) (Or.inl ⟨by rfl, ?_⟩) (by assumption) ?_
              rotate_left
              · intro w hSw
                (try dsimp only at hSw)
                go_simp
                (try with_reducible rfl)
              (try simp only [Act.put, List.setIfInBounds_toArray, List.set_cons_zero, List.set_cons_succ])
              refine wpAnyH_take (i := 4) (oi := ⟨_, _, _, _, _, _⟩) (v := ?_) rfl (by kernel_rfl) (by kernel_rfl) (by kernel_rfl) (fun _ _ _ h => h) (Or.inl ⟨by rfl, ?_⟩) (by assumption) ?_
              rotate_left
              · intro w hSw
                (try dsimp only at hSw)
                go_simp
                (try with_reducible rfl)
              (try simp only [Act.put, List.setIfInBounds_toArray, List.set_cons_zero, List.set_cons_succ])
              refine wpAnyH_take (i := 5) (oi := ⟨_, _, _, _, _, _⟩) (v := ?_) rfl (by kernel_rfl) (by kernel_rfl) (by kernel_rfl) (fun _ _ _ h => h) (Or.inl ⟨by rfl, ?_⟩) (by assumption) ?_
              rotate_left
              · intro w hSw
                (try dsimp only at hSw)
                go_simp
                (try with_reducible rfl)
              (try simp only [Act.put, List.setIfInBounds_toArray, List.set_cons_zero, List.set_cons_succ])
              refine wpAnyH_take (i := 6) (oi := ⟨_, _, _, _, _, _⟩) (v := ?_) rfl (by kernel_rfl) (by kernel_rfl) (by kernel_rfl) (fun _ _ _ h => h) (Or.inl ⟨by rfl, ?_⟩) (by assumption) ?_
              rotate_left
              · intro w hSw
                (try dsimp only at hSw)
                go_simp
                (try with_reducible rfl)
              (try simp only [Act.put, List.setIfInBounds_toArray, List.set_cons_zero, List.set_cons_succ])
              refine wpAnyH_take (i := 7) (oi := ⟨_, _, _, _, _, _⟩) (v := ?_) rfl (by kernel_rfl) (by kernel_rfl) (by kernel_rfl) (fun _ _ _ h => h) (Or.inl ⟨by rfl, ?_⟩) (by assumption) ?_
              rotate_left
              · intro w hSw
                (try dsimp only at hSw)
                go_simp
                (try with_reducible rfl)
              (try simp only [Act.put, List.setIfInBounds_toArray, List.set_cons_zero, List.set_cons_succ])
              refine wpAnyH_take (i := 8) (oi := ⟨_, _, _, _, _, _⟩) (v := ?_) rfl (by kernel_rfl) (by kernel_rfl) (by kernel_rfl) (fun _ _ _ h => h) (Or.inl ⟨by rfl, ?_⟩) (by assumption) ?_
              rotate_left
              · intro w hSw
                (try dsimp only at hSw)
                go_simp
                (try with_reducible rfl)
              (try simp only [Act.put, List.setIfInBounds_toArray, List.set_cons_zero, List.set_cons_succ])
              refine wpAnyH_take (i := 9) (oi := ⟨_, _, _, _, _, _⟩) (v := ?_) rfl (by kernel_rfl) (by kernel_rfl) (by kernel_rfl) (fun _ _ _ h => h) (Or.inl ⟨by rfl, ?_⟩) (by assumption) ?_
              rotate_left
              · intro w hSw
                (try dsimp only at hSw)
                go_simp
                (try with_reducible rfl)
              (try simp only [Act.put, List.setIfInBounds_toArray, List.set_cons_zero, List.set_cons_succ])
              refine wpAnyH_take (i := 10) (oi := ⟨_, _, _, _, _, _⟩) (v := ?_) rfl (by kernel_rfl) (by kernel_rfl) (by kernel_rfl) (fun _ _ _ h => h) (Or.inl ⟨by rfl, ?_⟩) (by assumption) ?_
              rotate_left
              · intro w hSw
                (try dsimp only at hSw)
                go_simp
                (try with_reducible rfl)
              (try simp only [Act.put, List.setIfInBounds_toArray, List.set_cons_zero, List.set_cons_succ])
              refine wpAnyH_take (i := 11) (oi := ⟨_, _, _, _, _, _⟩) (v := ?_) rfl (by kernel_rfl) (by kernel_rfl) (by kernel_rfl) (fun _ _ _ h => h) (Or.inl ⟨by rfl, ?_⟩) (by assumption) ?_
              rotate_left
              · intro w hSw
                (try dsimp only at hSw)
                go_simp
                (try with_reducible rfl)
              (try simp only [Act.put, List.setIfInBounds_toArray, List.set_cons_zero, List.set_cons_succ])
              refine wpAnyH_take (i := 12) (oi := ⟨_, _, _, _, _, _⟩) (v := ?_) rfl (by kernel_rfl) (by kernel_rfl) (by kernel_rfl) (fun _ _ _ h => h) (Or.inl ⟨by rfl, ?_⟩) (by assumption) ?_
              rotate_left
              · intro w hSw
                (try dsimp only at hSw)
                go_simp
                (try with_reducible rfl)
              (try simp only [Act.put, List.setIfInBounds_toArray, List.set_cons_zero, List.set_cons_succ])
              refine wpAnyH_take (i := 13) (oi := ⟨_, _, _, _, _, _⟩) (v := ?_) rfl (by kernel_rfl) (by kernel_rfl) (by kernel_rfl) (fun _ _ _ h => h) (Or.inl ⟨by rfl, ?_⟩) (by assumption) ?_
              rotate_left
              · intro w hSw
                (try dsimp only at hSw)
                go_simp
                (try with_reducible rfl)
              (try simp only [Act.put, List.setIfInBounds_toArray, List.set_cons_zero, List.set_cons_succ])
              refine wpAnyH_take (i := 14) (oi := ⟨_, _, _, _, _, _⟩) (v := ?_) rfl (by kernel_rfl) (by kernel_rfl) (by kernel_rfl) (fun _ _ _ h => h) (Or.inl ⟨by rfl, ?_⟩) (by assumption) ?_
              rotate_left
              · intro w hSw
                (try dsimp only at hSw)
                go_simp
                (try with_reducible rfl)
              (try simp only [Act.put, List.setIfInBounds_toArray, List.set_cons_zero, List.set_cons_succ])
              refine wpAnyH_take (i := 15) (oi := ⟨_, _, _, _, _, _⟩) (v := ?_) rfl (by kernel_rfl) (by kernel_rfl) (by kernel_rfl) (fun _ _ _ h => h) (Or.inl ⟨by rfl, ?_⟩) (by assumption) ?_
              rotate_left
              · intro w hSw
                (try dsimp only at hSw)
                go_simp
                (try with_reducible rfl)
              (try simp only [Act.put, List.setIfInBounds_toArray, List.set_cons_zero, List.set_cons_succ])
              refine wpAnyH_take (i := 16) (oi := ⟨_, _, _, _, _, _⟩) (v := ?_) rfl (by kernel_rfl) (by kernel_rfl) (by kernel_rfl) (fun _ _ _ h => h) (Or.inl ⟨by rfl, ?_⟩) (by assumption) ?_
              rotate_left
              · intro w hSw
                (try dsimp only at hSw)
                go_simp
                (try with_reducible rfl)
              (try simp only [Act.put, List.setIfInBounds_toArray, List.set_cons_zero, List.set_cons_succ])
              refine wpAnyH_take (i := 17) (oi := ⟨_, _, _, _, _, _⟩) (v := ?_) rfl (by kernel_rfl) (by kernel_rfl) (by kernel_rfl) (fun _ _ _ h => h) (Or.inl ⟨by rfl, ?_⟩) (by assumption) ?_
              rotate_left
              · intro w hSw
                (try dsimp only at hSw)
                go_simp
                (try with_reducible rfl)
              (try simp only [Act.put, List.setIfInBounds_toArray, List.set_cons_zero, List.set_cons_succ])
              refine wpAnyH_take (i := 18) (oi := ⟨_, _, _, _, _, _⟩) (v := ?_) rfl (by kernel_rfl) (by kernel_rfl) (by kernel_rfl) (fun _ _ _ h => h) (Or.inl ⟨by rfl, ?_⟩) (by assumption) ?_
              rotate_left
              · intro w hSw
                (try dsimp only at hSw)
                go_simp
                (try with_reducible rfl)
              (try simp only [Act.put, List.setIfInBounds_toArray, List.set_cons_zero, List.set_cons_succ])
              refine wpAnyH_take (i := 19) (oi := ⟨_, _, _, _, _, _⟩) (v := ?_) rfl (by kernel_rfl) (by kernel_rfl) (by kernel_rfl) (fun _ _ _ h => h) (Or.inl ⟨by rfl, ?_⟩) (by assumption) ?_
              rotate_left
              · intro w hSw
                (try dsimp only at hSw)
                go_simp
                (try with_reducible rfl)
              (try simp only [Act.put, List.setIfInBounds_toArray, List.set_cons_zero, List.set_cons_succ])
              refine wpAnyH_take (i := 20) (oi := ⟨_, _, _, _, _, _⟩) (v := ?_) rfl (by kernel_rfl) (by kernel_rfl) (by kernel_rfl) (fun _ _ _ h => h) (Or.inl ⟨by rfl, ?_⟩) (by assumption) ?_
              rotate_left
              · intro w hSw
                (try dsimp only at hSw)
                go_simp
                (try with_reducible rfl)
              (try simp only [Act.put, List.setIfInBounds_toArray, List.set_cons_zero, List.set_cons_succ])
              refine wpAnyH_take (i := 21) (oi := ⟨_, _, _, _, _, _⟩) (v := ?_) rfl (by kernel_rfl) (by kernel_rfl) (by kernel_rfl) (fun _ _ _ h => h) (Or.inl ⟨by rfl, ?_⟩) (by assumption) ?_
              rotate_left
              · intro w hSw
                (try dsimp only at hSw)
                go_simp
                (try with_reducible rfl)
              (try simp only [Act.put, List.setIfInBounds_toArray, List.set_cons_zero, List.set_cons_succ])
              refine wpAnyH_take (i := 22) (oi := ⟨_, _, _, _, _, _⟩) (v := ?_) rfl (by kernel_rfl) (by kernel_rfl) (by kernel_rfl) (fun _ _ _ h => h) (Or.inl ⟨by rfl, ?_⟩) (by assumption) ?_
              rotate_left
              · intro w hSw
                (try dsimp only at hSw)
                go_simp
                (try with_reducible rfl)
              (try simp only [Act.put, List.setIfInBounds_toArray, List.set_cons_zero, List.set_cons_succ])
              refine wpAnyH_take (i := 23) (oi := ⟨_, _, _, _, _, _⟩) (v := ?_) rfl (by kernel_rfl) (by kernel_rfl) (by kernel_rfl) (fun _ _ _ h => h) (Or.inl ⟨by rfl, ?_⟩) (by assumption) ?_
              rotate_left
              · intro w hSw
                (try dsimp only at hSw)
                go_simp
                (try with_reducible rfl)
              (try simp only [Act.put, List.setIfInBounds_toArray, List.set_cons_zero, List.set_cons_succ])
              refine wpAnyH_done (by kernel_rfl) ?_ _
              clear hcl x0 x1 q0 x9 htm htd hWne hwD hwN hHeld
              obtain ⟨wq, hwq⟩ : ∃ wq, wq = wr.drew := ⟨_, rfl⟩
              rw [← hwq]
              replace HB := Lib.hid (show Below w3.heap.size w3 wq by rw [hwq]; exact below_drewN HB.out 1)
              replace RR := Lib.hid (show Rd wq A n xs by rw [hwq]; exact RR.out)
              replace HO := Lib.hid (show OwnI 3 wq w3.heap.size _ n' c' P by rw [hwq]; exact HO.out)
              replace a0 : wq.cell? ⟨w.heap.size, 0, none⟩ = some (.int .i64 W) := by rw [hwq]; exact a0
              replace a1 : wq.cell? ⟨w.heap.size, 1, none⟩ = some (.int .i64 H) := by rw [hwq]; exact a1
              replace a2 : wq.cell? ⟨w.heap.size, 2, none⟩ = some (.slice A n c) := by rw [hwq]; exact a2
              replace al : w.heap.size < wq.heap.size := by rw [hwq]; exact al
              clear hwq HS
              cases hX : inB (q % W + dx) 0 (W - 1) with
              | false =>
                have HX := Lib.hid hX
                have OK := Lib.hid (ws_none (by rw [HGO.out, HDR.out, HST.out, HSN.out (fun h => by rw [inB, decide_eq_false_iff_not] at hX; omega)]; rfl))
                clear hX
                go_wp2_with fail
                refine (l1In_any (q % W + dx) 0 (W - 1) _).mono ?_
                rw [HX.out]
                rintro e wx ⟨rfl, rfl⟩
                clear a0 a1 a2 al
                go_wp2
                go_ret2
                exact ⟨none, 0, 0, by rw [OK.out]; rfl, by rw [ws_no OK.out]; exact OwnI.none_ _ _ _, B.out.trans (HB.out.mono B.out.size)⟩
              | true =>
                have HX := Lib.hid hX
                simp only [inB, decide_eq_true_eq] at hX
                cases hY : inB (q / W + dy) 0 (H - 1) with
                | false =>
                  have HY := Lib.hid hY
                  have OK := Lib.hid (ws_none (by rw [HGO.out, HDR.out, HST.out, HSN.out (fun h => by rw [inB, decide_eq_false_iff_not] at hY; omega)]; rfl))
                  clear hY hX
                  go_wp2_with fail
                  refine (l1In_any (q % W + dx) 0 (W - 1) _).mono ?_
                  rw [HX.out]
                  rintro e wx ⟨rfl, rfl⟩
                  go_wp2_with fail
                  refine (l1In_any (q / W + dy) 0 (H - 1) _).mono ?_
                  rw [HY.out]
                  rintro e wx ⟨rfl, rfl⟩
                  clear a0 a1 a2 al
                  go_wp2
                  go_ret2
                  exact ⟨none, 0, 0, by rw [OK.out]; rfl, by rw [ws_no OK.out]; exact OwnI.none_ _ _ _, B.out.trans (HB.out.mono B.out.size)⟩
                | true =>
                  have HY := Lib.hid hY
                  clear hY
                  have HSB := Lib.hid (show spotB W H xs (q % W + dx) (q / W + dy) = hasB W H xs ((q / W + dy) * W + (q % W + dx)) by rw [spotB, decide_eq_true (show 0 ≤ q % W + dx ∧ q % W + dx < W by omega), Bool.true_and])
                  clear hX
                  cases hB : hasB W H xs ((q / W + dy) * W + (q % W + dx)) with
                  | false =>
                    have HBB := Lib.hid hB
                    have OK := Lib.hid (ws_none (by rw [HGO.out, HDR.out, HST.out, HSB.out, hB]; rfl))
                    clear hB
                    go_wp2_with fail
                    refine (l1In_any (q % W + dx) 0 (W - 1) _).mono ?_
                    rw [HX.out]
                    rintro e wx ⟨rfl, rfl⟩
                    go_wp2_with fail
                    refine (l1In_any (q / W + dy) 0 (H - 1) _).mono ?_
                    rw [HY.out]
                    rintro e wx ⟨rfl, rfl⟩
                    go_wp2_with fail
                    refine (boHas_any W H A n c ((q / W + dy) * W + (q % W + dx)) xs _ RR.out HNN.out).mono ?_
                    rw [HBB.out]
                    rintro e wx ⟨rfl, hb⟩
                    replace a0 := cell_keep a0 al hb; replace a1 := cell_keep a1 al hb; replace a2 := cell_keep a2 al hb; replace al := lt_keep al hb
                    replace HO := Lib.hid (HO.out.keep hb)
                    replace HB := Lib.hid (HB.out.trans (hb.mono HB.out.size))
                    clear hb
                    clear a0 a1 a2 al
                    go_wp2
                    go_ret2
                    exact ⟨none, 0, 0, by rw [OK.out]; rfl, by rw [ws_no OK.out]; exact OwnI.none_ _ _ _, B.out.trans (HB.out.mono B.out.size)⟩
                  | true =>
                    have HBB := Lib.hid hB
                    have HGN := Lib.hid (show goA W H xs a b [s] s ks = goA W H xs a b (P ++ [(q / W + dy) * W + (q % W + dx)]) ((q / W + dy) * W + (q % W + dx)) (ks.drop (k + 1)) by rw [HGO.out, HDR.out, HST.out, HSB.out, hB, HTO.out]; rfl)
                    clear hB
                    cases hD : P.contains ((q / W + dy) * W + (q % W + dx)) with
                    | true =>
                      have HD := Lib.hid hD
                      have OK := Lib.hid (ws_dup HGN.out (fun hn => by
                        have h1 := (List.nodup_append.1 hn).2.2
                        simp only [List.contains_eq_mem, decide_eq_true_eq] at hD
                        exact h1 _ hD _ (by simp) rfl))
                      clear hD
                      go_wp2_with fail
                      refine (l1In_any (q % W + dx) 0 (W - 1) _).mono ?_
                      rw [HX.out]
                      rintro e wx ⟨rfl, rfl⟩
                      go_wp2_with fail
                      refine (l1In_any (q / W + dy) 0 (H - 1) _).mono ?_
                      rw [HY.out]
                      rintro e wx ⟨rfl, rfl⟩
                      go_wp2_with fail
                      refine (boHas_any W H A n c ((q / W + dy) * W + (q % W + dx)) xs _ RR.out HNN.out).mono ?_
                      rw [HBB.out]
                      rintro e wx ⟨rfl, hb⟩
                      replace a0 := cell_keep a0 al hb; replace a1 := cell_keep a1 al hb; replace a2 := cell_keep a2 al hb; replace al := lt_keep al hb
                      replace HO := Lib.hid (HO.out.keep hb)
                      replace HB := Lib.hid (HB.out.trans (hb.mono HB.out.size))
                      clear hb
                      go_wp2_with fail
                      refine (l1Has_any _ _ _ _ P _ HO.out.rd).mono ?_
                      rw [HD.out]
                      rintro e wx ⟨rfl, hb⟩
                      replace a0 := cell_keep a0 al hb; replace a1 := cell_keep a1 al hb; replace a2 := cell_keep a2 al hb; replace al := lt_keep al hb
                      replace HO := Lib.hid (HO.out.keep hb)
                      replace HB := Lib.hid (HB.out.trans (hb.mono HB.out.size))
                      clear hb
                      clear a0 a1 a2 al
                      go_wp2
                      go_ret2
                      exact ⟨none, 0, 0, by rw [OK.out]; rfl, by rw [ws_no OK.out]; exact OwnI.none_ _ _ _, B.out.trans (HB.out.mono B.out.size)⟩
                    | false =>
                      have HD := Lib.hid hD
                      have HN2 := Lib.hid (show (P ++ [(q / W + dy) * W + (q % W + dx)]).Nodup by
                        rw [List.nodup_append]
                        refine ⟨HND.out, by simp, fun y hy z hz e => ?_⟩
                        simp only [List.contains_eq_mem, decide_eq_false_iff_not] at hD
                        have : z = (q / W + dy) * W + (q % W + dx) := by simpa using hz
                        exact hD (this ▸ e ▸ hy))
                      clear hD
                      go_wp2_with fail
                      refine (l1In_any (q % W + dx) 0 (W - 1) _).mono ?_
                      rw [HX.out]
                      rintro e wx ⟨rfl, rfl⟩
                      go_wp2_with fail
                      refine (l1In_any (q / W + dy) 0 (H - 1) _).mono ?_
                      rw [HY.out]
                      rintro e wx ⟨rfl, rfl⟩
                      go_wp2_with fail
                      refine (boHas_any W H A n c ((q / W + dy) * W + (q % W + dx)) xs _ RR.out HNN.out).mono ?_
                      rw [HBB.out]
                      rintro e wx ⟨rfl, hb⟩
                      replace a0 := cell_keep a0 al hb; replace a1 := cell_keep a1 al hb; replace a2 := cell_keep a2 al hb; replace al := lt_keep al hb
                      replace HO := Lib.hid (HO.out.keep hb)
                      replace HB := Lib.hid (HB.out.trans (hb.mono HB.out.size))
                      clear hb
                      go_wp2_with fail
                      refine (l1Has_any _ _ _ _ P _ HO.out.rd).mono ?_
                      rw [HD.out]
                      rintro e wx ⟨rfl, hb⟩
                      replace a0 := cell_keep a0 al hb; replace a1 := cell_keep a1 al hb; replace a2 := cell_keep a2 al hb; replace al := lt_keep al hb
                      replace HO := Lib.hid (HO.out.keep hb)
                      replace HB := Lib.hid (HB.out.trans (hb.mono HB.out.size))
                      clear hb
                      have hsw := HB.out.size
                      have hn9 : n' ≤ 1000000 := by have := HNK.out; omega
                      go_wp2_with (at_builtin; refine wpList_app1 rfl (.tmp 111) (.tmp 118) 22 3 rfl i0 Try.underlying22 HI.out HZ0.out HZ1.out HZ2.out w3.heap.size _ n' c' P ((q / W + dy) * W + (q % W + dx)) rfl HO.out rfl hn9 hsw ?_; intro A3 c3 w5 hown3 hb5)
                      have O3 := Lib.hid hown3
                      have B3 := Lib.hid (HB.out.trans hb5)
                      clear hown3 hb5 a0 a1 a2 al
                      go_wp2
                      go_roundw
                      case rel => exact ⟨k + 1, n' + 1, c3, A3, P ++ [(q / W + dy) * W + (q % W + dx)], (q / W + dy) * W + (q % W + dx), by omega, by go_num, rfl, by have := HNK.out; omega, O3.out, (by rw [List.getElem?_append_right (by rw [HO.out.len]; have := HNK.out; omega)]; rw [HO.out.len, show k + 1 - n' = 0 by have := HNK.out; omega]; rfl), HN2.out, HBB.out, HGN.out, B3.out⟩
                      case measure => simp [intOf]; omega
          · have hkm : ks.drop k = [] := List.drop_of_length_le (by have := HKL.out; omega)
            have HGF := Lib.hid (show goA W H xs a b [s] s ks = some P by rw [HGO.out, hkm, goA])
            have OK := Lib.hid (show okWS W H xs a b s ks = true by rw [okWS, OK0.out, HGF.out]; exact decide_eq_true HND.out)
            have HV := Lib.hid (show wosV W H xs a b s ks = P by rw [wosV, if_pos OK.out, HGF.out]; rfl)
            have HO := Lib.hid (hown.lower B.out.size); have HB := Lib.hid hbw
            clear hown hbw hkm hq hhq hqr
            go_wp2
            go_ret2
            exact ⟨_, _, _, by rw [OK.out]; rfl, by rw [HV.out]; exact HO.out, B.out.trans (HB.out.mono B.out.size)⟩
      · have OK := Lib.hid (show okWS W H xs a b s ks = false by rw [okWS, okW0, HKL.out, decide_eq_false hl, Bool.and_false]; rfl)
        have hl63 : (63 : Int) < (m : Int) := by omega
        go_enter Try.func44, Try.ntmps44
        go_wp2_with fail
        rw [← hW2]
        clear hW2
        refine (boTwoV_any W H A n c xs a b _ R.out).mono ?_
        rw [HT.out]
        rintro e wv ⟨rfl, hb⟩
        replace a0 := cell_keep a0 al hb; replace a1 := cell_keep a1 al hb; replace a2 := cell_keep a2 al hb; replace al := lt_keep al hb
        replace l0 := cell_keep l0 ll hb; replace l1 := cell_keep l1 ll hb; replace ll := lt_keep ll hb
        replace R := Lib.hid (R.out.keep hb); replace RP := Lib.hid (RP.out.keep hb)
        replace B := Lib.hid (below_next B.out hb)
        clear hb
        go_wp2_with fail
        refine (boHas_any W H A n c s xs _ R.out HNN.out).mono ?_
        rw [HH.out]
        rintro e wv ⟨rfl, hb⟩
        replace a0 := cell_keep a0 al hb; replace a1 := cell_keep a1 al hb; replace a2 := cell_keep a2 al hb; replace al := lt_keep al hb
        replace l0 := cell_keep l0 ll hb; replace l1 := cell_keep l1 ll hb; replace ll := lt_keep ll hb
        replace R := Lib.hid (R.out.keep hb); replace RP := Lib.hid (RP.out.keep hb)
        replace B := Lib.hid (below_next B.out hb)
        clear hb
        clear a0 a1 a2 l0 l1 al ll
        go_wp2
        go_ret2
        exact ⟨none, 0, 0, by rw [OK.out]; rfl, by rw [ws_no OK.out]; exact OwnI.none_ _ _ _, B.out⟩

end Go.Proofs.Ytadopgfpfbianaa
