/-
  Contracts: WalkOfSteps, in the program.
-/
import Derived.Test.YtadopgfpfbianaaY6
import Derived.Test.YtadopgfpfbianaaY3
import Derived.Test.YtadopgfpfbianaaYS
namespace Go.Proofs.Ytadopgfpfbianaa
open Go.RowKit

theorem leap_to {W a b q dx dy : Int} (hl : leaperB a b = true) (hW : 1 ≤ W) (hm : (dx, dy) ∈ stepsL a b) (hx : 0 ≤ q % W + dx ∧ q % W + dx < W) :
    leapB W a b q ((q / W + dy) * W + (q % W + dx)) = true ∧ ((q / W + dy) * W + (q % W + dx)) % W = q % W + dx ∧ ((q / W + dy) * W + (q % W + dx)) / W = q / W + dy := by
  have h1 : ((q / W + dy) * W + (q % W + dx)) % W = q % W + dx := by rw [Int.add_comm, Int.add_mul_emod_self_right]; exact Int.emod_eq_of_lt hx.1 hx.2
  have h2 : ((q / W + dy) * W + (q % W + dx)) / W = q / W + dy := by rw [Int.add_comm, Int.add_mul_ediv_right _ _ (by omega), Int.ediv_eq_zero_of_lt hx.1 hx.2]; omega
  refine ⟨?_, h1, h2⟩
  rw [leapB, h1, h2]
  have h3 := (stepsL_mem hl).1 hm
  unfold stepB at h3
  have h4 := of_decide_eq_true h3
  have e1 : absV (q % W - (q % W + dx)) = absV dx := by unfold absV; split <;> split <;> omega
  have e2 : absV (q / W - (q / W + dy)) = absV dy := by unfold absV; split <;> split <;> omega
  rw [e1, e2]
  exact decide_eq_true h4
theorem goes_snoc {W H a b q C : Int} {xs P : List Int} {k : Nat} (hg : goesB W H xs a b none P = true) (hq : P[k]? = some q) (hk : P.length = k + 1) (hC : hasB W H xs C = true) (hl : leapB W a b q C = true) : goesB W H xs a b none (P ++ [C]) = true := by
  have hne : P ≠ [] := fun h => by rw [h] at hk; simp at hk
  have hla : P.getLast hne = q := by
    have h1 := List.getLast?_eq_some_getLast hne
    rw [List.getLast?_eq_getElem?, show P.length - 1 = k by omega, hq] at h1
    injection h1 with h1
    exact h1.symm
  rw [goes_last P [C] none hne, hg, hla]
  simp [goesB, hC, hl]

set_option maxRecDepth 100000 in
set_option maxHeartbeats 8000000 in
theorem impl_WalkOfSteps (W H : Int) (A : Option Addr) (n c : Nat) (xs : List Int) (a b s : Int) (A2 : Option Addr) (m c2 : Nat) (ks : List Int) (w : World) (ha : Rd w A n xs) (hp : Rd w A2 m ks) :
    Calls Try.prog 45 #[brd W H A n c, lpr a b, .int .i64 s, .slice A2 m c2] w fun e w' => ∃ A' n' c', e = .returned (.tuple #[.slice A' n' c', .bool (okWS W H xs a b s ks)]) ∧ OwnI 3 w' w.heap.size A' n' c' (wosV W H xs a b s ks) ∧ Below w.heap.size w w' := by
  have HKL := Lib.hid hp.1
  have m9 := hp.2.1
  obtain ⟨W2, hW2⟩ : ∃ W2, W2 = ((w.alloc (.cells #[.int .i64 W, .int .i64 H, .slice A n c] 24)).alloc (.cells #[.int .i64 a, .int .i64 b] 26)).alloc (.cells #[.int .i64 s] 3) := ⟨_, rfl⟩
  have a0 : W2.cell? ⟨w.heap.size, 0, none⟩ = some (.int .i64 W) := by rw [hW2]; go_simp
  have a1 : W2.cell? ⟨w.heap.size, 1, none⟩ = some (.int .i64 H) := by rw [hW2]; go_simp
  have a2 : W2.cell? ⟨w.heap.size, 2, none⟩ = some (.slice A n c) := by rw [hW2]; go_simp
  have l0 : W2.cell? ⟨w.heap.size + 1, 0, none⟩ = some (.int .i64 a) := by rw [hW2]; go_simp
  have l1 : W2.cell? ⟨w.heap.size + 1, 1, none⟩ = some (.int .i64 b) := by rw [hW2]; go_simp
  have q0 : W2.cell? ⟨w.heap.size + 1 + 1, 0, none⟩ = some (.int .i64 s) := by rw [hW2]; go_simp
  have hsz : W2.heap.size = w.heap.size + 3 := by rw [hW2]; simp
  have al : w.heap.size < W2.heap.size := by omega
  have ll : w.heap.size + 1 < W2.heap.size := by omega
  have B := Lib.hid (show Below w.heap.size w W2 by rw [hW2]; exact (((Below.refl _ _).alloc (Nat.le_refl _) _).alloc (by simp) _).alloc (by simp; omega) _)
  have R := Lib.hid (ha.keep B.out); have RP := Lib.hid (hp.keep B.out)
  have RS := Lib.hid (show Rd W2 (some ⟨w.heap.size + 1 + 1, 0, none⟩) 1 [s] from ⟨rfl, by omega, fun k hk => by
    obtain rfl : k = 0 := by omega
    exact ⟨_, 0, _, rfl, by omega, rfl, q0⟩⟩)
  clear ha hp hsz q0
  cases hon : onK W H xs a b [s] with
  | false =>
    have HON := Lib.hid hon
    have OK := Lib.hid (show okWS W H xs a b s ks = false by
      have h : (twoV W H xs a b && hasB W H xs s) = false := by rw [← hon]; simp [onK]
      rw [okWS, okW0, h]; rfl)
    clear hon
    go_enter Try.func45, Try.ntmps45
    go_wp2_with fail
    rw [← hW2]
    clear hW2
    refine (isLeaperOnK_any W H A n c xs a b _ 1 1 [s] _ R.out RS.out).mono ?_
    rw [HON.out]
    rintro e wv ⟨rfl, hb⟩
    replace a0 := cell_keep a0 al hb; replace a1 := cell_keep a1 al hb; replace a2 := cell_keep a2 al hb; replace al := lt_keep al hb
    replace l0 := cell_keep l0 ll hb; replace l1 := cell_keep l1 ll hb; replace ll := lt_keep ll hb
    replace R := Lib.hid (R.out.keep hb); replace RP := Lib.hid (RP.out.keep hb)
    replace B := Lib.hid (below_next B.out hb)
    clear hb
    clear RS
    clear a0 a1 a2 l0 l1 al ll
    go_wp2
    go_ret2
    exact ⟨none, 0, 0, by rw [OK.out]; rfl, by rw [ws_no OK.out]; exact OwnI.none_ _ _ _, B.out⟩
  | true =>
    have HON := Lib.hid hon
    have hth : twoV W H xs a b = true ∧ hasB W H xs s = true := by simpa [onK] using hon
    have hgd := two_gK hth.1
    obtain ⟨hWW, hHH, -, -⟩ := goodB_iff.1 hgd
    have HGOOD := Lib.hid hgd
    have HNN := Lib.hid (cells_le hWW hHH)
    have HWW := Lib.hid hWW; have HHH := Lib.hid hHH
    have HLP := Lib.hid (show leaperB a b = true by have := hth.1; simp only [twoV, Bool.and_eq_true] at this; exact this.2)
    have HTH := Lib.hid hth
    clear hon hth hgd hWW hHH
    by_cases hl : m ≤ 63
    · have OK0 := Lib.hid (show okW0 W H xs a b s ks = true by rw [okW0, HTH.out.1, HTH.out.2, HKL.out, decide_eq_true hl]; rfl)
      have hl64 : ¬ (64 : Int) ≤ (m : Int) := by omega
      obtain ⟨i0, hi, hz0, hz1, hz2⟩ := info_parts infoI
      have HI := Lib.hid hi; have HZ0 := Lib.hid hz0; have HZ1 := Lib.hid hz1; have HZ2 := Lib.hid hz2
      have HS64 := Lib.hid (show 0 ≤ s ∧ s ≤ 64 by have := (hasB_iff.1 HTH.out.2).1; have := HNN.out; omega)
      clear hi hz0 hz1 hz2
      go_enter Try.func45, Try.ntmps45
      go_wp2_with fail
      rw [← hW2]
      clear hW2
      refine (isLeaperOnK_any W H A n c xs a b _ 1 1 [s] _ R.out RS.out).mono ?_
      rw [HON.out]
      rintro e wv ⟨rfl, hb⟩
      replace a0 := cell_keep a0 al hb; replace a1 := cell_keep a1 al hb; replace a2 := cell_keep a2 al hb; replace al := lt_keep al hb
      replace l0 := cell_keep l0 ll hb; replace l1 := cell_keep l1 ll hb; replace ll := lt_keep ll hb
      replace R := Lib.hid (R.out.keep hb); replace RP := Lib.hid (RP.out.keep hb)
      replace B := Lib.hid (below_next B.out hb)
      clear hb
      clear RS
      go_wp2_with fail
      refine (stepsOf_any a b _ HLP.out).mono ?_
      rintro e w3 ⟨A1, n1, c1, rfl, hst, hb⟩
      have ST := Lib.hid hst
      have SLN := Lib.hid hst.len
      have n8 : n1 ≤ 8 := by have := stepsL_len HLP.out; have := hst.len; omega
      replace a0 := cell_keep a0 al hb; replace a1 := cell_keep a1 al hb; replace a2 := cell_keep a2 al hb; replace al := lt_keep al hb
      replace l0 := cell_keep l0 ll hb; replace l1 := cell_keep l1 ll hb; replace ll := lt_keep ll hb
      replace R := Lib.hid (R.out.keep hb); replace RP := Lib.hid (RP.out.keep hb)
      replace B := Lib.hid (below_next B.out hb)
      have AL := Lib.hid al; have LL := Lib.hid ll
      have HA := Lib.hid (⟨a0, a1, a2, l0, l1⟩ : w3.cell? ⟨w.heap.size, 0, none⟩ = some (.int .i64 W) ∧ w3.cell? ⟨w.heap.size, 1, none⟩ = some (.int .i64 H) ∧ w3.cell? ⟨w.heap.size, 2, none⟩ = some (.slice A n c) ∧ w3.cell? ⟨w.heap.size + 1, 0, none⟩ = some (.int .i64 a) ∧ w3.cell? ⟨w.heap.size + 1, 1, none⟩ = some (.int .i64 b))
      clear hst hb
      go_wp2_with fail
      refine (spotOf_any W H A n c s _ HWW.out HS64.out).mono ?_
      rintro e w4 ⟨rfl, hb⟩
      obtain ⟨W5, hW5⟩ : ∃ W5, W5 = (w4.alloc (.cells #[.int .i64 (s % W), .int .i64 (s / W)] 74)).alloc (.cells #[.int .i64 s] 3) := ⟨_, rfl⟩
      obtain ⟨gs, hgs⟩ : ∃ gs, gs = w4.heap.size := ⟨_, rfl⟩
      have SB5 := Lib.hid (show SpotBox W5 gs (s % W) (s / W) by rw [hW5, hgs]; exact SpotBox.keep (heap_alloc_new w4 _) (below_new (Below.refl _ _) _))
      have O5 := Lib.hid (show OwnI 3 W5 w3.heap.size (some ⟨w4.heap.size + 1, 0, none⟩) 1 1 [s] by
        have h := own_lit (w := w4.alloc (.cells #[.int .i64 (s % W), .int .i64 (s / W)] 74)) 3 s
        rw [show (w4.alloc (.cells #[.int .i64 (s % W), .int .i64 (s / W)] 74)).heap.size = w4.heap.size + 1 by simp] at h
        rw [hW5]
        exact h.lower (by have := hb.size; omega))
      have B5 := Lib.hid (show Below w3.heap.size w3 W5 by rw [hW5]; exact below_next hb (below_new (below_new (Below.refl _ _) _) _))
      have HGS := Lib.hid (show w3.heap.size ≤ gs by rw [hgs]; exact hb.size)
      clear hb a0 a1 a2 l0 l1 al ll
      go_wp2
      rw [← hW5]
      rw [← hgs] at O5
      (try rw [← hgs])
      clear hW5 hgs
      go_loopw [12, 35] (fun v i wr => ∃ (k n' c' : Nat) (A' : Option Addr) (P : List Int) (q : Int), k ≤ m ∧ i = .int .i64 k ∧ v = .slice A' n' c' ∧ n' = k + 1 ∧ OwnI 3 wr w3.heap.size A' n' c' P ∧ P[k]? = some q ∧ goesB W H xs a b none P = true ∧ hasB W H xs q = true ∧ goA W H xs a b [s] s ks = goA W H xs a b P q (ks.drop k) ∧ SpotBox wr gs (q % W) (q / W) ∧ Below w3.heap.size w3 wr) (fun _ i _ => m - (intOf i).toNat)
      case atStart => exact ⟨0, 1, 1, _, [s], s, Nat.zero_le _, rfl, rfl, rfl, O5.out, rfl, by simp [goesB, HTH.out.2], HTH.out.2, by rw [List.drop_zero], SB5.out, B5.out⟩
      case round =>
        obtain ⟨k, n', c', A', P, q, hk, rfl, rfl, hnk, hown, hq, hgoes, hhq, hgo, hsb, hbw⟩ := hrel
        have HNK := Lib.hid hnk; have HGO := Lib.hid hgo; have HGOES := Lib.hid hgoes; have HQP := Lib.hid hq; have HHQ := Lib.hid hhq
        have hqr := (hasB_iff.1 hhq).1
        clear hnk hgo hgoes hq hhq
        by_cases hlt : k < m
        · obtain ⟨bb, oo, x, rfl, hg9, hx, x9⟩ := RP.out.at_ hlt
          replace x9 := cell_keep x9 hg9 hbw
          have HDR := Lib.hid (goA_drop (W := W) (H := H) (xs := xs) (a := a) (b := b) (P := P) (c := q) hx)
          have a0 := cell_keep HA.out.1 AL.out hbw; have a1 := cell_keep HA.out.2.1 AL.out hbw; have a2 := cell_keep HA.out.2.2.1 AL.out hbw
          have al := lt_keep AL.out hbw
          have RR := Lib.hid (R.out.keep hbw)
          have HO := Lib.hid hown; have HB := Lib.hid hbw; have SB := Lib.hid hsb
          have HS := Lib.hid (ST.out.keep hbw)
          clear hx hown hbw hsb hg9
          by_cases hin : 0 ≤ x ∧ x < (n1 : Int)
          · obtain ⟨j, rfl⟩ : ∃ j : Nat, x = (j : Int) := ⟨x.toNat, by omega⟩
            have hj : j < n1 := by omega
            obtain ⟨⟨dx, dy⟩, hx⟩ : ∃ p, (stepsL a b)[j]? = some p := ⟨_, List.getElem?_eq_getElem (show j < (stepsL a b).length by have := SLN.out; omega)⟩
            obtain ⟨g1, rfl, hg1lo, hg3⟩ := ST.out.some_ hj
            have hg1 := Nat.lt_of_lt_of_le hg3 HB.out.size
            obtain ⟨x0, x1⟩ := pair_at HS.out hx
            simp only at x0 x1
            obtain ⟨d1, d2, d3, d4⟩ := stepsL_bd HLP.out (List.mem_of_getElem? hx)
            simp only at d1 d2 d3 d4
            have HMEM := Lib.hid (List.mem_of_getElem? hx)
            have HGD := Lib.hid (getD_at hx)
            have HST := Lib.hid (show stOk W H xs a b q (j : Int) = spotB W H xs (q % W + dx) (q / W + dy) by rw [stOk, show inB (j : Int) 0 (((stepsL a b).length : Int) - 1) = true by rw [SLN.out]; simp [inB]; omega, HGD.out, Bool.true_and])
            have HTO := Lib.hid (show stTo W a b q (j : Int) = (q / W + dy) * W + (q % W + dx) by rw [stTo, HGD.out])
            have hc1 := colIn (x := q) HWW.out; have hr1 := rowIn HWW.out hqr
            have hW8 := HWW.out; have hH8 := HHH.out
            have HM1 := Lib.hid (show -100 ≤ q % W ∧ q % W ≤ 100 by omega); have HM2 := Lib.hid (show -100 ≤ q / W ∧ q / W ≤ 100 by omega)
            have HM3 := Lib.hid (show -100 ≤ dx ∧ dx ≤ 100 by omega); have HM4 := Lib.hid (show -100 ≤ dy ∧ dy ≤ 100 by omega)
            have HXB := Lib.hid (show -5000 ≤ q % W + dx ∧ q % W + dx ≤ 5000 by omega)
            have HYB := Lib.hid (show -5000 ≤ (q / W + dy) * W ∧ (q / W + dy) * W ≤ 5000 by have := mul_bd (y := q / W + dy) (by omega) HWW.out; omega)
            have HG1 := Lib.hid (show g1 ≠ gs by have := HGS.out; omega)
            have p0 := SB.out.c0; have p1 := SB.out.c1; have pl := SB.out.lt
            have hj0 : (0 : Int) ≤ (j : Int) := by omega
            have hjl : ¬ (j : Int) < 0 := by omega
            have hjn : (j : Int) < (n1 : Int) := by omega
            have hjn2 : ¬ (n1 : Int) ≤ (j : Int) := by omega
            clear hg3 hx d1 d2 d3 d4 hc1 hr1 hW8 hH8 hqr hg1lo hin
            go_wp2_with fail
            refine wp_region_held_drew (S := fun w' => w'.cell? ⟨g1, j * 2, none⟩ = some (.int .i64 dx) ∧ w'.cell? ⟨g1, j * 2 + 1, none⟩ = some (.int .i64 dy)) (by kernel_rfl) ?_ (fun hHeld => ?_)
            · (try dsimp only)
              exact ⟨x0, x1⟩
            refine wpAnyH_take (i := 1) (oi := ⟨_, _, _, _, _, _⟩) (v := ?_) rfl (by kernel_rfl) (by kernel_rfl) (by kernel_rfl) (fun _ _ _ h => h) (Or.inl ⟨by rfl, ?_⟩) (by assumption) ?_
            rotate_left
            · intro w hSw
              (try dsimp only at hSw)
              go_simp
              (try with_reducible rfl)
            (try simp only [Act.put, List.setIfInBounds_toArray, List.set_cons_zero, List.set_cons_succ])
            refine wpAnyH_take (i := 2) (oi := ⟨_, _, _, _, _, _⟩) (v := ?_) rfl (by kernel_rfl) (by kernel_rfl) (by kernel_rfl) (fun _ _ _ h => h) (Or.inl ⟨by rfl, ?_⟩) (by assumption) ?_
            rotate_left
            · intro w hSw
              (try dsimp only at hSw)
              go_simp
              (try with_reducible rfl)
            (try simp only [Act.put, List.setIfInBounds_toArray, List.set_cons_zero, List.set_cons_succ])
            refine wpAnyH_take (i := 3) (oi := ⟨_, _, _, _, _, _⟩) (v := ?_) rfl (by kernel_rfl) (by kernel_rfl) (by kernel_rfl) (fun _ _ _ h => h) (Or.inl ⟨by rfl, ?_⟩) (by assumption) ?_
            rotate_left
            · intro w hSw
              (try dsimp only at hSw)
              go_simp
              (try with_reducible rfl)
            (try simp only [Act.put, List.setIfInBounds_toArray, List.set_cons_zero, List.set_cons_succ])
            refine wpAnyH_take (i := 4) (oi := ⟨_, _, _, _, _, _⟩) (v := ?_) rfl (by kernel_rfl) (by kernel_rfl) (by kernel_rfl) (fun _ _ _ h => h) (Or.inl ⟨by rfl, ?_⟩) (by assumption) ?_
            rotate_left
            · intro w hSw
              (try dsimp only at hSw)
              go_simp
              (try with_reducible rfl)
            (try simp only [Act.put, List.setIfInBounds_toArray, List.set_cons_zero, List.set_cons_succ])
            refine wpAnyH_ready (rs := [0]) (by kernel_rfl) (by simp) ?_
            refine AllReadyH.cons (o := ⟨_, _, _, _, _, _⟩) rfl (fun K hK => ?_) AllReadyH.nil
            go_simp
            skip
            (try go_wp2_with fail)
            refine hK.out _ _ ?_ (fun hHeld => ?_)
            · (try dsimp only)
              exact ⟨x0, x1⟩
            clear hK K
            (try simp only [Act.put, List.setIfInBounds_toArray, List.set_cons_zero, List.set_cons_succ])
            refine wpAnyH_ready (rs := [5]) (by kernel_rfl) (by simp) ?_
            refine AllReadyH.cons (o := ⟨_, _, _, _, _, _⟩) rfl (fun K hK => ?_) AllReadyH.nil
            go_simp
            (go_at_call 84; refine (plus_any (q % W) (q / W) dx dy _ ?_ ?_ ?_ ?_).mono ?_; (exact HM1.out); (exact HM2.out); (exact HM3.out); (exact HM4.out); rintro e wp ⟨rfl, hb⟩; (repeat (first | replace hb := below_undrew hb | replace hb := below_undrewN hb)); replace p0 := cell_keep p0 pl hb; replace p1 := cell_keep p1 pl hb; replace x0 := cell_keep x0 hg1 hb; replace x1 := cell_keep x1 hg1 hb; replace pl := lt_keep pl hb; replace hg1 := lt_keep hg1 hb; replace SB := Lib.hid (SB.out.keep hb); replace HO := Lib.hid (HO.out.keep hb); replace HB := Lib.hid (HB.out.trans (hb.mono HB.out.size)); clear hb)
            (try go_wp2_with fail)
            refine hK.out _ _ ?_ (fun hHeld => ?_)
            · (try dsimp only)
              exact ⟨x0, x1⟩
            clear hK K
            (try simp only [Act.put, List.setIfInBounds_toArray, List.set_cons_zero, List.set_cons_succ])
            refine wpAnyH_ready (rs := [6]) (by kernel_rfl) (by simp) ?_
            refine AllReadyH.cons (o := ⟨_, _, _, _, _, _⟩) rfl (fun K hK => ?_) AllReadyH.nil
            have z0 := p0; have z1 := p1
            have f0 : wp.frozen? ⟨gs, 0, none⟩ = false := frozen_of_row wp gs 0 _ _ SB.out
            have f1 : wp.frozen? ⟨gs, 1, none⟩ = false := frozen_of_row wp gs 1 _ _ SB.out
            go_simp
            obtain ⟨W6, hW6⟩ : ∃ W6, W6 = (wp.setCell ⟨gs, 0, none⟩ (.int .i64 (q % W + dx))).setCell ⟨gs, 1, none⟩ (.int .i64 (q / W + dy)) := ⟨_, rfl⟩
            have SB6 := Lib.hid (show SpotBox W6 gs (q % W + dx) (q / W + dy) by rw [hW6]; exact SB.out.set _ _)
            have hgr : wp.grownBy W6 (some gs) := by rw [hW6]; exact grown_next (grownSet _ ⟨gs, 0, none⟩ _) (grownSet _ ⟨gs, 1, none⟩ _)
            have HO6 := Lib.hid (HO.out.other hgr (fun a9 ha9 he => SB.out.apart HO.out a9 ha9 (by injection he)))
            have HB6 := Lib.hid (HB.out.grown hgr HB.out.size (fun g9 h9 => by injection h9 with h9; have := HGS.out; omega))
            have y0 : W6.cell? ⟨g1, j * 2, none⟩ = some (.int .i64 dx) := hgr.cell x0 (by simpa using HG1.out)
            have y1 : W6.cell? ⟨g1, j * 2 + 1, none⟩ = some (.int .i64 dy) := hgr.cell x1 (by simpa using HG1.out)
            have RR6 := Lib.hid (R.out.keep HB6.out)
            have b0 := cell_keep HA.out.1 AL.out HB6.out; have b1 := cell_keep HA.out.2.1 AL.out HB6.out; have b2 := cell_keep HA.out.2.2.1 AL.out HB6.out
            have bl := lt_keep AL.out HB6.out
            have s0 := SB6.out.c0; have s1 := SB6.out.c1
            rw [← hW6]
            clear hW6 z0 z1 p0 p1 x0 x1 f0 f1 pl hg1
            refine hK.out _ _ ?_ (fun hHeld => ?_)
            · (try dsimp only)
              exact ⟨y0, y1⟩
            clear hK K
            (try simp only [Act.put, List.setIfInBounds_toArray, List.set_cons_zero, List.set_cons_succ])
            refine wpAnyH_done (by kernel_rfl) ?_ _
            clear y0 y1 hHeld a0 a1 a2 al RR HO HB SB x9 hgr hj0 hjl hjn hjn2
            cases hB : spotB W H xs (q % W + dx) (q / W + dy) with
            | false =>
              have HBB := Lib.hid hB
              have OK := Lib.hid (ws_none (by rw [HGO.out, HDR.out, HST.out, hB]; rfl))
              clear hB
              go_wp2_with fail
              refine (isSpotThere_gen W H A n c xs (q % W + dx) (q / W + dy) _ RR6.out HGOOD.out).mono ?_
              rw [HBB.out]
              rintro e wx ⟨rfl, hb⟩
              replace HB6 := Lib.hid (HB6.out.trans (hb.mono HB6.out.size))
              clear hb b0 b1 b2 bl s0 s1
              go_wp2
              go_ret2
              exact ⟨none, 0, 0, by rw [OK.out]; rfl, by rw [ws_no OK.out]; exact OwnI.none_ _ _ _, B.out.trans (HB6.out.mono B.out.size)⟩
            | true =>
              have HBB := Lib.hid hB
              have hsp := spotB_iff.1 hB
              have HLT := Lib.hid (leap_to HLP.out HWW.out.1 HMEM.out hsp.1)
              have HHC := Lib.hid hsp.2
              have HGN := Lib.hid (show goA W H xs a b [s] s ks = goA W H xs a b (P ++ [(q / W + dy) * W + (q % W + dx)]) ((q / W + dy) * W + (q % W + dx)) (ks.drop (k + 1)) by rw [HGO.out, HDR.out, HST.out, hB, HTO.out]; rfl)
              have HGS2 := Lib.hid (goes_snoc HGOES.out HQP.out (by rw [HO6.out.len, HNK.out]) HHC.out HLT.out.1)
              clear hB hsp
              go_wp2_with fail
              refine (isSpotThere_gen W H A n c xs (q % W + dx) (q / W + dy) _ RR6.out HGOOD.out).mono ?_
              rw [HBB.out]
              rintro e wx ⟨rfl, hb⟩
              replace HB6 := Lib.hid (HB6.out.trans (hb.mono HB6.out.size))
              replace SB6 := Lib.hid (SB6.out.keep hb); replace HO6 := Lib.hid (HO6.out.keep hb)
              replace b0 := cell_keep b0 bl hb; replace bl := lt_keep bl hb
              clear hb s0 s1 b1 b2
              have s0 := SB6.out.c0; have s1 := SB6.out.c1
              go_wp2_with fail
              refine (number_gen (q % W + dx) (q / W + dy) W _ HXB.out HYB.out).mono ?_
              rintro e wy ⟨rfl, hb⟩
              replace HB6 := Lib.hid (HB6.out.trans (hb.mono HB6.out.size))
              replace SB6 := Lib.hid (SB6.out.keep hb); replace HO6 := Lib.hid (HO6.out.keep hb)
              clear hb s0 s1 b0 bl
              have hsw := HB6.out.size
              have hn9 : n' ≤ 1000000 := by have := HNK.out; omega
              go_wp2_with (at_builtin; refine wpList_app1G rfl (.tmp 57) (.tmp 62) 22 3 rfl i0 Try.underlying22 HI.out HZ0.out HZ1.out HZ2.out w3.heap.size A' n' c' P ((q / W + dy) * W + (q % W + dx)) rfl HO6.out rfl hn9 hsw ?_; intro A3 c3 w5 hown3 hb5 hgr5)
              have O3 := Lib.hid hown3
              have B3 := Lib.hid (HB6.out.trans hb5)
              have SB7 := Lib.hid (show SpotBox w5 gs (((q / W + dy) * W + (q % W + dx)) % W) (((q / W + dy) * W + (q % W + dx)) / W) by
                rw [HLT.out.2.1, HLT.out.2.2]
                exact (SB6.out.keep (below_new (Below.refl _ _) _)).grown hgr5 (fun he => by
                  obtain ⟨a9, ha9, hab⟩ := ownBlock_eq _ _ _ _ he.symm
                  exact SB6.out.apart HO6.out a9 ha9 hab))
              clear hown3 hb5 hgr5
              go_wp2
              go_roundw
              case rel => exact ⟨k + 1, n' + 1, c3, A3, P ++ [(q / W + dy) * W + (q % W + dx)], (q / W + dy) * W + (q % W + dx), by omega, by go_num, rfl, by have := HNK.out; omega, O3.out, (by rw [List.getElem?_append_right (by rw [HO6.out.len]; have := HNK.out; omega)]; rw [HO6.out.len, show k + 1 - n' = 0 by have := HNK.out; omega]; rfl), HGS2.out, HHC.out, HGN.out, SB7.out, B3.out⟩
              case measure => simp [intOf]; omega
          · have OK := Lib.hid (ws_none (by rw [HGO.out, HDR.out, stOk, show inB x 0 (((stepsL a b).length : Int) - 1) = false by rw [SLN.out]; simp [inB]; omega]; rfl))
            clear a0 a1 a2 al hqr
            by_cases hx0 : x < 0
            · clear hin
              go_wp2
              go_ret2
              exact ⟨none, 0, 0, by rw [OK.out]; rfl, by rw [ws_no OK.out]; exact OwnI.none_ _ _ _, B.out.trans (HB.out.mono B.out.size)⟩
            · have hx1 : (n1 : Int) ≤ x := by omega
              clear hin
              go_wp2
              go_ret2
              exact ⟨none, 0, 0, by rw [OK.out]; rfl, by rw [ws_no OK.out]; exact OwnI.none_ _ _ _, B.out.trans (HB.out.mono B.out.size)⟩
        · have hkm : ks.drop k = [] := List.drop_of_length_le (by have := HKL.out; omega)
          have HGF := Lib.hid (show goA W H xs a b [s] s ks = some P by rw [HGO.out, hkm, goA])
          have hkm2 : k = m := by omega
          have HWK := Lib.hid (show walkB W H xs a b P = okWS W H xs a b s ks by
            rw [okWS, OK0.out, HGF.out, Bool.true_and, walkB, pathB, HGOES.out, decide_eq_true (show 1 ≤ P.length ∧ P.length ≤ 64 by rw [hown.len, HNK.out]; omega)]; rfl)
          have a0 := cell_keep HA.out.1 AL.out hbw; have a1 := cell_keep HA.out.2.1 AL.out hbw; have a2 := cell_keep HA.out.2.2.1 AL.out hbw; have l0 := cell_keep HA.out.2.2.2.1 LL.out hbw; have l1 := cell_keep HA.out.2.2.2.2 LL.out hbw
          have RR := Lib.hid (R.out.keep hbw)
          have HO := Lib.hid hown; have HB := Lib.hid hbw
          clear hown hbw hkm hqr hsb hkm2
          cases hok : okWS W H xs a b s ks with
          | true =>
            have OK := Lib.hid hok
            have HV := Lib.hid (show wosV W H xs a b s ks = P by rw [wosV, if_pos hok, HGF.out]; rfl)
            clear hok
            go_wp2_with fail
            refine (isWalk_any W H A n c xs a b A' n' c' P _ RR.out HO.out.rd HGOOD.out).mono ?_
            rw [HWK.out, OK.out]
            rintro e wx ⟨rfl, hb⟩
            replace HO := Lib.hid ((HO.out.keep hb).lower B.out.size)
            replace HB := Lib.hid (HB.out.trans (hb.mono HB.out.size))
            clear hb a0 a1 a2 l0 l1
            go_wp2
            go_ret2
            exact ⟨_, _, _, by rw [OK.out]; rfl, by rw [HV.out]; exact HO.out, B.out.trans (HB.out.mono B.out.size)⟩
          | false =>
            have OK := Lib.hid hok
            clear hok
            go_wp2_with fail
            refine (isWalk_any W H A n c xs a b A' n' c' P _ RR.out HO.out.rd HGOOD.out).mono ?_
            rw [HWK.out, OK.out]
            rintro e wx ⟨rfl, hb⟩
            replace HB := Lib.hid (HB.out.trans (hb.mono HB.out.size))
            clear hb a0 a1 a2 l0 l1
            go_wp2
            go_ret2
            exact ⟨none, 0, 0, by rw [OK.out]; rfl, by rw [ws_no OK.out]; exact OwnI.none_ _ _ _, B.out.trans (HB.out.mono B.out.size)⟩
    · have OK := Lib.hid (show okWS W H xs a b s ks = false by rw [okWS, okW0, HKL.out, decide_eq_false hl, Bool.and_false]; rfl)
      have hl64 : (64 : Int) ≤ (m : Int) := by omega
      go_enter Try.func45, Try.ntmps45
      go_wp2_with fail
      rw [← hW2]
      clear hW2
      refine (isLeaperOnK_any W H A n c xs a b _ 1 1 [s] _ R.out RS.out).mono ?_
      rw [HON.out]
      rintro e wv ⟨rfl, hb⟩
      replace a0 := cell_keep a0 al hb; replace a1 := cell_keep a1 al hb; replace a2 := cell_keep a2 al hb; replace al := lt_keep al hb
      replace l0 := cell_keep l0 ll hb; replace l1 := cell_keep l1 ll hb; replace ll := lt_keep ll hb
      replace R := Lib.hid (R.out.keep hb); replace RP := Lib.hid (RP.out.keep hb)
      replace B := Lib.hid (below_next B.out hb)
      clear hb
      clear RS
      clear a0 a1 a2 l0 l1 al ll
      go_wp2
      go_ret2
      exact ⟨none, 0, 0, by rw [OK.out]; rfl, by rw [ws_no OK.out]; exact OwnI.none_ _ _ _, B.out⟩

end Go.Proofs.Ytadopgfpfbianaa
