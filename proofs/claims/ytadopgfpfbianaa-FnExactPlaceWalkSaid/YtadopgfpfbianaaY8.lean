/-
  Contracts: PlaceWalk, in the model.
-/
import Derived.Test.YtadopgfpfbianaaYA
import Derived.Test.YtadopgfpfbianaaY5
import Derived.Test.YtadopgfpfbianaaY3
namespace Go.Proofs.Ytadopgfpfbianaa
open Go.RowKit

set_option maxRecDepth 100000 in
set_option maxHeartbeats 8000000 in
theorem spec_PlaceWalk (w0 h0 : Int) (A2 : Option Addr) (m c2 : Nat) (ps : List Int) (W H : Int) (A : Option Addr) (n c : Nat) (xs : List Int) (x y : Int) (w : World) (hp : Rd w A2 m ps) (hcap : m ≤ c2) (ha : Rd w A n xs) :
    Calls Try.prog 42 #[.int .i64 w0, .int .i64 h0, .slice A2 m c2, brd W H A n c, .int .i64 x, .int .i64 y] w fun e w' => ∃ A' n' c', e = .returned (.tuple #[.slice A' n' c', .bool (plcB w0 h0 ps W H xs x y)]) ∧ OwnI 3 w' w.heap.size A' n' c' (plcV w0 h0 ps W H xs x y) ∧ Below w.heap.size w w' := by
  have HPL := Lib.hid hp.1
  have m9 := hp.2.1
  obtain ⟨W2, hW2⟩ : ∃ W2, W2 = w.alloc (.cells #[.int .i64 W, .int .i64 H, .slice A n c] 24) := ⟨_, rfl⟩
  have a0 : W2.cell? ⟨w.heap.size, 0, none⟩ = some (.int .i64 W) := by rw [hW2]; go_simp
  have a1 : W2.cell? ⟨w.heap.size, 1, none⟩ = some (.int .i64 H) := by rw [hW2]; go_simp
  have a2 : W2.cell? ⟨w.heap.size, 2, none⟩ = some (.slice A n c) := by rw [hW2]; go_simp
  have al : w.heap.size < W2.heap.size := by rw [hW2]; simp
  have B := Lib.hid (show Below w.heap.size w W2 by rw [hW2]; exact below_new (Below.refl _ _) _)
  have R := Lib.hid (ha.keep B.out); have RP := Lib.hid (hp.keep B.out)
  clear ha hp
  cases hs : (sizeB w0 && sizeB h0) with
  | false =>
    have HS := Lib.hid hs
    have OK := Lib.hid (plc_none (ps := ps) (W := W) (H := H) (xs := xs) (x := x) (y := y) (show plcG w0 h0 ps W H xs x y = false by rw [plcG, plainB, hs]; rfl))
    clear hs
    go_enter Try.func42, Try.ntmps42
    go_wp2_with fail
    rw [← hW2]
    clear hW2
    refine (boSize_any w0 h0 _).mono ?_
    rw [HS.out]
    rintro e wv ⟨rfl, rfl⟩
    clear a0 a1 a2 al
    go_wp2
    go_ret2
    exact ⟨none, 0, 0, by rw [OK.out]; rfl, by rw [plc_no OK.out]; exact OwnI.none_ _ _ _, B.out⟩
  | true =>
    have HS := Lib.hid hs
    have hpl := plain_iff.1 (show plainB w0 h0 = true from hs)
    have HPB := Lib.hid (show plainB w0 h0 = true from hs)
    have HW0 := Lib.hid hpl.1; have HH0 := Lib.hid hpl.2
    have HNN := Lib.hid (cells_le hpl.1 hpl.2)
    clear hs hpl
    cases hg : goodB W H xs with
    | false =>
      have HG := Lib.hid hg
      have OK := Lib.hid (plc_none (show plcG w0 h0 ps W H xs x y = false by rw [plcG, hg, Bool.and_false]; rfl))
      clear hg
      go_enter Try.func42, Try.ntmps42
      go_wp2_with fail
      rw [← hW2]
      clear hW2
      refine (boSize_any w0 h0 _).mono ?_
      rw [HS.out]
      rintro e wv ⟨rfl, rfl⟩
      go_wp2_with fail
      refine (boGood_any W H A n c xs _ R.out).mono ?_
      rw [HG.out]
      rintro e wv ⟨rfl, hb⟩
      replace a0 := cell_keep a0 al hb; replace a1 := cell_keep a1 al hb; replace a2 := cell_keep a2 al hb; replace al := lt_keep al hb
      replace R := Lib.hid (R.out.keep hb); replace RP := Lib.hid (RP.out.keep hb)
      replace B := Lib.hid (below_next B.out hb)
      clear hb
      clear a0 a1 a2 al
      go_wp2
      go_ret2
      exact ⟨none, 0, 0, by rw [OK.out]; rfl, by rw [plc_no OK.out]; exact OwnI.none_ _ _ _, B.out⟩
    | true =>
      have HG := Lib.hid hg
      obtain ⟨hWW, hHH, -, -⟩ := goodB_iff.1 hg
      have HWW := Lib.hid hWW; have HHH := Lib.hid hHH
      have HN2 := Lib.hid (cells_le hWW hHH)
      clear hg hWW hHH
      by_cases hx : x < 0
      · have OK := Lib.hid (plc_none (show plcG w0 h0 ps W H xs x y = false by rw [plcG, decide_eq_false (show ¬ 0 ≤ x by omega), Bool.and_false]; rfl))
        go_enter Try.func42, Try.ntmps42
        go_wp2_with fail
        rw [← hW2]
        clear hW2
        refine (boSize_any w0 h0 _).mono ?_
        rw [HS.out]
        rintro e wv ⟨rfl, rfl⟩
        go_wp2_with fail
        refine (boGood_any W H A n c xs _ R.out).mono ?_
        rw [HG.out]
        rintro e wv ⟨rfl, hb⟩
        replace a0 := cell_keep a0 al hb; replace a1 := cell_keep a1 al hb; replace a2 := cell_keep a2 al hb; replace al := lt_keep al hb
        replace R := Lib.hid (R.out.keep hb); replace RP := Lib.hid (RP.out.keep hb)
        replace B := Lib.hid (below_next B.out hb)
        clear hb
        clear a0 a1 a2 al
        go_wp2
        go_ret2
        exact ⟨none, 0, 0, by rw [OK.out]; rfl, by rw [plc_no OK.out]; exact OwnI.none_ _ _ _, B.out⟩
      · by_cases hy : y < 0
        · have OK := Lib.hid (plc_none (show plcG w0 h0 ps W H xs x y = false by rw [plcG, decide_eq_false (show ¬ 0 ≤ y by omega), Bool.and_false]; rfl))
          go_enter Try.func42, Try.ntmps42
          go_wp2_with fail
          rw [← hW2]
          clear hW2
          refine (boSize_any w0 h0 _).mono ?_
          rw [HS.out]
          rintro e wv ⟨rfl, rfl⟩
          go_wp2_with fail
          refine (boGood_any W H A n c xs _ R.out).mono ?_
          rw [HG.out]
          rintro e wv ⟨rfl, hb⟩
          replace a0 := cell_keep a0 al hb; replace a1 := cell_keep a1 al hb; replace a2 := cell_keep a2 al hb; replace al := lt_keep al hb
          replace R := Lib.hid (R.out.keep hb); replace RP := Lib.hid (RP.out.keep hb)
          replace B := Lib.hid (below_next B.out hb)
          clear hb
          clear a0 a1 a2 al
          go_wp2
          go_ret2
          exact ⟨none, 0, 0, by rw [OK.out]; rfl, by rw [plc_no OK.out]; exact OwnI.none_ _ _ _, B.out⟩
        · cases hin : inB (m : Int) 1 64 with
          | false =>
            have HIN := Lib.hid hin
            have OK := Lib.hid (plc_none (show plcG w0 h0 ps W H xs x y = false by
              have h1 : ¬ (1 ≤ ps.length ∧ ps.length ≤ 64) := by rw [HPL.out]; simp [inB] at hin; omega
              rw [plcG, decide_eq_false h1, Bool.and_false, Bool.false_and]))
            clear hin
            go_enter Try.func42, Try.ntmps42
            go_wp2_with fail
            rw [← hW2]
            clear hW2
            refine (boSize_any w0 h0 _).mono ?_
            rw [HS.out]
            rintro e wv ⟨rfl, rfl⟩
            go_wp2_with fail
            refine (boGood_any W H A n c xs _ R.out).mono ?_
            rw [HG.out]
            rintro e wv ⟨rfl, hb⟩
            replace a0 := cell_keep a0 al hb; replace a1 := cell_keep a1 al hb; replace a2 := cell_keep a2 al hb; replace al := lt_keep al hb
            replace R := Lib.hid (R.out.keep hb); replace RP := Lib.hid (RP.out.keep hb)
            replace B := Lib.hid (below_next B.out hb)
            clear hb
            go_wp2_with fail
            refine (l1In_any (m : Int) 1 64 _).mono ?_
            rw [HIN.out]
            rintro e wv ⟨rfl, rfl⟩
            clear a0 a1 a2 al
            go_wp2
            go_ret2
            exact ⟨none, 0, 0, by rw [OK.out]; rfl, by rw [plc_no OK.out]; exact OwnI.none_ _ _ _, B.out⟩
          | true =>
            have HIN := Lib.hid hin
            have hm := inB_iff.1 hin
            have hnn := HNN.out
            have hw1 : IntKind.i64.wrap (w0 * h0) = w0 * h0 := IntWalk.i64_in _ (by omega)
            have hw2 : IntKind.i64.wrap (w0 * h0 - 1) = w0 * h0 - 1 := IntWalk.i64_in _ (by omega)
            clear hin hnn
            cases hall : inAll 0 (w0 * h0 - 1) ps with
            | false =>
              have HALL := Lib.hid hall
              have OK := Lib.hid (plc_none (show plcG w0 h0 ps W H xs x y = false by rw [plcG, hall, Bool.and_false]))
              clear hall hm
              go_enter Try.func42, Try.ntmps42
              go_wp2_with fail
              rw [← hW2]
              clear hW2
              refine (boSize_any w0 h0 _).mono ?_
              rw [HS.out]
              rintro e wv ⟨rfl, rfl⟩
              go_wp2_with fail
              refine (boGood_any W H A n c xs _ R.out).mono ?_
              rw [HG.out]
              rintro e wv ⟨rfl, hb⟩
              replace a0 := cell_keep a0 al hb; replace a1 := cell_keep a1 al hb; replace a2 := cell_keep a2 al hb; replace al := lt_keep al hb
              replace R := Lib.hid (R.out.keep hb); replace RP := Lib.hid (RP.out.keep hb)
              replace B := Lib.hid (below_next B.out hb)
              clear hb
              go_wp2_with fail
              refine (l1In_any (m : Int) 1 64 _).mono ?_
              rw [HIN.out]
              rintro e wv ⟨rfl, rfl⟩
              go_wp2_with fail
              refine (l1All_any A2 m c2 0 (w0 * h0 - 1) ps _ RP.out).mono ?_
              rw [HALL.out]
              rintro e wv ⟨rfl, hb⟩
              replace a0 := cell_keep a0 al hb; replace a1 := cell_keep a1 al hb; replace a2 := cell_keep a2 al hb; replace al := lt_keep al hb
              replace R := Lib.hid (R.out.keep hb); replace RP := Lib.hid (RP.out.keep hb)
              replace B := Lib.hid (below_next B.out hb)
              clear hb
              clear a0 a1 a2 al
              go_wp2
              go_ret2
              exact ⟨none, 0, 0, by rw [OK.out]; rfl, by rw [plc_no OK.out]; exact OwnI.none_ _ _ _, B.out⟩
            | true =>
              have HALL := Lib.hid hall
              have HGD := Lib.hid (show plcG w0 h0 ps W H xs x y = true by
                rw [plcG, HPB.out, HG.out, decide_eq_true (show 0 ≤ x by omega), decide_eq_true (show 0 ≤ y by omega), decide_eq_true (show 1 ≤ ps.length ∧ ps.length ≤ 64 by rw [HPL.out]; omega), hall]; rfl)
              obtain ⟨i0, hi, hz0, hz1, hz2⟩ := info_parts infoI
              have HI := Lib.hid hi; have HZ0 := Lib.hid hz0; have HZ1 := Lib.hid hz1; have HZ2 := Lib.hid hz2
              clear hi hz0 hz1 hz2 hall
              go_enter Try.func42, Try.ntmps42
              go_wp2_with fail
              rw [← hW2]
              clear hW2
              refine (boSize_any w0 h0 _).mono ?_
              rw [HS.out]
              rintro e wv ⟨rfl, rfl⟩
              go_wp2_with fail
              refine (boGood_any W H A n c xs _ R.out).mono ?_
              rw [HG.out]
              rintro e wv ⟨rfl, hb⟩
              replace a0 := cell_keep a0 al hb; replace a1 := cell_keep a1 al hb; replace a2 := cell_keep a2 al hb; replace al := lt_keep al hb
              replace R := Lib.hid (R.out.keep hb); replace RP := Lib.hid (RP.out.keep hb)
              replace B := Lib.hid (below_next B.out hb)
              clear hb
              go_wp2_with fail
              refine (l1In_any (m : Int) 1 64 _).mono ?_
              rw [HIN.out]
              rintro e wv ⟨rfl, rfl⟩
              go_wp2_with fail
              refine (l1All_any A2 m c2 0 (w0 * h0 - 1) ps _ RP.out).mono ?_
              rw [HALL.out]
              rintro e wv ⟨rfl, hb⟩
              replace a0 := cell_keep a0 al hb; replace a1 := cell_keep a1 al hb; replace a2 := cell_keep a2 al hb; replace al := lt_keep al hb
              replace R := Lib.hid (R.out.keep hb); replace RP := Lib.hid (RP.out.keep hb)
              replace B := Lib.hid (below_next B.out hb)
              clear hb
              have AL := Lib.hid al
              have HA := Lib.hid (⟨a0, a1, a2⟩ : wv.cell? ⟨w.heap.size, 0, none⟩ = some (.int .i64 W) ∧ wv.cell? ⟨w.heap.size, 1, none⟩ = some (.int .i64 H) ∧ wv.cell? ⟨w.heap.size, 2, none⟩ = some (.slice A n c))
              clear a0 a1 a2 al
              go_wp2
              go_loopw [14, 53] (fun v i wr => ∃ (k n' c' : Nat) (A' : Option Addr), k ≤ m ∧ i = .int .i64 k ∧ v = .slice A' n' c' ∧ n' = k ∧ OwnI 3 wr wv.heap.size A' n' c' ((ps.take k).map (plcTo W w0 x y)) ∧ (ps.take k).Nodup ∧ (ps.take k).all (plcSp W H xs w0 x y) = true ∧ Below wv.heap.size wv wr) (fun _ i _ => m - (intOf i).toNat)
              case atStart => exact ⟨0, 0, 0, none, Nat.zero_le _, rfl, rfl, rfl, OwnI.none_ _ _ _, by simp, by simp, Below.refl _ _⟩
              case round =>
                obtain ⟨k, n', c', A', hk, rfl, rfl, hnk, hown, hnd, hal, hbw⟩ := hrel
                have HNK := Lib.hid hnk; have HND := Lib.hid hnd; have HAL := Lib.hid hal
                clear hnk hnd hal
                by_cases hlt : k < m
                · obtain ⟨bb, oo, q, rfl, hg1, hq, q0⟩ := RP.out.at_ hlt
                  have HQ := Lib.hid hq
                  have hqr := inAll_iff.1 HALL.out q (List.mem_of_getElem? hq)
                  replace q0 := cell_keep q0 hg1 hbw
                  have RT := Lib.hid ((RP.out.keep hbw).take hk)
                  have hkc : (k : Int) ≤ (c2 : Int) := by omega
                  have a0 := cell_keep HA.out.1 AL.out hbw; have a1 := cell_keep HA.out.2.1 AL.out hbw; have a2 := cell_keep HA.out.2.2 AL.out hbw
                  have al := lt_keep AL.out hbw
                  have RR := Lib.hid (R.out.keep hbw)
                  have HO := Lib.hid hown; have HB := Lib.hid hbw
                  clear hq hbw hown
                  cases hd : (ps.take k).contains q with
                  | true =>
                    have HD := Lib.hid hd
                    have OK := Lib.hid (plc_dup (w0 := w0) (h0 := h0) (W := W) (H := H) (xs := xs) (x := x) (y := y) (nodup_hit HQ.out hd))
                    clear hd
                    go_wp2_with fail
                    refine (l1Has_any _ _ _ _ _ _ RT.out).mono ?_
                    rw [HD.out]
                    rintro e wz ⟨rfl, hb⟩
                    replace a0 := cell_keep a0 al hb; replace a1 := cell_keep a1 al hb; replace a2 := cell_keep a2 al hb; replace al := lt_keep al hb
                    replace HO := Lib.hid (HO.out.keep hb)
                    replace RR := Lib.hid (RR.out.keep hb)
                    replace HB := Lib.hid (HB.out.trans (hb.mono HB.out.size))
                    clear hb
                    clear a0 a1 a2 al
                    go_wp2
                    go_ret2
                    exact ⟨none, 0, 0, by rw [OK.out]; rfl, by rw [plc_no OK.out]; exact OwnI.none_ _ _ _, B.out.trans (HB.out.mono B.out.size)⟩
                  | false =>
                    have HD := Lib.hid hd
                    have HN3 := Lib.hid (nodup_snoc HQ.out HND.out hd)
                    clear hd
                    have hc1 := colIn (x := q) HW0.out; have hr1 := rowIn (H := h0) (x := q) HW0.out (by omega)
                    have hW8 := HWW.out; have hH8 := HHH.out; have hw8 := HW0.out; have hh8 := HH0.out
                    by_cases hx8 : (8 : Int) < x
                    · have OK := Lib.hid (plc_off (w0 := w0) (h0 := h0) (W := W) (H := H) (xs := xs) (x := x) (y := y) HQ.out (spotB_no HWW.out (fun h => by omega)))
                      clear hc1 hr1 hW8 hH8 hw8 hh8
                      go_wp2_with fail
                      refine (l1Has_any _ _ _ _ _ _ RT.out).mono ?_
                      rw [HD.out]
                      rintro e wz ⟨rfl, hb⟩
                      replace a0 := cell_keep a0 al hb; replace a1 := cell_keep a1 al hb; replace a2 := cell_keep a2 al hb; replace al := lt_keep al hb
                      replace HO := Lib.hid (HO.out.keep hb)
                      replace RR := Lib.hid (RR.out.keep hb)
                      replace HB := Lib.hid (HB.out.trans (hb.mono HB.out.size))
                      clear hb
                      clear a0 a1 a2 al
                      go_wp2
                      go_ret2
                      exact ⟨none, 0, 0, by rw [OK.out]; rfl, by rw [plc_no OK.out]; exact OwnI.none_ _ _ _, B.out.trans (HB.out.mono B.out.size)⟩
                    · by_cases hy8 : (8 : Int) < y
                      · have OK := Lib.hid (plc_off (w0 := w0) (h0 := h0) (W := W) (H := H) (xs := xs) (x := x) (y := y) HQ.out (spotB_no HWW.out (fun h => by omega)))
                        clear hc1 hr1 hW8 hH8 hw8 hh8
                        go_wp2_with fail
                        refine (l1Has_any _ _ _ _ _ _ RT.out).mono ?_
                        rw [HD.out]
                        rintro e wz ⟨rfl, hb⟩
                        replace a0 := cell_keep a0 al hb; replace a1 := cell_keep a1 al hb; replace a2 := cell_keep a2 al hb; replace al := lt_keep al hb
                        replace HO := Lib.hid (HO.out.keep hb)
                        replace RR := Lib.hid (RR.out.keep hb)
                        replace HB := Lib.hid (HB.out.trans (hb.mono HB.out.size))
                        clear hb
                        clear a0 a1 a2 al
                        go_wp2
                        go_ret2
                        exact ⟨none, 0, 0, by rw [OK.out]; rfl, by rw [plc_no OK.out]; exact OwnI.none_ _ _ _, B.out.trans (HB.out.mono B.out.size)⟩
                      · have hq0 : 0 ≤ q := hqr.1
                        have hWne : ¬ w0 = 0 := by omega
                        have htm : q.tmod w0 = q % w0 := Int.tmod_eq_emod_of_nonneg hq0
                        have htd : q.tdiv w0 = q / w0 := Int.tdiv_eq_ediv_of_nonneg hq0
                        have hwD : IntKind.i64.wrap (q / w0) = q / w0 := IntWalk.i64_in _ (by omega)
                        have hwX : IntKind.i64.wrap (q % w0 + x) = q % w0 + x := IntWalk.i64_in _ (by omega)
                        have hwY : IntKind.i64.wrap (q / w0 + y) = q / w0 + y := IntWalk.i64_in _ (by omega)
                        have HMB := Lib.hid (mul_bd (y := q / w0 + y) (by omega) HWW.out)
                        have hwM : IntKind.i64.wrap ((q / w0 + y) * W) = (q / w0 + y) * W := IntWalk.i64_in _ (by have := HMB.out; omega)
                        have hwS : IntKind.i64.wrap ((q / w0 + y) * W + (q % w0 + x)) = (q / w0 + y) * W + (q % w0 + x) := IntWalk.i64_in _ (by have := HMB.out; omega)
                        by_cases hX : W ≤ q % w0 + x
                        · have OK := Lib.hid (plc_off (w0 := w0) (h0 := h0) (W := W) (H := H) (xs := xs) (x := x) (y := y) HQ.out (spotB_no HWW.out (fun h => by omega)))
                          clear hc1 hr1 hW8 hH8 hw8 hh8
                          go_wp2_with fail
                          refine (l1Has_any _ _ _ _ _ _ RT.out).mono ?_
                          rw [HD.out]
                          rintro e wz ⟨rfl, hb⟩
                          replace a0 := cell_keep a0 al hb; replace a1 := cell_keep a1 al hb; replace a2 := cell_keep a2 al hb; replace al := lt_keep al hb
                          replace HO := Lib.hid (HO.out.keep hb)
                          replace RR := Lib.hid (RR.out.keep hb)
                          replace HB := Lib.hid (HB.out.trans (hb.mono HB.out.size))
                          clear hb
                          go_wp2_with fail
                          refine wp_region_held_drew (S := fun w' => w'.cell? ⟨w.heap.size, 0, none⟩ = some (.int .i64 W) ∧ w'.cell? ⟨w.heap.size, 1, none⟩ = some (.int .i64 H)) (by kernel_rfl) ?_ (fun hHeld => ?_)
                          · (try dsimp only)
                            exact ⟨a0, a1⟩
                          refine wpAnyH_take (i := 0) (oi := ⟨_, _, _, _, _, _⟩) (v := ?_) rfl (by kernel_rfl) (by kernel_rfl) (by kernel_rfl) (fun _ _ _ h => h) (Or.inl ⟨by rfl, ?_⟩) (by assumption) ?_
                          rotate_left
                          · intro w hSw
                            (try dsimp only at hSw)
                            go_simp
                            (try with_reducible rfl)
                          (try simp only [Act.put, List.setIfInBounds_toArray, List.set_cons_zero, List.set_cons_succ])
                          refine wpAnyH_take (i := 1) (oi := ⟨_, _, _, _, _, _⟩) (v := ?_) rfl (by kernel_rfl) (by kernel_rfl) (by kernel_rfl) (fun _ _ _ h => h) (Or.inl ⟨by rfl, ?_⟩) (by assumption) ?_
                          rotate_left
                          · intro w hSw
                            (try dsimp only at hSw)
                            go_simp
                            (try with_reducible rfl)
                          (try simp only [Act.put, List.setIfInBounds_toArray, List.set_cons_zero, List.set_cons_succ])
                          refine wpAnyH_take (i := 2) (oi := ⟨_, _, _, _, _, _⟩) (v := ?_) rfl (by kernel_rfl) (by kernel_rfl) (by kernel_rfl) (fun _ _ _ h => h) (Or.inl ⟨by rfl, ?_⟩) (by assumption) ?_
                          rotate_left
                          · intro w hSw
                            (try dsimp only at hSw)
                            go_simp
                            (try with_reducible rfl)
                          (try simp only [Act.put, List.setIfInBounds_toArray, List.set_cons_zero, List.set_cons_succ])
                          refine wpAnyH_take (i := 3) (oi := ⟨_, _, _, _, _, _⟩) (v := ?_) rfl (by kernel_rfl) (by kernel_rfl) (by kernel_rfl) (fun _ _ _ h => h) (Or.inl ⟨by rfl, ?_⟩) (by assumption) ?_
                          rotate_left
                          · intro w hSw
                            (try dsimp only at hSw)
                            go_simp
                            (try with_reducible rfl)
                          (try simp only [Act.put, List.setIfInBounds_toArray, List.set_cons_zero, List.set_cons_succ])
                          refine wpAnyH_take (i := 4) (oi := ⟨_, _, _, _, _, _⟩) (v := ?_) rfl (by kernel_rfl) (by kernel_rfl) (by kernel_rfl) (fun _ _ _ h => h) (Or.inl ⟨by rfl, ?_⟩) (by assumption) ?_
                          rotate_left
                          · intro w hSw
                            (try dsimp only at hSw)
                            go_simp
                            (try with_reducible rfl)
                          (try simp only [Act.put, List.setIfInBounds_toArray, List.set_cons_zero, List.set_cons_succ])
                          refine wpAnyH_take (i := 5) (oi := ⟨_, _, _, _, _, _⟩) (v := ?_) rfl (by kernel_rfl) (by kernel_rfl) (by kernel_rfl) (fun _ _ _ h => h) (Or.inl ⟨by rfl, ?_⟩) (by assumption) ?_
                          rotate_left
                          · intro w hSw
                            (try dsimp only at hSw)
                            go_simp
                            (try with_reducible rfl)
                          (try simp only [Act.put, List.setIfInBounds_toArray, List.set_cons_zero, List.set_cons_succ])
                          refine wpAnyH_take (i := 6) (oi := ⟨_, _, _, _, _, _⟩) (v := ?_) rfl (by kernel_rfl) (by kernel_rfl) (by kernel_rfl) (fun _ _ _ h => h) (Or.inl ⟨by rfl, ?_⟩) (by assumption) ?_
                          rotate_left
                          · intro w hSw
                            (try dsimp only at hSw)
                            go_simp
                            (try with_reducible rfl)
                          (try simp only [Act.put, List.setIfInBounds_toArray, List.set_cons_zero, List.set_cons_succ])
                          refine wpAnyH_take (i := 7) (oi := ⟨_, _, _, _, _, _⟩) (v := ?_) rfl (by kernel_rfl) (by kernel_rfl) (by kernel_rfl) (fun _ _ _ h => h) (Or.inl ⟨by rfl, ?_⟩) (by assumption) ?_
                          rotate_left
                          · intro w hSw
                            (try dsimp only at hSw)
                            go_simp
                            (try with_reducible rfl)
                          (try simp only [Act.put, List.setIfInBounds_toArray, List.set_cons_zero, List.set_cons_succ])
                          refine wpAnyH_take (i := 8) (oi := ⟨_, _, _, _, _, _⟩) (v := ?_) rfl (by kernel_rfl) (by kernel_rfl) (by kernel_rfl) (fun _ _ _ h => h) (Or.inl ⟨by rfl, ?_⟩) (by assumption) ?_
                          rotate_left
                          · intro w hSw
                            (try dsimp only at hSw)
                            go_simp
                            (try with_reducible rfl)
                          (try simp only [Act.put, List.setIfInBounds_toArray, List.set_cons_zero, List.set_cons_succ])
                          refine wpAnyH_take (i := 9) (oi := ⟨_, _, _, _, _, _⟩) (v := ?_) rfl (by kernel_rfl) (by kernel_rfl) (by kernel_rfl) (fun _ _ _ h => h) (Or.inl ⟨by rfl, ?_⟩) (by assumption) ?_
                          rotate_left
                          · intro w hSw
                            (try dsimp only at hSw)
                            go_simp
                            (try with_reducible rfl)
                          (try simp only [Act.put, List.setIfInBounds_toArray, List.set_cons_zero, List.set_cons_succ])
                          refine wpAnyH_take (i := 10) (oi := ⟨_, _, _, _, _, _⟩) (v := ?_) rfl (by kernel_rfl) (by kernel_rfl) (by kernel_rfl) (fun _ _ _ h => h) (Or.inl ⟨by rfl, ?_⟩) (by assumption) ?_
                          rotate_left
                          · intro w hSw
                            (try dsimp only at hSw)
                            go_simp
                            (try with_reducible rfl)
                          (try simp only [Act.put, List.setIfInBounds_toArray, List.set_cons_zero, List.set_cons_succ])
                          refine wpAnyH_take (i := 11) (oi := ⟨_, _, _, _, _, _⟩) (v := ?_) rfl (by kernel_rfl) (by kernel_rfl) (by kernel_rfl) (fun _ _ _ h => h) (Or.inl ⟨by rfl, ?_⟩) (by assumption) ?_
                          rotate_left
                          · intro w hSw
                            (try dsimp only at hSw)
                            go_simp
                            (try with_reducible rfl)
                          (try simp only [Act.put, List.setIfInBounds_toArray, List.set_cons_zero, List.set_cons_succ])
                          refine wpAnyH_done (by kernel_rfl) ?_ _
                          clear htm htd hWne hwD hHeld
                          obtain ⟨wq, hwq⟩ : ∃ wq, wq = wz.drew := ⟨_, rfl⟩
                          rw [← hwq]
                          replace HB := Lib.hid (show Below wv.heap.size wv wq by rw [hwq]; exact below_drewN HB.out 1)
                          replace RR := Lib.hid (show Rd wq A n xs by rw [hwq]; exact RR.out)
                          replace HO := Lib.hid (show OwnI 3 wq wv.heap.size _ n' c' _ by rw [hwq]; exact HO.out)
                          replace a0 : wq.cell? ⟨w.heap.size, 0, none⟩ = some (.int .i64 W) := by rw [hwq]; exact a0
                          replace a1 : wq.cell? ⟨w.heap.size, 1, none⟩ = some (.int .i64 H) := by rw [hwq]; exact a1
                          replace a2 : wq.cell? ⟨w.heap.size, 2, none⟩ = some (.slice A n c) := by rw [hwq]; exact a2
                          replace al : w.heap.size < wq.heap.size := by rw [hwq]; exact al
                          clear hwq
                          go_wp2
                          go_ret2
                          exact ⟨none, 0, 0, by rw [OK.out]; rfl, by rw [plc_no OK.out]; exact OwnI.none_ _ _ _, B.out.trans (HB.out.mono B.out.size)⟩
                        · by_cases hY : H ≤ q / w0 + y
                          · have OK := Lib.hid (plc_off (w0 := w0) (h0 := h0) (W := W) (H := H) (xs := xs) (x := x) (y := y) HQ.out (spotB_no HWW.out (fun h => by omega)))
                            clear hc1 hr1 hW8 hH8 hw8 hh8
                            go_wp2_with fail
                            refine (l1Has_any _ _ _ _ _ _ RT.out).mono ?_
                            rw [HD.out]
                            rintro e wz ⟨rfl, hb⟩
                            replace a0 := cell_keep a0 al hb; replace a1 := cell_keep a1 al hb; replace a2 := cell_keep a2 al hb; replace al := lt_keep al hb
                            replace HO := Lib.hid (HO.out.keep hb)
                            replace RR := Lib.hid (RR.out.keep hb)
                            replace HB := Lib.hid (HB.out.trans (hb.mono HB.out.size))
                            clear hb
                            go_wp2_with fail
                            refine wp_region_held_drew (S := fun w' => w'.cell? ⟨w.heap.size, 0, none⟩ = some (.int .i64 W) ∧ w'.cell? ⟨w.heap.size, 1, none⟩ = some (.int .i64 H)) (by kernel_rfl) ?_ (fun hHeld => ?_)
                            · (try dsimp only)
                              exact ⟨a0, a1⟩
                            refine wpAnyH_take (i := 0) (oi := ⟨_, _, _, _, _, _⟩) (v := ?_) rfl (by kernel_rfl) (by kernel_rfl) (by kernel_rfl) (fun _ _ _ h => h) (Or.inl ⟨by rfl, ?_⟩) (by assumption) ?_
                            rotate_left
                            · intro w hSw
                              (try dsimp only at hSw)
                              go_simp
                              (try with_reducible rfl)
                            (try simp only [Act.put, List.setIfInBounds_toArray, List.set_cons_zero, List.set_cons_succ])
                            refine wpAnyH_take (i := 1) (oi := ⟨_, _, _, _, _, _⟩) (v := ?_) rfl (by kernel_rfl) (by kernel_rfl) (by kernel_rfl) (fun _ _ _ h => h) (Or.inl ⟨by rfl, ?_⟩) (by assumption) ?_
                            rotate_left
                            · intro w hSw
                              (try dsimp only at hSw)
                              go_simp
                              (try with_reducible rfl)
                            (try simp only [Act.put, List.setIfInBounds_toArray, List.set_cons_zero, List.set_cons_succ])
                            refine wpAnyH_take (i := 2) (oi := ⟨_, _, _, _, _, _⟩) (v := ?_) rfl (by kernel_rfl) (by kernel_rfl) (by kernel_rfl) (fun _ _ _ h => h) (Or.inl ⟨by rfl, ?_⟩) (by assumption) ?_
                            rotate_left
                            · intro w hSw
                              (try dsimp only at hSw)
                              go_simp
                              (try with_reducible rfl)
                            (try simp only [Act.put, List.setIfInBounds_toArray, List.set_cons_zero, List.set_cons_succ])
                            refine wpAnyH_take (i := 3) (oi := ⟨_, _, _, _, _, _⟩) (v := ?_) rfl (by kernel_rfl) (by kernel_rfl) (by kernel_rfl) (fun _ _ _ h => h) (Or.inl ⟨by rfl, ?_⟩) (by assumption) ?_
                            rotate_left
                            · intro w hSw
                              (try dsimp only at hSw)
                              go_simp
                              (try with_reducible rfl)
                            (try simp only [Act.put, List.setIfInBounds_toArray, List.set_cons_zero, List.set_cons_succ])
                            refine wpAnyH_take (i := 4) (oi := ⟨_, _, _, _, _, _⟩) (v := ?_) rfl (by kernel_rfl) (by kernel_rfl) (by kernel_rfl) (fun _ _ _ h => h) (Or.inl ⟨by rfl, ?_⟩) (by assumption) ?_
                            rotate_left
                            · intro w hSw
                              (try dsimp only at hSw)
                              go_simp
                              (try with_reducible rfl)
                            (try simp only [Act.put, List.setIfInBounds_toArray, List.set_cons_zero, List.set_cons_succ])
                            refine wpAnyH_take (i := 5) (oi := ⟨_, _, _, _, _, _⟩) (v := ?_) rfl (by kernel_rfl) (by kernel_rfl) (by kernel_rfl) (fun _ _ _ h => h) (Or.inl ⟨by rfl, ?_⟩) (by assumption) ?_
                            rotate_left
                            · intro w hSw
                              (try dsimp only at hSw)
                              go_simp
                              (try with_reducible rfl)
                            (try simp only [Act.put, List.setIfInBounds_toArray, List.set_cons_zero, List.set_cons_succ])
                            refine wpAnyH_take (i := 6) (oi := ⟨_, _, _, _, _, _⟩) (v := ?_) rfl (by kernel_rfl) (by kernel_rfl) (by kernel_rfl) (fun _ _ _ h => h) (Or.inl ⟨by rfl, ?_⟩) (by assumption) ?_
                            rotate_left
                            · intro w hSw
                              (try dsimp only at hSw)
                              go_simp
                              (try with_reducible rfl)
                            (try simp only [Act.put, List.setIfInBounds_toArray, List.set_cons_zero, List.set_cons_succ])
                            refine wpAnyH_take (i := 7) (oi := ⟨_, _, _, _, _, _⟩) (v := ?_) rfl (by kernel_rfl) (by kernel_rfl) (by kernel_rfl) (fun _ _ _ h => h) (Or.inl ⟨by rfl, ?_⟩) (by assumption) ?_
                            rotate_left
                            · intro w hSw
                              (try dsimp only at hSw)
                              go_simp
                              (try with_reducible rfl)
                            (try simp only [Act.put, List.setIfInBounds_toArray, List.set_cons_zero, List.set_cons_succ])
                            refine wpAnyH_take (i := 8) (oi := ⟨_, _, _, _, _, _⟩) (v := ?_) rfl (by kernel_rfl) (by kernel_rfl) (by kernel_rfl) (fun _ _ _ h => h) (Or.inl ⟨by rfl, ?_⟩) (by assumption) ?_
                            rotate_left
                            · intro w hSw
                              (try dsimp only at hSw)
                              go_simp
                              (try with_reducible rfl)
                            (try simp only [Act.put, List.setIfInBounds_toArray, List.set_cons_zero, List.set_cons_succ])
                            refine wpAnyH_take (i := 9) (oi := ⟨_, _, _, _, _, _⟩) (v := ?_) rfl (by kernel_rfl) (by kernel_rfl) (by kernel_rfl) (fun _ _ _ h => h) (Or.inl ⟨by rfl, ?_⟩) (by assumption) ?_
                            rotate_left
                            · intro w hSw
                              (try dsimp only at hSw)
                              go_simp
                              (try with_reducible rfl)
                            (try simp only [Act.put, List.setIfInBounds_toArray, List.set_cons_zero, List.set_cons_succ])
                            refine wpAnyH_take (i := 10) (oi := ⟨_, _, _, _, _, _⟩) (v := ?_) rfl (by kernel_rfl) (by kernel_rfl) (by kernel_rfl) (fun _ _ _ h => h) (Or.inl ⟨by rfl, ?_⟩) (by assumption) ?_
                            rotate_left
                            · intro w hSw
                              (try dsimp only at hSw)
                              go_simp
                              (try with_reducible rfl)
                            (try simp only [Act.put, List.setIfInBounds_toArray, List.set_cons_zero, List.set_cons_succ])
                            refine wpAnyH_take (i := 11) (oi := ⟨_, _, _, _, _, _⟩) (v := ?_) rfl (by kernel_rfl) (by kernel_rfl) (by kernel_rfl) (fun _ _ _ h => h) (Or.inl ⟨by rfl, ?_⟩) (by assumption) ?_
                            rotate_left
                            · intro w hSw
                              (try dsimp only at hSw)
                              go_simp
                              (try with_reducible rfl)
                            (try simp only [Act.put, List.setIfInBounds_toArray, List.set_cons_zero, List.set_cons_succ])
                            refine wpAnyH_done (by kernel_rfl) ?_ _
                            clear htm htd hWne hwD hHeld
                            obtain ⟨wq, hwq⟩ : ∃ wq, wq = wz.drew := ⟨_, rfl⟩
                            rw [← hwq]
                            replace HB := Lib.hid (show Below wv.heap.size wv wq by rw [hwq]; exact below_drewN HB.out 1)
                            replace RR := Lib.hid (show Rd wq A n xs by rw [hwq]; exact RR.out)
                            replace HO := Lib.hid (show OwnI 3 wq wv.heap.size _ n' c' _ by rw [hwq]; exact HO.out)
                            replace a0 : wq.cell? ⟨w.heap.size, 0, none⟩ = some (.int .i64 W) := by rw [hwq]; exact a0
                            replace a1 : wq.cell? ⟨w.heap.size, 1, none⟩ = some (.int .i64 H) := by rw [hwq]; exact a1
                            replace a2 : wq.cell? ⟨w.heap.size, 2, none⟩ = some (.slice A n c) := by rw [hwq]; exact a2
                            replace al : w.heap.size < wq.heap.size := by rw [hwq]; exact al
                            clear hwq
                            go_wp2
                            go_ret2
                            exact ⟨none, 0, 0, by rw [OK.out]; rfl, by rw [plc_no OK.out]; exact OwnI.none_ _ _ _, B.out.trans (HB.out.mono B.out.size)⟩
                          · have HSB := Lib.hid (show plcSp W H xs w0 x y q = hasB W H xs ((q / w0 + y) * W + (q % w0 + x)) by rw [plcSp, spotB, decide_eq_true (show 0 ≤ q % w0 + x ∧ q % w0 + x < W by omega), Bool.true_and])
                            clear hc1 hr1 hW8 hH8 hw8 hh8
                            cases hB : hasB W H xs ((q / w0 + y) * W + (q % w0 + x)) with
                            | false =>
                              have HBB := Lib.hid hB
                              have OK := Lib.hid (plc_off (w0 := w0) (h0 := h0) (W := W) (H := H) (xs := xs) (x := x) (y := y) HQ.out (HSB.out.trans hB))
                              clear hB
                              go_wp2_with fail
                              refine (l1Has_any _ _ _ _ _ _ RT.out).mono ?_
                              rw [HD.out]
                              rintro e wz ⟨rfl, hb⟩
                              replace a0 := cell_keep a0 al hb; replace a1 := cell_keep a1 al hb; replace a2 := cell_keep a2 al hb; replace al := lt_keep al hb
                              replace HO := Lib.hid (HO.out.keep hb)
                              replace RR := Lib.hid (RR.out.keep hb)
                              replace HB := Lib.hid (HB.out.trans (hb.mono HB.out.size))
                              clear hb
                              go_wp2_with fail
                              refine wp_region_held_drew (S := fun w' => w'.cell? ⟨w.heap.size, 0, none⟩ = some (.int .i64 W) ∧ w'.cell? ⟨w.heap.size, 1, none⟩ = some (.int .i64 H)) (by kernel_rfl) ?_ (fun hHeld => ?_)
                              · (try dsimp only)
                                exact ⟨a0, a1⟩
                              refine wpAnyH_take (i := 0) (oi := ⟨_, _, _, _, _, _⟩) (v := ?_) rfl (by kernel_rfl) (by kernel_rfl) (by kernel_rfl) (fun _ _ _ h => h) (Or.inl ⟨by rfl, ?_⟩) (by assumption) ?_
                              rotate_left
                              · intro w hSw
                                (try dsimp only at hSw)
                                go_simp
                                (try with_reducible rfl)
                              (try simp only [Act.put, List.setIfInBounds_toArray, List.set_cons_zero, List.set_cons_succ])
                              refine wpAnyH_take (i := 1) (oi := ⟨_, _, _, _, _, _⟩) (v := ?_) rfl (by kernel_rfl) (by kernel_rfl) (by kernel_rfl) (fun _ _ _ h => h) (Or.inl ⟨by rfl, ?_⟩) (by assumption) ?_
                              rotate_left
                              · intro w hSw
                                (try dsimp only at hSw)
                                go_simp
                                (try with_reducible rfl)
                              (try simp only [Act.put, List.setIfInBounds_toArray, List.set_cons_zero, List.set_cons_succ])
                              refine wpAnyH_take (i := 2) (oi := ⟨_, _, _, _, _, _⟩) (v := ?_) rfl (by kernel_rfl) (by kernel_rfl) (by kernel_rfl) (fun _ _ _ h => h) (Or.inl ⟨by rfl, ?_⟩) (by assumption) ?_
                              rotate_left
                              · intro w hSw
                                (try dsimp only at hSw)
                                go_simp
                                (try with_reducible rfl)
                              (try simp only [Act.put, List.setIfInBounds_toArray, List.set_cons_zero, List.set_cons_succ])
                              refine wpAnyH_take (i := 3) (oi := ⟨_, _, _, _, _, _⟩) (v := ?_) rfl (by kernel_rfl) (by kernel_rfl) (by kernel_rfl) (fun _ _ _ h => h) (Or.inl ⟨by rfl, ?_⟩) (by assumption) ?_
                              rotate_left
                              · intro w hSw
                                (try dsimp only at hSw)
                                go_simp
                                (try with_reducible rfl)
                              (try simp only [Act.put, List.setIfInBounds_toArray, List.set_cons_zero, List.set_cons_succ])
                              refine wpAnyH_take (i := 4) (oi := ⟨_, _, _, _, _, _⟩) (v := ?_) rfl (by kernel_rfl) (by kernel_rfl) (by kernel_rfl) (fun _ _ _ h => h) (Or.inl ⟨by rfl, ?_⟩) (by assumption) ?_
                              rotate_left
                              · intro w hSw
                                (try dsimp only at hSw)
                                go_simp
                                (try with_reducible rfl)
                              (try simp only [Act.put, List.setIfInBounds_toArray, List.set_cons_zero, List.set_cons_succ])
                              refine wpAnyH_take (i := 5) (oi := ⟨_, _, _, _, _, _⟩) (v := ?_) rfl (by kernel_rfl) (by kernel_rfl) (by kernel_rfl) (fun _ _ _ h => h) (Or.inl ⟨by rfl, ?_⟩) (by assumption) ?_
                              rotate_left
                              · intro w hSw
                                (try dsimp only at hSw)
                                go_simp
                                (try with_reducible rfl)
                              (try simp only [Act.put, List.setIfInBounds_toArray, List.set_cons_zero, List.set_cons_succ])
                              refine wpAnyH_take (i := 6) (oi := ⟨_, _, _, _, _, _⟩) (v := ?_) rfl (by kernel_rfl) (by kernel_rfl) (by kernel_rfl) (fun _ _ _ h => h) (Or.inl ⟨by rfl, ?_⟩) (by assumption) ?_
                              rotate_left
                              · intro w hSw
                                (try dsimp only at hSw)
                                go_simp
                                (try with_reducible rfl)
                              (try simp only [Act.put, List.setIfInBounds_toArray, List.set_cons_zero, List.set_cons_succ])
                              refine wpAnyH_take (i := 7) (oi := ⟨_, _, _, _, _, _⟩) (v := ?_) rfl (by kernel_rfl) (by kernel_rfl) (by kernel_rfl) (fun _ _ _ h => h) (Or.inl ⟨by rfl, ?_⟩) (by assumption) ?_
                              rotate_left
                              · intro w hSw
                                (try dsimp only at hSw)
                                go_simp
                                (try with_reducible rfl)
                              (try simp only [Act.put, List.setIfInBounds_toArray, List.set_cons_zero, List.set_cons_succ])
                              refine wpAnyH_take (i := 8) (oi := ⟨_, _, _, _, _, _⟩) (v := ?_) rfl (by kernel_rfl) (by kernel_rfl) (by kernel_rfl) (fun _ _ _ h => h) (Or.inl ⟨by rfl, ?_⟩) (by assumption) ?_
                              rotate_left
                              · intro w hSw
                                (try dsimp only at hSw)
                                go_simp
                                (try with_reducible rfl)
                              (try simp only [Act.put, List.setIfInBounds_toArray, List.set_cons_zero, List.set_cons_succ])
                              refine wpAnyH_take (i := 9) (oi := ⟨_, _, _, _, _, _⟩) (v := ?_) rfl (by kernel_rfl) (by kernel_rfl) (by kernel_rfl) (fun _ _ _ h => h) (Or.inl ⟨by rfl, ?_⟩) (by assumption) ?_
                              rotate_left
                              · intro w hSw
                                (try dsimp only at hSw)
                                go_simp
                                (try with_reducible rfl)
                              (try simp only [Act.put, List.setIfInBounds_toArray, List.set_cons_zero, List.set_cons_succ])
                              refine wpAnyH_take (i := 10) (oi := ⟨_, _, _, _, _, _⟩) (v := ?_) rfl (by kernel_rfl) (by kernel_rfl) (by kernel_rfl) (fun _ _ _ h => h) (Or.inl ⟨by rfl, ?_⟩) (by assumption) ?_
                              rotate_left
                              · intro w hSw
                                (try dsimp only at hSw)
                                go_simp
                                (try with_reducible rfl)
                              (try simp only [Act.put, List.setIfInBounds_toArray, List.set_cons_zero, List.set_cons_succ])
                              refine wpAnyH_take (i := 11) (oi := ⟨_, _, _, _, _, _⟩) (v := ?_) rfl (by kernel_rfl) (by kernel_rfl) (by kernel_rfl) (fun _ _ _ h => h) (Or.inl ⟨by rfl, ?_⟩) (by assumption) ?_
                              rotate_left
                              · intro w hSw
                                (try dsimp only at hSw)
                                go_simp
                                (try with_reducible rfl)
                              (try simp only [Act.put, List.setIfInBounds_toArray, List.set_cons_zero, List.set_cons_succ])
                              refine wpAnyH_done (by kernel_rfl) ?_ _
                              clear htm htd hWne hwD hHeld
                              obtain ⟨wq, hwq⟩ : ∃ wq, wq = wz.drew := ⟨_, rfl⟩
                              rw [← hwq]
                              replace HB := Lib.hid (show Below wv.heap.size wv wq by rw [hwq]; exact below_drewN HB.out 1)
                              replace RR := Lib.hid (show Rd wq A n xs by rw [hwq]; exact RR.out)
                              replace HO := Lib.hid (show OwnI 3 wq wv.heap.size _ n' c' _ by rw [hwq]; exact HO.out)
                              replace a0 : wq.cell? ⟨w.heap.size, 0, none⟩ = some (.int .i64 W) := by rw [hwq]; exact a0
                              replace a1 : wq.cell? ⟨w.heap.size, 1, none⟩ = some (.int .i64 H) := by rw [hwq]; exact a1
                              replace a2 : wq.cell? ⟨w.heap.size, 2, none⟩ = some (.slice A n c) := by rw [hwq]; exact a2
                              replace al : w.heap.size < wq.heap.size := by rw [hwq]; exact al
                              clear hwq
                              go_wp2_with fail
                              refine (boHas_any W H A n c ((q / w0 + y) * W + (q % w0 + x)) xs _ RR.out HN2.out).mono ?_
                              rw [HBB.out]
                              rintro e wx ⟨rfl, hb⟩
                              replace a0 := cell_keep a0 al hb; replace a1 := cell_keep a1 al hb; replace a2 := cell_keep a2 al hb; replace al := lt_keep al hb
                              replace HO := Lib.hid (HO.out.keep hb)
                              replace RR := Lib.hid (RR.out.keep hb)
                              replace HB := Lib.hid (HB.out.trans (hb.mono HB.out.size))
                              clear hb
                              go_wp2
                              go_ret2
                              exact ⟨none, 0, 0, by rw [OK.out]; rfl, by rw [plc_no OK.out]; exact OwnI.none_ _ _ _, B.out.trans (HB.out.mono B.out.size)⟩
                            | true =>
                              have HBB := Lib.hid hB
                              have HAL2 := Lib.hid (all_step HQ.out HAL.out (HSB.out.trans hB))
                              have HMS := Lib.hid (map_step (f := plcTo W w0 x y) HQ.out)
                              clear hB
                              go_wp2_with fail
                              refine (l1Has_any _ _ _ _ _ _ RT.out).mono ?_
                              rw [HD.out]
                              rintro e wz ⟨rfl, hb⟩
                              replace a0 := cell_keep a0 al hb; replace a1 := cell_keep a1 al hb; replace a2 := cell_keep a2 al hb; replace al := lt_keep al hb
                              replace HO := Lib.hid (HO.out.keep hb)
                              replace RR := Lib.hid (RR.out.keep hb)
                              replace HB := Lib.hid (HB.out.trans (hb.mono HB.out.size))
                              clear hb
                              go_wp2_with fail
                              refine wp_region_held_drew (S := fun w' => w'.cell? ⟨w.heap.size, 0, none⟩ = some (.int .i64 W) ∧ w'.cell? ⟨w.heap.size, 1, none⟩ = some (.int .i64 H)) (by kernel_rfl) ?_ (fun hHeld => ?_)
                              · (try dsimp only)
                                exact ⟨a0, a1⟩
                              refine wpAnyH_take (i := 0) (oi := ⟨_, _, _, _, _, _⟩) (v := ?_) rfl (by kernel_rfl) (by kernel_rfl) (by kernel_rfl) (fun _ _ _ h => h) (Or.inl ⟨by rfl, ?_⟩) (by assumption) ?_
                              rotate_left
                              · intro w hSw
                                (try dsimp only at hSw)
                                go_simp
                                (try with_reducible rfl)
                              (try simp only [Act.put, List.setIfInBounds_toArray, List.set_cons_zero, List.set_cons_succ])
                              refine wpAnyH_take (i := 1) (oi := ⟨_, _, _, _, _, _⟩) (v := ?_) rfl (by kernel_rfl) (by kernel_rfl) (by kernel_rfl) (fun _ _ _ h => h) (Or.inl ⟨by rfl, ?_⟩) (by assumption) ?_
                              rotate_left
                              · intro w hSw
                                (try dsimp only at hSw)
                                go_simp
                                (try with_reducible rfl)
                              (try simp only [Act.put, List.setIfInBounds_toArray, List.set_cons_zero, List.set_cons_succ])
                              refine wpAnyH_take (i := 2) (oi := ⟨_, _, _, _, _, _⟩) (v := ?_) rfl (by kernel_rfl) (by kernel_rfl) (by kernel_rfl) (fun _ _ _ h => h) (Or.inl ⟨by rfl, ?_⟩) (by assumption) ?_
                              rotate_left
                              · intro w hSw
                                (try dsimp only at hSw)
                                go_simp
                                (try with_reducible rfl)
                              (try simp only [Act.put, List.setIfInBounds_toArray, List.set_cons_zero, List.set_cons_succ])
                              refine wpAnyH_take (i := 3) (oi := ⟨_, _, _, _, _, _⟩) (v := ?_) rfl (by kernel_rfl) (by kernel_rfl) (by kernel_rfl) (fun _ _ _ h => h) (Or.inl ⟨by rfl, ?_⟩) (by assumption) ?_
                              rotate_left
                              · intro w hSw
                                (try dsimp only at hSw)
                                go_simp
                                (try with_reducible rfl)
                              (try simp only [Act.put, List.setIfInBounds_toArray, List.set_cons_zero, List.set_cons_succ])
                              refine wpAnyH_take (i := 4) (oi := ⟨_, _, _, _, _, _⟩) (v := ?_) rfl (by kernel_rfl) (by kernel_rfl) (by kernel_rfl) (fun _ _ _ h => h) (Or.inl ⟨by rfl, ?_⟩) (by assumption) ?_
                              rotate_left
                              · intro w hSw
                                (try dsimp only at hSw)
                                go_simp
                                (try with_reducible rfl)
                              (try simp only [Act.put, List.setIfInBounds_toArray, List.set_cons_zero, List.set_cons_succ])
                              refine wpAnyH_take (i := 5) (oi := ⟨_, _, _, _, _, _⟩) (v := ?_) rfl (by kernel_rfl) (by kernel_rfl) (by kernel_rfl) (fun _ _ _ h => h) (Or.inl ⟨by rfl, ?_⟩) (by assumption) ?_
                              rotate_left
                              · intro w hSw
                                (try dsimp only at hSw)
                                go_simp
                                (try with_reducible rfl)
                              (try simp only [Act.put, List.setIfInBounds_toArray, List.set_cons_zero, List.set_cons_succ])
                              refine wpAnyH_take (i := 6) (oi := ⟨_, _, _, _, _, _⟩) (v := ?_) rfl (by kernel_rfl) (by kernel_rfl) (by kernel_rfl) (fun _ _ _ h => h) (Or.inl ⟨by rfl, ?_⟩) (by assumption) ?_
                              rotate_left
                              · intro w hSw
                                (try dsimp only at hSw)
                                go_simp
                                (try with_reducible rfl)
                              (try simp only [Act.put, List.setIfInBounds_toArray, List.set_cons_zero, List.set_cons_succ])
                              refine wpAnyH_take (i := 7) (oi := ⟨_, _, _, _, _, _⟩) (v := ?_) rfl (by kernel_rfl) (by kernel_rfl) (by kernel_rfl) (fun _ _ _ h => h) (Or.inl ⟨by rfl, ?_⟩) (by assumption) ?_
                              rotate_left
                              · intro w hSw
                                (try dsimp only at hSw)
                                go_simp
                                (try with_reducible rfl)
                              (try simp only [Act.put, List.setIfInBounds_toArray, List.set_cons_zero, List.set_cons_succ])
                              refine wpAnyH_take (i := 8) (oi := ⟨_, _, _, _, _, _⟩) (v := ?_) rfl (by kernel_rfl) (by kernel_rfl) (by kernel_rfl) (fun _ _ _ h => h) (Or.inl ⟨by rfl, ?_⟩) (by assumption) ?_
                              rotate_left
                              · intro w hSw
                                (try dsimp only at hSw)
                                go_simp
                                (try with_reducible rfl)
                              (try simp only [Act.put, List.setIfInBounds_toArray, List.set_cons_zero, List.set_cons_succ])
                              refine wpAnyH_take (i := 9) (oi := ⟨_, _, _, _, _, _⟩) (v := ?_) rfl (by kernel_rfl) (by kernel_rfl) (by kernel_rfl) (fun _ _ _ h => h) (Or.inl ⟨by rfl, ?_⟩) (by assumption) ?_
                              rotate_left
                              · intro w hSw
                                (try dsimp only at hSw)
                                go_simp
                                (try with_reducible rfl)
                              (try simp only [Act.put, List.setIfInBounds_toArray, List.set_cons_zero, List.set_cons_succ])
                              refine wpAnyH_take (i := 10) (oi := ⟨_, _, _, _, _, _⟩) (v := ?_) rfl (by kernel_rfl) (by kernel_rfl) (by kernel_rfl) (fun _ _ _ h => h) (Or.inl ⟨by rfl, ?_⟩) (by assumption) ?_
                              rotate_left
                              · intro w hSw
                                (try dsimp only at hSw)
                                go_simp
                                (try with_reducible rfl)
                              (try simp only [Act.put, List.setIfInBounds_toArray, List.set_cons_zero, List.set_cons_succ])
                              refine wpAnyH_take (i := 11) (oi := ⟨_, _, _, _, _, _⟩) (v := ?_) rfl (by kernel_rfl) (by kernel_rfl) (by kernel_rfl) (fun _ _ _ h => h) (Or.inl ⟨by rfl, ?_⟩) (by assumption) ?_
                              rotate_left
                              · intro w hSw
                                (try dsimp only at hSw)
                                go_simp
                                (try with_reducible rfl)
                              (try simp only [Act.put, List.setIfInBounds_toArray, List.set_cons_zero, List.set_cons_succ])
                              refine wpAnyH_done (by kernel_rfl) ?_ _
                              clear htm htd hWne hwD hHeld
                              obtain ⟨wq, hwq⟩ : ∃ wq, wq = wz.drew := ⟨_, rfl⟩
                              rw [← hwq]
                              replace HB := Lib.hid (show Below wv.heap.size wv wq by rw [hwq]; exact below_drewN HB.out 1)
                              replace RR := Lib.hid (show Rd wq A n xs by rw [hwq]; exact RR.out)
                              replace HO := Lib.hid (show OwnI 3 wq wv.heap.size _ n' c' _ by rw [hwq]; exact HO.out)
                              replace a0 : wq.cell? ⟨w.heap.size, 0, none⟩ = some (.int .i64 W) := by rw [hwq]; exact a0
                              replace a1 : wq.cell? ⟨w.heap.size, 1, none⟩ = some (.int .i64 H) := by rw [hwq]; exact a1
                              replace a2 : wq.cell? ⟨w.heap.size, 2, none⟩ = some (.slice A n c) := by rw [hwq]; exact a2
                              replace al : w.heap.size < wq.heap.size := by rw [hwq]; exact al
                              clear hwq
                              go_wp2_with fail
                              refine (boHas_any W H A n c ((q / w0 + y) * W + (q % w0 + x)) xs _ RR.out HN2.out).mono ?_
                              rw [HBB.out]
                              rintro e wx ⟨rfl, hb⟩
                              replace a0 := cell_keep a0 al hb; replace a1 := cell_keep a1 al hb; replace a2 := cell_keep a2 al hb; replace al := lt_keep al hb
                              replace HO := Lib.hid (HO.out.keep hb)
                              replace RR := Lib.hid (RR.out.keep hb)
                              replace HB := Lib.hid (HB.out.trans (hb.mono HB.out.size))
                              clear hb
                              have hsw := HB.out.size
                              have hn9 : n' ≤ 1000000 := by have := HNK.out; omega
                              go_wp2_with (at_builtin; refine wpList_app1 rfl (.tmp 102) (.tmp 109) 22 3 rfl i0 Try.underlying22 HI.out HZ0.out HZ1.out HZ2.out wv.heap.size _ n' c' ((ps.take k).map (plcTo W w0 x y)) ((q / w0 + y) * W + (q % w0 + x)) rfl HO.out rfl hn9 hsw ?_; intro A3 c3 w5 hown3 hb5)
                              have O3 := Lib.hid hown3
                              have B3 := Lib.hid (HB.out.trans hb5)
                              clear hown3 hb5 a0 a1 a2 al
                              go_wp2
                              go_roundw
                              case rel => exact ⟨k + 1, n' + 1, c3, A3, by omega, by go_num, rfl, by have := HNK.out; omega, by rw [HMS.out]; exact O3.out, HN3.out, HAL2.out, B3.out⟩
                              case measure => simp [intOf]; omega
                · have hkm : ps.take k = ps := List.take_of_length_le (by have := HPL.out; omega)
                  have hkm2 : k = m := by omega
                  rw [hkm] at HND HAL
                  have OK := Lib.hid (show plcB w0 h0 ps W H xs x y = true by rw [plcB, HGD.out, decide_eq_true HND.out, HAL.out]; rfl)
                  have HV := Lib.hid (show plcV w0 h0 ps W H xs x y = (ps.take k).map (plcTo W w0 x y) by rw [plcV, if_pos OK.out, hkm])
                  have HO := Lib.hid (hown.lower B.out.size); have HB := Lib.hid hbw
                  clear hown hbw hkm hkm2
                  go_wp2
                  go_ret2
                  exact ⟨_, _, _, by rw [OK.out]; rfl, by rw [HV.out]; exact HO.out, B.out.trans (HB.out.mono B.out.size)⟩

end Go.Proofs.Ytadopgfpfbianaa
