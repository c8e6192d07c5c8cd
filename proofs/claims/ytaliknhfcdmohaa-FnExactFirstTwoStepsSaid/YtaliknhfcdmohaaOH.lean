/-
  Contracts: FirstTwoSteps, in the program.
-/
import Derived.Test.YtaliknhfcdmohaaOG
namespace Go.Proofs.Ytaliknhfcdmohaa
open Go.RowKit

set_option maxRecDepth 100000 in
set_option maxHeartbeats 4000000 in
theorem impl_FirstTwoSteps (W H : Int) (ac up : Bool) (a b : Int) (w : World) :
    Calls Try.prog 47 #[ard W H ac up, lpr a b] w fun e w' => e = .returned (.tuple #[.int .i64 (tri0 (ftV W H ac up a b)), .int .i64 (tri1 (ftV W H ac up a b)), .int .i64 (tri2 (ftV W H ac up a b)), .bool (ftV W H ac up a b).isSome]) ∧ Below w.heap.size w w' := by
  obtain ⟨W2, hW2⟩ : ∃ W2, W2 = (w.alloc (.cells #[.int .i64 W, .int .i64 H, .bool ac, .bool up] 25)).alloc (.cells #[.int .i64 a, .int .i64 b] 36) := ⟨_, rfl⟩
  have hsz : W2.heap.size = w.heap.size + 2 := by rw [hW2]; simp
  have a0 : W2.cell? ⟨w.heap.size, 0, none⟩ = some (.int .i64 W) := by rw [hW2]; go_simp
  have a1 : W2.cell? ⟨w.heap.size, 1, none⟩ = some (.int .i64 H) := by rw [hW2]; go_simp
  have a2 : W2.cell? ⟨w.heap.size, 2, none⟩ = some (.bool ac) := by rw [hW2]; go_simp
  have a3 : W2.cell? ⟨w.heap.size, 3, none⟩ = some (.bool up) := by rw [hW2]; go_simp
  have al : w.heap.size < W2.heap.size := by omega
  have l0 : W2.cell? ⟨w.heap.size + 1, 0, none⟩ = some (.int .i64 a) := by rw [hW2]; go_simp
  have l1 : W2.cell? ⟨w.heap.size + 1, 1, none⟩ = some (.int .i64 b) := by rw [hW2]; go_simp
  have ll : w.heap.size + 1 < W2.heap.size := by omega
  have B := Lib.hid (show Below w.heap.size w W2 by rw [hW2]; repeat (first | exact Below.refl _ _ | refine below_new ?_ _))
  have HE := Lib.hid (show (leaperB a b && aroundB W H []) = twoA W H a b by rw [aroundB_nil]; rfl)
  cases ht : twoA W H a b
  · have OK := Lib.hid (show ftV W H ac up a b = none by rw [ftV, ht]; rfl)
    go_enter Try.func47, Try.ntmps47
    go_wp2_with fail
    rw [← hW2]
    clear hW2
    refine (isLeaperAround_any W H ac up a b none 0 0 [] _ (Rd.nil _ _)).mono ?_
    rw [HE.out, ht]
    rintro e wv ⟨rfl, hb⟩
    replace a0 := cell_keep a0 al hb
    replace a1 := cell_keep a1 al hb
    replace a2 := cell_keep a2 al hb
    replace a3 := cell_keep a3 al hb
    replace al := lt_keep al hb
    replace l0 := cell_keep l0 ll hb
    replace l1 := cell_keep l1 ll hb
    replace ll := lt_keep ll hb
    replace B := Lib.hid (below_next B.out hb)
    clear hb
    clear HE
    clear a0 a1 a2 a3 l0 l1 al ll
    go_wp2
    rw [OK.out]
    refine bodyPost_ret (v := .tuple #[.int .i64 0, .int .i64 0, .int .i64 0, .bool false]) ?_ rfl ⟨rfl, B.out⟩
    simp [results, Try.results47, go_sem]
  · have HT := Lib.hid (twoA_iff.1 ht)
    have hA := areaA HT.out.2
    obtain ⟨A1, A2⟩ := hA
    obtain ⟨R, hR⟩ : ∃ R, ftV W H ac up a b = R := ⟨_, rfl⟩
    rw [hR]
    have HR := Lib.hid (show R = seekN (ftF W H ac up a b) 0 (stepsL a b).length by rw [← hR, ftV, ht]; rfl)
    clear hR
    go_enter Try.func47, Try.ntmps47
    go_wp2_with fail
    rw [← hW2]
    clear hW2
    refine (isLeaperAround_any W H ac up a b none 0 0 [] _ (Rd.nil _ _)).mono ?_
    rw [HE.out, ht]
    rintro e wv ⟨rfl, hb⟩
    replace a0 := cell_keep a0 al hb
    replace a1 := cell_keep a1 al hb
    replace a2 := cell_keep a2 al hb
    replace a3 := cell_keep a3 al hb
    replace al := lt_keep al hb
    replace l0 := cell_keep l0 ll hb
    replace l1 := cell_keep l1 ll hb
    replace ll := lt_keep ll hb
    replace B := Lib.hid (below_next B.out hb)
    clear hb
    clear HE
    go_wp2_with fail
    refine (stepsOf_any a b _ HT.out.1).mono ?_
    rintro e ws ⟨AS, n1, c1, rfl, hst, hb⟩
    have SLN := Lib.hid hst.len; have ST := Lib.hid hst
    replace a0 := cell_keep a0 al hb
    replace a1 := cell_keep a1 al hb
    replace a2 := cell_keep a2 al hb
    replace a3 := cell_keep a3 al hb
    replace al := lt_keep al hb
    replace l0 := cell_keep l0 ll hb
    replace l1 := cell_keep l1 ll hb
    replace ll := lt_keep ll hb
    replace B := Lib.hid (below_next B.out hb)
    clear hb
    clear hst
    have n8 : n1 ≤ 8 := by have := stepsL_len HT.out.1; have := SLN.out; omega
    rw [SLN.out] at HR
    have HFF := Lib.hid (fun k => show ftF W H ac up a b k = seekN (ftS W H ac up a b k) 0 n1 by rw [ftF, SLN.out])
    clear hsz
    have hww : IntKind.i64.wrap (W * H) = W * H := IntWalk.i64_in _ (by omega)
    have AL := Lib.hid (⟨a0, a1, a2, a3, l0, l1⟩ : ws.cell? ⟨w.heap.size, 0, none⟩ = some (.int .i64 W) ∧ ws.cell? ⟨w.heap.size, 1, none⟩ = some (.int .i64 H) ∧ ws.cell? ⟨w.heap.size, 2, none⟩ = some (.bool ac) ∧ ws.cell? ⟨w.heap.size, 3, none⟩ = some (.bool up) ∧ ws.cell? ⟨w.heap.size + 1, 0, none⟩ = some (.int .i64 a) ∧ ws.cell? ⟨w.heap.size + 1, 1, none⟩ = some (.int .i64 b))
    clear a0 a1 a2 a3 l0 l1
    go_wp2
    go_loopw [22] (fun u wr => ∃ k : Nat, k ≤ n1 ∧ u = .int .i64 k ∧ R = seekN (ftF W H ac up a b) k (n1 - k) ∧ Below ws.heap.size ws wr) (fun u _ => n1 - (intOf u).toNat)
    case atStart => exact ⟨0, by omega, rfl, HR.out, Below.refl _ _⟩
    case round =>
      obtain ⟨k, hk, rfl, hr1, hbw⟩ := hrel
      have HR1 := Lib.hid hr1; have HB := Lib.hid hbw
      clear hr1
      by_cases hlt : k < n1
      · obtain ⟨⟨dx1, dy1⟩, hx1⟩ : ∃ p, (stepsL a b)[k]? = some p := ⟨_, List.getElem?_eq_getElem (show k < (stepsL a b).length by have := SLN.out; omega)⟩
        obtain ⟨g1, rfl, _, hg1⟩ := ST.out.some_ hlt
        obtain ⟨x0, x1⟩ := pair_at ST.out hx1
        simp only at x0 x1
        replace x0 := cell_keep x0 hg1 hbw; replace x1 := cell_keep x1 hg1 hbw
        have HX1 := Lib.hid hx1
        have HS1 := Lib.hid (show stepN a b k = (dx1, dy1) by rw [stepN, Int.toNat_natCast, List.getD_eq_getElem?_getD, hx1]; rfl)
        have HB1 := Lib.hid (stepsL_bd HT.out.1 (List.mem_of_getElem? hx1))
        go_upto_region 7 with fail
        obtain ⟨W3, hW3⟩ : ∃ W3, W3 = wr.alloc (.cells #[.int .i64 dx1, .int .i64 dy1] 59) := ⟨_, rfl⟩
        obtain ⟨go1, hgo⟩ : ∃ go1, go1 = wr.heap.size := ⟨_, rfl⟩
        have p0 : W3.cell? ⟨go1, 0, none⟩ = some (.int .i64 dx1) := by rw [hW3, hgo]; go_simp
        have p1 : W3.cell? ⟨go1, 1, none⟩ = some (.int .i64 dy1) := by rw [hW3, hgo]; go_simp
        have pl : go1 < W3.heap.size := by rw [hW3, hgo]; simp
        have hb3 : Below wr.heap.size wr W3 := by rw [hW3]; exact below_new (Below.refl _ _) _
        rw [← hW3, ← hgo]
        have HB3 := Lib.hid (HB.out.trans (hb3.mono HB.out.size))
        have HP := Lib.hid (⟨p0, p1, pl⟩ : W3.cell? ⟨go1, 0, none⟩ = some (.int .i64 dx1) ∧ W3.cell? ⟨go1, 1, none⟩ = some (.int .i64 dy1) ∧ go1 < W3.heap.size)
        clear hW3 hgo hb3 x0 x1 p0 p1 pl hx1 HB hbw hg1
        go_wp2
        go_loopw [29] (fun u wr => ∃ j : Nat, j ≤ n1 ∧ u = .int .i64 j ∧ R = (seekN (ftS W H ac up a b k) j (n1 - j)).or (seekN (ftF W H ac up a b) (k + 1) (n1 - (k + 1))) ∧ Below W3.heap.size W3 wr) (fun u _ => n1 - (intOf u).toNat)
        case atStart => exact ⟨0, by omega, rfl, by rw [HR1.out, seekN_succ _ hlt, HFF.out]; rfl, Below.refl _ _⟩
        case round =>
          skip
          obtain ⟨j, hj, rfl, hr2, hbw⟩ := hrel
          have HR2 := Lib.hid hr2; have HB := Lib.hid hbw
          clear hr2
          by_cases hjt : j < n1
          · obtain ⟨⟨dx2, dy2⟩, hx2⟩ : ∃ p, (stepsL a b)[j]? = some p := ⟨_, List.getElem?_eq_getElem (show j < (stepsL a b).length by have := SLN.out; omega)⟩
            obtain ⟨g2, he2, _, hg2⟩ := ST.out.some_ hjt
            injection he2 with he2
            injection he2 with he2 _ _
            subst he2
            obtain ⟨y0, y1⟩ := pair_at ST.out hx2
            simp only at y0 y1
            replace y0 := cell_keep y0 hg2 (HB3.out.trans (hbw.mono HB3.out.size)); replace y1 := cell_keep y1 hg2 (HB3.out.trans (hbw.mono HB3.out.size))
            have HS2 := Lib.hid (show stepN a b j = (dx2, dy2) by rw [stepN, Int.toNat_natCast, List.getD_eq_getElem?_getD, hx2]; rfl)
            have HB2 := Lib.hid (stepsL_bd HT.out.1 (List.mem_of_getElem? hx2))
            go_upto_region 10 with fail
            obtain ⟨W4, hW4⟩ : ∃ W4, W4 = wr.alloc (.cells #[.int .i64 dx2, .int .i64 dy2] 59) := ⟨_, rfl⟩
            obtain ⟨go2, hgo⟩ : ∃ go2, go2 = wr.heap.size := ⟨_, rfl⟩
            have p0 : W4.cell? ⟨go2, 0, none⟩ = some (.int .i64 dx2) := by rw [hW4, hgo]; go_simp
            have p1 : W4.cell? ⟨go2, 1, none⟩ = some (.int .i64 dy2) := by rw [hW4, hgo]; go_simp
            have pl : go2 < W4.heap.size := by rw [hW4, hgo]; simp
            have hb4 : Below wr.heap.size wr W4 := by rw [hW4]; exact below_new (Below.refl _ _) _
            rw [← hW4, ← hgo]
            have HB4 := Lib.hid (HB.out.trans (hb4.mono HB.out.size))
            have HQ := Lib.hid (⟨p0, p1, pl⟩ : W4.cell? ⟨go2, 0, none⟩ = some (.int .i64 dx2) ∧ W4.cell? ⟨go2, 1, none⟩ = some (.int .i64 dy2) ∧ go2 < W4.heap.size)
            clear hW4 hgo hb4 y0 y1 p0 p1 pl hx2 HB hbw hg2
            go_wp2
            go_loopw [13] (fun u wr => ∃ i : Nat, i ≤ 49 ∧ u = .int .i64 ((i : Int) + 2) ∧ R = ((seekN (ftT W H ac up a b k j) i (49 - i)).or (seekN (ftS W H ac up a b k) (j + 1) (n1 - (j + 1)))).or (seekN (ftF W H ac up a b) (k + 1) (n1 - (k + 1))) ∧ Below W4.heap.size W4 wr) (fun u _ => 51 - (intOf u).toNat)
            case atStart => exact ⟨0, by omega, rfl, by rw [HR2.out, seekN_succ _ hjt]; rfl, Below.refl _ _⟩
            case round =>
              skip
              obtain ⟨i, hi, rfl, hr3, hbw⟩ := hrel
              have HR3 := Lib.hid hr3; have HB := Lib.hid hbw
              have b0 := cell_keep AL.out.1 al (HB3.out.trans ((HB4.out.trans (hbw.mono HB4.out.size)).mono HB3.out.size)); have b1 := cell_keep AL.out.2.1 al (HB3.out.trans ((HB4.out.trans (hbw.mono HB4.out.size)).mono HB3.out.size)); have b2 := cell_keep AL.out.2.2.1 al (HB3.out.trans ((HB4.out.trans (hbw.mono HB4.out.size)).mono HB3.out.size)); have b3 := cell_keep AL.out.2.2.2.1 al (HB3.out.trans ((HB4.out.trans (hbw.mono HB4.out.size)).mono HB3.out.size)); have c0 := cell_keep AL.out.2.2.2.2.1 ll (HB3.out.trans ((HB4.out.trans (hbw.mono HB4.out.size)).mono HB3.out.size)); have c1' := cell_keep AL.out.2.2.2.2.2 ll (HB3.out.trans ((HB4.out.trans (hbw.mono HB4.out.size)).mono HB3.out.size)); have bl := lt_keep al (HB3.out.trans ((HB4.out.trans (hbw.mono HB4.out.size)).mono HB3.out.size)); have cl := lt_keep ll (HB3.out.trans ((HB4.out.trans (hbw.mono HB4.out.size)).mono HB3.out.size))
              clear hr3
              by_cases hit : i < 49
              · cases hv : visA W H ac up (stepN a b k) (stepN a b j) ((i : Int) + 2) with
                | true =>
                  have HV := Lib.hid (show R = some (k, j, i + 2) by rw [HR3.out, seekN_succ _ hit, ftT, hv, if_pos rfl]; rfl)
                  have o0 := cell_keep (cell_keep HP.out.1 HP.out.2.2 HB4.out) (lt_keep HP.out.2.2 HB4.out) hbw; have o1 := cell_keep (cell_keep HP.out.2.1 HP.out.2.2 HB4.out) (lt_keep HP.out.2.2 HB4.out) hbw; have d0 := cell_keep HQ.out.1 HQ.out.2.2 hbw; have d1 := cell_keep HQ.out.2.1 HQ.out.2.2 hbw
                  rw [HS1.out, HS2.out] at hv
                  clear hbw
                  go_wp2_with fail
                  refine (visitsAll_any W H ac up dx1 dy1 dx2 dy2 ((i : Int) + 2) _ HT.out.2 HB1.out HB2.out (by omega)).mono ?_
                  rw [hv]
                  rintro e wx ⟨rfl, hb⟩
                  replace HB := Lib.hid (HB.out.trans (hb.mono HB.out.size))
                  rw [← HS1.out, ← HS2.out] at hv
                  clear hb o0 o1 d0 d1 b0 b1 b2 b3 c0 c1'
                  go_wp2
                  rw [HV.out]
                  refine bodyPost_ret (v := .tuple #[.int .i64 (k : Int), .int .i64 (j : Int), .int .i64 ((i : Int) + 2), .bool true]) ?_ rfl ⟨rfl, B.out.trans ((HB3.out.trans ((HB4.out.trans (HB.out.mono HB4.out.size)).mono HB3.out.size)).mono B.out.size)⟩
                  simp [results, Try.results47, go_sem]
                | false =>
                  have HV := Lib.hid (show R = ((seekN (ftT W H ac up a b k j) (i + 1) (49 - (i + 1))).or (seekN (ftS W H ac up a b k) (j + 1) (n1 - (j + 1)))).or (seekN (ftF W H ac up a b) (k + 1) (n1 - (k + 1))) by rw [HR3.out, seekN_succ _ hit, ftT, hv]; rfl)
                  have o0 := cell_keep (cell_keep HP.out.1 HP.out.2.2 HB4.out) (lt_keep HP.out.2.2 HB4.out) hbw; have o1 := cell_keep (cell_keep HP.out.2.1 HP.out.2.2 HB4.out) (lt_keep HP.out.2.2 HB4.out) hbw; have d0 := cell_keep HQ.out.1 HQ.out.2.2 hbw; have d1 := cell_keep HQ.out.2.1 HQ.out.2.2 hbw
                  rw [HS1.out, HS2.out] at hv
                  clear hbw
                  go_wp2_with fail
                  refine (visitsAll_any W H ac up dx1 dy1 dx2 dy2 ((i : Int) + 2) _ HT.out.2 HB1.out HB2.out (by omega)).mono ?_
                  rw [hv]
                  rintro e wx ⟨rfl, hb⟩
                  replace HB := Lib.hid (HB.out.trans (hb.mono HB.out.size))
                  rw [← HS1.out, ← HS2.out] at hv
                  clear hb o0 o1 d0 d1 b0 b1 b2 b3 c0 c1'
                  go_wp2
                  go_roundw
                  case rel => exact ⟨i + 1, by omega, by go_num, HV.out, HB.out⟩
                  case measure => simp [intOf]; omega
              · have ei : i = 49 := by omega
                subst ei
                have HV := Lib.hid (show R = (seekN (ftS W H ac up a b k) (j + 1) (n1 - (j + 1))).or (seekN (ftF W H ac up a b) (k + 1) (n1 - (k + 1))) by rw [HR3.out]; rfl)
                clear b0 b1 b2 b3 c0 c1'
                go_wp2
                go_roundw
                case rel => exact ⟨j + 1, by omega, by go_num, HV.out, HB4.out.trans (HB.out.mono HB4.out.size)⟩
                case measure => simp [intOf]; omega
          · have ej : j = n1 := by omega
            subst ej
            have HV := Lib.hid (show R = seekN (ftF W H ac up a b) (k + 1) (j - (k + 1)) by rw [HR2.out, Nat.sub_self]; rfl)
            clear hbw
            go_wp2
            go_roundw
            case rel => exact ⟨k + 1, by omega, by go_num, HV.out, HB3.out.trans (HB.out.mono HB3.out.size)⟩
            case measure => simp [intOf]; omega
      · have ek : k = n1 := by omega
        subst ek
        have HV := Lib.hid (show R = none by rw [HR1.out, Nat.sub_self]; rfl)
        clear hbw
        go_wp2
        rw [HV.out]
        refine bodyPost_ret (v := .tuple #[.int .i64 0, .int .i64 0, .int .i64 0, .bool false]) ?_ rfl ⟨rfl, B.out.trans (HB.out.mono B.out.size)⟩
        simp [results, Try.results47, go_sem]

end Go.Proofs.Ytaliknhfcdmohaa
