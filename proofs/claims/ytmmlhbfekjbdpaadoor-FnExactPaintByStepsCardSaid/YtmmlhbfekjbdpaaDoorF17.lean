/-
  Contracts: PaintBySteps, in the model.
-/
import Derived.Test.YtmmlhbfekjbdpaaDoorF16
namespace Go.Proofs.YtmmlhbfekjbdpaaDoor
open Go.RowKit

theorem len_PaintBySteps (W H : Int) (xs : List Int) (p q m : Int) : (byLV W H xs p q m).length ≤ 1000000 := by
  unfold byLV
  split
  · rename_i h
    simp only [byOk, Bool.and_eq_true] at h
    obtain ⟨hW, hH, _, _⟩ := goodB_iff.1 h.1
    have := cells_le hW hH
    simp [byL, upTo]; omega
  · simp

theorem byL_at {W H : Int} {xs : List Int} {p q m : Int} {N k : Nat} (hWH : W * H = (N : Int)) (hk : k < N) : (byL W H xs p q m)[k]? = some (if hasB W H xs (k : Int) then byV W p q m (k : Int) else -1) := by
  rw [byL, show (W * H).toNat = N by omega, List.getElem?_map, upTo, List.getElem?_map, List.getElem?_range hk]; rfl

set_option maxRecDepth 100000 in
set_option maxHeartbeats 4000000 in
theorem spec_PaintBySteps (W H : Int) (A : Option Addr) (n c : Nat) (xs : List Int) (p q m : Int) (w : World) (ha : Rd w A n xs) :
    Calls Tryd.prog 16 #[brd W H A n c, .int .i64 p, .int .i64 q, .int .i64 m] w fun e w' => ∃ A' n' c', e = .returned (.tuple #[.slice A' n' c', .bool (byOk W H xs p q m)]) ∧ OwnI 3 w' w.heap.size A' n' c' (byLV W H xs p q m) ∧ Below w.heap.size w w' := by
  have HNO := Lib.hid (fun (h : byOk W H xs p q m = false) => show byLV W H xs p q m = [] by rw [byLV, h]; rfl)
  by_cases hg : goodB W H xs = true
  rotate_left
  · have hg' : goodB W H xs = false := by simpa using hg
    have hok : byOk W H xs p q m = false := by rw [byOk, hg']; rfl
    go_enter Tryd.func16, Tryd.ntmps16
    go_wp2_with fail
    refine (boGood_any _ _ _ _ _ _ _ (ha.alloc _)).mono ?_
    rw [hg']
    rintro e wv ⟨rfl, hb⟩
    have B := Lib.hid (below_box hb)
    clear hb
    go_wp2
    go_ret2
    exact ⟨none, 0, 0, by rw [hok]; rfl, by rw [HNO.out hok]; exact OwnI.none_ _ _ _, B.out⟩
  have HG := Lib.hid hg
  go_enter Tryd.func16, Tryd.ntmps16
  go_wp2_with fail
  refine (boGood_any _ _ _ _ _ _ _ (ha.alloc _)).mono ?_
  rw [hg]
  rintro e wv ⟨rfl, hb⟩
  have a0 := newbox hb 0; have a1 := newbox hb 1; have a2 := newbox hb 2; have al := newbox_lt hb
  simp only [List.getElem?_toArray, List.getElem?_cons_zero, List.getElem?_cons_succ] at a0 a1 a2
  have B := Lib.hid (below_box hb)
  clear hb hg
  go_wp2_with fail
  refine (paMany_any _ _).mono ?_
  rintro e w1 ⟨rfl, rfl⟩
  cases hm : inB m 1 9 with
  | false =>
    have HM := Lib.hid hm
    clear hm
    go_wp2
    go_ret2
    have hok : byOk W H xs p q m = false := by rw [byOk, steps_split, HM.out]; simp
    exact ⟨none, 0, 0, by rw [hok]; rfl, by rw [HNO.out hok]; exact OwnI.none_ _ _ _, B.out⟩
  | true =>
    have HM := Lib.hid hm
    obtain ⟨hm1, hm2⟩ := inB_iff.1 hm
    clear hm
    go_wp2_with fail
    refine (l1In_any _ _ _ _).mono ?_
    rintro e w1 ⟨rfl, rfl⟩
    cases hp : inB p 0 (m - 1) with
    | false =>
      have HP := Lib.hid hp
      clear hp
      go_wp2
      go_ret2
      have hok : byOk W H xs p q m = false := by rw [byOk, steps_split, HP.out]; simp
      exact ⟨none, 0, 0, by rw [hok]; rfl, by rw [HNO.out hok]; exact OwnI.none_ _ _ _, B.out⟩
    | true =>
      have HP := Lib.hid hp
      obtain ⟨hp1, hp2⟩ := inB_iff.1 hp
      clear hp
      go_wp2_with fail
      refine (l1In_any _ _ _ _).mono ?_
      rintro e w1 ⟨rfl, rfl⟩
      cases hq : inB q 0 (m - 1) with
      | false =>
        have HQ := Lib.hid hq
        clear hq
        go_wp2
        go_ret2
        have hok : byOk W H xs p q m = false := by rw [byOk, steps_split, HQ.out]; simp
        exact ⟨none, 0, 0, by rw [hok]; rfl, by rw [HNO.out hok]; exact OwnI.none_ _ _ _, B.out⟩
      | true =>
        have HS := Lib.hid (show stepsOk p q m = true by rw [steps_split, HM.out, HP.out, hq]; rfl)
        obtain ⟨hq1, hq2⟩ := inB_iff.1 hq
        clear hq
        obtain ⟨hW, hH, -, -⟩ := goodB_iff.1 HG.out
        have HN := Lib.hid (cells_le hW hH)
        obtain ⟨hN1, hN2⟩ := HN.out
        obtain ⟨hW1, hW2⟩ := hW
        obtain ⟨hH1, hH2⟩ := hH
        obtain ⟨N, hWH⟩ : ∃ N : Nat, W * H = (N : Int) := ⟨(W * H).toNat, by omega⟩
        obtain ⟨i0, hi, hz0, hz1, hz2⟩ := info_parts infoI
        have HI := Lib.hid hi; have HZ0 := Lib.hid hz0; have HZ1 := Lib.hid hz1; have HZ2 := Lib.hid hz2
        clear hi hz0 hz1 hz2
        rw [hWH] at hN1 hN2
        have hn64 : N ≤ 64 := by omega
        have HR := Lib.hid ha
        clear ha
        go_wp2
        go_loopw [10, 11] (fun v i wr => ∃ (k n' c' : Nat) (A' : Option Addr), k ≤ N ∧ i = .int .i64 k ∧ v = .slice A' n' c' ∧ OwnI 3 wr wv.heap.size A' n' c' ((byL W H xs p q m).take k) ∧ Below wv.heap.size wv wr) (fun _ i _ => N - (intOf i).toNat)
        case atStart => exact ⟨0, 0, 0, none, by omega, rfl, rfl, OwnI.none_ _ _ _, Below.refl _ _⟩
        case round =>
          obtain ⟨k, n', c', A', hk, rfl, rfl, hown, hbw⟩ := hrel
          have hn' : n' ≤ 64 := by have := hown.len; rw [List.length_take] at this; omega
          have HO := Lib.hid hown; have HB := Lib.hid hbw
          have hsw := hbw.size
          have b0 := cell_keep a0 al hbw; have b1 := cell_keep a1 al hbw; have b2 := cell_keep a2 al hbw
          have bl := lt_keep al hbw
          have hhs := boHas_any W H A n c (k : Int) xs wr (HR.out.keep (B.out.trans (hbw.mono B.out.size))) HN.out
          clear hown hbw
          by_cases hlt : k < N
          · have hin := byL_at (xs := xs) (p := p) (q := q) (m := m) hWH hlt
            have HIN := Lib.hid hin
            clear hin
            cases hs : hasB W H xs (k : Int) with
            | true =>
              have HH := Lib.hid hs
              obtain ⟨r1, r2, r3⟩ := mod_bd (c := (k : Int)) ⟨hW1, hW2⟩
              have r4 := Int.ediv_nonneg (show 0 ≤ (k : Int) by omega) (show 0 ≤ W by omega)
              have r5 := Int.ediv_le_self W (show 0 ≤ (k : Int) by omega)
              have hm0 : (m == 0) = false := by simp; omega
              have hW0 : (W == 0) = false := by simp; omega
              have hpx1 : 0 ≤ p * ((k : Int) % W) := Int.mul_nonneg hp1 r1
              have hpx2 : p * ((k : Int) % W) ≤ 8 * 7 := Int.mul_le_mul (by omega) r3 r1 (by omega)
              have hqx1 : 0 ≤ q * ((k : Int) / W) := Int.mul_nonneg hq1 r4
              have hqx2 : q * ((k : Int) / W) ≤ 8 * 64 := Int.mul_le_mul (by omega) (by omega) r4 (by omega)
              go_wp2_with fail
              refine hhs.mono ?_
              rw [hs]
              rintro e wy ⟨rfl, hb⟩
              replace b0 := cell_keep b0 bl hb; replace b1 := cell_keep b1 bl hb; replace b2 := cell_keep b2 bl hb
              replace HO := Lib.hid (HO.out.keep hb); replace HB := Lib.hid (HB.out.trans (hb.mono HB.out.size))
              replace hsw := Nat.le_trans hsw hb.size
              clear hb hhs hs
              go_wp2
              go_quiet (fail)
              go_wp2_with (at_builtin; refine wpList_app1 rfl (.tmp 62) (.tmp 64) 22 3 rfl i0 Tryd.underlying22 HI.out HZ0.out HZ1.out HZ2.out wv.heap.size A' n' c' ((byL W H xs p q m).take k) _ rfl HO.out rfl (by omega) hsw ?_; intro A2 c2 w2 hown2 hb2)
              have HO2 := Lib.hid hown2; have HB2 := Lib.hid ((below_drewN HB.out _).trans hb2)
              clear hown2 hb2
              go_wp2
              go_roundw
              case rel => exact ⟨k + 1, n' + 1, c2, A2, by omega, by go_num, rfl, by rw [List.take_add_one, HIN.out, HH.out]; exact HO2.out, HB2.out⟩
              case measure => simp [intOf]; omega
            | false =>
              have HH := Lib.hid hs
              go_wp2_with fail
              refine hhs.mono ?_
              rw [hs]
              rintro e wy ⟨rfl, hb⟩
              replace HO := Lib.hid (HO.out.keep hb); replace HB := Lib.hid (HB.out.trans (hb.mono HB.out.size))
              replace hsw := Nat.le_trans hsw hb.size
              clear hb hhs hs
              go_wp2_with (at_builtin; refine wpList_app1 rfl (.tmp 62) (.tmp 64) 22 3 rfl i0 Tryd.underlying22 HI.out HZ0.out HZ1.out HZ2.out wv.heap.size A' n' c' ((byL W H xs p q m).take k) _ rfl HO.out rfl (by omega) hsw ?_; intro A2 c2 w2 hown2 hb2)
              have HO2 := Lib.hid hown2; have HB2 := Lib.hid (HB.out.trans hb2)
              clear hown2 hb2
              go_wp2
              go_roundw
              case rel => exact ⟨k + 1, n' + 1, c2, A2, by omega, by go_num, rfl, by rw [List.take_add_one, HIN.out, HH.out]; exact HO2.out, HB2.out⟩
              case measure => simp [intOf]; omega
          · have hkN : k = N := by omega
            subst hkN
            clear hhs b0 b1 b2
            have b0 := cell_keep a0 al HB.out; have b1 := cell_keep a1 al HB.out
            go_wp2
            go_ret2
            have hok : byOk W H xs p q m = true := by rw [byOk, HG.out, HS.out]; rfl
            exact ⟨_, _, _, by rw [hok]; rfl, by
              rw [byLV, hok, if_pos rfl]
              have h := HO.out
              rw [List.take_of_length_le (by rw [byL, show (W * H).toNat = k by omega]; simp [upTo])] at h
              exact h.lower B.out.size, B.out.trans (HB.out.mono B.out.size)⟩
end Go.Proofs.YtmmlhbfekjbdpaaDoor
