/-
  Contracts: JoinClosed, in the model.
-/
import Derived.Test.YtphjkmikleldcaaZG
namespace Go.Proofs.Ytphjkmikleldcaa
open Go.RowKit

theorem join_no {W H a b : Int} {xs ps qs : List Int} (h : joinsL W a b ps qs = []) : okJoin W H xs a b ps qs = false ∧ joinJ W H xs a b ps qs = [] := by
  rw [okJoin, joinJ, h]; exact ⟨by simp, by split <;> rfl⟩
theorem join_yes {W H a b : Int} {xs ps qs : List Int} {t : Trip} (h0 : okTwo2 W H xs a b ps qs = true) (h : (joinsL W a b ps qs).head? = some t) : okJoin W H xs a b ps qs = true ∧ joinJ W H xs a b ps qs = joinedL ps qs t := by
  rw [okJoin, joinJ, h, if_pos h0, h0]; exact ⟨rfl, rfl⟩
theorem join_bad {W H a b : Int} {xs ps qs : List Int} (h : okTwo2 W H xs a b ps qs = false) : okJoin W H xs a b ps qs = false ∧ joinJ W H xs a b ps qs = [] := by
  rw [okJoin, joinJ, h]; exact ⟨rfl, rfl⟩

set_option maxRecDepth 100000 in
set_option maxHeartbeats 4000000 in
theorem spec_JoinClosed (W H : Int) (A : Option Addr) (n c : Nat) (xs : List Int) (a b : Int) (A2 : Option Addr) (m c2 : Nat) (ps : List Int) (A3 : Option Addr) (k c3 : Nat) (qs : List Int) (w : World) (ha : Rd w A n xs) (hp : Rd w A2 m ps) (hcap : m ≤ c2) (hq : Rd w A3 k qs) (hcapq : k ≤ c3) :
    Calls Try.prog 33 #[brd W H A n c, lpr a b, .slice A2 m c2, .slice A3 k c3] w fun e w' => ∃ A' n' c', e = .returned (.tuple #[.slice A' n' c', .bool (okJoin W H xs a b ps qs)]) ∧ OwnI 3 w' w.heap.size A' n' c' (joinJ W H xs a b ps qs) ∧ Below w.heap.size w w' := by
  have HPL := Lib.hid hp.1; have HQL := Lib.hid hq.1
  have m9 := hp.2.1; have k9 := hq.2.1
  obtain ⟨W2, hW2⟩ : ∃ W2, W2 = (w.alloc (.cells #[.int .i64 W, .int .i64 H, .slice A n c] 30)).alloc (.cells #[.int .i64 a, .int .i64 b] 32) := ⟨_, rfl⟩
  have a0 : W2.cell? ⟨w.heap.size, 0, none⟩ = some (.int .i64 W) := by rw [hW2]; go_simp
  have a1 : W2.cell? ⟨w.heap.size, 1, none⟩ = some (.int .i64 H) := by rw [hW2]; go_simp
  have a2 : W2.cell? ⟨w.heap.size, 2, none⟩ = some (.slice A n c) := by rw [hW2]; go_simp
  have l0 : W2.cell? ⟨w.heap.size + 1, 0, none⟩ = some (.int .i64 a) := by rw [hW2]; go_simp
  have l1 : W2.cell? ⟨w.heap.size + 1, 1, none⟩ = some (.int .i64 b) := by rw [hW2]; go_simp
  have al : w.heap.size < W2.heap.size := by rw [hW2]; simp; omega
  have ll : w.heap.size + 1 < W2.heap.size := by rw [hW2]; simp
  have B := Lib.hid (show Below w.heap.size w W2 by rw [hW2]; exact ((Below.refl _ _).alloc (Nat.le_refl _) _).alloc (by simp) _)
  have R := Lib.hid (ha.keep B.out); have RP := Lib.hid (hp.keep B.out); have RQ := Lib.hid (hq.keep B.out)
  clear ha hp hq
  cases hok : okTwo2 W H xs a b ps qs with
  | true =>
    have HOK := Lib.hid hok
    clear hok
    go_enter Try.func33, Try.ntmps33
    go_wp2_with fail
    rw [← hW2]
    clear hW2
    refine (blTwo_any W H A n c xs a b A2 m c2 ps A3 k c3 qs _ R.out RP.out hcap RQ.out hcapq).mono ?_
    rw [HOK.out]
    rintro e wv ⟨rfl, hb⟩
    replace a0 := cell_keep a0 al hb; replace a1 := cell_keep a1 al hb; replace a2 := cell_keep a2 al hb; replace al := lt_keep al hb
    replace l0 := cell_keep l0 ll hb; replace l1 := cell_keep l1 ll hb; replace ll := lt_keep ll hb
    replace R := Lib.hid (R.out.keep hb); replace RP := Lib.hid (RP.out.keep hb)
    replace B := Lib.hid (below_next B.out hb)
    replace RQ := Lib.hid (RQ.out.keep hb)
    clear hb
    have HOP := Lib.hid (two_p HOK.out); have HOQ := Lib.hid (two_q HOK.out)
    have hml := ok_len HOP.out; have hkl := ok_len HOQ.out
    rw [HPL.out] at hml; rw [HQL.out] at hkl
    have HWW := Lib.hid (ok_W HOP.out)
    have HP64 := Lib.hid (ok_64 HOP.out); have HQ64 := Lib.hid (ok_64 HOQ.out)
    have HML := Lib.hid hml.2; have HKL := Lib.hid hkl.2
    have AL := Lib.hid al; have LL := Lib.hid ll
    have HA := Lib.hid (⟨a0, a1, a2, l0, l1⟩ : wv.cell? ⟨w.heap.size, 0, none⟩ = some (.int .i64 W) ∧ wv.cell? ⟨w.heap.size, 1, none⟩ = some (.int .i64 H) ∧ wv.cell? ⟨w.heap.size, 2, none⟩ = some (.slice A n c) ∧ wv.cell? ⟨w.heap.size + 1, 0, none⟩ = some (.int .i64 a) ∧ wv.cell? ⟨w.heap.size + 1, 1, none⟩ = some (.int .i64 b))
    obtain ⟨hm1, hm64⟩ := hml
    obtain ⟨hk1, hk64⟩ := hkl
    obtain ⟨i0, hi, hz0, hz1, hz2⟩ := info_parts infoI
    have HI := Lib.hid hi; have HZ0 := Lib.hid hz0; have HZ1 := Lib.hid hz1; have HZ2 := Lib.hid hz2
    clear a0 a1 a2 l0 l1 al ll R hi hz0 hz1 hz2
    go_wp2
    go_loopw [26] (fun s wr => ∃ i : Nat, i ≤ m ∧ s = .int .i64 i ∧ allTo W a b ps qs i = [] ∧ Below wv.heap.size wv wr) (fun s _ => m - (intOf s).toNat)
    case atStart => exact ⟨0, Nat.zero_le _, rfl, rfl, Below.refl _ _⟩
    case round =>
      obtain ⟨i, hi, rfl, hno, hbw⟩ := hrel
      have HBI := Lib.hid hbw; have HNI := Lib.hid hno
      clear hbw hno
      by_cases hltI : i < m
      · have hiI : (i : Int) < (m : Int) := by omega
        go_wp2
        go_loopw [31] (fun s wr => ∃ j : Nat, j ≤ k ∧ s = .int .i64 j ∧ accL W a b ps qs i j 0 = [] ∧ Below wv.heap.size wv wr) (fun s _ => k - (intOf s).toNat)
        case atStart => exact ⟨0, Nat.zero_le _, rfl, (by rw [acc_start]; exact HNI.out), HBI.out⟩
        case round =>
          obtain ⟨j, hj, rfl, hM, hbw⟩ := hrel
          have HBJ := Lib.hid hbw; have HM := Lib.hid hM
          clear hbw hM
          by_cases hltJ : j < k
          · have hjJ : (j : Int) < (k : Int) := by omega
            go_wp2
            go_loopw [13] (fun s wr => ∃ t : Nat, t ≤ 2 ∧ s = .int .i64 t ∧ accL W a b ps qs i j t = [] ∧ Below wv.heap.size wv wr) (fun s _ => 2 - (intOf s).toNat)
            case atStart => exact ⟨0, Nat.zero_le _, rfl, HM.out, HBJ.out⟩
            case round =>
              obtain ⟨t, ht, rfl, hL, hbw⟩ := hrel
              have HL := Lib.hid hL
              have HB := Lib.hid hbw
              clear hL
              have ht3 : t = 0 ∨ t = 1 ∨ t = 2 := by omega
              have a0 := cell_keep HA.out.1 AL.out hbw; have a1 := cell_keep HA.out.2.1 AL.out hbw; have a2 := cell_keep HA.out.2.2.1 AL.out hbw; have l0 := cell_keep HA.out.2.2.2.1 LL.out hbw; have l1 := cell_keep HA.out.2.2.2.2 LL.out hbw
              rcases ht3 with rfl | rfl | rfl
              · cases hj0 : jB W a b ps qs i j false with
                | true =>
                  have HHD := Lib.hid (show (joinsL W a b ps qs).head? = some (i, j, false) by
                    obtain ⟨R9, h9⟩ := acc_pre (W := W) (a := a) (b := b) (ps := ps) (qs := qs) (i := i) (j := j) (t := 0 + 1) (by rw [HPL.out]; exact hltI) (by rw [HQL.out]; exact hltJ) (by omega)
                    rw [h9, acc_yes (k := 0) (by omega) (show jB W a b ps qs i j (wayB 0) = true from hj0), HL.out]; rfl)
                  have OK := Lib.hid (join_yes HOK.out HHD.out)
                  have hS := blJoin_any W H A n c a b A2 m c2 ps A3 k c3 qs i j false wr (RP.out.keep hbw) (RQ.out.keep hbw) HWW.out HP64.out HQ64.out HML.out HKL.out hltI hltJ
                  rw [hj0] at hS
                  have hi1c : (i : Int) + 1 ≤ (c2 : Int) := by omega
                  have hi1m : (i : Int) + 1 ≤ (m : Int) := by omega
                  have hi0 : (0 : Int) ≤ (i : Int) + 1 := by omega
                  have hmc : (m : Int) ≤ (c2 : Int) := by omega
                  have hwi : IntKind.i64.wrap ((i : Int) + 1) = (i : Int) + 1 := IntWalk.i64_in _ (by omega)
                  have hti : ((i : Int) + 1).toNat = i + 1 := by omega
                  clear hj0 hbw
                  go_wp2_with fail
                  refine hS.mono ?_
                  rintro e wx ⟨rfl, hb⟩
                  replace HB := Lib.hid (HB.out.trans (hb.mono HB.out.size))
                  clear hS hb a0 a1 a2 l0 l1
                  have RPX := Lib.hid ((RP.out.keep HB.out).take (show i + 1 ≤ m by omega))
                  go_wp2_with fail
                  refine (l1Own_all A2 (i + 1) c2 (ps.take (i + 1)) _ RPX.out (by omega)).mono ?_
                  rintro e wy ⟨A5, c5, rfl, own, hb⟩
                  have hlow : wv.heap.size ≤ wx.heap.size := HB.out.size
                  have O5 := Lib.hid (own.lower hlow)
                  replace HB := Lib.hid (HB.out.trans (hb.mono HB.out.size))
                  clear own hb RPX
                  go_wp2
                  go_loopw [14, 15] (fun v u wr => ∃ (s n' c' : Nat) (A' : Option Addr), s ≤ k ∧ u = .int .i64 s ∧ v = .slice A' n' c' ∧ n' = i + 1 + s ∧ OwnI 3 wr wv.heap.size A' n' c' (ps.take (i + 1) ++ (innerL qs j false).take s) ∧ Below wv.heap.size wv wr) (fun _ u _ => k - (intOf u).toNat)
                  case atStart => exact ⟨0, i + 1, c5, A5, Nat.zero_le _, rfl, rfl, by omega, (by rw [List.take_zero, List.append_nil]; exact O5.out), HB.out⟩
                  case round =>
                    obtain ⟨s, n', c', A', hs, rfl, rfl, hn', hown, hbw⟩ := hrel
                    have HNN := Lib.hid hn'
                    have HO := Lib.hid hown; have HB2 := Lib.hid hbw
                    have hsw := hbw.size
                    have RQX := Lib.hid (RQ.out.keep hbw)
                    clear hn' hown
                    by_cases hlt : s < k
                    · obtain ⟨e1, he1⟩ : ∃ e, e = (j + s) % k := ⟨_, rfl⟩
                      have he1k : e1 < k := by rw [he1]; exact Nat.mod_lt _ (by omega)
                      obtain ⟨b2, o2, y, he2, lq, hy, y0⟩ := RQX.out.at_ he1k
                      have HTK := Lib.hid (inner_take (back := false) (s := s) (j := j) (qs := qs) (x := y) (by rw [HQL.out]; exact hltJ) (by rw [HQL.out]; exact hlt) (by rw [HQL.out]; show qs[(j + s) % k]? = some y; rw [← he1]; exact hy))
                      have HE1 := Lib.hid he1
                      have hw1 : IntKind.i64.wrap ((j : Int) + (s : Int)) = (j : Int) + (s : Int) := IntWalk.i64_in _ (by omega)
                      have hmod : ((j : Int) + (s : Int)).tmod (k : Int) = (e1 : Int) := by rw [HE1.out, Int.tmod_eq_emod_of_nonneg (by omega)]; simp
                      have hke : ¬ (k : Int) = 0 := by omega
                      have hke' : ¬ k = 0 := by omega
                      have ge1 : (0 : Int) ≤ (e1 : Int) := by omega
                      have le1 : (e1 : Int) < (k : Int) := by omega
                      have hsk : (s : Int) < (k : Int) := by omega
                      have hws : IntKind.i64.wrap ((s : Int) + 1) = (s : Int) + 1 := IntWalk.i64_in _ (by omega)
                      have hwe : IntKind.i64.wrap (e1 : Int) = (e1 : Int) := IntWalk.i64_in _ (by omega)
                      have hn9 : n' ≤ 1000000 := by have := HNN.out; omega
                      subst he2
                      clear hy he1 hbw
                      go_wp2_with (at_builtin; refine wpList_app1 rfl (.tmp 60) (.tmp 69) 22 3 rfl i0 Try.underlying22 HI.out HZ0.out HZ1.out HZ2.out wv.heap.size A' n' c' (ps.take (i + 1) ++ (innerL qs j false).take s) y rfl HO.out rfl hn9 hsw ?_; intro A7 c7 w7 hown7 hb7)
                      have O7 := Lib.hid hown7
                      have B7 := Lib.hid (HB2.out.trans hb7)
                      clear hown7 hb7 y0
                      go_wp2
                      go_roundw
                      case rel => exact ⟨s + 1, n' + 1, c7, A7, by omega, by go_num, rfl, by have := HNN.out; omega, (by rw [HTK.out, ← List.append_assoc]; exact O7.out), B7.out⟩
                      case measure => simp [intOf]; omega
                    · have hsk : ¬ (s : Int) < (k : Int) := by omega
                      have hEQ : s = k := by omega
                      have HO2 := Lib.hid (show OwnI 3 wr wv.heap.size A' n' c' (ps.take (i + 1) ++ innerL qs j false) by
                        have h := HO.out
                        rw [hEQ, List.take_of_length_le (l := innerL qs j false) (by rw [inner_len, HQL.out]; exact Nat.le_refl _)] at h
                        exact h)
                      have HJL := Lib.hid (show joinJ W H xs a b ps qs = ps.take (i + 1) ++ innerL qs j false ++ ps.drop (i + 1) from OK.out.2)
                      have hn9 : n' ≤ 200 := by have := HNN.out; omega
                      have RPY := Lib.hid (RP.out.keep hbw)
                      clear hEQ hbw
                      obtain ⟨bb, oo, x9, rfl, -, -, -⟩ := RPY.out.at_ (k := 0) (by omega)
                      have hdl : (ps.drop (i + 1)).length = m - (i + 1) := by rw [List.length_drop, HPL.out]
                      have HDL := Lib.hid hdl
                      clear hdl
                      by_cases hcc : c2 = i + 1
                      · have HD0 := Lib.hid (show ps.drop (i + 1) = [] from List.drop_of_length_le (by rw [HPL.out]; omega))
                        have hmi : m = i + 1 := by omega
                        subst hmi
                        subst hcc
                        go_wp2_with (at_builtin; refine wpList_appN rfl (.tmp 84) (.tmp 88) 22 3 rfl i0 Try.underlying22 HI.out HZ0.out HZ1.out HZ2.out wv.heap.size A' n' c' (ps.take (i + 1) ++ innerL qs j false) _ 0 _ [] rfl HO2.out (by first | rfl | simp) rfl (fun j y hj => by simp at hj) (by omega) hsw ?_; intro A7 c7 w7 hown7 hb7)
                        have O7 := Lib.hid ((show OwnI 3 w7 wv.heap.size A7 n' c7 (ps.take (i + 1) ++ innerL qs j false) by
                          have h := hown7
                          rw [List.append_nil] at h
                          exact h).lower B.out.size)
                        have B7 := Lib.hid (HB2.out.trans hb7)
                        clear hown7 hb7
                        go_wp2
                        go_ret2
                        exact ⟨_, _, _, by rw [OK.out.1]; rfl, by rw [HJL.out, HD0.out, List.append_nil]; exact O7.out, B.out.trans (B7.out.mono B.out.size)⟩
                      · have RD := Lib.hid (RPY.out.drop (show i + 1 ≤ m by omega))
                        go_wp2_with (at_builtin; refine wpList_appN rfl (.tmp 84) (.tmp 88) 22 3 rfl i0 Try.underlying22 HI.out HZ0.out HZ1.out HZ2.out wv.heap.size A' n' c' (ps.take (i + 1) ++ innerL qs j false) ⟨bb, oo + (i + 1), none⟩ (m - (i + 1)) (c2 - (i + 1)) (ps.drop (i + 1)) rfl HO2.out rfl HDL.out (fun j y hj => RD.out.cell_ hj) (by omega) hsw ?_; intro A7 c7 w7 hown7 hb7)
                        have O7 := Lib.hid (hown7.lower B.out.size)
                        have B7 := Lib.hid (HB2.out.trans hb7)
                        clear hown7 hb7
                        go_wp2
                        go_ret2
                        exact ⟨_, _, _, by rw [OK.out.1]; rfl, by rw [HJL.out]; exact O7.out, B.out.trans (B7.out.mono B.out.size)⟩
                | false =>
                  have HJ := Lib.hid (acc_no (k := 0) (by omega) (show jB W a b ps qs i j (wayB 0) = false from hj0))
                  have hS := blJoin_any W H A n c a b A2 m c2 ps A3 k c3 qs i j false wr (RP.out.keep hbw) (RQ.out.keep hbw) HWW.out HP64.out HQ64.out HML.out HKL.out hltI hltJ
                  rw [hj0] at hS
                  clear hj0 hbw
                  go_wp2_with fail
                  refine hS.mono ?_
                  rintro e wx ⟨rfl, hb⟩
                  replace HB := Lib.hid (HB.out.trans (hb.mono HB.out.size))
                  clear hS hb a0 a1 a2 l0 l1
                  go_wp2
                  go_roundw
                  case rel => exact ⟨0 + 1, by omega, by first | rfl | go_num, by rw [HJ.out]; exact HL.out, HB.out⟩
                  case measure => simp [intOf]
              · cases hj0 : jB W a b ps qs i j true with
                | true =>
                  have HHD := Lib.hid (show (joinsL W a b ps qs).head? = some (i, j, true) by
                    obtain ⟨R9, h9⟩ := acc_pre (W := W) (a := a) (b := b) (ps := ps) (qs := qs) (i := i) (j := j) (t := 1 + 1) (by rw [HPL.out]; exact hltI) (by rw [HQL.out]; exact hltJ) (by omega)
                    rw [h9, acc_yes (k := 1) (by omega) (show jB W a b ps qs i j (wayB 1) = true from hj0), HL.out]; rfl)
                  have OK := Lib.hid (join_yes HOK.out HHD.out)
                  have hS := blJoin_any W H A n c a b A2 m c2 ps A3 k c3 qs i j true wr (RP.out.keep hbw) (RQ.out.keep hbw) HWW.out HP64.out HQ64.out HML.out HKL.out hltI hltJ
                  rw [hj0] at hS
                  have hi1c : (i : Int) + 1 ≤ (c2 : Int) := by omega
                  have hi1m : (i : Int) + 1 ≤ (m : Int) := by omega
                  have hi0 : (0 : Int) ≤ (i : Int) + 1 := by omega
                  have hmc : (m : Int) ≤ (c2 : Int) := by omega
                  have hwi : IntKind.i64.wrap ((i : Int) + 1) = (i : Int) + 1 := IntWalk.i64_in _ (by omega)
                  have hti : ((i : Int) + 1).toNat = i + 1 := by omega
                  clear hj0 hbw
                  go_wp2_with fail
                  refine hS.mono ?_
                  rintro e wx ⟨rfl, hb⟩
                  replace HB := Lib.hid (HB.out.trans (hb.mono HB.out.size))
                  clear hS hb a0 a1 a2 l0 l1
                  have RPX := Lib.hid ((RP.out.keep HB.out).take (show i + 1 ≤ m by omega))
                  go_wp2_with fail
                  refine (l1Own_all A2 (i + 1) c2 (ps.take (i + 1)) _ RPX.out (by omega)).mono ?_
                  rintro e wy ⟨A5, c5, rfl, own, hb⟩
                  have hlow : wv.heap.size ≤ wx.heap.size := HB.out.size
                  have O5 := Lib.hid (own.lower hlow)
                  replace HB := Lib.hid (HB.out.trans (hb.mono HB.out.size))
                  clear own hb RPX
                  go_wp2
                  go_loopw [14, 15] (fun v u wr => ∃ (s n' c' : Nat) (A' : Option Addr), s ≤ k ∧ u = .int .i64 s ∧ v = .slice A' n' c' ∧ n' = i + 1 + s ∧ OwnI 3 wr wv.heap.size A' n' c' (ps.take (i + 1) ++ (innerL qs j true).take s) ∧ Below wv.heap.size wv wr) (fun _ u _ => k - (intOf u).toNat)
                  case atStart => exact ⟨0, i + 1, c5, A5, Nat.zero_le _, rfl, rfl, by omega, (by rw [List.take_zero, List.append_nil]; exact O5.out), HB.out⟩
                  case round =>
                    obtain ⟨s, n', c', A', hs, rfl, rfl, hn', hown, hbw⟩ := hrel
                    have HNN := Lib.hid hn'
                    have HO := Lib.hid hown; have HB2 := Lib.hid hbw
                    have hsw := hbw.size
                    have RQX := Lib.hid (RQ.out.keep hbw)
                    clear hn' hown
                    by_cases hlt : s < k
                    · obtain ⟨e1, he1⟩ : ∃ e, e = (j + k - s) % k := ⟨_, rfl⟩
                      have he1k : e1 < k := by rw [he1]; exact Nat.mod_lt _ (by omega)
                      obtain ⟨b2, o2, y, he2, lq, hy, y0⟩ := RQX.out.at_ he1k
                      have HTK := Lib.hid (inner_take (back := true) (s := s) (j := j) (qs := qs) (x := y) (by rw [HQL.out]; exact hltJ) (by rw [HQL.out]; exact hlt) (by rw [HQL.out]; show qs[(j + k - s) % k]? = some y; rw [← he1]; exact hy))
                      have HE1 := Lib.hid he1
                      have hw1 : IntKind.i64.wrap ((j : Int) + (k : Int)) = (j : Int) + (k : Int) := IntWalk.i64_in _ (by omega)
                      have hw2 : IntKind.i64.wrap ((j : Int) + (k : Int) - (s : Int)) = (j : Int) + (k : Int) - (s : Int) := IntWalk.i64_in _ (by omega)
                      have hmod : ((j : Int) + (k : Int) - (s : Int)).tmod (k : Int) = (e1 : Int) := by rw [HE1.out, show ((j : Int) + (k : Int) - (s : Int)) = ((j + k - s : Nat) : Int) by omega, Int.tmod_eq_emod_of_nonneg (by omega)]; simp
                      have hke : ¬ (k : Int) = 0 := by omega
                      have hke' : ¬ k = 0 := by omega
                      have ge1 : (0 : Int) ≤ (e1 : Int) := by omega
                      have le1 : (e1 : Int) < (k : Int) := by omega
                      have hsk : (s : Int) < (k : Int) := by omega
                      have hws : IntKind.i64.wrap ((s : Int) + 1) = (s : Int) + 1 := IntWalk.i64_in _ (by omega)
                      have hwe : IntKind.i64.wrap (e1 : Int) = (e1 : Int) := IntWalk.i64_in _ (by omega)
                      have hn9 : n' ≤ 1000000 := by have := HNN.out; omega
                      subst he2
                      clear hy he1 hbw
                      go_wp2_with (at_builtin; refine wpList_app1 rfl (.tmp 71) (.tmp 82) 22 3 rfl i0 Try.underlying22 HI.out HZ0.out HZ1.out HZ2.out wv.heap.size A' n' c' (ps.take (i + 1) ++ (innerL qs j true).take s) y rfl HO.out rfl hn9 hsw ?_; intro A7 c7 w7 hown7 hb7)
                      have O7 := Lib.hid hown7
                      have B7 := Lib.hid (HB2.out.trans hb7)
                      clear hown7 hb7 y0
                      go_wp2
                      go_roundw
                      case rel => exact ⟨s + 1, n' + 1, c7, A7, by omega, by go_num, rfl, by have := HNN.out; omega, (by rw [HTK.out, ← List.append_assoc]; exact O7.out), B7.out⟩
                      case measure => simp [intOf]; omega
                    · have hsk : ¬ (s : Int) < (k : Int) := by omega
                      have hEQ : s = k := by omega
                      have HO2 := Lib.hid (show OwnI 3 wr wv.heap.size A' n' c' (ps.take (i + 1) ++ innerL qs j true) by
                        have h := HO.out
                        rw [hEQ, List.take_of_length_le (l := innerL qs j true) (by rw [inner_len, HQL.out]; exact Nat.le_refl _)] at h
                        exact h)
                      have HJL := Lib.hid (show joinJ W H xs a b ps qs = ps.take (i + 1) ++ innerL qs j true ++ ps.drop (i + 1) from OK.out.2)
                      have hn9 : n' ≤ 200 := by have := HNN.out; omega
                      have RPY := Lib.hid (RP.out.keep hbw)
                      clear hEQ hbw
                      obtain ⟨bb, oo, x9, rfl, -, -, -⟩ := RPY.out.at_ (k := 0) (by omega)
                      have hdl : (ps.drop (i + 1)).length = m - (i + 1) := by rw [List.length_drop, HPL.out]
                      have HDL := Lib.hid hdl
                      clear hdl
                      by_cases hcc : c2 = i + 1
                      · have HD0 := Lib.hid (show ps.drop (i + 1) = [] from List.drop_of_length_le (by rw [HPL.out]; omega))
                        have hmi : m = i + 1 := by omega
                        subst hmi
                        subst hcc
                        go_wp2_with (at_builtin; refine wpList_appN rfl (.tmp 84) (.tmp 88) 22 3 rfl i0 Try.underlying22 HI.out HZ0.out HZ1.out HZ2.out wv.heap.size A' n' c' (ps.take (i + 1) ++ innerL qs j true) _ 0 _ [] rfl HO2.out (by first | rfl | simp) rfl (fun j y hj => by simp at hj) (by omega) hsw ?_; intro A7 c7 w7 hown7 hb7)
                        have O7 := Lib.hid ((show OwnI 3 w7 wv.heap.size A7 n' c7 (ps.take (i + 1) ++ innerL qs j true) by
                          have h := hown7
                          rw [List.append_nil] at h
                          exact h).lower B.out.size)
                        have B7 := Lib.hid (HB2.out.trans hb7)
                        clear hown7 hb7
                        go_wp2
                        go_ret2
                        exact ⟨_, _, _, by rw [OK.out.1]; rfl, by rw [HJL.out, HD0.out, List.append_nil]; exact O7.out, B.out.trans (B7.out.mono B.out.size)⟩
                      · have RD := Lib.hid (RPY.out.drop (show i + 1 ≤ m by omega))
                        go_wp2_with (at_builtin; refine wpList_appN rfl (.tmp 84) (.tmp 88) 22 3 rfl i0 Try.underlying22 HI.out HZ0.out HZ1.out HZ2.out wv.heap.size A' n' c' (ps.take (i + 1) ++ innerL qs j true) ⟨bb, oo + (i + 1), none⟩ (m - (i + 1)) (c2 - (i + 1)) (ps.drop (i + 1)) rfl HO2.out rfl HDL.out (fun j y hj => RD.out.cell_ hj) (by omega) hsw ?_; intro A7 c7 w7 hown7 hb7)
                        have O7 := Lib.hid (hown7.lower B.out.size)
                        have B7 := Lib.hid (HB2.out.trans hb7)
                        clear hown7 hb7
                        go_wp2
                        go_ret2
                        exact ⟨_, _, _, by rw [OK.out.1]; rfl, by rw [HJL.out]; exact O7.out, B.out.trans (B7.out.mono B.out.size)⟩
                | false =>
                  have HJ := Lib.hid (acc_no (k := 1) (by omega) (show jB W a b ps qs i j (wayB 1) = false from hj0))
                  have hS := blJoin_any W H A n c a b A2 m c2 ps A3 k c3 qs i j true wr (RP.out.keep hbw) (RQ.out.keep hbw) HWW.out HP64.out HQ64.out HML.out HKL.out hltI hltJ
                  rw [hj0] at hS
                  clear hj0 hbw
                  go_wp2_with fail
                  refine hS.mono ?_
                  rintro e wx ⟨rfl, hb⟩
                  replace HB := Lib.hid (HB.out.trans (hb.mono HB.out.size))
                  clear hS hb a0 a1 a2 l0 l1
                  go_wp2
                  go_roundw
                  case rel => exact ⟨1 + 1, by omega, by first | rfl | go_num, by rw [HJ.out]; exact HL.out, HB.out⟩
                  case measure => simp [intOf]
              · clear a0 a1 a2 l0 l1 hbw
                go_wp2
                go_roundw
                case rel => exact ⟨j + 1, by omega, by go_num, by rw [acc_row]; exact HL.out, HB.out⟩
                case measure => simp [intOf]; omega
          · have hjk : j = k := by omega
            have HE := Lib.hid (show allTo W a b ps qs (i + 1) = [] by rw [← acc_end, HQL.out, ← hjk]; exact HM.out)
            have hjJ : ¬ (j : Int) < (k : Int) := by omega
            clear hjk
            go_wp2
            go_roundw
            case rel => exact ⟨i + 1, by omega, by go_num, HE.out, HBJ.out⟩
            case measure => simp [intOf]; omega
      · have him : i = m := by omega
        have OK := Lib.hid (join_no (H := H) (xs := xs) (show joinsL W a b ps qs = [] by rw [joinsL, HPL.out, ← him]; exact HNI.out))
        have hiI : ¬ (i : Int) < (m : Int) := by omega
        clear him
        go_wp2
        go_ret2
        exact ⟨none, 0, 0, by rw [OK.out.1]; rfl, by rw [OK.out.2]; exact OwnI.none_ _ _ _, B.out.trans (HBI.out.mono B.out.size)⟩
  | false =>
    have HOK := Lib.hid hok
    have OK := Lib.hid (join_bad hok)
    clear hok
    go_enter Try.func33, Try.ntmps33
    go_wp2_with fail
    rw [← hW2]
    clear hW2
    refine (blTwo_any W H A n c xs a b A2 m c2 ps A3 k c3 qs _ R.out RP.out hcap RQ.out hcapq).mono ?_
    rw [HOK.out]
    rintro e wv ⟨rfl, hb⟩
    replace a0 := cell_keep a0 al hb; replace a1 := cell_keep a1 al hb; replace a2 := cell_keep a2 al hb; replace al := lt_keep al hb
    replace l0 := cell_keep l0 ll hb; replace l1 := cell_keep l1 ll hb; replace ll := lt_keep ll hb
    replace R := Lib.hid (R.out.keep hb); replace RP := Lib.hid (RP.out.keep hb)
    replace B := Lib.hid (below_next B.out hb)
    replace RQ := Lib.hid (RQ.out.keep hb)
    clear hb
    clear a0 a1 a2 l0 l1 al ll R RP RQ
    go_wp2
    go_ret2
    exact ⟨none, 0, 0, by rw [OK.out.1]; rfl, by rw [OK.out.2]; exact OwnI.none_ _ _ _, B.out⟩

end Go.Proofs.Ytphjkmikleldcaa
