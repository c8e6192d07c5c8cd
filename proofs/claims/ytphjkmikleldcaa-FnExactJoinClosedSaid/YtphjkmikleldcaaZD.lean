/-
  Contracts: CountJoins, in the model.
-/
import Derived.Test.YtphjkmikleldcaaZC
namespace Go.Proofs.Ytphjkmikleldcaa
open Go.RowKit

theorem two_p {W H a b : Int} {xs ps qs : List Int} (h : okTwo2 W H xs a b ps qs = true) : okWk W H xs a b ps = true := by simp only [okTwo2, Bool.and_eq_true] at h; exact h.1.1.1.1
theorem two_q {W H a b : Int} {xs ps qs : List Int} (h : okTwo2 W H xs a b ps qs = true) : okWk W H xs a b qs = true := by simp only [okTwo2, Bool.and_eq_true] at h; exact h.1.1.1.2

set_option maxRecDepth 100000 in
set_option maxHeartbeats 4000000 in
theorem spec_CountJoins (W H : Int) (A : Option Addr) (n c : Nat) (xs : List Int) (a b : Int) (A2 : Option Addr) (m c2 : Nat) (ps : List Int) (A3 : Option Addr) (k c3 : Nat) (qs : List Int) (w : World) (ha : Rd w A n xs) (hp : Rd w A2 m ps) (hcap : m ≤ c2) (hq : Rd w A3 k qs) (hcapq : k ≤ c3) :
    Calls Try.prog 35 #[brd W H A n c, lpr a b, .slice A2 m c2, .slice A3 k c3] w fun e w' => e = .returned (.tuple #[.int .i64 (joinV W H xs a b ps qs), .bool (okTwo2 W H xs a b ps qs)]) ∧ Below w.heap.size w w' := by
  have HPL := Lib.hid hp.1; have HQL := Lib.hid hq.1
  have m9 := hp.2.1; have k9 := hq.2.1
  obtain ⟨W2, hW2⟩ : ∃ W2, W2 = (w.alloc (.cells #[.int .i64 W, .int .i64 H, .slice A n c] 30)).alloc (.cells #[.int .i64 a, .int .i64 b] 32) := ⟨_, rfl⟩
  have a0 : W2.cell? ⟨w.heap.size, 0, none⟩ = some (.int .i64 W) := by rw [hW2]; go_simp
  have a1 : W2.cell? ⟨w.heap.size, 1, none⟩ = some (.int .i64 H) := by rw [hW2]; go_simp
  have a2 : W2.cell? ⟨w.heap.size, 2, none⟩ = some (.slice A n c) := by rw [hW2]; go_simp
  have l0 : W2.cell? ⟨w.heap.size + 1, 0, none⟩ = some (.int .i64 a) := by rw [hW2]; go_simp
  have l1 : W2.cell? ⟨w.heap.size + 1, 1, none⟩ = some (.int .i64 b) := by rw [hW2]; go_simp
  have al : w.heap.size < W2.heap.size := by rw [hW2]; simp; omega
  have ll : w.heap.size + 1 < W2.heap.size := by rw [hW2]; simp
  have B := Lib.hid (show Below w.heap.size w W2 by rw [hW2]; exact ((Below.refl _ _).alloc (Nat.le_refl _) _).alloc (by simp) _)
  have R := Lib.hid (ha.keep B.out); have RP := Lib.hid (hp.keep B.out); have RQ := Lib.hid (hq.keep B.out)
  clear ha hp hq
  cases hok : okTwo2 W H xs a b ps qs with
  | true =>
    have HOK := Lib.hid hok
    clear hok
    go_enter Try.func35, Try.ntmps35
    go_wp2_with fail
    rw [← hW2]
    clear hW2
    refine (blTwo_any W H A n c xs a b A2 m c2 ps A3 k c3 qs _ R.out RP.out hcap RQ.out hcapq).mono ?_
    rw [HOK.out]
    rintro e wv ⟨rfl, hb⟩
    replace a0 := cell_keep a0 al hb; replace a1 := cell_keep a1 al hb; replace a2 := cell_keep a2 al hb; replace al := lt_keep al hb
    replace l0 := cell_keep l0 ll hb; replace l1 := cell_keep l1 ll hb; replace ll := lt_keep ll hb
    replace R := Lib.hid (R.out.keep hb); replace RP := Lib.hid (RP.out.keep hb)
    replace B := Lib.hid (below_next B.out hb)
    replace RQ := Lib.hid (RQ.out.keep hb)
    clear hb
    have HOP := Lib.hid (two_p HOK.out); have HOQ := Lib.hid (two_q HOK.out)
    have hml := ok_len HOP.out; have hkl := ok_len HOQ.out
    rw [HPL.out] at hml; rw [HQL.out] at hkl
    have HWW := Lib.hid (ok_W HOP.out)
    have HP64 := Lib.hid (ok_64 HOP.out); have HQ64 := Lib.hid (ok_64 HOQ.out)
    have HML := Lib.hid hml.2; have HKL := Lib.hid hkl.2
    have HQ9 := Lib.hid (show qs.length ≤ 64 by rw [HQL.out]; exact hkl.2)
    have AL := Lib.hid al; have LL := Lib.hid ll
    have HA := Lib.hid (⟨a0, a1, a2, l0, l1⟩ : wv.cell? ⟨w.heap.size, 0, none⟩ = some (.int .i64 W) ∧ wv.cell? ⟨w.heap.size, 1, none⟩ = some (.int .i64 H) ∧ wv.cell? ⟨w.heap.size, 2, none⟩ = some (.slice A n c) ∧ wv.cell? ⟨w.heap.size + 1, 0, none⟩ = some (.int .i64 a) ∧ wv.cell? ⟨w.heap.size + 1, 1, none⟩ = some (.int .i64 b))
    obtain ⟨hm1, hm64⟩ := hml
    obtain ⟨hk1, hk64⟩ := hkl
    clear a0 a1 a2 l0 l1 al ll R
    go_wp2
    go_loopw [10, 22] (fun v s wr => ∃ i : Nat, i ≤ m ∧ s = .int .i64 i ∧ v = .int .i64 ((allTo W a b ps qs i).length : Int) ∧ Below wv.heap.size wv wr) (fun _ s _ => m - (intOf s).toNat)
    case atStart => exact ⟨0, Nat.zero_le _, rfl, rfl, Below.refl _ _⟩
    case round =>
      obtain ⟨i, hi, rfl, rfl, hbw⟩ := hrel
      have HBI := Lib.hid hbw
      clear hbw
      by_cases hltI : i < m
      · have hiI : (i : Int) < (m : Int) := by omega
        obtain ⟨N, hN⟩ : ∃ N, N = (allTo W a b ps qs i).length := ⟨_, rfl⟩
        rw [← hN]
        have HN := Lib.hid (show N = (accL W a b ps qs i 0 0).length by rw [acc_start]; exact hN)
        clear hN
        go_wp2
        go_loopw [10, 27] (fun v s wr => ∃ (j M : Nat), j ≤ k ∧ s = .int .i64 j ∧ v = .int .i64 (M : Int) ∧ M = (accL W a b ps qs i j 0).length ∧ Below wv.heap.size wv wr) (fun _ s _ => k - (intOf s).toNat)
        case atStart => exact ⟨0, N, Nat.zero_le _, rfl, rfl, HN.out, HBI.out⟩
        case round =>
          obtain ⟨j, M, hj, rfl, rfl, hM, hbw⟩ := hrel
          have HBJ := Lib.hid hbw; have HM := Lib.hid hM
          clear hbw hM
          by_cases hltJ : j < k
          · have hjJ : (j : Int) < (k : Int) := by omega
            go_wp2
            go_loopw [10, 13] (fun v s wr => ∃ (t L : Nat), t ≤ 2 ∧ s = .int .i64 t ∧ v = .int .i64 (L : Int) ∧ L = (accL W a b ps qs i j t).length ∧ Below wv.heap.size wv wr) (fun _ s _ => 2 - (intOf s).toNat)
            case atStart => exact ⟨0, M, Nat.zero_le _, rfl, rfl, HM.out, HBJ.out⟩
            case round =>
              obtain ⟨t, L, ht, rfl, rfl, hL, hbw⟩ := hrel
              have HL := Lib.hid hL
              have HB := Lib.hid hbw
              have hL9 : L ≤ 20000 := by rw [hL]; exact acc_len (by omega) (by omega) HQ9.out
              have hwL : IntKind.i64.wrap ((L : Int) + 1) = (L : Int) + 1 := IntWalk.i64_in _ (by omega)
              clear hL
              have ht3 : t = 0 ∨ t = 1 ∨ t = 2 := by omega
              have a0 := cell_keep HA.out.1 AL.out hbw; have a1 := cell_keep HA.out.2.1 AL.out hbw; have a2 := cell_keep HA.out.2.2.1 AL.out hbw; have l0 := cell_keep HA.out.2.2.2.1 LL.out hbw; have l1 := cell_keep HA.out.2.2.2.2 LL.out hbw
              rcases ht3 with rfl | rfl | rfl
              · cases hj0 : jB W a b ps qs i j false with
                | true =>
                  have HJ := Lib.hid (acc_yes (k := 0) (by omega) (show jB W a b ps qs i j (wayB 0) = true from hj0))
                  have hS := blJoin_any W H A n c a b A2 m c2 ps A3 k c3 qs i j false wr (RP.out.keep hbw) (RQ.out.keep hbw) HWW.out HP64.out HQ64.out HML.out HKL.out hltI hltJ
                  rw [hj0] at hS
                  clear hj0 hbw
                  go_wp2_with fail
                  refine hS.mono ?_
                  rintro e wx ⟨rfl, hb⟩
                  replace HB := Lib.hid (HB.out.trans (hb.mono HB.out.size))
                  clear hS hb a0 a1 a2 l0 l1
                  go_wp2
                  go_roundw
                  case rel => exact ⟨0 + 1, L + 1, by omega, by first | rfl | go_num, by first | rfl | go_num, by rw [HJ.out, List.length_append, ← HL.out]; rfl, HB.out⟩
                  case measure => simp [intOf]
                | false =>
                  have HJ := Lib.hid (acc_no (k := 0) (by omega) (show jB W a b ps qs i j (wayB 0) = false from hj0))
                  have hS := blJoin_any W H A n c a b A2 m c2 ps A3 k c3 qs i j false wr (RP.out.keep hbw) (RQ.out.keep hbw) HWW.out HP64.out HQ64.out HML.out HKL.out hltI hltJ
                  rw [hj0] at hS
                  clear hj0 hbw
                  go_wp2_with fail
                  refine hS.mono ?_
                  rintro e wx ⟨rfl, hb⟩
                  replace HB := Lib.hid (HB.out.trans (hb.mono HB.out.size))
                  clear hS hb a0 a1 a2 l0 l1
                  go_wp2
                  go_roundw
                  case rel => exact ⟨0 + 1, L, by omega, by first | rfl | go_num, rfl, by rw [HJ.out]; exact HL.out, HB.out⟩
                  case measure => simp [intOf]
              · cases hj0 : jB W a b ps qs i j true with
                | true =>
                  have HJ := Lib.hid (acc_yes (k := 1) (by omega) (show jB W a b ps qs i j (wayB 1) = true from hj0))
                  have hS := blJoin_any W H A n c a b A2 m c2 ps A3 k c3 qs i j true wr (RP.out.keep hbw) (RQ.out.keep hbw) HWW.out HP64.out HQ64.out HML.out HKL.out hltI hltJ
                  rw [hj0] at hS
                  clear hj0 hbw
                  go_wp2_with fail
                  refine hS.mono ?_
                  rintro e wx ⟨rfl, hb⟩
                  replace HB := Lib.hid (HB.out.trans (hb.mono HB.out.size))
                  clear hS hb a0 a1 a2 l0 l1
                  go_wp2
                  go_roundw
                  case rel => exact ⟨1 + 1, L + 1, by omega, by first | rfl | go_num, by first | rfl | go_num, by rw [HJ.out, List.length_append, ← HL.out]; rfl, HB.out⟩
                  case measure => simp [intOf]
                | false =>
                  have HJ := Lib.hid (acc_no (k := 1) (by omega) (show jB W a b ps qs i j (wayB 1) = false from hj0))
                  have hS := blJoin_any W H A n c a b A2 m c2 ps A3 k c3 qs i j true wr (RP.out.keep hbw) (RQ.out.keep hbw) HWW.out HP64.out HQ64.out HML.out HKL.out hltI hltJ
                  rw [hj0] at hS
                  clear hj0 hbw
                  go_wp2_with fail
                  refine hS.mono ?_
                  rintro e wx ⟨rfl, hb⟩
                  replace HB := Lib.hid (HB.out.trans (hb.mono HB.out.size))
                  clear hS hb a0 a1 a2 l0 l1
                  go_wp2
                  go_roundw
                  case rel => exact ⟨1 + 1, L, by omega, by first | rfl | go_num, rfl, by rw [HJ.out]; exact HL.out, HB.out⟩
                  case measure => simp [intOf]
              · clear a0 a1 a2 l0 l1 hbw
                go_wp2
                go_roundw
                case rel => exact ⟨j + 1, L, by omega, by go_num, rfl, by rw [acc_row]; exact HL.out, HB.out⟩
                case measure => simp [intOf]; omega
          · have hjk : j = k := by omega
            have HE := Lib.hid (show M = (allTo W a b ps qs (i + 1)).length by rw [HM.out, hjk, ← HQL.out, acc_end])
            have hjJ : ¬ (j : Int) < (k : Int) := by omega
            clear hjk
            go_wp2
            go_roundw
            case rel => exact ⟨i + 1, by omega, by go_num, by rw [HE.out], HBJ.out⟩
            case measure => simp [intOf]; omega
      · have him : i = m := by omega
        have HE := Lib.hid (show joinV W H xs a b ps qs = ((allTo W a b ps qs i).length : Int) by rw [joinV, if_pos HOK.out, joinsL, HPL.out, him])
        have hiI : ¬ (i : Int) < (m : Int) := by omega
        clear him
        go_wp2
        go_ret2
        exact ⟨by rw [HE.out]; first | rfl | (rw [HOK.out]), B.out.trans (HBI.out.mono B.out.size)⟩
  | false =>
    have HOK := Lib.hid hok
    clear hok
    go_enter Try.func35, Try.ntmps35
    go_wp2_with fail
    rw [← hW2]
    clear hW2
    refine (blTwo_any W H A n c xs a b A2 m c2 ps A3 k c3 qs _ R.out RP.out hcap RQ.out hcapq).mono ?_
    rw [HOK.out]
    rintro e wv ⟨rfl, hb⟩
    replace a0 := cell_keep a0 al hb; replace a1 := cell_keep a1 al hb; replace a2 := cell_keep a2 al hb; replace al := lt_keep al hb
    replace l0 := cell_keep l0 ll hb; replace l1 := cell_keep l1 ll hb; replace ll := lt_keep ll hb
    replace R := Lib.hid (R.out.keep hb); replace RP := Lib.hid (RP.out.keep hb)
    replace B := Lib.hid (below_next B.out hb)
    replace RQ := Lib.hid (RQ.out.keep hb)
    clear hb
    clear a0 a1 a2 l0 l1 al ll R RP RQ
    go_wp2
    go_ret2
    exact ⟨by rw [joinV, HOK.out]; rfl, B.out⟩

end Go.Proofs.Ytphjkmikleldcaa
