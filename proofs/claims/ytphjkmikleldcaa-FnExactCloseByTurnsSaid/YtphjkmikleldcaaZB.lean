/-
  Contracts: CloseByTurns, both sides.
-/
import Derived.Test.YtphjkmikleldcaaZA
namespace Go.Proofs.Ytphjkmikleldcaa
open Go.RowKit

set_option maxRecDepth 100000 in
set_option maxHeartbeats 4000000 in
theorem spec_CloseByTurns (W H : Int) (A : Option Addr) (n c : Nat) (xs : List Int) (a b : Int) (A2 : Option Addr) (m c2 : Nat) (ps : List Int) (q : Int) (w : World) (ha : Rd w A n xs) (hp : Rd w A2 m ps) (hcap : m ≤ c2) :
    Calls Try.prog 31 #[brd W H A n c, lpr a b, .slice A2 m c2, .int .i64 q] w fun e w' => ∃ A' n' c', e = .returned (.tuple #[.slice A' n' c', .bool (okClose W H xs a b ps q)]) ∧ OwnI 3 w' w.heap.size A' n' c' (closeV W H xs a b ps q) ∧ Below w.heap.size w w' := by
  have HPL := Lib.hid hp.1
  have m9 := hp.2.1
  obtain ⟨W2, hW2⟩ : ∃ W2, W2 = (w.alloc (.cells #[.int .i64 W, .int .i64 H, .slice A n c] 30)).alloc (.cells #[.int .i64 a, .int .i64 b] 32) := ⟨_, rfl⟩
  have a0 : W2.cell? ⟨w.heap.size, 0, none⟩ = some (.int .i64 W) := by rw [hW2]; go_simp
  have a1 : W2.cell? ⟨w.heap.size, 1, none⟩ = some (.int .i64 H) := by rw [hW2]; go_simp
  have a2 : W2.cell? ⟨w.heap.size, 2, none⟩ = some (.slice A n c) := by rw [hW2]; go_simp
  have l0 : W2.cell? ⟨w.heap.size + 1, 0, none⟩ = some (.int .i64 a) := by rw [hW2]; go_simp
  have l1 : W2.cell? ⟨w.heap.size + 1, 1, none⟩ = some (.int .i64 b) := by rw [hW2]; go_simp
  have hsz : W2.heap.size = w.heap.size + 2 := by rw [hW2]; simp
  have al : w.heap.size < W2.heap.size := by omega
  have ll : w.heap.size + 1 < W2.heap.size := by omega
  have B := Lib.hid (show Below w.heap.size w W2 by rw [hW2]; exact ((Below.refl _ _).alloc (Nat.le_refl _) _).alloc (by simp) _)
  have R := Lib.hid (ha.keep B.out); have RP := Lib.hid (hp.keep B.out)
  clear ha hp hsz
  cases hq : okWk W H xs a b ps with
  | true =>
    have HQ := Lib.hid hq
    clear hq
    go_enter Try.func31, Try.ntmps31
    go_wp2_with fail
    rw [← hW2]
    clear hW2
    refine (blWalk_any W H A n c xs a b A2 m c2 ps _ R.out RP.out hcap).mono ?_
    rw [HQ.out]
    rintro e wv ⟨rfl, hb⟩
    replace a0 := cell_keep a0 al hb; replace a1 := cell_keep a1 al hb; replace a2 := cell_keep a2 al hb; replace al := lt_keep al hb
    replace l0 := cell_keep l0 ll hb; replace l1 := cell_keep l1 ll hb; replace ll := lt_keep ll hb
    replace R := Lib.hid (R.out.keep hb); replace RP := Lib.hid (RP.out.keep hb)
    replace B := Lib.hid (below_next B.out hb)
    clear hb
    by_cases hin : 0 ≤ q ∧ q ≤ 3
    · have HIN0 := Lib.hid (show inB q 0 3 = true by simp [inB]; exact hin)
      obtain ⟨M, rfl⟩ : ∃ M : Nat, q = (M : Int) := ⟨q.toNat, by omega⟩
      have HIN := HIN0
      have hM3 : M ≤ 3 := by omega
      have hM0 : (0 : Int) ≤ (M : Int) := by omega
      have hM4 : (M : Int) ≤ 3 := by omega
      have hlm := ok_len HQ.out
      rw [HPL.out] at hlm
      have HML := Lib.hid hlm
      have HW := Lib.hid (ok_W HQ.out); have H64 := Lib.hid (ok_64 HQ.out)
      have HCAP := Lib.hid hcap
      have hq0 : ¬ (M : Int) < 0 := by omega
      have hq3 : ¬ (3 : Int) < (M : Int) := by omega
      have hwm : IntKind.i64.wrap ((M : Int) + 1) = (M : Int) + 1 := IntWalk.i64_in _ (by omega)
      have AL := Lib.hid al; have LL := Lib.hid ll
      have HA := Lib.hid (⟨a0, a1, a2, l0, l1⟩ : wv.cell? ⟨w.heap.size, 0, none⟩ = some (.int .i64 W) ∧ wv.cell? ⟨w.heap.size, 1, none⟩ = some (.int .i64 H) ∧ wv.cell? ⟨w.heap.size, 2, none⟩ = some (.slice A n c) ∧ wv.cell? ⟨w.heap.size + 1, 0, none⟩ = some (.int .i64 a) ∧ wv.cell? ⟨w.heap.size + 1, 1, none⟩ = some (.int .i64 b))
      clear hin hlm a0 a1 a2 l0 l1 al ll R
      go_wp2_with fail
      refine (l1In_any (M : Int) 0 3 _).mono ?_
      rw [HIN.out]
      rintro e wx ⟨rfl, rfl⟩
      go_wp2
      go_loopw [10] (fun i wr => ∃ t : Nat, t ≤ M + 1 ∧ i = .int .i64 t ∧ (∀ s, s < t → closeR W a b s ps = none) ∧ Below wv.heap.size wv wr) (fun i _ => M + 1 - (intOf i).toNat)
      case atStart => exact ⟨0, Nat.zero_le _, rfl, fun s hs => absurd hs (Nat.not_lt_zero _), Below.refl _ _⟩
      case round =>
        obtain ⟨t, ht, rfl, hno, hbw⟩ := hrel
        have HNO := Lib.hid hno
        clear hno
        by_cases hlt : t ≤ M
        · have a0 := cell_keep HA.out.1 AL.out hbw; have a1 := cell_keep HA.out.2.1 AL.out hbw; have a2 := cell_keep HA.out.2.2.1 AL.out hbw; have l0 := cell_keep HA.out.2.2.2.1 LL.out hbw; have l1 := cell_keep HA.out.2.2.2.2 LL.out hbw
          have al := lt_keep AL.out hbw; have ll := lt_keep LL.out hbw
          have RPW := Lib.hid (RP.out.keep hbw)
          have HB := Lib.hid hbw
          have HSX := Lib.hid hbw.size
          have hi1 : (t : Int) ≤ (M : Int) := by omega
          have hi2 : (t : Int) < (M : Int) + 1 := by omega
          have hwt : IntKind.i64.wrap ((t : Int) + 1) = (t : Int) + 1 := IntWalk.i64_in _ (by omega)
          have hS := blClose_any W H A n c a b t A2 m c2 ps _ RPW.out HCAP.out HW.out H64.out HML.out (by omega)
          clear hbw
          cases hcr : closeR W a b t ps with
          | some rs =>
            rw [hcr] at hS
            go_wp2_with fail
            refine hS.mono ?_
            rintro e wx ⟨A6, m6, c6, rfl, hr, hb⟩
            replace HB := Lib.hid (below_next HB.out hb)
            clear hS hb
            obtain ⟨hrd, h6⟩ := hr _ rfl
            have RD6 := Lib.hid hrd
            have HV := Lib.hid (closeS_some (n := M + 1) HNO.out (by omega) hcr)
            have OK := Lib.hid (show okClose W H xs a b ps (M : Int) = true by rw [okClose, HQ.out, HIN.out, Int.toNat_natCast, HV.out]; rfl)
            have HVV := Lib.hid (show closeV W H xs a b ps (M : Int) = rs by rw [closeV, if_pos OK.out, Int.toNat_natCast, HV.out]; rfl)
            clear hrd hr a0 a1 a2 l0 l1 al ll
            go_wp2_with fail
            refine (l1Own_all A6 m6 c6 rs _ RD6.out (by omega)).mono ?_
            rintro e wz ⟨A7, c7, rfl, own7, hb7⟩
            have O7 := Lib.hid (own7.lower (show w.heap.size ≤ _ by have := B.out.size; have := HB.out.size; omega))
            have HB7 := Lib.hid (below_next HB.out hb7)
            clear own7 hb7
            go_wp2
            go_ret2
            exact ⟨_, _, _, by rw [OK.out]; rfl, by rw [HVV.out]; exact O7.out, B.out.trans (HB7.out.mono B.out.size)⟩
          | none =>
            rw [hcr] at hS
            go_wp2_with fail
            refine hS.mono ?_
            rintro e wx ⟨A6, m6, c6, rfl, hr, hb⟩
            replace HB := Lib.hid (below_next HB.out hb)
            clear hS hb
            clear hr a0 a1 a2 l0 l1 al ll
            have HNX := Lib.hid (fun s (hs : s < t + 1) => show closeR W a b s ps = none by
              by_cases h : s = t
              · subst h; exact hcr
              · exact HNO.out s (by omega))
            go_wp2
            go_roundw
            case rel => exact ⟨t + 1, by omega, by go_num, HNX.out, HB.out⟩
            case measure => simp [intOf]; omega
        · have htm : t = M + 1 := by omega
          have HV := Lib.hid (show closeS W a b ps (M + 1) = none from closeS_none fun s hs => HNO.out s (by omega))
          have OK := Lib.hid (show okClose W H xs a b ps (M : Int) = false by rw [okClose, HQ.out, HIN.out, Int.toNat_natCast, HV.out]; rfl)
          have HB := Lib.hid hbw
          have hi1 : ¬ (t : Int) ≤ (M : Int) := by omega
          have hi2 : ¬ (t : Int) < (M : Int) + 1 := by omega
          clear hbw htm
          go_wp2
          go_ret2
          exact ⟨none, 0, 0, by rw [OK.out]; rfl, by rw [closeV, if_neg (by rw [OK.out]; simp)]; exact OwnI.none_ _ _ _, B.out.trans (HB.out.mono B.out.size)⟩
    · have HIN := Lib.hid (show inB q 0 3 = false by simp [inB]; omega)
      have OK := Lib.hid (show okClose W H xs a b ps q = false by rw [okClose, HIN.out, Bool.and_false]; rfl)
      clear a0 a1 a2 l0 l1 al ll hin
      go_wp2_with fail
      refine (l1In_any q 0 3 _).mono ?_
      rw [HIN.out]
      rintro e wx ⟨rfl, rfl⟩
      go_wp2
      go_ret2
      exact ⟨none, 0, 0, by rw [OK.out]; rfl, by rw [closeV, if_neg (by rw [OK.out]; simp)]; exact OwnI.none_ _ _ _, B.out⟩
  | false =>
    have HQ := Lib.hid hq
    clear hq
    go_enter Try.func31, Try.ntmps31
    go_wp2_with fail
    rw [← hW2]
    clear hW2
    refine (blWalk_any W H A n c xs a b A2 m c2 ps _ R.out RP.out hcap).mono ?_
    rw [HQ.out]
    rintro e wv ⟨rfl, hb⟩
    replace a0 := cell_keep a0 al hb; replace a1 := cell_keep a1 al hb; replace a2 := cell_keep a2 al hb; replace al := lt_keep al hb
    replace l0 := cell_keep l0 ll hb; replace l1 := cell_keep l1 ll hb; replace ll := lt_keep ll hb
    replace R := Lib.hid (R.out.keep hb); replace RP := Lib.hid (RP.out.keep hb)
    replace B := Lib.hid (below_next B.out hb)
    clear hb
    have OK := Lib.hid (show okClose W H xs a b ps q = false by rw [okClose, HQ.out]; rfl)
    clear a0 a1 a2 l0 l1 al ll
    go_wp2
    go_ret2
    exact ⟨none, 0, 0, by rw [OK.out]; rfl, by rw [closeV, if_neg (by rw [OK.out]; simp)]; exact OwnI.none_ _ _ _, B.out⟩

set_option maxRecDepth 100000 in
set_option maxHeartbeats 4000000 in
theorem impl_CloseByTurns (W H : Int) (A : Option Addr) (n c : Nat) (xs : List Int) (a b : Int) (A2 : Option Addr) (m c2 : Nat) (ps : List Int) (q : Int) (w : World) (ha : Rd w A n xs) (hp : Rd w A2 m ps) (hcap : m ≤ c2) :
    Calls Try.prog 32 #[brd W H A n c, lpr a b, .slice A2 m c2, .int .i64 q] w fun e w' => ∃ A' n' c', e = .returned (.tuple #[.slice A' n' c', .bool (okClose W H xs a b ps q)]) ∧ OwnI 3 w' w.heap.size A' n' c' (closeV W H xs a b ps q) ∧ Below w.heap.size w w' := by
  have HPL := Lib.hid hp.1
  have m9 := hp.2.1
  obtain ⟨W2, hW2⟩ : ∃ W2, W2 = ((w.alloc (.cells #[.int .i64 W, .int .i64 H, .slice A n c] 30)).alloc (.cells #[.int .i64 a, .int .i64 b] 32)).alloc (.cells #[.slice A2 m c2] 22) := ⟨_, rfl⟩
  have a0 : W2.cell? ⟨w.heap.size, 0, none⟩ = some (.int .i64 W) := by rw [hW2]; go_simp
  have a1 : W2.cell? ⟨w.heap.size, 1, none⟩ = some (.int .i64 H) := by rw [hW2]; go_simp
  have a2 : W2.cell? ⟨w.heap.size, 2, none⟩ = some (.slice A n c) := by rw [hW2]; go_simp
  have l0 : W2.cell? ⟨w.heap.size + 1, 0, none⟩ = some (.int .i64 a) := by rw [hW2]; go_simp
  have l1 : W2.cell? ⟨w.heap.size + 1, 1, none⟩ = some (.int .i64 b) := by rw [hW2]; go_simp
  have hsz : W2.heap.size = w.heap.size + 3 := by rw [hW2]; simp
  have al : w.heap.size < W2.heap.size := by omega
  have ll : w.heap.size + 1 < W2.heap.size := by omega
  have B := Lib.hid (show Below w.heap.size w W2 by rw [hW2]; exact (((Below.refl _ _).alloc (Nat.le_refl _) _).alloc (by simp) _).alloc (by simp; omega) _)
  have R := Lib.hid (ha.keep B.out); have RP := Lib.hid (hp.keep B.out)
  have WA := Lib.hid (show WalksAt W2 (w.heap.size + 1 + 1) [ps] from ⟨by omega, fun i l hi => by
    rcases i with _ | i
    · injection hi with hi; subst hi; exact ⟨A2, m, c2, by rw [hW2]; go_simp, hp.keep B.out⟩
    · simp at hi⟩)
  clear ha hp hsz
  cases hq : okWk W H xs a b ps with
  | true =>
    have HQ := Lib.hid hq
    clear hq
    go_enter Try.func32, Try.ntmps32
    go_wp2_with fail
    rw [← hW2]
    clear hW2
    refine (areWalks_any W H A n c xs a b _ 1 [ps] _ R.out WA.out rfl (by decide)).mono ?_
    rw [wks_one, show (twoV W H xs a b && walkB W H xs a b ps) = true from HQ.out]
    rintro e wv ⟨rfl, hb⟩
    replace a0 := cell_keep a0 al hb; replace a1 := cell_keep a1 al hb; replace a2 := cell_keep a2 al hb; replace al := lt_keep al hb
    replace l0 := cell_keep l0 ll hb; replace l1 := cell_keep l1 ll hb; replace ll := lt_keep ll hb
    replace R := Lib.hid (R.out.keep hb); replace RP := Lib.hid (RP.out.keep hb)
    replace B := Lib.hid (below_next B.out hb)
    clear hb
    clear WA
    by_cases hin : 0 ≤ q ∧ q ≤ 3
    · have HIN0 := Lib.hid (show inB q 0 3 = true by simp [inB]; exact hin)
      obtain ⟨M, rfl⟩ : ∃ M : Nat, q = (M : Int) := ⟨q.toNat, by omega⟩
      have HIN := HIN0
      have hM3 : M ≤ 3 := by omega
      have hM0 : (0 : Int) ≤ (M : Int) := by omega
      have hM4 : (M : Int) ≤ 3 := by omega
      have hlm := ok_len HQ.out
      rw [HPL.out] at hlm
      have HML := Lib.hid hlm
      have HW := Lib.hid (ok_W HQ.out); have H64 := Lib.hid (ok_64 HQ.out)
      have HCAP := Lib.hid hcap
      have hq0 : ¬ (M : Int) < 0 := by omega
      have hq3 : ¬ (3 : Int) < (M : Int) := by omega
      have hwm : IntKind.i64.wrap ((M : Int) + 1) = (M : Int) + 1 := IntWalk.i64_in _ (by omega)
      have AL := Lib.hid al; have LL := Lib.hid ll
      have HA := Lib.hid (⟨a0, a1, a2, l0, l1⟩ : wv.cell? ⟨w.heap.size, 0, none⟩ = some (.int .i64 W) ∧ wv.cell? ⟨w.heap.size, 1, none⟩ = some (.int .i64 H) ∧ wv.cell? ⟨w.heap.size, 2, none⟩ = some (.slice A n c) ∧ wv.cell? ⟨w.heap.size + 1, 0, none⟩ = some (.int .i64 a) ∧ wv.cell? ⟨w.heap.size + 1, 1, none⟩ = some (.int .i64 b))
      clear hin hlm a0 a1 a2 l0 l1 al ll R
      go_wp2
      go_loopw [28] (fun i wr => ∃ t : Nat, t ≤ M + 1 ∧ i = .int .i64 t ∧ (∀ s, s < t → closeR W a b s ps = none) ∧ Below wv.heap.size wv wr) (fun i _ => M + 1 - (intOf i).toNat)
      case atStart => exact ⟨0, Nat.zero_le _, rfl, fun s hs => absurd hs (Nat.not_lt_zero _), Below.refl _ _⟩
      case round =>
        obtain ⟨t, ht, rfl, hno, hbw⟩ := hrel
        have HNO := Lib.hid hno
        clear hno
        by_cases hlt : t ≤ M
        · have a0 := cell_keep HA.out.1 AL.out hbw; have a1 := cell_keep HA.out.2.1 AL.out hbw; have a2 := cell_keep HA.out.2.2.1 AL.out hbw; have l0 := cell_keep HA.out.2.2.2.1 LL.out hbw; have l1 := cell_keep HA.out.2.2.2.2 LL.out hbw
          have al := lt_keep AL.out hbw; have ll := lt_keep LL.out hbw
          have RPW := Lib.hid (RP.out.keep hbw)
          have HB := Lib.hid hbw
          have HSX := Lib.hid hbw.size
          have hi1 : (t : Int) ≤ (M : Int) := by omega
          have hi2 : (t : Int) < (M : Int) + 1 := by omega
          have hwt : IntKind.i64.wrap ((t : Int) + 1) = (t : Int) + 1 := IntWalk.i64_in _ (by omega)
          have hS := closedAfter_any W H A n c a b t A2 m c2 ps _ RPW.out HCAP.out HW.out H64.out HML.out (by omega)
          clear hbw
          cases hcr : closeR W a b t ps with
          | some rs =>
            rw [hcr] at hS
            go_wp2_with fail
            refine hS.mono ?_
            rintro e wx ⟨A6, m6, c6, rfl, hr0, hr, hb⟩
            replace HB := Lib.hid (below_next HB.out hb)
            clear hS hb
            obtain ⟨⟨ad, rfl⟩, own6⟩ := hr _ rfl
            have O6 := Lib.hid (own6.lower (show w.heap.size ≤ _ by have := B.out.size; have := HSX.out; omega))
            have HV := Lib.hid (closeS_some (n := M + 1) HNO.out (by omega) hcr)
            have OK := Lib.hid (show okClose W H xs a b ps (M : Int) = true by rw [okClose, HQ.out, HIN.out, Int.toNat_natCast, HV.out]; rfl)
            have HVV := Lib.hid (show closeV W H xs a b ps (M : Int) = rs by rw [closeV, if_pos OK.out, Int.toNat_natCast, HV.out]; rfl)
            clear own6 hr hr0 a0 a1 a2 l0 l1 al ll
            go_wp2
            go_ret2
            exact ⟨_, _, _, by rw [OK.out]; rfl, by rw [HVV.out]; exact O6.out, B.out.trans (HB.out.mono B.out.size)⟩
          | none =>
            rw [hcr] at hS
            go_wp2_with fail
            refine hS.mono ?_
            rintro e wx ⟨A6, m6, c6, rfl, hr0, hr, hb⟩
            replace HB := Lib.hid (below_next HB.out hb)
            clear hS hb
            obtain ⟨rfl, rfl, rfl⟩ := hr0 (by trivial)
            clear hr hr0 a0 a1 a2 l0 l1 al ll
            have HNX := Lib.hid (fun s (hs : s < t + 1) => show closeR W a b s ps = none by
              by_cases h : s = t
              · subst h; exact hcr
              · exact HNO.out s (by omega))
            go_wp2
            go_roundw
            case rel => exact ⟨t + 1, by omega, by go_num, HNX.out, HB.out⟩
            case measure => simp [intOf]; omega
        · have htm : t = M + 1 := by omega
          have HV := Lib.hid (show closeS W a b ps (M + 1) = none from closeS_none fun s hs => HNO.out s (by omega))
          have OK := Lib.hid (show okClose W H xs a b ps (M : Int) = false by rw [okClose, HQ.out, HIN.out, Int.toNat_natCast, HV.out]; rfl)
          have HB := Lib.hid hbw
          have hi1 : ¬ (t : Int) ≤ (M : Int) := by omega
          have hi2 : ¬ (t : Int) < (M : Int) + 1 := by omega
          clear hbw htm
          go_wp2
          go_ret2
          exact ⟨none, 0, 0, by rw [OK.out]; rfl, by rw [closeV, if_neg (by rw [OK.out]; simp)]; exact OwnI.none_ _ _ _, B.out.trans (HB.out.mono B.out.size)⟩
    · have HIN := Lib.hid (show inB q 0 3 = false by simp [inB]; omega)
      have OK := Lib.hid (show okClose W H xs a b ps q = false by rw [okClose, HIN.out, Bool.and_false]; rfl)
      clear a0 a1 a2 l0 l1 al ll
      by_cases hq1 : q < 0
      · clear hin
        go_wp2
        go_ret2
        exact ⟨none, 0, 0, by rw [OK.out]; rfl, by rw [closeV, if_neg (by rw [OK.out]; simp)]; exact OwnI.none_ _ _ _, B.out⟩
      · have hq2 : (3 : Int) < q := by omega
        clear hin
        go_wp2
        go_ret2
        exact ⟨none, 0, 0, by rw [OK.out]; rfl, by rw [closeV, if_neg (by rw [OK.out]; simp)]; exact OwnI.none_ _ _ _, B.out⟩
  | false =>
    have HQ := Lib.hid hq
    clear hq
    go_enter Try.func32, Try.ntmps32
    go_wp2_with fail
    rw [← hW2]
    clear hW2
    refine (areWalks_any W H A n c xs a b _ 1 [ps] _ R.out WA.out rfl (by decide)).mono ?_
    rw [wks_one, show (twoV W H xs a b && walkB W H xs a b ps) = false from HQ.out]
    rintro e wv ⟨rfl, hb⟩
    replace a0 := cell_keep a0 al hb; replace a1 := cell_keep a1 al hb; replace a2 := cell_keep a2 al hb; replace al := lt_keep al hb
    replace l0 := cell_keep l0 ll hb; replace l1 := cell_keep l1 ll hb; replace ll := lt_keep ll hb
    replace R := Lib.hid (R.out.keep hb); replace RP := Lib.hid (RP.out.keep hb)
    replace B := Lib.hid (below_next B.out hb)
    clear hb
    clear WA
    have OK := Lib.hid (show okClose W H xs a b ps q = false by rw [okClose, HQ.out]; rfl)
    clear a0 a1 a2 l0 l1 al ll
    go_wp2
    go_ret2
    exact ⟨none, 0, 0, by rw [OK.out]; rfl, by rw [closeV, if_neg (by rw [OK.out]; simp)]; exact OwnI.none_ _ _ _, B.out⟩

end Go.Proofs.Ytphjkmikleldcaa
