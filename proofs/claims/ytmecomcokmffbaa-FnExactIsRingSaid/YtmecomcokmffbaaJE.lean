/-
  Contracts: IsUncrossed, BackPath.
-/
import Derived.Test.YtmecomcokmffbaaJD
import Derived.Test.YtmecomcokmffbaaZ4
namespace Go.Proofs.Ytmecomcokmffbaa
open Go.RowKit

def unB (W : Int) (ps : List Int) : Bool := (crossN W ps : Int) == 0
def uncrossV (W H : Int) (xs : List Int) (a b : Int) (ps : List Int) : Bool := okWk W H xs a b ps && unB W ps
theorem ok_ne {W H a b : Int} {xs ps : List Int} (h : okWk W H xs a b ps = true) : ∀ i, i + 1 < ps.length → ps.getD i 0 ≠ ps.getD (i + 1) 0 := path_ne (ok_two h) (walk_path2 (ok_walk h))
def backV (W H : Int) (xs : List Int) (a b : Int) (ps : List Int) : List Int := if okPa W H xs a b ps then ps.reverse else []
theorem len_BackPath (W H : Int) (xs : List Int) (a b : Int) (ps : List Int) : (backV W H xs a b ps).length ≤ 1000000 := by
  unfold backV; split
  · rename_i h; have := okPa_len h; rw [List.length_reverse]; omega
  · simp

set_option maxRecDepth 100000 in
set_option maxHeartbeats 1000000 in
theorem spec_IsUncrossed (W H : Int) (A : Option Addr) (n c : Nat) (xs : List Int) (a b : Int) (A2 : Option Addr) (m c2 : Nat) (ps : List Int) (w : World) (ha : Rd w A n xs) (hp : Rd w A2 m ps) (hcap : m ≤ c2) :
    Calls Try.prog 21 #[brd W H A n c, lpr a b, .slice A2 m c2] w fun e w' => e = .returned (.tuple #[.bool (uncrossV W H xs a b ps), .bool (okWk W H xs a b ps)]) ∧ Below w.heap.size w w' := by
  by_cases ht : twoV W H xs a b = true
  · by_cases hk : walkB W H xs a b ps = true
    · go_enter Try.func21, Try.ntmps21
      go_wp2_with fail
      refine (boTwoV_any _ _ _ _ _ _ _ _ _ ((ha.alloc _).alloc _)).mono ?_
      rw [ht]
      rintro e wv ⟨rfl, hb⟩
      have hbx0 := below_box hb
      have a0 : wv.cell? ⟨w.heap.size, 0, none⟩ = some (.int .i64 W) := by simpa using newbox hbx0 0
      have a1 : wv.cell? ⟨w.heap.size, 1, none⟩ = some (.int .i64 H) := by simpa using newbox hbx0 1
      have a2 : wv.cell? ⟨w.heap.size, 2, none⟩ = some (.slice A n c) := by simpa using newbox hbx0 2
      have al : w.heap.size < wv.heap.size := by simpa using newbox_lt hbx0
      have l0 : wv.cell? ⟨w.heap.size + 1, 0, none⟩ = some (.int .i64 a) := by simpa using newbox hb 0
      have l1 : wv.cell? ⟨w.heap.size + 1, 1, none⟩ = some (.int .i64 b) := by simpa using newbox hb 1
      have ll : w.heap.size + 1 < wv.heap.size := by simpa using newbox_lt hb
      have B := Lib.hid (below_box hbx0)
      clear hb hbx0
      go_wp2_with fail
      refine (toWalk_any W H A n c xs a b A2 m c2 ps _ (ha.keep B.out) (hp.keep B.out) hcap (two_gK ht)).mono ?_
      rw [hk]
      rintro e wv ⟨rfl, hb⟩
      replace a0 := cell_keep a0 al hb
      replace a1 := cell_keep a1 al hb
      replace a2 := cell_keep a2 al hb
      replace al := lt_keep al hb
      replace l0 := cell_keep l0 ll hb
      replace l1 := cell_keep l1 ll hb
      replace ll := lt_keep ll hb
      replace B := Lib.hid (below_next B.out hb)
      clear hb
      have HT := Lib.hid (show okWk W H xs a b ps = true by rw [okWk, ht, hk]; rfl)
      clear ht hk
      go_wp2_with fail
      refine (crCount_any W H A n c A2 m c2 ps _ (hp.keep B.out) (ok_W HT.out) (ok_64 HT.out) (by have := ok_len HT.out; have := hp.1; omega)).mono ?_
      rintro e wv ⟨rfl, hb⟩
      replace B := Lib.hid (below_next B.out hb)
      clear hb
      cases hu : unB W ps with
      | true =>
        have HU := Lib.hid hu
        have hu2 : ((crossN W ps : Int) == 0) = true := hu
        clear hu
        go_wp2
        go_ret2
        exact ⟨by rw [uncrossV, HT.out, HU.out]; rfl, B.out⟩
      | false =>
        have HU := Lib.hid hu
        have hu2 : ((crossN W ps : Int) == 0) = false := hu
        clear hu
        go_wp2
        go_ret2
        exact ⟨by rw [uncrossV, HT.out, HU.out]; rfl, B.out⟩
    · have hk' : walkB W H xs a b ps = false := by simpa using hk
      go_enter Try.func21, Try.ntmps21
      go_wp2_with fail
      refine (boTwoV_any _ _ _ _ _ _ _ _ _ ((ha.alloc _).alloc _)).mono ?_
      rw [ht]
      rintro e wv ⟨rfl, hb⟩
      have hbx0 := below_box hb
      have a0 : wv.cell? ⟨w.heap.size, 0, none⟩ = some (.int .i64 W) := by simpa using newbox hbx0 0
      have a1 : wv.cell? ⟨w.heap.size, 1, none⟩ = some (.int .i64 H) := by simpa using newbox hbx0 1
      have a2 : wv.cell? ⟨w.heap.size, 2, none⟩ = some (.slice A n c) := by simpa using newbox hbx0 2
      have al : w.heap.size < wv.heap.size := by simpa using newbox_lt hbx0
      have l0 : wv.cell? ⟨w.heap.size + 1, 0, none⟩ = some (.int .i64 a) := by simpa using newbox hb 0
      have l1 : wv.cell? ⟨w.heap.size + 1, 1, none⟩ = some (.int .i64 b) := by simpa using newbox hb 1
      have ll : w.heap.size + 1 < wv.heap.size := by simpa using newbox_lt hb
      have B := Lib.hid (below_box hbx0)
      clear hb hbx0
      go_wp2_with fail
      refine (toWalk_any W H A n c xs a b A2 m c2 ps _ (ha.keep B.out) (hp.keep B.out) hcap (two_gK ht)).mono ?_
      rw [hk']
      rintro e wv ⟨rfl, hb⟩
      replace a0 := cell_keep a0 al hb
      replace a1 := cell_keep a1 al hb
      replace a2 := cell_keep a2 al hb
      replace al := lt_keep al hb
      replace l0 := cell_keep l0 ll hb
      replace l1 := cell_keep l1 ll hb
      replace ll := lt_keep ll hb
      replace B := Lib.hid (below_next B.out hb)
      clear hb
      go_wp2
      go_ret2
      exact ⟨by rw [uncrossV, show okWk W H xs a b ps = false by rw [okWk, hk', Bool.and_false]]; rfl, B.out⟩
  · have ht' : twoV W H xs a b = false := by simpa using ht
    go_enter Try.func21, Try.ntmps21
    go_wp2_with fail
    refine (boTwoV_any _ _ _ _ _ _ _ _ _ ((ha.alloc _).alloc _)).mono ?_
    rw [ht']
    rintro e wv ⟨rfl, hb⟩
    have hbx0 := below_box hb
    have a0 : wv.cell? ⟨w.heap.size, 0, none⟩ = some (.int .i64 W) := by simpa using newbox hbx0 0
    have a1 : wv.cell? ⟨w.heap.size, 1, none⟩ = some (.int .i64 H) := by simpa using newbox hbx0 1
    have a2 : wv.cell? ⟨w.heap.size, 2, none⟩ = some (.slice A n c) := by simpa using newbox hbx0 2
    have al : w.heap.size < wv.heap.size := by simpa using newbox_lt hbx0
    have l0 : wv.cell? ⟨w.heap.size + 1, 0, none⟩ = some (.int .i64 a) := by simpa using newbox hb 0
    have l1 : wv.cell? ⟨w.heap.size + 1, 1, none⟩ = some (.int .i64 b) := by simpa using newbox hb 1
    have ll : w.heap.size + 1 < wv.heap.size := by simpa using newbox_lt hb
    have B := Lib.hid (below_box hbx0)
    clear hb hbx0
    go_wp2
    go_ret2
    exact ⟨by rw [uncrossV, show okWk W H xs a b ps = false by rw [okWk, ht', Bool.false_and]]; rfl, B.out⟩

set_option maxRecDepth 100000 in
set_option maxHeartbeats 2000000 in
theorem impl_IsUncrossed (W H : Int) (A : Option Addr) (n c : Nat) (xs : List Int) (a b : Int) (A2 : Option Addr) (m c2 : Nat) (ps : List Int) (w : World) (ha : Rd w A n xs) (hp : Rd w A2 m ps) (hcap : m ≤ c2) :
    Calls Try.prog 22 #[brd W H A n c, lpr a b, .slice A2 m c2] w fun e w' => e = .returned (.tuple #[.bool (uncrossV W H xs a b ps), .bool (okWk W H xs a b ps)]) ∧ Below w.heap.size w w' := by
  have HPL := Lib.hid hp.1
  have m9 := hp.2.1
  obtain ⟨W2, hW2⟩ : ∃ W2, W2 = ((w.alloc (.cells #[.int .i64 W, .int .i64 H, .slice A n c] 30)).alloc (.cells #[.int .i64 a, .int .i64 b] 32)).alloc (.cells #[.slice A2 m c2] 22) := ⟨_, rfl⟩
  have a0 : W2.cell? ⟨w.heap.size, 0, none⟩ = some (.int .i64 W) := by rw [hW2]; go_simp
  have a1 : W2.cell? ⟨w.heap.size, 1, none⟩ = some (.int .i64 H) := by rw [hW2]; go_simp
  have a2 : W2.cell? ⟨w.heap.size, 2, none⟩ = some (.slice A n c) := by rw [hW2]; go_simp
  have l0 : W2.cell? ⟨w.heap.size + 1, 0, none⟩ = some (.int .i64 a) := by rw [hW2]; go_simp
  have l1 : W2.cell? ⟨w.heap.size + 1, 1, none⟩ = some (.int .i64 b) := by rw [hW2]; go_simp
  have hsz : W2.heap.size = w.heap.size + 3 := by rw [hW2]; simp
  have al : w.heap.size < W2.heap.size := by omega
  have ll : w.heap.size + 1 < W2.heap.size := by omega
  have B := Lib.hid (show Below w.heap.size w W2 by rw [hW2]; exact (((Below.refl _ _).alloc (Nat.le_refl _) _).alloc (by simp) _).alloc (by simp; omega) _)
  have R := Lib.hid (ha.keep B.out); have RP := Lib.hid (hp.keep B.out)
  have WA := Lib.hid (show WalksAt W2 (w.heap.size + 1 + 1) [ps] from ⟨by omega, fun i l hi => by
    rcases i with _ | i
    · injection hi with hi; subst hi; exact ⟨A2, m, c2, by rw [hW2]; go_simp, hp.keep B.out⟩
    · simp at hi⟩)
  clear ha hp hsz
  cases hq : okWk W H xs a b ps with
  | true =>
    have HQ := Lib.hid hq
    clear hq
    go_enter Try.func22, Try.ntmps22
    go_wp2_with fail
    rw [← hW2]
    clear hW2
    refine (areWalks_any W H A n c xs a b _ 1 [ps] _ R.out WA.out rfl (by decide)).mono ?_
    rw [wks_one, show (twoV W H xs a b && walkB W H xs a b ps) = true from HQ.out]
    rintro e wv ⟨rfl, hb⟩
    replace a0 := cell_keep a0 al hb; replace a1 := cell_keep a1 al hb; replace a2 := cell_keep a2 al hb; replace al := lt_keep al hb
    replace l0 := cell_keep l0 ll hb; replace l1 := cell_keep l1 ll hb; replace ll := lt_keep ll hb
    replace R := Lib.hid (R.out.keep hb); replace RP := Lib.hid (RP.out.keep hb)
    replace B := Lib.hid (below_next B.out hb)
    clear hb
    clear WA
    go_wp2_with fail
    refine (linesOf_any W H A n c A2 m c2 ps _ RP.out hcap (ok_W HQ.out) (ok_64 HQ.out) (by have := ok_len HQ.out; have := HPL.out; omega)).mono ?_
    rintro e wv ⟨A', n', c', rfl, hown, hb⟩
    replace B := Lib.hid (below_next B.out hb)
    have hl := hown.len
    have hcp := hown.form
    clear hb a0 a1 a2 l0 l1 al ll
    go_wp2_with fail
    refine (countCrossings_any _ A' n' c' _ _ hown (co_lines (ok_W HQ.out) (ok_64 HQ.out)) (by rw [linesL_len] at hl; have := ok_len HQ.out; omega) (by rcases hcp with ⟨_, h1, h2, _⟩ | ⟨_, _, _, _, h, _⟩ <;> omega)).mono ?_
    rw [lnR_path (ok_ne HQ.out)]
    rintro e wv ⟨rfl, hb⟩
    replace B := Lib.hid (below_next B.out hb)
    clear hb hl hcp hown
    cases hu : unB W ps with
    | true =>
      have HU := Lib.hid hu
      have hu2 : ((crossN W ps : Int) == 0) = true := hu
      clear hu
      go_wp2
      go_ret2
      exact ⟨by rw [uncrossV, HQ.out, HU.out]; rfl, B.out⟩
    | false =>
      have HU := Lib.hid hu
      have hu2 : ((crossN W ps : Int) == 0) = false := hu
      clear hu
      go_wp2
      go_ret2
      exact ⟨by rw [uncrossV, HQ.out, HU.out]; rfl, B.out⟩
  | false =>
    have HQ := Lib.hid hq
    clear hq
    go_enter Try.func22, Try.ntmps22
    go_wp2_with fail
    rw [← hW2]
    clear hW2
    refine (areWalks_any W H A n c xs a b _ 1 [ps] _ R.out WA.out rfl (by decide)).mono ?_
    rw [wks_one, show (twoV W H xs a b && walkB W H xs a b ps) = false from HQ.out]
    rintro e wv ⟨rfl, hb⟩
    replace a0 := cell_keep a0 al hb; replace a1 := cell_keep a1 al hb; replace a2 := cell_keep a2 al hb; replace al := lt_keep al hb
    replace l0 := cell_keep l0 ll hb; replace l1 := cell_keep l1 ll hb; replace ll := lt_keep ll hb
    replace R := Lib.hid (R.out.keep hb); replace RP := Lib.hid (RP.out.keep hb)
    replace B := Lib.hid (below_next B.out hb)
    clear hb
    clear WA
    clear a0 a1 a2 l0 l1 al ll
    go_wp2
    go_ret2
    exact ⟨by rw [uncrossV, HQ.out]; rfl, B.out⟩

set_option maxRecDepth 100000 in
set_option maxHeartbeats 1000000 in
theorem spec_BackPath (W H : Int) (A : Option Addr) (n c : Nat) (xs : List Int) (a b : Int) (A2 : Option Addr) (m c2 : Nat) (ps : List Int) (w : World) (ha : Rd w A n xs) (hp : Rd w A2 m ps) (_ : m ≤ c2) :
    Calls Try.prog 23 #[brd W H A n c, lpr a b, .slice A2 m c2] w fun e w' => ∃ A' n' c', e = .returned (.tuple #[.slice A' n' c', .bool (okPa W H xs a b ps)]) ∧ OwnI 3 w' w.heap.size A' n' c' (backV W H xs a b ps) ∧ Below w.heap.size w w' := by
  by_cases ht : okPa W H xs a b ps = true
  · go_enter Try.func23, Try.ntmps23
    go_wp2_with fail
    refine (crPath_any W H A n c xs a b A2 m c2 ps _ ((ha.alloc _).alloc _) ((hp.alloc _).alloc _)).mono ?_
    rw [ht]
    rintro e wv ⟨rfl, hb⟩
    have hbx0 := below_box hb
    have a0 : wv.cell? ⟨w.heap.size, 0, none⟩ = some (.int .i64 W) := by simpa using newbox hbx0 0
    have a1 : wv.cell? ⟨w.heap.size, 1, none⟩ = some (.int .i64 H) := by simpa using newbox hbx0 1
    have a2 : wv.cell? ⟨w.heap.size, 2, none⟩ = some (.slice A n c) := by simpa using newbox hbx0 2
    have al : w.heap.size < wv.heap.size := by simpa using newbox_lt hbx0
    have l0 : wv.cell? ⟨w.heap.size + 1, 0, none⟩ = some (.int .i64 a) := by simpa using newbox hb 0
    have l1 : wv.cell? ⟨w.heap.size + 1, 1, none⟩ = some (.int .i64 b) := by simpa using newbox hb 1
    have ll : w.heap.size + 1 < wv.heap.size := by simpa using newbox_lt hb
    have B := Lib.hid (below_box hbx0)
    clear hb hbx0
    have HT := Lib.hid ht
    clear ht
    obtain ⟨i0, hi, hz0, hz1, hz2⟩ := info_parts infoI
    have HI := Lib.hid hi; have HZ0 := Lib.hid hz0; have HZ1 := Lib.hid hz1; have HZ2 := Lib.hid hz2
    have HPL := Lib.hid hp.1
    have HP := Lib.hid (hp.keep B.out)
    have hm : m ≤ 1000 := by have := okPa_len HT.out; have := hp.1; omega
    clear hi hz0 hz1 hz2 hp a0 a1 a2 l0 l1 al ll
    have hw1 : IntKind.i64.wrap ((m : Int) - 1) = (m : Int) - 1 := IntWalk.i64_in _ (by omega)
    go_wp2
    go_loopw [8, 9] (fun v i wr => ∃ (r n' c' : Nat) (A' : Option Addr), r ≤ m ∧ r + n' = m ∧ i = .int .i64 ((r : Int) - 1) ∧ v = .slice A' n' c' ∧ OwnI 3 wr wv.heap.size A' n' c' (ps.drop r).reverse ∧ Below wv.heap.size wv wr) (fun _ i _ => (intOf i + 1).toNat)
    case atStart => exact ⟨m, 0, 0, none, Nat.le_refl _, by omega, rfl, rfl, by rw [List.drop_of_length_le (by have := HPL.out; omega)]; exact OwnI.none_ _ _ _, Below.refl _ _⟩
    case round =>
      obtain ⟨r, n', c', A', hr, hrn, hi, rfl, hown, hbw⟩ := hrel
      rcases r with _ | r
      · rw [show (((0 : Nat) : Int) - 1) = -1 from rfl] at hi
        subst hi
        have HO := Lib.hid (hown.lower B.out.size); have HB := Lib.hid (below_next B.out hbw)
        clear hown hbw hw1
        go_wp2
        go_ret2
        exact ⟨_, _, _, by rw [HT.out]; rfl, by rw [backV, HT.out]; have h := HO.out; rw [List.drop_zero] at h; exact h, HB.out⟩
      · rw [show (((r + 1 : Nat) : Int) - 1) = (r : Int) by omega] at hi
        subst hi
        obtain ⟨bb, oo, x, rfl, hg1, hx, x0⟩ := HP.out.at_ (k := r) (by omega)
        have HX := Lib.hid hx
        replace x0 := cell_keep x0 hg1 hbw
        have HO := Lib.hid hown; have HB := Lib.hid hbw
        have hsw := hbw.size
        have hr0 : (0 : Int) ≤ (r : Int) := by omega
        have hrm : (r : Int) < (m : Int) := by omega
        have hw2 : IntKind.i64.wrap ((r : Int) - 1) = (r : Int) - 1 := IntWalk.i64_in _ (by omega)
        clear hx hown hbw hw1
        go_wp2_with (at_builtin; refine wpList_app1 rfl (.tmp 22) (.tmp 27) 22 3 rfl i0 Try.underlying22 HI.out HZ0.out HZ1.out HZ2.out wv.heap.size A' n' c' (ps.drop (r + 1)).reverse x rfl HO.out rfl (by omega) hsw ?_; intro A3 c3 w3 hown3 hb3)
        have O3 := Lib.hid hown3
        have B3 := Lib.hid (HB.out.trans hb3)
        clear hown3 hb3
        go_wp2
        go_roundw
        case rel => exact ⟨r, n' + 1, c3, A3, by omega, by omega, rfl, rfl, by rw [drop_cons_of HX.out, List.reverse_cons]; exact O3.out, B3.out⟩
        case measure => simp [intOf]
  · have ht' : okPa W H xs a b ps = false := by simpa using ht
    go_enter Try.func23, Try.ntmps23
    go_wp2_with fail
    refine (crPath_any W H A n c xs a b A2 m c2 ps _ ((ha.alloc _).alloc _) ((hp.alloc _).alloc _)).mono ?_
    rw [ht']
    rintro e wv ⟨rfl, hb⟩
    have hbx0 := below_box hb
    have a0 : wv.cell? ⟨w.heap.size, 0, none⟩ = some (.int .i64 W) := by simpa using newbox hbx0 0
    have a1 : wv.cell? ⟨w.heap.size, 1, none⟩ = some (.int .i64 H) := by simpa using newbox hbx0 1
    have a2 : wv.cell? ⟨w.heap.size, 2, none⟩ = some (.slice A n c) := by simpa using newbox hbx0 2
    have al : w.heap.size < wv.heap.size := by simpa using newbox_lt hbx0
    have l0 : wv.cell? ⟨w.heap.size + 1, 0, none⟩ = some (.int .i64 a) := by simpa using newbox hb 0
    have l1 : wv.cell? ⟨w.heap.size + 1, 1, none⟩ = some (.int .i64 b) := by simpa using newbox hb 1
    have ll : w.heap.size + 1 < wv.heap.size := by simpa using newbox_lt hb
    have B := Lib.hid (below_box hbx0)
    clear hb hbx0
    go_wp2
    go_ret2
    exact ⟨none, 0, 0, by rw [ht']; rfl, by rw [backV, ht']; exact OwnI.none_ _ _ _, B.out⟩

set_option maxRecDepth 100000 in
set_option maxHeartbeats 1000000 in
theorem impl_BackPath (W H : Int) (A : Option Addr) (n c : Nat) (xs : List Int) (a b : Int) (A2 : Option Addr) (m c2 : Nat) (ps : List Int) (w : World) (ha : Rd w A n xs) (hp : Rd w A2 m ps) (_ : m ≤ c2) :
    Calls Try.prog 24 #[brd W H A n c, lpr a b, .slice A2 m c2] w fun e w' => ∃ A' n' c', e = .returned (.tuple #[.slice A' n' c', .bool (okPa W H xs a b ps)]) ∧ OwnI 3 w' w.heap.size A' n' c' (backV W H xs a b ps) ∧ Below w.heap.size w w' := by
  by_cases ht : okPa W H xs a b ps = true
  · go_enter Try.func24, Try.ntmps24
    go_wp2_with fail
    refine (isPathOn_any W H A n c xs a b A2 m c2 ps _ ((ha.alloc _).alloc _) ((hp.alloc _).alloc _)).mono ?_
    rw [ht]
    rintro e wv ⟨rfl, hb⟩
    have hbx0 := below_box hb
    have a0 : wv.cell? ⟨w.heap.size, 0, none⟩ = some (.int .i64 W) := by simpa using newbox hbx0 0
    have a1 : wv.cell? ⟨w.heap.size, 1, none⟩ = some (.int .i64 H) := by simpa using newbox hbx0 1
    have a2 : wv.cell? ⟨w.heap.size, 2, none⟩ = some (.slice A n c) := by simpa using newbox hbx0 2
    have al : w.heap.size < wv.heap.size := by simpa using newbox_lt hbx0
    have l0 : wv.cell? ⟨w.heap.size + 1, 0, none⟩ = some (.int .i64 a) := by simpa using newbox hb 0
    have l1 : wv.cell? ⟨w.heap.size + 1, 1, none⟩ = some (.int .i64 b) := by simpa using newbox hb 1
    have ll : w.heap.size + 1 < wv.heap.size := by simpa using newbox_lt hb
    have B := Lib.hid (below_box hbx0)
    clear hb hbx0
    have HT := Lib.hid ht
    clear ht
    go_wp2_with fail
    refine (turnedAt_any A2 m c2 ps 0 _ (hp.keep B.out) (by have := okPa_len HT.out; have := hp.1; omega) (by have := okPa_len HT.out; have := hp.1; omega)).mono ?_
    rintro e wv ⟨A', c', rfl, own, hb⟩
    have O := Lib.hid (own.lower B.out.size)
    replace B := Lib.hid (below_next B.out hb)
    clear own hb
    go_wp2
    go_ret2
    exact ⟨_, _, _, by rw [HT.out]; rfl, by rw [backV, HT.out]; have h := O.out; rw [turnL, List.take_zero, List.drop_zero, List.nil_append] at h; exact h, B.out⟩
  · have ht' : okPa W H xs a b ps = false := by simpa using ht
    go_enter Try.func24, Try.ntmps24
    go_wp2_with fail
    refine (isPathOn_any W H A n c xs a b A2 m c2 ps _ ((ha.alloc _).alloc _) ((hp.alloc _).alloc _)).mono ?_
    rw [ht']
    rintro e wv ⟨rfl, hb⟩
    have hbx0 := below_box hb
    have a0 : wv.cell? ⟨w.heap.size, 0, none⟩ = some (.int .i64 W) := by simpa using newbox hbx0 0
    have a1 : wv.cell? ⟨w.heap.size, 1, none⟩ = some (.int .i64 H) := by simpa using newbox hbx0 1
    have a2 : wv.cell? ⟨w.heap.size, 2, none⟩ = some (.slice A n c) := by simpa using newbox hbx0 2
    have al : w.heap.size < wv.heap.size := by simpa using newbox_lt hbx0
    have l0 : wv.cell? ⟨w.heap.size + 1, 0, none⟩ = some (.int .i64 a) := by simpa using newbox hb 0
    have l1 : wv.cell? ⟨w.heap.size + 1, 1, none⟩ = some (.int .i64 b) := by simpa using newbox hb 1
    have ll : w.heap.size + 1 < wv.heap.size := by simpa using newbox_lt hb
    have B := Lib.hid (below_box hbx0)
    clear hb hbx0
    go_wp2
    go_ret2
    exact ⟨none, 0, 0, by rw [ht']; rfl, by rw [backV, ht']; exact OwnI.none_ _ _ _, B.out⟩

end Go.Proofs.Ytmecomcokmffbaa
