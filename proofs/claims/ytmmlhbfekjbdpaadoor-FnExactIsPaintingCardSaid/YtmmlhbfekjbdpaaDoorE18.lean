/-
  Contracts: IsPainting.
  Contracts: IsPainting.
-/
import Derived.Test.YtmmlhbfekjbdpaaDoorE17
import Derived.Test.YtmmlhbfekjbdpaaDoorF8
import Derived.Test.YtmmlhbfekjbdpaaDoorE5
import Derived.Test.YtmmlhbfekjbdpaaDoorS9
import Derived.Deep.RegionHeld3
namespace Go.Proofs.YtmmlhbfekjbdpaaDoor
open Go.RowKit

theorem cAt_of {cs : List Int} {x : Int} (h1 : x.toNat < cs.length) : cs[x.toNat]? = some (cAt cs x) := by
  rw [cAt, List.getD_eq_getElem?_getD, List.getElem?_eq_getElem h1]; rfl

set_option maxRecDepth 100000 in
set_option maxHeartbeats 4000000 in
theorem paIs_any (W H : Int) (A : Option Addr) (n c : Nat) (xs : List Int) (a b : Int) (A2 : Option Addr) (m c2 : Nat) (cs : List Int) (w : World) (ha : Rd w A n xs) (hc : Rd w A2 m cs) (hg : goodB W H xs = true) (hlen : (cs.length : Int) = W * H) :
    Calls Tryd.prog 24 #[brd W H A n c, lpr a b, .slice A2 m c2] w fun e w' => e = .returned (.bool (paIsB W H xs a b cs)) ∧ Below w.heap.size w w' := by
  have HG := Lib.hid hg
  have HN := Lib.hid (cells_le (goodB_iff.1 hg).1 (goodB_iff.1 hg).2.1)
  have HML := Lib.hid hc.1
  have m9 := hc.2.1
  have HLEN := Lib.hid hlen
  obtain ⟨W2, hW2⟩ : ∃ W2, W2 = (w.alloc (.cells #[.int .i64 W, .int .i64 H, .slice A n c] 30)).alloc (.cells #[.int .i64 a, .int .i64 b] 32) := ⟨_, rfl⟩
  have a0 : W2.cell? ⟨w.heap.size, 0, none⟩ = some (.int .i64 W) := by rw [hW2]; go_simp
  have a1 : W2.cell? ⟨w.heap.size, 1, none⟩ = some (.int .i64 H) := by rw [hW2]; go_simp
  have a2 : W2.cell? ⟨w.heap.size, 2, none⟩ = some (.slice A n c) := by rw [hW2]; go_simp
  have l0 : W2.cell? ⟨w.heap.size + 1, 0, none⟩ = some (.int .i64 a) := by rw [hW2]; go_simp
  have l1 : W2.cell? ⟨w.heap.size + 1, 1, none⟩ = some (.int .i64 b) := by rw [hW2]; go_simp
  have hsz : w.heap.size + 2 ≤ W2.heap.size := by rw [hW2]; simp
  have B := Lib.hid (show Below w.heap.size w W2 by rw [hW2]; exact below_new (below_new (Below.refl _ _) _) _)
  have R := Lib.hid (ha.keep B.out); have RC := Lib.hid hc
  have ga : w.heap.size < W2.heap.size := by omega
  have gl : w.heap.size + 1 < W2.heap.size := by omega
  clear hg ha hc hlen
  go_enter Tryd.func24, Tryd.ntmps24
  go_wp2_with fail
  rw [← hW2]
  clear hW2
  refine (boCells_any W H A n c xs _ R.out HN.out).mono ?_
  rintro e ws ⟨A1, n1, c1, rfl, hst, hb⟩
  replace a0 := cell_keep a0 ga hb; replace a1 := cell_keep a1 ga hb; replace a2 := cell_keep a2 ga hb; replace l0 := cell_keep l0 gl hb; replace l1 := cell_keep l1 gl hb; replace ga := lt_keep ga hb; replace gl := lt_keep gl hb; replace R := Lib.hid (R.out.keep hb)
  replace B := Lib.hid (below_next B.out hb)
  have ST := Lib.hid hst.rd
  have SL := Lib.hid hst.len
  have n8 : n1 ≤ 64 := by have := cellsL_len64 (xs := xs) HN.out; have := hst.len; omega
  clear hst hb hsz
  go_wp2
  go_loopw [14] (fun i wr => ∃ k : Nat, k ≤ n1 ∧ i = .int .i64 k ∧ ((cellsL W H xs).take k).all (fun c => (leapsL W H xs a b c).all fun d => !(cAt cs c == cAt cs d)) = true ∧ Below ws.heap.size ws wr) (fun i _ => n1 - (intOf i).toNat)
  case atStart => exact ⟨0, Nat.zero_le _, rfl, by simp, Below.refl _ _⟩
  case round =>
    obtain ⟨k, hk, rfl, hall, hbw⟩ := hrel
    have HALL := Lib.hid hall
    have HB := Lib.hid hbw
    clear hall
    by_cases hlt : k < n1
    · obtain ⟨bb, oo, x, rfl, hg1, hx, x0⟩ := ST.out.at_ hlt
      have HX := Lib.hid hx
      have hxm := List.mem_of_getElem? hx
      obtain ⟨hx0, hx1⟩ := cells_rng64 HG.out x hxm
      have hxN : x.toNat < m := by have := (hasB_iff.1 (cellsL_mem.1 hxm)).1; have := HLEN.out; have := HML.out; omega
      obtain ⟨p, rfl⟩ : ∃ p : Nat, x = (p : Int) := ⟨x.toNat, by omega⟩
      rw [Int.toNat_natCast] at hxN
      have HXM := Lib.hid hxm
      replace x0 := cell_keep x0 hg1 hbw
      have b0 := cell_keep a0 ga hbw; have b1 := cell_keep a1 ga hbw; have b2 := cell_keep a2 ga hbw; have m0 := cell_keep l0 gl hbw; have m1 := cell_keep l1 gl hbw
      have gb := lt_keep ga hbw; have gm := lt_keep gl hbw
      have hL := boLeaps_any W H A n c xs a b (p : Int) wr (R.out.keep hbw) HG.out ⟨hx0, by omega⟩
      clear hx hbw hxm hg1
      go_wp2_with fail
      refine hL.mono ?_
      rintro e wv ⟨A3, n3, c3, rfl, hown, hb⟩
      replace b0 := cell_keep b0 gb hb; replace b1 := cell_keep b1 gb hb; replace b2 := cell_keep b2 gb hb; replace m0 := cell_keep m0 gm hb; replace m1 := cell_keep m1 gm hb
      have LT := Lib.hid hown.rd
      have LL := Lib.hid hown.len
      have n9 : n3 ≤ 64 := by have := leapsL_len64 (a := a) (b := b) (q := (p : Int)) (xs := xs) HN.out; have := hown.len; omega
      have HV := Lib.hid (HB.out.trans (hb.mono HB.out.size))
      clear hb hown hL x0
      go_wp2
      go_loopw [23] (fun i wr => ∃ j : Nat, j ≤ n3 ∧ i = .int .i64 j ∧ ((leapsL W H xs a b p).take j).all (fun d => !(cAt cs p == cAt cs d)) = true ∧ Below wv.heap.size wv wr) (fun i _ => n3 - (intOf i).toNat)
      case atStart => exact ⟨0, Nat.zero_le _, rfl, by simp, Below.refl _ _⟩
      case round =>
        obtain ⟨j, hj, rfl, hallj, hbj⟩ := hrel
        rename_i wz
        have HALJ := Lib.hid hallj
        have HBJ := Lib.hid hbj
        have HW0 := Lib.hid (B.out.trans ((HV.out.trans (hbj.mono HV.out.size)).mono B.out.size))
        clear hallj
        by_cases hltj : j < n3
        · obtain ⟨b3, o3, y, rfl, hg3, hy, y0⟩ := LT.out.at_ hltj
          have HY := Lib.hid hy
          have hym := (List.mem_filter.1 (List.mem_of_getElem? hy)).1
          obtain ⟨hy0, hy1⟩ := cells_rng64 HG.out y hym
          have hyN : y.toNat < m := by have := (hasB_iff.1 (cellsL_mem.1 hym)).1; have := HLEN.out; have := HML.out; omega
          obtain ⟨q, rfl⟩ : ∃ q : Nat, y = (q : Int) := ⟨y.toNat, by omega⟩
          rw [Int.toNat_natCast] at hyN
          replace y0 := cell_keep y0 hg3 hbj
          obtain ⟨b4, o4, u, rfl, hg4, hu, u0⟩ := RC.out.at_ hxN
          obtain ⟨b5, o5, v, e5, hg5, hv, v0⟩ := RC.out.at_ hyN
          obtain ⟨rfl, rfl⟩ : b4 = b5 ∧ o4 = o5 := by simp at e5; exact e5
          replace u0 := cell_keep u0 hg4 HW0.out
          replace v0 := cell_keep v0 hg5 HW0.out
          have HU := Lib.hid (show cAt cs (p : Int) = u by have := cAt_of (x := (p : Int)) (cs := cs) (by have := HML.out; omega); rw [Int.toNat_natCast, hu] at this; injection this with this; exact this.symm)
          have HV2 := Lib.hid (show cAt cs (q : Int) = v by have := cAt_of (x := (q : Int)) (cs := cs) (by have := HML.out; omega); rw [Int.toNat_natCast, hv] at this; injection this with this; exact this.symm)
          clear hy hym hu hv hbj e5 hg3 hg4 hg5
          cases huv : (u == v) with
          | true =>
            have HUV := Lib.hid huv
            go_wp2
            go_quiet (fail)
            go_wp2
            go_ret
            exact ⟨ret_bool (by
              symm; rw [paIsB, Bool.eq_false_iff]; intro h
              have h1 := List.all_eq_true.1 (List.all_eq_true.1 h (p : Int) HXM.out) (q : Int) (List.mem_of_getElem? HY.out)
              rw [HU.out, HV2.out, HUV.out] at h1; cases h1), below_drewN HW0.out _⟩
          | false =>
            have HUV := Lib.hid huv
            go_wp2
            go_quiet (fail)
            go_wp2
            go_roundw
            case rel => exact ⟨j + 1, by omega, by go_num, by rw [List.take_add_one, HY.out, List.all_append, HALJ.out]; simp [HU.out, HV2.out, HUV.out], below_drewN HBJ.out _⟩
            case measure => simp [intOf]; omega
        · have hjn : j = n3 := by omega
          subst hjn
          have HE := Lib.hid (show (leapsL W H xs a b p).all (fun d => !(cAt cs p == cAt cs d)) = true by have h := HALJ.out; rw [List.take_of_length_le (by have := LL.out; omega)] at h; exact h)
          clear hbj
          go_wp2
          go_roundw
          case rel => exact ⟨k + 1, by omega, by go_num, by rw [List.take_add_one, HX.out, List.all_append, HALL.out]; simpa using HE.out, HV.out.trans (HBJ.out.mono HV.out.size)⟩
          case measure => simp [intOf]; omega
    · have hkn : k = n1 := by omega
      subst hkn
      clear hbw
      go_wp2
      go_ret
      exact ⟨ret_bool (by have h := HALL.out; rw [List.take_of_length_le (by have := SL.out; omega)] at h; rw [paIsB, h]), B.out.trans (HB.out.mono B.out.size)⟩
end Go.Proofs.YtmmlhbfekjbdpaaDoor

namespace Go.Proofs.YtmmlhbfekjbdpaaDoor
open Go.RowKit

theorem Tab64.drew1 {w : World} (h : Tab64 w) : Tab64 w.drew := h
def isPaintV (W H : Int) (xs : List Int) (a b : Int) (cs : List Int) : Bool := twoV W H xs a b && (goodCols W H xs cs && paIsB W H xs a b cs)
theorem gl_lt {W H a b : Int} {xs : List Int} (hg : goodB W H xs = true) : ∀ y ∈ gl W H xs a b (cellsL W H xs), y < 18446744073709551616 := by
  have hcl := cells_rng64 hg
  intro y hy
  rcases List.mem_cons.1 hy with rfl | hy
  · exact set_lt hcl
  · obtain ⟨c, _, rfl⟩ := List.mem_map.1 hy
    split
    · exact set_lt (fun z hz => hcl z (List.mem_filter.1 hz).1)
    · decide

set_option maxRecDepth 100000 in
set_option maxHeartbeats 4000000 in
theorem spec_IsPainting (W H : Int) (A : Option Addr) (n c : Nat) (xs : List Int) (a b : Int) (A2 : Option Addr) (m c2 : Nat) (cs : List Int) (w : World) (ha : Rd w A n xs) (hc : Rd w A2 m cs) :
    Calls Tryd.prog 7 #[brd W H A n c, lpr a b, .slice A2 m c2] w fun e w' => e = .returned (.tuple #[.bool (isPaintV W H xs a b cs), .bool (twoV W H xs a b)]) ∧ Below w.heap.size w w' := by
  by_cases ht : twoV W H xs a b = true
  · have HT := Lib.hid ht
    have HG := Lib.hid (two_gK ht)
    cases hq : goodCols W H xs cs with
    | true =>
      have HQ := Lib.hid hq
      go_enter Tryd.func7, Tryd.ntmps7
      go_wp2_with fail
      refine (boTwoV_any _ _ _ _ _ _ _ _ _ ((ha.alloc _).alloc _)).mono ?_
      rw [ht]
      rintro e wv ⟨rfl, hb⟩
      have hbx0 := below_box hb
      have a0 : wv.cell? ⟨w.heap.size, 0, none⟩ = some (.int .i64 W) := by simpa using newbox hbx0 0
      have a1 : wv.cell? ⟨w.heap.size, 1, none⟩ = some (.int .i64 H) := by simpa using newbox hbx0 1
      have a2 : wv.cell? ⟨w.heap.size, 2, none⟩ = some (.slice A n c) := by simpa using newbox hbx0 2
      have al : w.heap.size < wv.heap.size := by simpa using newbox_lt hbx0
      have l0 : wv.cell? ⟨w.heap.size + 1, 0, none⟩ = some (.int .i64 a) := by simpa using newbox hb 0
      have l1 : wv.cell? ⟨w.heap.size + 1, 1, none⟩ = some (.int .i64 b) := by simpa using newbox hb 1
      have ll : w.heap.size + 1 < wv.heap.size := by simpa using newbox_lt hb
      have B := Lib.hid (below_box hbx0)
      clear hb hbx0 ht
      go_wp2_with fail
      refine (paGood_any W H A n c xs A2 m c2 cs _ (ha.keep B.out) (hc.keep B.out) HG.out).mono ?_
      rw [hq]
      rintro e ws ⟨rfl, hb⟩
      replace a0 := cell_keep a0 al hb; replace a1 := cell_keep a1 al hb; replace a2 := cell_keep a2 al hb; replace l0 := cell_keep l0 ll hb; replace l1 := cell_keep l1 ll hb
      replace B := Lib.hid (below_next B.out hb)
      clear hb hq al ll
      have hP := paIs_any W H A n c xs a b A2 m c2 cs ws (ha.keep B.out) (hc.keep B.out) HG.out (good_len HQ.out)
      clear ha hc
      go_wp2_with fail
      refine hP.mono ?_
      rintro e wy ⟨rfl, hb⟩
      replace B := Lib.hid (below_next B.out hb)
      clear hb hP a0 a1 a2 l0 l1
      go_wp2
      go_ret2
      exact ⟨by rw [isPaintV, HT.out, HQ.out]; rfl, B.out⟩
    | false =>
      have HQ := Lib.hid hq
      go_enter Tryd.func7, Tryd.ntmps7
      go_wp2_with fail
      refine (boTwoV_any _ _ _ _ _ _ _ _ _ ((ha.alloc _).alloc _)).mono ?_
      rw [ht]
      rintro e wv ⟨rfl, hb⟩
      have hbx0 := below_box hb
      have a0 : wv.cell? ⟨w.heap.size, 0, none⟩ = some (.int .i64 W) := by simpa using newbox hbx0 0
      have a1 : wv.cell? ⟨w.heap.size, 1, none⟩ = some (.int .i64 H) := by simpa using newbox hbx0 1
      have a2 : wv.cell? ⟨w.heap.size, 2, none⟩ = some (.slice A n c) := by simpa using newbox hbx0 2
      have B := Lib.hid (below_box hbx0)
      clear hb hbx0 ht
      go_wp2_with fail
      refine (paGood_any W H A n c xs A2 m c2 cs _ (ha.keep B.out) (hc.keep B.out) HG.out).mono ?_
      rw [hq]
      rintro e ws ⟨rfl, hb⟩
      replace B := Lib.hid (below_next B.out hb)
      clear hb hq a0 a1 a2
      go_wp2
      go_ret2
      exact ⟨by rw [isPaintV, HT.out, HQ.out]; rfl, B.out⟩
  · have ht' : twoV W H xs a b = false := by simpa using ht
    go_enter Tryd.func7, Tryd.ntmps7
    go_wp2_with fail
    refine (boTwoV_any _ _ _ _ _ _ _ _ _ ((ha.alloc _).alloc _)).mono ?_
    rw [ht']
    rintro e wv ⟨rfl, hb⟩
    have B := Lib.hid (below_box (below_box hb))
    clear hb
    go_wp2
    go_ret2
    exact ⟨by rw [isPaintV, ht']; rfl, B.out⟩

set_option maxRecDepth 100000 in
set_option maxHeartbeats 4000000 in
theorem impl_IsPainting (W H : Int) (A : Option Addr) (n c : Nat) (xs : List Int) (a b : Int) (A2 : Option Addr) (m c2 : Nat) (cs : List Int) (w : World) (ha : Rd w A n xs) (hc : Rd w A2 m cs) (hTG : Tab64 w ∧ 0 < w.heap.size) :
    Calls Tryd.prog 11 #[brd W H A n c, lpr a b, .slice A2 m c2] w fun e w' => e = .returned (.tuple #[.bool (isPaintV W H xs a b cs), .bool (twoV W H xs a b)]) ∧ Below w.heap.size w w' := by
  obtain ⟨hT, hgb⟩ := hTG
  have HTB := Lib.hid hT
  by_cases ht : twoV W H xs a b = true
  · have HT := Lib.hid ht
    have HG := Lib.hid (two_gK ht)
    have HLp := Lib.hid (two_lp ht)
    go_enter Tryd.func11, Tryd.ntmps11
    go_wp2_with fail
    refine (isOnE_any _ _ _ _ _ _ _ _ _ ((ha.alloc _).alloc _)).mono ?_
    rw [ht]
    rintro e wv ⟨rfl, hb⟩
    have hbx0 := below_box hb
    have a0 : wv.cell? ⟨w.heap.size, 0, none⟩ = some (.int .i64 W) := by simpa using newbox hbx0 0
    have a1 : wv.cell? ⟨w.heap.size, 1, none⟩ = some (.int .i64 H) := by simpa using newbox hbx0 1
    have a2 : wv.cell? ⟨w.heap.size, 2, none⟩ = some (.slice A n c) := by simpa using newbox hbx0 2
    have al : w.heap.size < wv.heap.size := by simpa using newbox_lt hbx0
    have l0 : wv.cell? ⟨w.heap.size + 1, 0, none⟩ = some (.int .i64 a) := by simpa using newbox hb 0
    have l1 : wv.cell? ⟨w.heap.size + 1, 1, none⟩ = some (.int .i64 b) := by simpa using newbox hb 1
    have ll : w.heap.size + 1 < wv.heap.size := by simpa using newbox_lt hb
    have B := Lib.hid (below_box hbx0)
    clear hb hbx0 ht hT
    go_wp2_with fail
    go_region_held3 (fun w' => w'.cell? ⟨w.heap.size, 0, none⟩ = some (.int .i64 W) ∧ w'.cell? ⟨w.heap.size, 1, none⟩ = some (.int .i64 H) ∧ w'.cell? ⟨w.heap.size, 2, none⟩ = some (.slice A n c) ∧ w'.cell? ⟨w.heap.size + 1, 0, none⟩ = some (.int .i64 a) ∧ w'.cell? ⟨w.heap.size + 1, 1, none⟩ = some (.int .i64 b)) (first | exact ⟨a0, a1, a2, l0, l1⟩)
      (first
        | (go_at_call 26; refine (groundOf_any W H A n c xs a b _ ?_ HG.out HLp.out ?_ ?_).mono ?_; (first | exact ha.keep B.out | exact (ha.keep B.out).drew1); (first | exact HTB.out.keep hgb B.out | exact (HTB.out.keep hgb B.out).drew1); (exact Nat.lt_of_lt_of_le hgb B.out.size); rintro e wv ⟨rfl, hb⟩; (try replace hb := below_undrew hb); replace a0 := cell_keep a0 al hb; replace a1 := cell_keep a1 al hb; replace a2 := cell_keep a2 al hb; replace l0 := cell_keep l0 ll hb; replace l1 := cell_keep l1 ll hb; replace al := lt_keep al hb; replace ll := lt_keep ll hb; replace B := Lib.hid (below_next B.out hb); clear hb)
        | (go_at_call 27; refine (isPainted_any (gl W H xs a b (cellsL W H xs)) (gl_len _ _ _ _ _ _) (gl_lt HG.out) W H A n c xs A2 m c2 cs _ ?_ ?_ HG.out ?_ ?_).mono ?_; (first | exact ha.keep B.out | exact (ha.keep B.out).drew1); (first | exact hc.keep B.out | exact (hc.keep B.out).drew1); (first | exact HTB.out.keep hgb B.out | exact (HTB.out.keep hgb B.out).drew1); (exact Nat.lt_of_lt_of_le hgb B.out.size); rintro e wv ⟨rfl, hb⟩; (try replace hb := below_undrew hb); replace a0 := cell_keep a0 al hb; replace a1 := cell_keep a1 al hb; replace a2 := cell_keep a2 al hb; replace l0 := cell_keep l0 ll hb; replace l1 := cell_keep l1 ll hb; replace al := lt_keep al hb; replace ll := lt_keep ll hb; replace B := Lib.hid (below_next B.out hb); clear hb))
    all_goals go_wp2
    all_goals go_ret2
    all_goals exact ⟨by rw [isPaintV, HT.out, paintedB]; cases hq : goodCols W H xs cs with | true => rw [painted_eq HG.out hq]; rfl | false => rfl, B.out⟩
  · have ht' : twoV W H xs a b = false := by simpa using ht
    go_enter Tryd.func11, Tryd.ntmps11
    go_wp2_with fail
    refine (isOnE_any _ _ _ _ _ _ _ _ _ ((ha.alloc _).alloc _)).mono ?_
    rw [ht']
    rintro e wv ⟨rfl, hb⟩
    have B := Lib.hid (below_box (below_box hb))
    clear hb
    go_wp2
    go_ret2
    exact ⟨by rw [isPaintV, ht']; rfl, B.out⟩

end Go.Proofs.YtmmlhbfekjbdpaaDoor
