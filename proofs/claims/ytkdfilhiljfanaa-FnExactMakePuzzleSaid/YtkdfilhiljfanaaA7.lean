/-
  Contracts: IsSolution.
-/
import Derived.Test.YtkdfilhiljfanaaA5
import Derived.Test.YtkdfilhiljfanaaA6
namespace Go.Proofs.Ytkdfilhiljfanaa
open Go.RowKit

set_option maxRecDepth 100000 in
set_option maxHeartbeats 2000000 in
theorem pzFits_any (W H : Int) (A : Option Addr) (n c : Nat) (a b : Int) (A2 : Option Addr) (n2 c2 : Nat) (ns : List Int) (j : Nat) (place : Int) (w : World) (hp : Rd w A2 n2 ns) (hj : j < n2) :
    Calls Try.prog 47 #[pzv W H A n c a b A2 n2 c2, .int .i64 (j : Int), .int .i64 place] w fun e w' => e = .returned (.bool (fitB ns (j : Int) place)) ∧ Below w.heap.size w w' := by
  have HL := Lib.hid hp.1
  obtain ⟨bb, oo, x, rfl, hg1, hx, x0⟩ := hp.at_ hj
  have HX := Lib.hid hx
  clear hx
  have hj0 : (0 : Int) ≤ (j : Int) := by omega
  have hj2 : (j : Int) < (n2 : Int) := by omega
  obtain ⟨W2, hW2⟩ : ∃ W2, W2 = w.alloc (.cells #[.int .i64 W, .int .i64 H, .slice A n c, .int .i64 a, .int .i64 b, .slice (some ⟨bb, oo, none⟩) n2 c2] 34) := ⟨_, rfl⟩
  have BP := Lib.hid (show Bx W2 (w.heap.size) #[.int .i64 W, .int .i64 H, .slice A n c, .int .i64 a, .int .i64 b, .slice (some ⟨bb, oo, none⟩) n2 c2] 34 by rw [hW2]; exact Bx.new (w) #[.int .i64 W, .int .i64 H, .slice A n c, .int .i64 a, .int .i64 b, .slice (some ⟨bb, oo, none⟩) n2 c2] 34)
  have B := Lib.hid (show Below w.heap.size w W2 by rw [hW2]; repeat (first | exact Below.refl _ _ | refine below_new ?_ _))
  have HSZ := Lib.hid (show w.heap.size + 1 ≤ W2.heap.size by rw [hW2]; simp)
  have RN := Lib.hid (hp.keep B.out)
  replace x0 := cell_keep x0 hg1 B.out
  clear hp
  have p5 := show W2.cell? ⟨w.heap.size, 5, none⟩ = some (.slice (some ⟨bb, oo, none⟩) n2 c2) from BP.out.cell rfl
  cases h1 : (x == place)
  · by_cases h0 : x = 0
    · subst h0
      go_enter Try.func47, Try.ntmps47
      go_upto_region 1 with fail
      rw [← hW2]
      clear hW2
      go_wp2_with fail
      refine (l1Has_any _ _ _ _ _ _ RN.out).mono ?_
      rintro e wv ⟨rfl, hb⟩
      replace B := Lib.hid (below_next B.out hb)
      clear hb p5 x0
      go_wp2
      go_ret
      exact ⟨ret_bool (by rw [fitB, Int.toNat_natCast, getD_of HX.out, h1]; simp), B.out⟩
    · have hne0 : (x == 0) = false := by simpa using h0
      go_enter Try.func47, Try.ntmps47
      go_upto_region 1 with fail
      rw [← hW2]
      clear hW2
      go_wp2
      go_ret
      exact ⟨ret_bool (by rw [fitB, Int.toNat_natCast, getD_of HX.out, h1, hne0]; rfl), B.out⟩
  · go_enter Try.func47, Try.ntmps47
    go_upto_region 1 with fail
    rw [← hW2]
    clear hW2
    go_wp2
    go_ret
    exact ⟨ret_bool (by rw [fitB, Int.toNat_natCast, getD_of HX.out, h1]; rfl), B.out⟩

set_option maxRecDepth 100000 in
set_option maxHeartbeats 2000000 in
theorem spec_IsSolution (W H : Int) (A : Option Addr) (n c : Nat) (a b : Int) (A2 : Option Addr) (n2 c2 : Nat) (xs ns : List Int) (A3 : Option Addr) (m3 c3 : Nat) (ps : List Int) (w : World) (ha : Rd w A n xs) (hp : Rd w A2 n2 ns) (hq : Rd w A3 m3 ps) (hcap : n2 ≤ c2) (hcap3 : m3 ≤ c3) :
    Calls Try.prog 18 #[pzv W H A n c a b A2 n2 c2, .slice A3 m3 c3] w fun e w' => e = .returned (.tuple #[.bool (okSol W H xs a b ns ps), .bool (goodP W H xs a b ns)]) ∧ Below w.heap.size w w' := by
  have HL := Lib.hid hp.1; have HPL := Lib.hid hq.1
  have n9 := hp.2.1; have m9 := hq.2.1
  obtain ⟨W2, hW2⟩ : ∃ W2, W2 = w.alloc (.cells #[.int .i64 W, .int .i64 H, .slice A n c, .int .i64 a, .int .i64 b, .slice A2 n2 c2] 34) := ⟨_, rfl⟩
  have BP := Lib.hid (show Bx W2 (w.heap.size) #[.int .i64 W, .int .i64 H, .slice A n c, .int .i64 a, .int .i64 b, .slice A2 n2 c2] 34 by rw [hW2]; exact Bx.new (w) #[.int .i64 W, .int .i64 H, .slice A n c, .int .i64 a, .int .i64 b, .slice A2 n2 c2] 34)
  have B := Lib.hid (show Below w.heap.size w W2 by rw [hW2]; repeat (first | exact Below.refl _ _ | refine below_new ?_ _))
  have HSZ := Lib.hid (show w.heap.size + 1 ≤ W2.heap.size by rw [hW2]; simp)
  have RH := Lib.hid (ha.keep B.out); have RN := Lib.hid (hp.keep B.out); have RQ := Lib.hid (hq.keep B.out)
  clear ha hp hq
  by_cases hg : goodP W H xs a b ns = true
  · by_cases ht : tourB W H xs a b ps = true
    · have p0 : W2.cell? ⟨w.heap.size, 0, none⟩ = some (.int .i64 W) := BP.out.cell rfl
      have p1 : W2.cell? ⟨w.heap.size, 1, none⟩ = some (.int .i64 H) := BP.out.cell rfl
      have p2 : W2.cell? ⟨w.heap.size, 2, none⟩ = some (.slice A n c) := BP.out.cell rfl
      have p3 : W2.cell? ⟨w.heap.size, 3, none⟩ = some (.int .i64 a) := BP.out.cell rfl
      have p4 : W2.cell? ⟨w.heap.size, 4, none⟩ = some (.int .i64 b) := BP.out.cell rfl
      have p5 : W2.cell? ⟨w.heap.size, 5, none⟩ = some (.slice A2 n2 c2) := BP.out.cell rfl
      go_enter Try.func18, Try.ntmps18
      go_wp2_with fail
      rw [← hW2]
      clear hW2
      clear p0 p1 p2 p3 p4 p5
      refine (pzGood_any W H A n c a b A2 n2 c2 xs ns _ RH.out RN.out hcap).mono ?_
      rw [hg]
      rintro e wv ⟨rfl, hb⟩
      replace BP := Lib.hid (BP.out.keep hb)
      replace RH := Lib.hid (RH.out.keep hb)
      replace RN := Lib.hid (RN.out.keep hb)
      replace RQ := Lib.hid (RQ.out.keep hb)
      replace HSZ := Lib.hid (Nat.le_trans HSZ.out hb.size)
      replace B := Lib.hid (below_next B.out hb)
      clear hb
      have HG := Lib.hid hg; have HGB := Lib.hid (two_gK (goodP_two hg))
      clear hg
      have p0 : wv.cell? ⟨w.heap.size, 0, none⟩ = some (.int .i64 W) := BP.out.cell rfl
      have p1 : wv.cell? ⟨w.heap.size, 1, none⟩ = some (.int .i64 H) := BP.out.cell rfl
      have p2 : wv.cell? ⟨w.heap.size, 2, none⟩ = some (.slice A n c) := BP.out.cell rfl
      have p3 : wv.cell? ⟨w.heap.size, 3, none⟩ = some (.int .i64 a) := BP.out.cell rfl
      have p4 : wv.cell? ⟨w.heap.size, 4, none⟩ = some (.int .i64 b) := BP.out.cell rfl
      go_wp2_with fail
      clear p0 p1 p2 p3 p4
      refine (toTour_any W H A n c xs a b A3 m3 c3 ps _ RH.out RQ.out hcap3 HGB.out).mono ?_
      rw [ht]
      rintro e wv ⟨rfl, hb⟩
      replace BP := Lib.hid (BP.out.keep hb)
      replace RH := Lib.hid (RH.out.keep hb)
      replace RN := Lib.hid (RN.out.keep hb)
      replace RQ := Lib.hid (RQ.out.keep hb)
      replace HSZ := Lib.hid (Nat.le_trans HSZ.out hb.size)
      replace B := Lib.hid (below_next B.out hb)
      clear hb
      have HT := Lib.hid ht
      have HIN := Lib.hid (tour_in ht)
      have HLN := Lib.hid (goodP_len HG.out)
      clear ht
      go_wp2
      go_loopw [20] (fun i wr => ∃ k : Nat, k ≤ m3 ∧ i = .int .i64 k ∧ fitsFrom ns 0 ps = fitsFrom ns k (ps.drop k) ∧ Below wv.heap.size wv wr) (fun i _ => m3 - (intOf i).toNat)
      case atStart => exact ⟨0, Nat.zero_le _, rfl, rfl, Below.refl _ _⟩
      case round =>
        obtain ⟨k, hk, rfl, hff, hbw⟩ := hrel
        have HF := Lib.hid hff; have BW := Lib.hid hbw
        clear hff hbw
        have BK := Lib.hid (BP.out.keep BW.out)
        by_cases hlt : k < m3
        · obtain ⟨bb, oo, x, rfl, hg1, hx, x0⟩ := (RQ.out.keep BW.out).at_ hlt
          have HX := Lib.hid hx
          obtain ⟨j, rfl⟩ : ∃ j : Nat, x = (j : Int) := ⟨x.toNat, by have := HIN.out x (List.mem_of_getElem? hx); omega⟩
          have hj : j < n2 := by have := HIN.out _ (List.mem_of_getElem? hx); have := HLN.out; have := HL.out; omega
          clear hx
          have p0 : wr.cell? ⟨w.heap.size, 0, none⟩ = some (.int .i64 W) := BK.out.cell rfl
          have p1 : wr.cell? ⟨w.heap.size, 1, none⟩ = some (.int .i64 H) := BK.out.cell rfl
          have p2 : wr.cell? ⟨w.heap.size, 2, none⟩ = some (.slice A n c) := BK.out.cell rfl
          have p3 : wr.cell? ⟨w.heap.size, 3, none⟩ = some (.int .i64 a) := BK.out.cell rfl
          have p4 : wr.cell? ⟨w.heap.size, 4, none⟩ = some (.int .i64 b) := BK.out.cell rfl
          have p5 : wr.cell? ⟨w.heap.size, 5, none⟩ = some (.slice A2 n2 c2) := BK.out.cell rfl
          cases h1 : fitB ns (j : Int) ((k : Int) + 1)
          · go_wp2_with fail
            refine (pzFits_any W H A n c a b A2 n2 c2 ns j ((k : Int) + 1) _ (RN.out.keep BW.out) hj).mono ?_
            rw [h1]
            rintro e wy ⟨rfl, hb⟩
            replace BW := Lib.hid (below_next BW.out hb)
            clear hb
            clear p0 p1 p2 p3 p4 p5
            go_wp2
            go_ret2
            exact ⟨by rw [show okSol W H xs a b ns ps = false by rw [okSol, HG.out, HT.out, HF.out, fitsFrom_drop HX.out, h1]; rfl, HG.out]; rfl, below_next B.out BW.out⟩
          · go_wp2_with fail
            refine (pzFits_any W H A n c a b A2 n2 c2 ns j ((k : Int) + 1) _ (RN.out.keep BW.out) hj).mono ?_
            rw [h1]
            rintro e wy ⟨rfl, hb⟩
            replace BW := Lib.hid (below_next BW.out hb)
            clear hb
            clear p0 p1 p2 p3 p4 p5
            go_wp2
            go_roundw
            case rel => exact ⟨k + 1, by omega, by go_num, by rw [HF.out, fitsFrom_drop HX.out, h1]; rfl, BW.out⟩
            case measure => simp [intOf]; omega
        · go_wp2
          go_ret2
          exact ⟨by rw [show okSol W H xs a b ns ps = true by rw [okSol, HG.out, HT.out, HF.out, List.drop_of_length_le (by have := HPL.out; omega)]; rfl, HG.out]; rfl, below_next B.out BW.out⟩
    · have p0 : W2.cell? ⟨w.heap.size, 0, none⟩ = some (.int .i64 W) := BP.out.cell rfl
      have p1 : W2.cell? ⟨w.heap.size, 1, none⟩ = some (.int .i64 H) := BP.out.cell rfl
      have p2 : W2.cell? ⟨w.heap.size, 2, none⟩ = some (.slice A n c) := BP.out.cell rfl
      have p3 : W2.cell? ⟨w.heap.size, 3, none⟩ = some (.int .i64 a) := BP.out.cell rfl
      have p4 : W2.cell? ⟨w.heap.size, 4, none⟩ = some (.int .i64 b) := BP.out.cell rfl
      have p5 : W2.cell? ⟨w.heap.size, 5, none⟩ = some (.slice A2 n2 c2) := BP.out.cell rfl
      go_enter Try.func18, Try.ntmps18
      go_wp2_with fail
      rw [← hW2]
      clear hW2
      clear p0 p1 p2 p3 p4 p5
      refine (pzGood_any W H A n c a b A2 n2 c2 xs ns _ RH.out RN.out hcap).mono ?_
      rw [hg]
      rintro e wv ⟨rfl, hb⟩
      replace BP := Lib.hid (BP.out.keep hb)
      replace RH := Lib.hid (RH.out.keep hb)
      replace RN := Lib.hid (RN.out.keep hb)
      replace RQ := Lib.hid (RQ.out.keep hb)
      replace HSZ := Lib.hid (Nat.le_trans HSZ.out hb.size)
      replace B := Lib.hid (below_next B.out hb)
      clear hb
      have HG := Lib.hid hg; have HGB := Lib.hid (two_gK (goodP_two hg))
      clear hg
      have p0 : wv.cell? ⟨w.heap.size, 0, none⟩ = some (.int .i64 W) := BP.out.cell rfl
      have p1 : wv.cell? ⟨w.heap.size, 1, none⟩ = some (.int .i64 H) := BP.out.cell rfl
      have p2 : wv.cell? ⟨w.heap.size, 2, none⟩ = some (.slice A n c) := BP.out.cell rfl
      have p3 : wv.cell? ⟨w.heap.size, 3, none⟩ = some (.int .i64 a) := BP.out.cell rfl
      have p4 : wv.cell? ⟨w.heap.size, 4, none⟩ = some (.int .i64 b) := BP.out.cell rfl
      go_wp2_with fail
      clear p0 p1 p2 p3 p4
      refine (toTour_any W H A n c xs a b A3 m3 c3 ps _ RH.out RQ.out hcap3 HGB.out).mono ?_
      rw [show tourB W H xs a b ps = false by simpa using ht]
      rintro e wv ⟨rfl, hb⟩
      replace BP := Lib.hid (BP.out.keep hb)
      replace RH := Lib.hid (RH.out.keep hb)
      replace RN := Lib.hid (RN.out.keep hb)
      replace RQ := Lib.hid (RQ.out.keep hb)
      replace HSZ := Lib.hid (Nat.le_trans HSZ.out hb.size)
      replace B := Lib.hid (below_next B.out hb)
      clear hb
      go_wp2
      go_ret2
      exact ⟨by rw [show okSol W H xs a b ns ps = false by rw [okSol, HG.out, show tourB W H xs a b ps = false by simpa using ht]; rfl, HG.out]; rfl, B.out⟩
  · have p0 : W2.cell? ⟨w.heap.size, 0, none⟩ = some (.int .i64 W) := BP.out.cell rfl
    have p1 : W2.cell? ⟨w.heap.size, 1, none⟩ = some (.int .i64 H) := BP.out.cell rfl
    have p2 : W2.cell? ⟨w.heap.size, 2, none⟩ = some (.slice A n c) := BP.out.cell rfl
    have p3 : W2.cell? ⟨w.heap.size, 3, none⟩ = some (.int .i64 a) := BP.out.cell rfl
    have p4 : W2.cell? ⟨w.heap.size, 4, none⟩ = some (.int .i64 b) := BP.out.cell rfl
    have p5 : W2.cell? ⟨w.heap.size, 5, none⟩ = some (.slice A2 n2 c2) := BP.out.cell rfl
    go_enter Try.func18, Try.ntmps18
    go_wp2_with fail
    rw [← hW2]
    clear hW2
    clear p0 p1 p2 p3 p4 p5
    refine (pzGood_any W H A n c a b A2 n2 c2 xs ns _ RH.out RN.out hcap).mono ?_
    rw [show goodP W H xs a b ns = false by simpa using hg]
    rintro e wv ⟨rfl, hb⟩
    replace BP := Lib.hid (BP.out.keep hb)
    replace RH := Lib.hid (RH.out.keep hb)
    replace RN := Lib.hid (RN.out.keep hb)
    replace RQ := Lib.hid (RQ.out.keep hb)
    replace HSZ := Lib.hid (Nat.le_trans HSZ.out hb.size)
    replace B := Lib.hid (below_next B.out hb)
    clear hb
    go_wp2
    go_ret2
    exact ⟨by rw [show okSol W H xs a b ns ps = false by rw [okSol, show goodP W H xs a b ns = false by simpa using hg]; rfl, show goodP W H xs a b ns = false by simpa using hg]; rfl, B.out⟩

theorem numbersN_any (W H : Int) (A : Option Addr) (n c : Nat) (A2 : Option Addr) (m c2 k : Nat) (ps : List Int) (w : World) (hp : Rd w A2 m ps) (hN : 1 ≤ W * H ∧ W * H ≤ 64) (hin : ∀ x ∈ ps, 0 ≤ x ∧ x < W * H) (hk : (W * H).toNat = k) :
    Calls Try.prog 50 #[brd W H A n c, .slice A2 m c2] w fun e w' => ∃ g, e = .returned (.slice (some ⟨g, 0, none⟩) k k) ∧ OwnI 3 w' w.heap.size (some ⟨g, 0, none⟩) k k (numsL W H ps) ∧ Below w.heap.size w w' := by
  subst hk; exact numbersOf_any W H A n c A2 m c2 ps w hp hN hin

set_option maxRecDepth 100000 in
set_option maxHeartbeats 2000000 in
theorem agrees_any (W H : Int) (A : Option Addr) (n c : Nat) (a b : Int) (A2 : Option Addr) (n2 c2 : Nat) (ns nums : List Int) (AU : Option Addr) (cu : Nat) (w : World) (hp : Rd w A2 n2 ns) (hu : Rd w AU n2 nums) :
    Calls Try.prog 49 #[pzv W H A n c a b A2 n2 c2, .slice AU n2 cu] w fun e w' => e = .returned (.bool (agreeFrom nums 0 ns)) ∧ Below w.heap.size w w' := by
  have HL := Lib.hid hp.1
  have n9 := hp.2.1
  obtain ⟨W2, hW2⟩ : ∃ W2, W2 = w.alloc (.cells #[.int .i64 W, .int .i64 H, .slice A n c, .int .i64 a, .int .i64 b, .slice A2 n2 c2] 34) := ⟨_, rfl⟩
  have BP := Lib.hid (show Bx W2 (w.heap.size) #[.int .i64 W, .int .i64 H, .slice A n c, .int .i64 a, .int .i64 b, .slice A2 n2 c2] 34 by rw [hW2]; exact Bx.new (w) #[.int .i64 W, .int .i64 H, .slice A n c, .int .i64 a, .int .i64 b, .slice A2 n2 c2] 34)
  have B := Lib.hid (show Below w.heap.size w W2 by rw [hW2]; repeat (first | exact Below.refl _ _ | refine below_new ?_ _))
  have HSZ := Lib.hid (show w.heap.size + 1 ≤ W2.heap.size by rw [hW2]; simp)
  have RN := Lib.hid (hp.keep B.out); have RU := Lib.hid (hu.keep B.out)
  clear hp hu
  have p5 : W2.cell? ⟨w.heap.size, 5, none⟩ = some (.slice A2 n2 c2) := BP.out.cell rfl
  go_enter Try.func49, Try.ntmps49
  go_upto_region 1 with fail
  rw [← hW2]
  clear hW2
  go_wp2
  clear p5
  go_loopw [10] (fun i wr => ∃ k : Nat, k ≤ n2 ∧ i = .int .i64 k ∧ agreeFrom nums 0 ns = agreeFrom nums k (ns.drop k) ∧ Below W2.heap.size W2 wr) (fun i _ => n2 - (intOf i).toNat)
  case atStart => exact ⟨0, Nat.zero_le _, rfl, rfl, Below.refl _ _⟩
  case round =>
    obtain ⟨k, hk, rfl, hff, hbw⟩ := hrel
    have HF := Lib.hid hff; have BW := Lib.hid hbw
    clear hff hbw
    by_cases hlt : k < n2
    · obtain ⟨bb, oo, x, rfl, hg1, hx, x0⟩ := (RN.out.keep BW.out).at_ hlt
      obtain ⟨b2, o2, y, rfl, hg2, hy, y0⟩ := (RU.out.keep BW.out).at_ hlt
      have HX := Lib.hid hx; have HY := Lib.hid hy
      clear hx hy
      have hk0 : (0 : Int) ≤ (k : Int) := by omega
      have hk2 : (k : Int) < (n2 : Int) := by omega
      by_cases h0 : x = 0
      · subst h0
        go_wp2
        go_roundw
        case rel => exact ⟨k + 1, by omega, by go_num, by rw [HF.out, agreeFrom_drop HX.out, getD_of HY.out, show ((0 : Int) == 0) = true from rfl, Bool.true_or, Bool.true_and], BW.out⟩
        case measure => simp [intOf]; omega
      · have hne0 : (x != 0) = true := by simpa using h0
        by_cases h1 : x = y
        · subst h1
          go_wp2
          go_roundw
          case rel => exact ⟨k + 1, by omega, by go_num, by rw [HF.out, agreeFrom_drop HX.out, getD_of HY.out, show (x == x) = true by simp, Bool.or_true, Bool.true_and], BW.out⟩
          case measure => simp [intOf]; omega
        · have hne1 : (x != y) = true := by simpa using h1
          go_wp2
          go_ret
          exact ⟨ret_bool (by rw [HF.out, agreeFrom_drop HX.out, getD_of HY.out, show (x == 0) = false by simpa using h0, show (x == y) = false by simpa using h1]; rfl), below_next B.out BW.out⟩
    · go_wp2
      go_ret
      exact ⟨ret_bool (by rw [HF.out, List.drop_of_length_le (by have := HL.out; omega)]; rfl), below_next B.out BW.out⟩

set_option maxRecDepth 100000 in
set_option maxHeartbeats 4000000 in
theorem impl_IsSolution (W H : Int) (A : Option Addr) (n c : Nat) (a b : Int) (A2 : Option Addr) (n2 c2 : Nat) (xs ns : List Int) (A3 : Option Addr) (m3 c3 : Nat) (ps : List Int) (w : World) (ha : Rd w A n xs) (hp : Rd w A2 n2 ns) (hq : Rd w A3 m3 ps) :
    Calls Try.prog 20 #[pzv W H A n c a b A2 n2 c2, .slice A3 m3 c3] w fun e w' => e = .returned (.tuple #[.bool (okSol W H xs a b ns ps), .bool (goodP W H xs a b ns)]) ∧ Below w.heap.size w w' := by
  have HL := Lib.hid hp.1; have HPL := Lib.hid hq.1
  have n9 := hp.2.1; have m9 := hq.2.1
  obtain ⟨W2, hW2⟩ : ∃ W2, W2 = w.alloc (.cells #[.int .i64 W, .int .i64 H, .slice A n c, .int .i64 a, .int .i64 b, .slice A2 n2 c2] 34) := ⟨_, rfl⟩
  have BP := Lib.hid (show Bx W2 (w.heap.size) #[.int .i64 W, .int .i64 H, .slice A n c, .int .i64 a, .int .i64 b, .slice A2 n2 c2] 34 by rw [hW2]; exact Bx.new (w) #[.int .i64 W, .int .i64 H, .slice A n c, .int .i64 a, .int .i64 b, .slice A2 n2 c2] 34)
  have B := Lib.hid (show Below w.heap.size w W2 by rw [hW2]; repeat (first | exact Below.refl _ _ | refine below_new ?_ _))
  have HSZ := Lib.hid (show w.heap.size + 1 ≤ W2.heap.size by rw [hW2]; simp)
  have RH := Lib.hid (ha.keep B.out); have RN := Lib.hid (hp.keep B.out); have RQ := Lib.hid (hq.keep B.out)
  clear ha hp hq
  by_cases hg : goodP W H xs a b ns = true
  · by_cases ht : tourB W H xs a b ps = true
    · have HNN := Lib.hid (good_N (two_gK (goodP_two hg)))
      have HK := Lib.hid (show (W * H).toNat = n2 by have := goodP_len hg; have := HL.out; omega)
      cases ha : agreeFrom (numsL W H ps) 0 ns
      · have p0 : W2.cell? ⟨w.heap.size, 0, none⟩ = some (.int .i64 W) := BP.out.cell rfl
        have p1 : W2.cell? ⟨w.heap.size, 1, none⟩ = some (.int .i64 H) := BP.out.cell rfl
        have p2 : W2.cell? ⟨w.heap.size, 2, none⟩ = some (.slice A n c) := BP.out.cell rfl
        have p3 : W2.cell? ⟨w.heap.size, 3, none⟩ = some (.int .i64 a) := BP.out.cell rfl
        have p4 : W2.cell? ⟨w.heap.size, 4, none⟩ = some (.int .i64 b) := BP.out.cell rfl
        have p5 : W2.cell? ⟨w.heap.size, 5, none⟩ = some (.slice A2 n2 c2) := BP.out.cell rfl
        go_enter Try.func20, Try.ntmps20
        go_wp2_with fail
        rw [← hW2]
        clear hW2
        clear p0 p1 p2 p3 p4 p5
        refine (impl_IsPuzzle W H A n c a b A2 n2 c2 xs ns _ RH.out RN.out).mono ?_
        rw [hg]
        rintro e wv ⟨rfl, hb⟩
        replace BP := Lib.hid (BP.out.keep hb)
        replace RH := Lib.hid (RH.out.keep hb)
        replace RN := Lib.hid (RN.out.keep hb)
        replace RQ := Lib.hid (RQ.out.keep hb)
        replace HSZ := Lib.hid (Nat.le_trans HSZ.out hb.size)
        replace B := Lib.hid (below_next B.out hb)
        clear hb
        have HG := Lib.hid hg; have HGB := Lib.hid (two_gK (goodP_two hg))
        clear hg
        go_wp2_with fail
        refine wp_region_held_drew (S := fun w' => w'.cell? ⟨w.heap.size, 0, none⟩ = some (.int .i64 W) ∧ w'.cell? ⟨w.heap.size, 1, none⟩ = some (.int .i64 H) ∧ w'.cell? ⟨w.heap.size, 2, none⟩ = some (.slice A n c) ∧ w'.cell? ⟨w.heap.size, 3, none⟩ = some (.int .i64 a) ∧ w'.cell? ⟨w.heap.size, 4, none⟩ = some (.int .i64 b) ∧ w'.cell? ⟨w.heap.size, 5, none⟩ = some (.slice A2 n2 c2)) (by kernel_rfl) ?_ (fun hHeld => ?_)
        · (try dsimp only)
          exact ⟨BP.out.cell rfl, BP.out.cell rfl, BP.out.cell rfl, BP.out.cell rfl, BP.out.cell rfl, BP.out.cell rfl⟩
        refine wpAnyH_take (i := 0) (oi := ⟨_, _, _, _, _, _⟩) (v := ?_) rfl (by kernel_rfl) (by kernel_rfl) (by kernel_rfl) (fun _ _ _ h => h) (Or.inl ⟨by rfl, ?_⟩) (by assumption) ?_
        rotate_left
        · intro w hSw
          (try dsimp only at hSw)
          go_simp
          (try with_reducible rfl)
        (try simp only [Act.put, List.setIfInBounds_toArray, List.set_cons_zero, List.set_cons_succ])
        refine wpAnyH_take (i := 2) (oi := ⟨_, _, _, _, _, _⟩) (v := ?_) rfl (by kernel_rfl) (by kernel_rfl) (by kernel_rfl) (fun _ _ _ h => h) (Or.inl ⟨by rfl, ?_⟩) (by assumption) ?_
        rotate_left
        · intro w hSw
          (try dsimp only at hSw)
          go_simp
          (try with_reducible rfl)
        (try simp only [Act.put, List.setIfInBounds_toArray, List.set_cons_zero, List.set_cons_succ])
        refine wpAnyH_take (i := 4) (oi := ⟨_, _, _, _, _, _⟩) (v := ?_) rfl (by kernel_rfl) (by kernel_rfl) (by kernel_rfl) (fun _ _ _ h => h) (Or.inl ⟨by rfl, ?_⟩) (by assumption) ?_
        rotate_left
        · intro w hSw
          (try dsimp only at hSw)
          go_simp
          (try with_reducible rfl)
        (try simp only [Act.put, List.setIfInBounds_toArray, List.set_cons_zero, List.set_cons_succ])
        refine wpAnyH_take (i := 1) (oi := ⟨_, _, _, _, _, _⟩) (v := ?_) rfl (by kernel_rfl) (by kernel_rfl) (by kernel_rfl) (fun _ _ _ h => h) (Or.inl ⟨by rfl, ?_⟩) (by assumption) ?_
        rotate_left
        · intro w hSw
          (try dsimp only at hSw)
          go_simp
          (try with_reducible rfl)
        (try simp only [Act.put, List.setIfInBounds_toArray, List.set_cons_zero, List.set_cons_succ])
        refine wpAnyH_take (i := 3) (oi := ⟨_, _, _, _, _, _⟩) (v := ?_) rfl (by kernel_rfl) (by kernel_rfl) (by kernel_rfl) (fun _ _ _ h => h) (Or.inl ⟨by rfl, ?_⟩) (by assumption) ?_
        rotate_left
        · intro w hSw
          (try dsimp only at hSw)
          go_simp
          (try with_reducible rfl)
        (try simp only [Act.put, List.setIfInBounds_toArray, List.set_cons_zero, List.set_cons_succ])
        refine wpAnyH_ready (rs := [5]) (by kernel_rfl) (by simp) ?_
        refine AllReadyH.cons (o := ⟨_, _, _, _, _, _⟩) rfl (fun K hK => ?_) AllReadyH.nil
        go_simp
        (go_at_call 48; refine (isTour_any W H A n c xs a b A3 m3 c3 ps _ (by exact RH.out) (by exact RQ.out) HGB.out).mono ?_; rw [ht]; rintro e wv ⟨rfl, hb⟩; (repeat (first | replace hb := below_undrew hb | replace hb := below_undrewN hb)); replace BP := Lib.hid (BP.out.keep hb); replace RH := Lib.hid (RH.out.keep hb); replace RN := Lib.hid (RN.out.keep hb); replace RQ := Lib.hid (RQ.out.keep hb); replace HSZ := Lib.hid (Nat.le_trans HSZ.out hb.size); replace B := Lib.hid (below_next B.out hb); clear hb)
        (try go_wp2_with fail)
        refine hK.out _ _ ?_ (fun hHeld => ?_)
        · (try dsimp only)
          exact ⟨BP.out.cell rfl, BP.out.cell rfl, BP.out.cell rfl, BP.out.cell rfl, BP.out.cell rfl, BP.out.cell rfl⟩
        clear hK K
        (try simp only [Act.put, List.setIfInBounds_toArray, List.set_cons_zero, List.set_cons_succ])
        refine wpAnyH_take (i := 6) (oi := ⟨_, _, _, _, _, _⟩) (v := ?_) rfl (by kernel_rfl) (by kernel_rfl) (by kernel_rfl) (fun _ _ _ h => h) (Or.inl ⟨by rfl, ?_⟩) (by assumption) ?_
        rotate_left
        · intro w hSw
          (try dsimp only at hSw)
          go_simp
          (try with_reducible rfl)
        (try simp only [Act.put, List.setIfInBounds_toArray, List.set_cons_zero, List.set_cons_succ])
        refine wpAnyH_take (i := 7) (oi := ⟨_, _, _, _, _, _⟩) (v := ?_) rfl (by kernel_rfl) (by kernel_rfl) (by kernel_rfl) (fun _ _ _ h => h) (Or.inl ⟨by rfl, ?_⟩) (by assumption) ?_
        rotate_left
        · intro w hSw
          (try dsimp only at hSw)
          go_simp
          (try with_reducible rfl)
        (try simp only [Act.put, List.setIfInBounds_toArray, List.set_cons_zero, List.set_cons_succ])
        refine wpAnyH_take (i := 8) (oi := ⟨_, _, _, _, _, _⟩) (v := ?_) rfl (by kernel_rfl) (by kernel_rfl) (by kernel_rfl) (fun _ _ _ h => h) (Or.inl ⟨by rfl, ?_⟩) (by assumption) ?_
        rotate_left
        · intro w hSw
          (try dsimp only at hSw)
          go_simp
          (try with_reducible rfl)
        (try simp only [Act.put, List.setIfInBounds_toArray, List.set_cons_zero, List.set_cons_succ])
        refine wpAnyH_take (i := 10) (oi := ⟨_, _, _, _, _, _⟩) (v := ?_) rfl (by kernel_rfl) (by kernel_rfl) (by kernel_rfl) (fun _ _ _ h => h) (Or.inl ⟨by rfl, ?_⟩) (by assumption) ?_
        rotate_left
        · intro w hSw
          (try dsimp only at hSw)
          go_simp
          (try with_reducible rfl)
        (try simp only [Act.put, List.setIfInBounds_toArray, List.set_cons_zero, List.set_cons_succ])
        refine wpAnyH_take (i := 9) (oi := ⟨_, _, _, _, _, _⟩) (v := ?_) rfl (by kernel_rfl) (by kernel_rfl) (by kernel_rfl) (fun _ _ _ h => h) (Or.inl ⟨by rfl, ?_⟩) (by assumption) ?_
        rotate_left
        · intro w hSw
          (try dsimp only at hSw)
          go_simp
          (try with_reducible rfl)
        (try simp only [Act.put, List.setIfInBounds_toArray, List.set_cons_zero, List.set_cons_succ])
        refine wpAnyH_ready (rs := [11]) (by kernel_rfl) (by simp) ?_
        refine AllReadyH.cons (o := ⟨_, _, _, _, _, _⟩) rfl (fun K hK => ?_) AllReadyH.nil
        go_simp
        (go_at_call 50; refine (numbersN_any W H A n c A3 m3 c3 n2 ps _ (by exact RQ.out) HNN.out (tour_in ht) HK.out).mono ?_; rintro e wv ⟨gu, rfl, own, hb⟩; (repeat (first | replace hb := below_undrew hb | replace hb := below_undrewN hb)); have OU := Lib.hid own; clear own; replace BP := Lib.hid (BP.out.keep hb); replace RH := Lib.hid (RH.out.keep hb); replace RN := Lib.hid (RN.out.keep hb); replace RQ := Lib.hid (RQ.out.keep hb); replace HSZ := Lib.hid (Nat.le_trans HSZ.out hb.size); replace B := Lib.hid (below_next B.out hb); clear hb)
        (try go_wp2_with fail)
        refine hK.out _ _ ?_ (fun hHeld => ?_)
        · (try dsimp only)
          exact ⟨BP.out.cell rfl, BP.out.cell rfl, BP.out.cell rfl, BP.out.cell rfl, BP.out.cell rfl, BP.out.cell rfl⟩
        clear hK K
        (try simp only [Act.put, List.setIfInBounds_toArray, List.set_cons_zero, List.set_cons_succ])
        refine wpAnyH_ready (rs := [12]) (by kernel_rfl) (by simp) ?_
        refine AllReadyH.cons (o := ⟨_, _, _, _, _, _⟩) rfl (fun K hK => ?_) AllReadyH.nil
        go_simp
        (go_at_call 49; refine (agrees_any W H A n c a b A2 n2 c2 ns (numsL W H ps) _ _ _ (by exact RN.out) (by exact OU.out.rd)).mono ?_; rw [ha]; rintro e wv ⟨rfl, hb⟩; (repeat (first | replace hb := below_undrew hb | replace hb := below_undrewN hb)); replace BP := Lib.hid (BP.out.keep hb); replace RH := Lib.hid (RH.out.keep hb); replace RN := Lib.hid (RN.out.keep hb); replace RQ := Lib.hid (RQ.out.keep hb); replace OU := Lib.hid (OU.out.keep hb); replace HSZ := Lib.hid (Nat.le_trans HSZ.out hb.size); replace B := Lib.hid (below_next B.out hb); clear hb)
        (try go_wp2_with fail)
        refine hK.out _ _ ?_ (fun hHeld => ?_)
        · (try dsimp only)
          exact ⟨BP.out.cell rfl, BP.out.cell rfl, BP.out.cell rfl, BP.out.cell rfl, BP.out.cell rfl, BP.out.cell rfl⟩
        clear hK K
        (try simp only [Act.put, List.setIfInBounds_toArray, List.set_cons_zero, List.set_cons_succ])
        refine wpAnyH_take (i := 13) (oi := ⟨_, _, _, _, _, _⟩) (v := ?_) rfl (by kernel_rfl) (by kernel_rfl) (by kernel_rfl) (fun _ _ _ h => h) (Or.inl ⟨by rfl, ?_⟩) (by assumption) ?_
        rotate_left
        · intro w hSw
          (try dsimp only at hSw)
          go_simp
          (try with_reducible rfl)
        (try simp only [Act.put, List.setIfInBounds_toArray, List.set_cons_zero, List.set_cons_succ])
        refine wpAnyH_take (i := 14) (oi := ⟨_, _, _, _, _, _⟩) (v := ?_) rfl (by kernel_rfl) (by kernel_rfl) (by kernel_rfl) (fun _ _ _ h => h) (Or.inl ⟨by rfl, ?_⟩) (by assumption) ?_
        rotate_left
        · intro w hSw
          (try dsimp only at hSw)
          go_simp
          (try with_reducible rfl)
        (try simp only [Act.put, List.setIfInBounds_toArray, List.set_cons_zero, List.set_cons_succ])
        refine wpAnyH_take (i := 15) (oi := ⟨_, _, _, _, _, _⟩) (v := ?_) rfl (by kernel_rfl) (by kernel_rfl) (by kernel_rfl) (fun _ _ _ h => h) (Or.inl ⟨by rfl, ?_⟩) (by assumption) ?_
        rotate_left
        · intro w hSw
          (try dsimp only at hSw)
          go_simp
          (try with_reducible rfl)
        (try simp only [Act.put, List.setIfInBounds_toArray, List.set_cons_zero, List.set_cons_succ])
        refine wpAnyH_done (by kernel_rfl) ?_ _
        clear hHeld
        go_wp2
        go_ret2
        exact ⟨by rw [show okSol W H xs a b ns ps = false by rw [okSol, HG.out, ht, sol_eq HG.out ht, ha]; rfl, HG.out]; rfl, (by repeat (first | exact B.out | refine below_drewN ?_ _ | refine Below.drew ?_))⟩
      · have p0 : W2.cell? ⟨w.heap.size, 0, none⟩ = some (.int .i64 W) := BP.out.cell rfl
        have p1 : W2.cell? ⟨w.heap.size, 1, none⟩ = some (.int .i64 H) := BP.out.cell rfl
        have p2 : W2.cell? ⟨w.heap.size, 2, none⟩ = some (.slice A n c) := BP.out.cell rfl
        have p3 : W2.cell? ⟨w.heap.size, 3, none⟩ = some (.int .i64 a) := BP.out.cell rfl
        have p4 : W2.cell? ⟨w.heap.size, 4, none⟩ = some (.int .i64 b) := BP.out.cell rfl
        have p5 : W2.cell? ⟨w.heap.size, 5, none⟩ = some (.slice A2 n2 c2) := BP.out.cell rfl
        go_enter Try.func20, Try.ntmps20
        go_wp2_with fail
        rw [← hW2]
        clear hW2
        clear p0 p1 p2 p3 p4 p5
        refine (impl_IsPuzzle W H A n c a b A2 n2 c2 xs ns _ RH.out RN.out).mono ?_
        rw [hg]
        rintro e wv ⟨rfl, hb⟩
        replace BP := Lib.hid (BP.out.keep hb)
        replace RH := Lib.hid (RH.out.keep hb)
        replace RN := Lib.hid (RN.out.keep hb)
        replace RQ := Lib.hid (RQ.out.keep hb)
        replace HSZ := Lib.hid (Nat.le_trans HSZ.out hb.size)
        replace B := Lib.hid (below_next B.out hb)
        clear hb
        have HG := Lib.hid hg; have HGB := Lib.hid (two_gK (goodP_two hg))
        clear hg
        go_wp2_with fail
        refine wp_region_held_drew (S := fun w' => w'.cell? ⟨w.heap.size, 0, none⟩ = some (.int .i64 W) ∧ w'.cell? ⟨w.heap.size, 1, none⟩ = some (.int .i64 H) ∧ w'.cell? ⟨w.heap.size, 2, none⟩ = some (.slice A n c) ∧ w'.cell? ⟨w.heap.size, 3, none⟩ = some (.int .i64 a) ∧ w'.cell? ⟨w.heap.size, 4, none⟩ = some (.int .i64 b) ∧ w'.cell? ⟨w.heap.size, 5, none⟩ = some (.slice A2 n2 c2)) (by kernel_rfl) ?_ (fun hHeld => ?_)
        · (try dsimp only)
          exact ⟨BP.out.cell rfl, BP.out.cell rfl, BP.out.cell rfl, BP.out.cell rfl, BP.out.cell rfl, BP.out.cell rfl⟩
        refine wpAnyH_take (i := 0) (oi := ⟨_, _, _, _, _, _⟩) (v := ?_) rfl (by kernel_rfl) (by kernel_rfl) (by kernel_rfl) (fun _ _ _ h => h) (Or.inl ⟨by rfl, ?_⟩) (by assumption) ?_
        rotate_left
        · intro w hSw
          (try dsimp only at hSw)
          go_simp
          (try with_reducible rfl)
        (try simp only [Act.put, List.setIfInBounds_toArray, List.set_cons_zero, List.set_cons_succ])
        refine wpAnyH_take (i := 2) (oi := ⟨_, _, _, _, _, _⟩) (v := ?_) rfl (by kernel_rfl) (by kernel_rfl) (by kernel_rfl) (fun _ _ _ h => h) (Or.inl ⟨by rfl, ?_⟩) (by assumption) ?_
        rotate_left
        · intro w hSw
          (try dsimp only at hSw)
          go_simp
          (try with_reducible rfl)
        (try simp only [Act.put, List.setIfInBounds_toArray, List.set_cons_zero, List.set_cons_succ])
        refine wpAnyH_take (i := 4) (oi := ⟨_, _, _, _, _, _⟩) (v := ?_) rfl (by kernel_rfl) (by kernel_rfl) (by kernel_rfl) (fun _ _ _ h => h) (Or.inl ⟨by rfl, ?_⟩) (by assumption) ?_
        rotate_left
        · intro w hSw
          (try dsimp only at hSw)
          go_simp
          (try with_reducible rfl)
        (try simp only [Act.put, List.setIfInBounds_toArray, List.set_cons_zero, List.set_cons_succ])
        refine wpAnyH_take (i := 1) (oi := ⟨_, _, _, _, _, _⟩) (v := ?_) rfl (by kernel_rfl) (by kernel_rfl) (by kernel_rfl) (fun _ _ _ h => h) (Or.inl ⟨by rfl, ?_⟩) (by assumption) ?_
        rotate_left
        · intro w hSw
          (try dsimp only at hSw)
          go_simp
          (try with_reducible rfl)
        (try simp only [Act.put, List.setIfInBounds_toArray, List.set_cons_zero, List.set_cons_succ])
        refine wpAnyH_take (i := 3) (oi := ⟨_, _, _, _, _, _⟩) (v := ?_) rfl (by kernel_rfl) (by kernel_rfl) (by kernel_rfl) (fun _ _ _ h => h) (Or.inl ⟨by rfl, ?_⟩) (by assumption) ?_
        rotate_left
        · intro w hSw
          (try dsimp only at hSw)
          go_simp
          (try with_reducible rfl)
        (try simp only [Act.put, List.setIfInBounds_toArray, List.set_cons_zero, List.set_cons_succ])
        refine wpAnyH_ready (rs := [5]) (by kernel_rfl) (by simp) ?_
        refine AllReadyH.cons (o := ⟨_, _, _, _, _, _⟩) rfl (fun K hK => ?_) AllReadyH.nil
        go_simp
        (go_at_call 48; refine (isTour_any W H A n c xs a b A3 m3 c3 ps _ (by exact RH.out) (by exact RQ.out) HGB.out).mono ?_; rw [ht]; rintro e wv ⟨rfl, hb⟩; (repeat (first | replace hb := below_undrew hb | replace hb := below_undrewN hb)); replace BP := Lib.hid (BP.out.keep hb); replace RH := Lib.hid (RH.out.keep hb); replace RN := Lib.hid (RN.out.keep hb); replace RQ := Lib.hid (RQ.out.keep hb); replace HSZ := Lib.hid (Nat.le_trans HSZ.out hb.size); replace B := Lib.hid (below_next B.out hb); clear hb)
        (try go_wp2_with fail)
        refine hK.out _ _ ?_ (fun hHeld => ?_)
        · (try dsimp only)
          exact ⟨BP.out.cell rfl, BP.out.cell rfl, BP.out.cell rfl, BP.out.cell rfl, BP.out.cell rfl, BP.out.cell rfl⟩
        clear hK K
        (try simp only [Act.put, List.setIfInBounds_toArray, List.set_cons_zero, List.set_cons_succ])
        refine wpAnyH_take (i := 6) (oi := ⟨_, _, _, _, _, _⟩) (v := ?_) rfl (by kernel_rfl) (by kernel_rfl) (by kernel_rfl) (fun _ _ _ h => h) (Or.inl ⟨by rfl, ?_⟩) (by assumption) ?_
        rotate_left
        · intro w hSw
          (try dsimp only at hSw)
          go_simp
          (try with_reducible rfl)
        (try simp only [Act.put, List.setIfInBounds_toArray, List.set_cons_zero, List.set_cons_succ])
        refine wpAnyH_take (i := 7) (oi := ⟨_, _, _, _, _, _⟩) (v := ?_) rfl (by kernel_rfl) (by kernel_rfl) (by kernel_rfl) (fun _ _ _ h => h) (Or.inl ⟨by rfl, ?_⟩) (by assumption) ?_
        rotate_left
        · intro w hSw
          (try dsimp only at hSw)
          go_simp
          (try with_reducible rfl)
        (try simp only [Act.put, List.setIfInBounds_toArray, List.set_cons_zero, List.set_cons_succ])
        refine wpAnyH_take (i := 8) (oi := ⟨_, _, _, _, _, _⟩) (v := ?_) rfl (by kernel_rfl) (by kernel_rfl) (by kernel_rfl) (fun _ _ _ h => h) (Or.inl ⟨by rfl, ?_⟩) (by assumption) ?_
        rotate_left
        · intro w hSw
          (try dsimp only at hSw)
          go_simp
          (try with_reducible rfl)
        (try simp only [Act.put, List.setIfInBounds_toArray, List.set_cons_zero, List.set_cons_succ])
        refine wpAnyH_take (i := 10) (oi := ⟨_, _, _, _, _, _⟩) (v := ?_) rfl (by kernel_rfl) (by kernel_rfl) (by kernel_rfl) (fun _ _ _ h => h) (Or.inl ⟨by rfl, ?_⟩) (by assumption) ?_
        rotate_left
        · intro w hSw
          (try dsimp only at hSw)
          go_simp
          (try with_reducible rfl)
        (try simp only [Act.put, List.setIfInBounds_toArray, List.set_cons_zero, List.set_cons_succ])
        refine wpAnyH_take (i := 9) (oi := ⟨_, _, _, _, _, _⟩) (v := ?_) rfl (by kernel_rfl) (by kernel_rfl) (by kernel_rfl) (fun _ _ _ h => h) (Or.inl ⟨by rfl, ?_⟩) (by assumption) ?_
        rotate_left
        · intro w hSw
          (try dsimp only at hSw)
          go_simp
          (try with_reducible rfl)
        (try simp only [Act.put, List.setIfInBounds_toArray, List.set_cons_zero, List.set_cons_succ])
        refine wpAnyH_ready (rs := [11]) (by kernel_rfl) (by simp) ?_
        refine AllReadyH.cons (o := ⟨_, _, _, _, _, _⟩) rfl (fun K hK => ?_) AllReadyH.nil
        go_simp
        (go_at_call 50; refine (numbersN_any W H A n c A3 m3 c3 n2 ps _ (by exact RQ.out) HNN.out (tour_in ht) HK.out).mono ?_; rintro e wv ⟨gu, rfl, own, hb⟩; (repeat (first | replace hb := below_undrew hb | replace hb := below_undrewN hb)); have OU := Lib.hid own; clear own; replace BP := Lib.hid (BP.out.keep hb); replace RH := Lib.hid (RH.out.keep hb); replace RN := Lib.hid (RN.out.keep hb); replace RQ := Lib.hid (RQ.out.keep hb); replace HSZ := Lib.hid (Nat.le_trans HSZ.out hb.size); replace B := Lib.hid (below_next B.out hb); clear hb)
        (try go_wp2_with fail)
        refine hK.out _ _ ?_ (fun hHeld => ?_)
        · (try dsimp only)
          exact ⟨BP.out.cell rfl, BP.out.cell rfl, BP.out.cell rfl, BP.out.cell rfl, BP.out.cell rfl, BP.out.cell rfl⟩
        clear hK K
        (try simp only [Act.put, List.setIfInBounds_toArray, List.set_cons_zero, List.set_cons_succ])
        refine wpAnyH_ready (rs := [12]) (by kernel_rfl) (by simp) ?_
        refine AllReadyH.cons (o := ⟨_, _, _, _, _, _⟩) rfl (fun K hK => ?_) AllReadyH.nil
        go_simp
        (go_at_call 49; refine (agrees_any W H A n c a b A2 n2 c2 ns (numsL W H ps) _ _ _ (by exact RN.out) (by exact OU.out.rd)).mono ?_; rw [ha]; rintro e wv ⟨rfl, hb⟩; (repeat (first | replace hb := below_undrew hb | replace hb := below_undrewN hb)); replace BP := Lib.hid (BP.out.keep hb); replace RH := Lib.hid (RH.out.keep hb); replace RN := Lib.hid (RN.out.keep hb); replace RQ := Lib.hid (RQ.out.keep hb); replace OU := Lib.hid (OU.out.keep hb); replace HSZ := Lib.hid (Nat.le_trans HSZ.out hb.size); replace B := Lib.hid (below_next B.out hb); clear hb)
        (try go_wp2_with fail)
        refine hK.out _ _ ?_ (fun hHeld => ?_)
        · (try dsimp only)
          exact ⟨BP.out.cell rfl, BP.out.cell rfl, BP.out.cell rfl, BP.out.cell rfl, BP.out.cell rfl, BP.out.cell rfl⟩
        clear hK K
        (try simp only [Act.put, List.setIfInBounds_toArray, List.set_cons_zero, List.set_cons_succ])
        refine wpAnyH_take (i := 13) (oi := ⟨_, _, _, _, _, _⟩) (v := ?_) rfl (by kernel_rfl) (by kernel_rfl) (by kernel_rfl) (fun _ _ _ h => h) (Or.inl ⟨by rfl, ?_⟩) (by assumption) ?_
        rotate_left
        · intro w hSw
          (try dsimp only at hSw)
          go_simp
          (try with_reducible rfl)
        (try simp only [Act.put, List.setIfInBounds_toArray, List.set_cons_zero, List.set_cons_succ])
        refine wpAnyH_take (i := 14) (oi := ⟨_, _, _, _, _, _⟩) (v := ?_) rfl (by kernel_rfl) (by kernel_rfl) (by kernel_rfl) (fun _ _ _ h => h) (Or.inl ⟨by rfl, ?_⟩) (by assumption) ?_
        rotate_left
        · intro w hSw
          (try dsimp only at hSw)
          go_simp
          (try with_reducible rfl)
        (try simp only [Act.put, List.setIfInBounds_toArray, List.set_cons_zero, List.set_cons_succ])
        refine wpAnyH_take (i := 15) (oi := ⟨_, _, _, _, _, _⟩) (v := ?_) rfl (by kernel_rfl) (by kernel_rfl) (by kernel_rfl) (fun _ _ _ h => h) (Or.inl ⟨by rfl, ?_⟩) (by assumption) ?_
        rotate_left
        · intro w hSw
          (try dsimp only at hSw)
          go_simp
          (try with_reducible rfl)
        (try simp only [Act.put, List.setIfInBounds_toArray, List.set_cons_zero, List.set_cons_succ])
        refine wpAnyH_done (by kernel_rfl) ?_ _
        clear hHeld
        go_wp2
        go_ret2
        exact ⟨by rw [show okSol W H xs a b ns ps = true by rw [okSol, HG.out, ht, sol_eq HG.out ht, ha]; rfl, HG.out]; rfl, (by repeat (first | exact B.out | refine below_drewN ?_ _ | refine Below.drew ?_))⟩
    · have p0 : W2.cell? ⟨w.heap.size, 0, none⟩ = some (.int .i64 W) := BP.out.cell rfl
      have p1 : W2.cell? ⟨w.heap.size, 1, none⟩ = some (.int .i64 H) := BP.out.cell rfl
      have p2 : W2.cell? ⟨w.heap.size, 2, none⟩ = some (.slice A n c) := BP.out.cell rfl
      have p3 : W2.cell? ⟨w.heap.size, 3, none⟩ = some (.int .i64 a) := BP.out.cell rfl
      have p4 : W2.cell? ⟨w.heap.size, 4, none⟩ = some (.int .i64 b) := BP.out.cell rfl
      have p5 : W2.cell? ⟨w.heap.size, 5, none⟩ = some (.slice A2 n2 c2) := BP.out.cell rfl
      go_enter Try.func20, Try.ntmps20
      go_wp2_with fail
      rw [← hW2]
      clear hW2
      clear p0 p1 p2 p3 p4 p5
      refine (impl_IsPuzzle W H A n c a b A2 n2 c2 xs ns _ RH.out RN.out).mono ?_
      rw [hg]
      rintro e wv ⟨rfl, hb⟩
      replace BP := Lib.hid (BP.out.keep hb)
      replace RH := Lib.hid (RH.out.keep hb)
      replace RN := Lib.hid (RN.out.keep hb)
      replace RQ := Lib.hid (RQ.out.keep hb)
      replace HSZ := Lib.hid (Nat.le_trans HSZ.out hb.size)
      replace B := Lib.hid (below_next B.out hb)
      clear hb
      have HG := Lib.hid hg; have HGB := Lib.hid (two_gK (goodP_two hg))
      clear hg
      go_wp2_with fail
      refine wp_region_held_drew (S := fun w' => w'.cell? ⟨w.heap.size, 0, none⟩ = some (.int .i64 W) ∧ w'.cell? ⟨w.heap.size, 1, none⟩ = some (.int .i64 H) ∧ w'.cell? ⟨w.heap.size, 2, none⟩ = some (.slice A n c) ∧ w'.cell? ⟨w.heap.size, 3, none⟩ = some (.int .i64 a) ∧ w'.cell? ⟨w.heap.size, 4, none⟩ = some (.int .i64 b) ∧ w'.cell? ⟨w.heap.size, 5, none⟩ = some (.slice A2 n2 c2)) (by kernel_rfl) ?_ (fun hHeld => ?_)
      · (try dsimp only)
        exact ⟨BP.out.cell rfl, BP.out.cell rfl, BP.out.cell rfl, BP.out.cell rfl, BP.out.cell rfl, BP.out.cell rfl⟩
      refine wpAnyH_take (i := 0) (oi := ⟨_, _, _, _, _, _⟩) (v := ?_) rfl (by kernel_rfl) (by kernel_rfl) (by kernel_rfl) (fun _ _ _ h => h) (Or.inl ⟨by rfl, ?_⟩) (by assumption) ?_
      rotate_left
      · intro w hSw
        (try dsimp only at hSw)
        go_simp
        (try with_reducible rfl)
      (try simp only [Act.put, List.setIfInBounds_toArray, List.set_cons_zero, List.set_cons_succ])
      refine wpAnyH_take (i := 2) (oi := ⟨_, _, _, _, _, _⟩) (v := ?_) rfl (by kernel_rfl) (by kernel_rfl) (by kernel_rfl) (fun _ _ _ h => h) (Or.inl ⟨by rfl, ?_⟩) (by assumption) ?_
      rotate_left
      · intro w hSw
        (try dsimp only at hSw)
        go_simp
        (try with_reducible rfl)
      (try simp only [Act.put, List.setIfInBounds_toArray, List.set_cons_zero, List.set_cons_succ])
      refine wpAnyH_take (i := 4) (oi := ⟨_, _, _, _, _, _⟩) (v := ?_) rfl (by kernel_rfl) (by kernel_rfl) (by kernel_rfl) (fun _ _ _ h => h) (Or.inl ⟨by rfl, ?_⟩) (by assumption) ?_
      rotate_left
      · intro w hSw
        (try dsimp only at hSw)
        go_simp
        (try with_reducible rfl)
      (try simp only [Act.put, List.setIfInBounds_toArray, List.set_cons_zero, List.set_cons_succ])
      refine wpAnyH_take (i := 1) (oi := ⟨_, _, _, _, _, _⟩) (v := ?_) rfl (by kernel_rfl) (by kernel_rfl) (by kernel_rfl) (fun _ _ _ h => h) (Or.inl ⟨by rfl, ?_⟩) (by assumption) ?_
      rotate_left
      · intro w hSw
        (try dsimp only at hSw)
        go_simp
        (try with_reducible rfl)
      (try simp only [Act.put, List.setIfInBounds_toArray, List.set_cons_zero, List.set_cons_succ])
      refine wpAnyH_take (i := 3) (oi := ⟨_, _, _, _, _, _⟩) (v := ?_) rfl (by kernel_rfl) (by kernel_rfl) (by kernel_rfl) (fun _ _ _ h => h) (Or.inl ⟨by rfl, ?_⟩) (by assumption) ?_
      rotate_left
      · intro w hSw
        (try dsimp only at hSw)
        go_simp
        (try with_reducible rfl)
      (try simp only [Act.put, List.setIfInBounds_toArray, List.set_cons_zero, List.set_cons_succ])
      refine wpAnyH_ready (rs := [5]) (by kernel_rfl) (by simp) ?_
      refine AllReadyH.cons (o := ⟨_, _, _, _, _, _⟩) rfl (fun K hK => ?_) AllReadyH.nil
      go_simp
      (go_at_call 48; refine (isTour_any W H A n c xs a b A3 m3 c3 ps _ (by exact RH.out) (by exact RQ.out) HGB.out).mono ?_; rw [show tourB W H xs a b ps = false by simpa using ht]; rintro e wv ⟨rfl, hb⟩; (repeat (first | replace hb := below_undrew hb | replace hb := below_undrewN hb)); replace BP := Lib.hid (BP.out.keep hb); replace RH := Lib.hid (RH.out.keep hb); replace RN := Lib.hid (RN.out.keep hb); replace RQ := Lib.hid (RQ.out.keep hb); replace HSZ := Lib.hid (Nat.le_trans HSZ.out hb.size); replace B := Lib.hid (below_next B.out hb); clear hb)
      (try go_wp2_with fail)
      refine hK.out _ _ ?_ (fun hHeld => ?_)
      · (try dsimp only)
        exact ⟨BP.out.cell rfl, BP.out.cell rfl, BP.out.cell rfl, BP.out.cell rfl, BP.out.cell rfl, BP.out.cell rfl⟩
      clear hK K
      (try simp only [Act.put, List.setIfInBounds_toArray, List.set_cons_zero, List.set_cons_succ])
      refine wpAnyH_take (i := 6) (oi := ⟨_, _, _, _, _, _⟩) (v := ?_) rfl (by kernel_rfl) (by kernel_rfl) (by kernel_rfl) (fun _ _ _ h => h) (Or.inl ⟨by rfl, ?_⟩) (by assumption) ?_
      rotate_left
      · intro w hSw
        (try dsimp only at hSw)
        go_simp
        (try with_reducible rfl)
      (try simp only [Act.put, List.setIfInBounds_toArray, List.set_cons_zero, List.set_cons_succ])
      refine wpAnyH_take (i := 7) (oi := ⟨_, _, _, _, _, _⟩) (v := undef) rfl (by kernel_rfl) (by kernel_rfl) (by kernel_rfl) (fun _ _ _ h => h) (Or.inr ⟨by rfl, rfl⟩) (by assumption) ?_
      (try simp only [Act.put, List.setIfInBounds_toArray, List.set_cons_zero, List.set_cons_succ])
      refine wpAnyH_take (i := 8) (oi := ⟨_, _, _, _, _, _⟩) (v := undef) rfl (by kernel_rfl) (by kernel_rfl) (by kernel_rfl) (fun _ _ _ h => h) (Or.inr ⟨by rfl, rfl⟩) (by assumption) ?_
      (try simp only [Act.put, List.setIfInBounds_toArray, List.set_cons_zero, List.set_cons_succ])
      refine wpAnyH_take (i := 10) (oi := ⟨_, _, _, _, _, _⟩) (v := undef) rfl (by kernel_rfl) (by kernel_rfl) (by kernel_rfl) (fun _ _ _ h => h) (Or.inr ⟨by rfl, rfl⟩) (by assumption) ?_
      (try simp only [Act.put, List.setIfInBounds_toArray, List.set_cons_zero, List.set_cons_succ])
      refine wpAnyH_take (i := 9) (oi := ⟨_, _, _, _, _, _⟩) (v := undef) rfl (by kernel_rfl) (by kernel_rfl) (by kernel_rfl) (fun _ _ _ h => h) (Or.inr ⟨by rfl, rfl⟩) (by assumption) ?_
      (try simp only [Act.put, List.setIfInBounds_toArray, List.set_cons_zero, List.set_cons_succ])
      refine wpAnyH_take (i := 11) (oi := ⟨_, _, _, _, _, _⟩) (v := undef) rfl (by kernel_rfl) (by kernel_rfl) (by kernel_rfl) (fun _ _ _ h => h) (Or.inr ⟨by rfl, rfl⟩) (by assumption) ?_
      (try simp only [Act.put, List.setIfInBounds_toArray, List.set_cons_zero, List.set_cons_succ])
      refine wpAnyH_take (i := 12) (oi := ⟨_, _, _, _, _, _⟩) (v := undef) rfl (by kernel_rfl) (by kernel_rfl) (by kernel_rfl) (fun _ _ _ h => h) (Or.inr ⟨by rfl, rfl⟩) (by assumption) ?_
      (try simp only [Act.put, List.setIfInBounds_toArray, List.set_cons_zero, List.set_cons_succ])
      refine wpAnyH_take (i := 13) (oi := ⟨_, _, _, _, _, _⟩) (v := ?_) rfl (by kernel_rfl) (by kernel_rfl) (by kernel_rfl) (fun _ _ _ h => h) (Or.inl ⟨by rfl, ?_⟩) (by assumption) ?_
      rotate_left
      · intro w hSw
        (try dsimp only at hSw)
        go_simp
        (try with_reducible rfl)
      (try simp only [Act.put, List.setIfInBounds_toArray, List.set_cons_zero, List.set_cons_succ])
      refine wpAnyH_take (i := 14) (oi := ⟨_, _, _, _, _, _⟩) (v := ?_) rfl (by kernel_rfl) (by kernel_rfl) (by kernel_rfl) (fun _ _ _ h => h) (Or.inl ⟨by rfl, ?_⟩) (by assumption) ?_
      rotate_left
      · intro w hSw
        (try dsimp only at hSw)
        go_simp
        (try with_reducible rfl)
      (try simp only [Act.put, List.setIfInBounds_toArray, List.set_cons_zero, List.set_cons_succ])
      refine wpAnyH_take (i := 15) (oi := ⟨_, _, _, _, _, _⟩) (v := ?_) rfl (by kernel_rfl) (by kernel_rfl) (by kernel_rfl) (fun _ _ _ h => h) (Or.inl ⟨by rfl, ?_⟩) (by assumption) ?_
      rotate_left
      · intro w hSw
        (try dsimp only at hSw)
        go_simp
        (try with_reducible rfl)
      (try simp only [Act.put, List.setIfInBounds_toArray, List.set_cons_zero, List.set_cons_succ])
      refine wpAnyH_done (by kernel_rfl) ?_ _
      clear hHeld
      go_wp2
      go_ret2
      exact ⟨by rw [show okSol W H xs a b ns ps = false by rw [okSol, HG.out, show tourB W H xs a b ps = false by simpa using ht]; rfl, HG.out]; rfl, (by repeat (first | exact B.out | refine below_drewN ?_ _ | refine Below.drew ?_))⟩
  · have p0 : W2.cell? ⟨w.heap.size, 0, none⟩ = some (.int .i64 W) := BP.out.cell rfl
    have p1 : W2.cell? ⟨w.heap.size, 1, none⟩ = some (.int .i64 H) := BP.out.cell rfl
    have p2 : W2.cell? ⟨w.heap.size, 2, none⟩ = some (.slice A n c) := BP.out.cell rfl
    have p3 : W2.cell? ⟨w.heap.size, 3, none⟩ = some (.int .i64 a) := BP.out.cell rfl
    have p4 : W2.cell? ⟨w.heap.size, 4, none⟩ = some (.int .i64 b) := BP.out.cell rfl
    have p5 : W2.cell? ⟨w.heap.size, 5, none⟩ = some (.slice A2 n2 c2) := BP.out.cell rfl
    go_enter Try.func20, Try.ntmps20
    go_wp2_with fail
    rw [← hW2]
    clear hW2
    clear p0 p1 p2 p3 p4 p5
    refine (impl_IsPuzzle W H A n c a b A2 n2 c2 xs ns _ RH.out RN.out).mono ?_
    rw [show goodP W H xs a b ns = false by simpa using hg]
    rintro e wv ⟨rfl, hb⟩
    replace BP := Lib.hid (BP.out.keep hb)
    replace RH := Lib.hid (RH.out.keep hb)
    replace RN := Lib.hid (RN.out.keep hb)
    replace RQ := Lib.hid (RQ.out.keep hb)
    replace HSZ := Lib.hid (Nat.le_trans HSZ.out hb.size)
    replace B := Lib.hid (below_next B.out hb)
    clear hb
    go_wp2
    go_ret2
    exact ⟨by rw [show okSol W H xs a b ns ps = false by rw [okSol, show goodP W H xs a b ns = false by simpa using hg]; rfl, show goodP W H xs a b ns = false by simpa using hg]; rfl, B.out⟩

end Go.Proofs.Ytkdfilhiljfanaa
