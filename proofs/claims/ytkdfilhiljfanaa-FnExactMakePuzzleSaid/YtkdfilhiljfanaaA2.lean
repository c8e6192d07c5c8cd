/-
  Contracts: what is a puzzle, in the model; a puzzle's board.
-/
import Derived.Test.YtkdfilhiljfanaaA0
import Derived.Test.YtkdfilhiljfanaaA1
import Derived.Test.YtkdfilhiljfanaaK5
namespace Go.Proofs.Ytkdfilhiljfanaa
open Go.RowKit

set_option maxRecDepth 100000 in
set_option maxHeartbeats 4000000 in
theorem pzGood_any (W H : Int) (A : Option Addr) (n c : Nat) (a b : Int) (A2 : Option Addr) (n2 c2 : Nat) (xs ns : List Int) (w : World) (ha : Rd w A n xs) (hp : Rd w A2 n2 ns) (hcap : n2 ≤ c2) :
    Calls Try.prog 41 #[pzv W H A n c a b A2 n2 c2] w fun e w' => e = .returned (.bool (goodP W H xs a b ns)) ∧ Below w.heap.size w w' := by
  have HL := Lib.hid hp.1
  have n9 := hp.2.1
  have HC := Lib.hid hcap
  clear hcap
  obtain ⟨W2, hW2⟩ : ∃ W2, W2 = w.alloc (.cells #[.int .i64 W, .int .i64 H, .slice A n c, .int .i64 a, .int .i64 b, .slice A2 n2 c2] 34) := ⟨_, rfl⟩
  have BP := Lib.hid (show Bx W2 (w.heap.size) #[.int .i64 W, .int .i64 H, .slice A n c, .int .i64 a, .int .i64 b, .slice A2 n2 c2] 34 by rw [hW2]; exact Bx.new (w) #[.int .i64 W, .int .i64 H, .slice A n c, .int .i64 a, .int .i64 b, .slice A2 n2 c2] 34)
  have B := Lib.hid (show Below w.heap.size w W2 by rw [hW2]; repeat (first | exact Below.refl _ _ | refine below_new ?_ _))
  have HSZ := Lib.hid (show w.heap.size + 1 ≤ W2.heap.size by rw [hW2]; simp)
  have RH := Lib.hid (ha.keep B.out); have RN := Lib.hid (hp.keep B.out)
  clear ha hp
  by_cases ht : twoV W H xs a b = true
  · have HNN := Lib.hid (good_N (two_gK ht))
    obtain ⟨N, hWH⟩ : ∃ N : Nat, W * H = (N : Int) := ⟨(W * H).toNat, by have := HNN.out; omega⟩
    have hN64 : N ≤ 64 := by have := HNN.out; omega
    by_cases hl : n2 = N
    · subst hl
      by_cases hf : (cellsL W H xs).length ≤ 16
      · have p0 : W2.cell? ⟨w.heap.size, 0, none⟩ = some (.int .i64 W) := BP.out.cell rfl
        have p1 : W2.cell? ⟨w.heap.size, 1, none⟩ = some (.int .i64 H) := BP.out.cell rfl
        have p2 : W2.cell? ⟨w.heap.size, 2, none⟩ = some (.slice A n c) := BP.out.cell rfl
        have p3 : W2.cell? ⟨w.heap.size, 3, none⟩ = some (.int .i64 a) := BP.out.cell rfl
        have p4 : W2.cell? ⟨w.heap.size, 4, none⟩ = some (.int .i64 b) := BP.out.cell rfl
        have p5 : W2.cell? ⟨w.heap.size, 5, none⟩ = some (.slice A2 n2 c2) := BP.out.cell rfl
        go_enter Try.func41, Try.ntmps41
        go_wp2_with fail
        rw [← hW2]
        clear hW2
        clear p0 p1 p2 p3 p4 p5
        refine (boTwoV_any _ _ _ _ _ _ _ _ _ RH.out).mono ?_
        rw [ht]
        rintro e wv ⟨rfl, hb⟩
        replace BP := Lib.hid (BP.out.keep hb)
        replace RH := Lib.hid (RH.out.keep hb)
        replace RN := Lib.hid (RN.out.keep hb)
        replace HSZ := Lib.hid (Nat.le_trans HSZ.out hb.size)
        replace B := Lib.hid (below_next B.out hb)
        clear hb
        have p0 : wv.cell? ⟨w.heap.size, 0, none⟩ = some (.int .i64 W) := BP.out.cell rfl
        have p1 : wv.cell? ⟨w.heap.size, 1, none⟩ = some (.int .i64 H) := BP.out.cell rfl
        have p2 : wv.cell? ⟨w.heap.size, 2, none⟩ = some (.slice A n c) := BP.out.cell rfl
        have p5 : wv.cell? ⟨w.heap.size, 5, none⟩ = some (.slice A2 n2 c2) := BP.out.cell rfl
        go_wp2_with fail
        clear p0 p1 p2 p5
        refine (boCells_any _ _ _ _ _ _ _ RH.out HNN.out).mono ?_
        rintro e wv ⟨A', M, c', rfl, own, hb⟩
        have HM := Lib.hid own.len
        clear own
        replace BP := Lib.hid (BP.out.keep hb)
        replace RH := Lib.hid (RH.out.keep hb)
        replace RN := Lib.hid (RN.out.keep hb)
        replace HSZ := Lib.hid (Nat.le_trans HSZ.out hb.size)
        replace B := Lib.hid (below_next B.out hb)
        clear hb
        have hM : M ≤ 16 := by rw [← HM.out]; exact hf
        have hM2 : (M : Int) ≤ 16 := by omega
        have p5 : wv.cell? ⟨w.heap.size, 5, none⟩ = some (.slice A2 n2 c2) := BP.out.cell rfl
        go_wp2
        clear p5
        go_loopw [34] (fun i wr => ∃ k : Nat, k ≤ n2 ∧ i = .int .i64 k ∧ numsFrom W H xs ((cellsL W H xs).length : Int) ns 0 ns = numsFrom W H xs ((cellsL W H xs).length : Int) ns k (ns.drop k) ∧ Below wv.heap.size wv wr) (fun i _ => n2 - (intOf i).toNat)
        case atStart => exact ⟨0, Nat.zero_le _, rfl, rfl, Below.refl _ _⟩
        case round =>
          obtain ⟨k, hk, rfl, hfrom, hbw⟩ := hrel
          have HF := Lib.hid hfrom
          clear hfrom
          have BK := Lib.hid (BP.out.keep hbw); have RHK := Lib.hid (RH.out.keep hbw); have RNK := Lib.hid (RN.out.keep hbw); have BW := Lib.hid hbw
          clear hbw
          by_cases hlt : k < n2
          · obtain ⟨bb, oo, x, rfl, hg1, hx, x0⟩ := RNK.out.at_ hlt
            have HX := Lib.hid hx
            have HD := Lib.hid (numsFrom_drop (W := W) (H := H) (xs := xs) (m := ((cellsL W H xs).length : Int)) hx)
            clear hx
            have hkc : k ≤ c2 := by have := HC.out; omega
            have hk0 : (0 : Int) ≤ (k : Int) := by omega
            have hkc2 : (k : Int) ≤ (c2 : Int) := by omega
            have p0 : wr.cell? ⟨w.heap.size, 0, none⟩ = some (.int .i64 W) := BK.out.cell rfl
            have p1 : wr.cell? ⟨w.heap.size, 1, none⟩ = some (.int .i64 H) := BK.out.cell rfl
            have p2 : wr.cell? ⟨w.heap.size, 2, none⟩ = some (.slice A n c) := BK.out.cell rfl
            have p5 : wr.cell? ⟨w.heap.size, 5, none⟩ = some (.slice (some ⟨bb, oo, none⟩) n2 c2) := BK.out.cell rfl
            cases h1 : inB x 0 (M : Int)
            · go_wp2_with fail
              refine (l1In_any _ _ _ _).mono ?_
              rw [h1]
              rintro e wy ⟨rfl, rfl⟩
              go_wp2
              go_ret
              exact ⟨ret_bool (goodP_no (by rw [HF.out, HD.out, (show numOk W H xs ((cellsL W H xs).length : Int) ns k x = false by rw [numOk, HM.out, h1]; first | rfl | simp)]; rfl)).symm, below_next B.out BW.out⟩
            · by_cases h0 : x = 0
              · subst h0
                go_wp2_with fail
                refine (l1In_any _ _ _ _).mono ?_
                rw [h1]
                rintro e wy ⟨rfl, rfl⟩
                go_wp2
                go_roundw
                case rel => exact ⟨k + 1, by omega, by go_num, by rw [HF.out, HD.out, (show numOk W H xs ((cellsL W H xs).length : Int) ns k 0 = true by rw [numOk, HM.out, h1]; first | rfl | simp)]; rfl, BW.out⟩
                case measure => simp [intOf]; omega
              · have hne0 : (x != 0) = true := by simpa using h0
                cases h2 : hasB W H xs (k : Int)
                · go_wp2_with fail
                  refine (l1In_any _ _ _ _).mono ?_
                  rw [h1]
                  rintro e wy ⟨rfl, rfl⟩
                  go_wp2_with fail
                  refine (boHas_any _ _ _ _ _ (k : Int) _ _ RHK.out HNN.out).mono ?_
                  rw [h2]
                  rintro e wz ⟨rfl, hb⟩
                  clear p0 p1 p2 p5
                  replace BK := Lib.hid (BK.out.keep hb)
                  replace RHK := Lib.hid (RHK.out.keep hb)
                  replace RNK := Lib.hid (RNK.out.keep hb)
                  replace BW := Lib.hid (below_next BW.out hb)
                  clear hb
                  go_wp2
                  go_ret
                  exact ⟨ret_bool (goodP_no (by rw [HF.out, HD.out, (show numOk W H xs ((cellsL W H xs).length : Int) ns k x = false by rw [numOk, HM.out, h1, h2, show (x == 0) = false by simpa using h0]; first | rfl | simp)]; rfl)).symm, below_next B.out BW.out⟩
                · cases h3 : (ns.take k).contains x
                  · go_wp2_with fail
                    refine (l1In_any _ _ _ _).mono ?_
                    rw [h1]
                    rintro e wy ⟨rfl, rfl⟩
                    go_wp2_with fail
                    refine (boHas_any _ _ _ _ _ (k : Int) _ _ RHK.out HNN.out).mono ?_
                    rw [h2]
                    rintro e wz ⟨rfl, hb⟩
                    clear p0 p1 p2 p5
                    replace BK := Lib.hid (BK.out.keep hb)
                    replace RHK := Lib.hid (RHK.out.keep hb)
                    replace RNK := Lib.hid (RNK.out.keep hb)
                    replace BW := Lib.hid (below_next BW.out hb)
                    clear hb
                    have p5 : wz.cell? ⟨w.heap.size, 5, none⟩ = some (.slice (some ⟨bb, oo, none⟩) n2 c2) := BK.out.cell rfl
                    go_wp2_with fail
                    refine (l1Has_any _ _ _ _ _ _ (RNK.out.take (k := k) (by omega))).mono ?_
                    rw [h3]
                    rintro e wu ⟨rfl, hb⟩
                    clear p5
                    replace BK := Lib.hid (BK.out.keep hb)
                    replace RHK := Lib.hid (RHK.out.keep hb)
                    replace RNK := Lib.hid (RNK.out.keep hb)
                    replace BW := Lib.hid (below_next BW.out hb)
                    clear hb
                    go_wp2
                    go_roundw
                    case rel => exact ⟨k + 1, by omega, by go_num, by rw [HF.out, HD.out, (show numOk W H xs ((cellsL W H xs).length : Int) ns k x = true by rw [numOk, HM.out, h1, h2, h3, show (x == 0) = false by simpa using h0]; first | rfl | simp)]; rfl, BW.out⟩
                    case measure => simp [intOf]; omega
                  · go_wp2_with fail
                    refine (l1In_any _ _ _ _).mono ?_
                    rw [h1]
                    rintro e wy ⟨rfl, rfl⟩
                    go_wp2_with fail
                    refine (boHas_any _ _ _ _ _ (k : Int) _ _ RHK.out HNN.out).mono ?_
                    rw [h2]
                    rintro e wz ⟨rfl, hb⟩
                    clear p0 p1 p2 p5
                    replace BK := Lib.hid (BK.out.keep hb)
                    replace RHK := Lib.hid (RHK.out.keep hb)
                    replace RNK := Lib.hid (RNK.out.keep hb)
                    replace BW := Lib.hid (below_next BW.out hb)
                    clear hb
                    have p5 : wz.cell? ⟨w.heap.size, 5, none⟩ = some (.slice (some ⟨bb, oo, none⟩) n2 c2) := BK.out.cell rfl
                    go_wp2_with fail
                    refine (l1Has_any _ _ _ _ _ _ (RNK.out.take (k := k) (by omega))).mono ?_
                    rw [h3]
                    rintro e wu ⟨rfl, hb⟩
                    clear p5
                    replace BK := Lib.hid (BK.out.keep hb)
                    replace RHK := Lib.hid (RHK.out.keep hb)
                    replace RNK := Lib.hid (RNK.out.keep hb)
                    replace BW := Lib.hid (below_next BW.out hb)
                    clear hb
                    go_wp2
                    go_ret
                    exact ⟨ret_bool (goodP_no (by rw [HF.out, HD.out, (show numOk W H xs ((cellsL W H xs).length : Int) ns k x = false by rw [numOk, HM.out, h1, h2, h3, show (x == 0) = false by simpa using h0]; first | rfl | simp)]; rfl)).symm, below_next B.out BW.out⟩
          · go_wp2
            go_ret
            exact ⟨ret_bool (by rw [goodP, pzB, fewB, ht, show decide ((ns.length : Int) = W * H) = true by simp; rw [HL.out]; omega, show decide ((cellsL W H xs).length ≤ 16) = true by simpa using hf, HF.out, List.drop_of_length_le (by rw [HL.out]; omega)]; rfl), below_next B.out BW.out⟩
      · have p0 : W2.cell? ⟨w.heap.size, 0, none⟩ = some (.int .i64 W) := BP.out.cell rfl
        have p1 : W2.cell? ⟨w.heap.size, 1, none⟩ = some (.int .i64 H) := BP.out.cell rfl
        have p2 : W2.cell? ⟨w.heap.size, 2, none⟩ = some (.slice A n c) := BP.out.cell rfl
        have p3 : W2.cell? ⟨w.heap.size, 3, none⟩ = some (.int .i64 a) := BP.out.cell rfl
        have p4 : W2.cell? ⟨w.heap.size, 4, none⟩ = some (.int .i64 b) := BP.out.cell rfl
        have p5 : W2.cell? ⟨w.heap.size, 5, none⟩ = some (.slice A2 n2 c2) := BP.out.cell rfl
        go_enter Try.func41, Try.ntmps41
        go_wp2_with fail
        rw [← hW2]
        clear hW2
        clear p0 p1 p2 p3 p4 p5
        refine (boTwoV_any _ _ _ _ _ _ _ _ _ RH.out).mono ?_
        rw [ht]
        rintro e wv ⟨rfl, hb⟩
        replace BP := Lib.hid (BP.out.keep hb)
        replace RH := Lib.hid (RH.out.keep hb)
        replace RN := Lib.hid (RN.out.keep hb)
        replace HSZ := Lib.hid (Nat.le_trans HSZ.out hb.size)
        replace B := Lib.hid (below_next B.out hb)
        clear hb
        have p0 : wv.cell? ⟨w.heap.size, 0, none⟩ = some (.int .i64 W) := BP.out.cell rfl
        have p1 : wv.cell? ⟨w.heap.size, 1, none⟩ = some (.int .i64 H) := BP.out.cell rfl
        have p2 : wv.cell? ⟨w.heap.size, 2, none⟩ = some (.slice A n c) := BP.out.cell rfl
        have p5 : wv.cell? ⟨w.heap.size, 5, none⟩ = some (.slice A2 n2 c2) := BP.out.cell rfl
        go_wp2_with fail
        clear p0 p1 p2 p5
        refine (boCells_any _ _ _ _ _ _ _ RH.out HNN.out).mono ?_
        rintro e wv ⟨A', M, c', rfl, own, hb⟩
        have HM := Lib.hid own.len
        clear own
        replace BP := Lib.hid (BP.out.keep hb)
        replace RH := Lib.hid (RH.out.keep hb)
        replace RN := Lib.hid (RN.out.keep hb)
        replace HSZ := Lib.hid (Nat.le_trans HSZ.out hb.size)
        replace B := Lib.hid (below_next B.out hb)
        clear hb
        have hM : ¬ M ≤ 16 := by rw [← HM.out]; exact hf
        have hM2 : (16 : Int) < (M : Int) := by omega
        go_wp2
        go_ret
        exact ⟨ret_bool (by rw [goodP, pzB, fewB, show decide ((cellsL W H xs).length ≤ 16) = false by simpa using hf]; simp), B.out⟩
    · have hne : ((n2 : Int) != (N : Int)) = true := by simp; omega
      have p0 : W2.cell? ⟨w.heap.size, 0, none⟩ = some (.int .i64 W) := BP.out.cell rfl
      have p1 : W2.cell? ⟨w.heap.size, 1, none⟩ = some (.int .i64 H) := BP.out.cell rfl
      have p2 : W2.cell? ⟨w.heap.size, 2, none⟩ = some (.slice A n c) := BP.out.cell rfl
      have p3 : W2.cell? ⟨w.heap.size, 3, none⟩ = some (.int .i64 a) := BP.out.cell rfl
      have p4 : W2.cell? ⟨w.heap.size, 4, none⟩ = some (.int .i64 b) := BP.out.cell rfl
      have p5 : W2.cell? ⟨w.heap.size, 5, none⟩ = some (.slice A2 n2 c2) := BP.out.cell rfl
      go_enter Try.func41, Try.ntmps41
      go_wp2_with fail
      rw [← hW2]
      clear hW2
      clear p0 p1 p2 p3 p4 p5
      refine (boTwoV_any _ _ _ _ _ _ _ _ _ RH.out).mono ?_
      rw [ht]
      rintro e wv ⟨rfl, hb⟩
      replace BP := Lib.hid (BP.out.keep hb)
      replace RH := Lib.hid (RH.out.keep hb)
      replace RN := Lib.hid (RN.out.keep hb)
      replace HSZ := Lib.hid (Nat.le_trans HSZ.out hb.size)
      replace B := Lib.hid (below_next B.out hb)
      clear hb
      have p0 : wv.cell? ⟨w.heap.size, 0, none⟩ = some (.int .i64 W) := BP.out.cell rfl
      have p1 : wv.cell? ⟨w.heap.size, 1, none⟩ = some (.int .i64 H) := BP.out.cell rfl
      have p2 : wv.cell? ⟨w.heap.size, 2, none⟩ = some (.slice A n c) := BP.out.cell rfl
      have p5 : wv.cell? ⟨w.heap.size, 5, none⟩ = some (.slice A2 n2 c2) := BP.out.cell rfl
      go_wp2
      go_ret
      exact ⟨ret_bool (by rw [goodP, show decide ((ns.length : Int) = W * H) = false by simp; rw [HL.out]; omega]; simp), B.out⟩
  · have p0 : W2.cell? ⟨w.heap.size, 0, none⟩ = some (.int .i64 W) := BP.out.cell rfl
    have p1 : W2.cell? ⟨w.heap.size, 1, none⟩ = some (.int .i64 H) := BP.out.cell rfl
    have p2 : W2.cell? ⟨w.heap.size, 2, none⟩ = some (.slice A n c) := BP.out.cell rfl
    have p3 : W2.cell? ⟨w.heap.size, 3, none⟩ = some (.int .i64 a) := BP.out.cell rfl
    have p4 : W2.cell? ⟨w.heap.size, 4, none⟩ = some (.int .i64 b) := BP.out.cell rfl
    have p5 : W2.cell? ⟨w.heap.size, 5, none⟩ = some (.slice A2 n2 c2) := BP.out.cell rfl
    go_enter Try.func41, Try.ntmps41
    go_wp2_with fail
    rw [← hW2]
    clear hW2
    clear p0 p1 p2 p3 p4 p5
    refine (boTwoV_any _ _ _ _ _ _ _ _ _ RH.out).mono ?_
    rw [show twoV W H xs a b = false by simpa using ht]
    rintro e wv ⟨rfl, hb⟩
    replace BP := Lib.hid (BP.out.keep hb)
    replace RH := Lib.hid (RH.out.keep hb)
    replace RN := Lib.hid (RN.out.keep hb)
    replace HSZ := Lib.hid (Nat.le_trans HSZ.out hb.size)
    replace B := Lib.hid (below_next B.out hb)
    clear hb
    go_wp2
    go_ret
    exact ⟨ret_bool (by rw [goodP, pzB, show twoV W H xs a b = false by simpa using ht]; rfl), B.out⟩

set_option maxRecDepth 100000 in
set_option maxHeartbeats 1000000 in
theorem spec_IsPuzzle (W H : Int) (A : Option Addr) (n c : Nat) (a b : Int) (A2 : Option Addr) (n2 c2 : Nat) (xs ns : List Int) (w : World) (ha : Rd w A n xs) (hp : Rd w A2 n2 ns) (hcap : n2 ≤ c2) :
    Calls Try.prog 12 #[pzv W H A n c a b A2 n2 c2] w fun e w' => e = .returned (.bool (goodP W H xs a b ns)) ∧ Below w.heap.size w w' := by
  go_enter Try.func12, Try.ntmps12
  go_wp2_with fail
  refine (pzGood_any W H A n c a b A2 n2 c2 xs ns _ (ha.alloc _) (hp.alloc _) hcap).mono ?_
  rintro e wv ⟨rfl, hb⟩
  have HB := Lib.hid (below_box hb)
  clear hb
  go_wp2
  go_ret
  exact ⟨rfl, HB.out⟩

set_option maxRecDepth 100000 in
set_option maxHeartbeats 1000000 in
theorem isPuzzleBoard_any (W H : Int) (A : Option Addr) (n c : Nat) (xs : List Int) (a b : Int) (w : World) (ha : Rd w A n xs) :
    Calls Try.prog 69 #[brd W H A n c, lpr a b] w fun e w' => e = .returned (.bool (pzB W H xs a b)) ∧ Below w.heap.size w w' := by
  obtain ⟨W2, hW2⟩ : ∃ W2, W2 = (w.alloc (.cells #[.int .i64 W, .int .i64 H, .slice A n c] 31)).alloc (.cells #[.int .i64 a, .int .i64 b] 32) := ⟨_, rfl⟩
  have BB := Lib.hid (show Bx W2 (w.heap.size) #[.int .i64 W, .int .i64 H, .slice A n c] 31 by rw [hW2]; exact (Bx.new (w) #[.int .i64 W, .int .i64 H, .slice A n c] 31).keep (below_new (Below.refl _ _) (.cells #[.int .i64 a, .int .i64 b] 32)))
  have BL := Lib.hid (show Bx W2 (w.heap.size + 1) #[.int .i64 a, .int .i64 b] 32 by rw [hW2]; have := Bx.new (w.alloc (.cells #[.int .i64 W, .int .i64 H, .slice A n c] 31)) #[.int .i64 a, .int .i64 b] 32; simpa using this)
  have B := Lib.hid (show Below w.heap.size w W2 by rw [hW2]; repeat (first | exact Below.refl _ _ | refine below_new ?_ _))
  have HSZ := Lib.hid (show w.heap.size + 2 ≤ W2.heap.size by rw [hW2]; simp)
  have RH := Lib.hid (ha.keep B.out)
  clear ha
  by_cases ht : twoV W H xs a b = true
  · by_cases hf : (cellsL W H xs).length ≤ 16
    · have p0 : W2.cell? ⟨w.heap.size, 0, none⟩ = some (.int .i64 W) := BB.out.cell rfl
      have p1 : W2.cell? ⟨w.heap.size, 1, none⟩ = some (.int .i64 H) := BB.out.cell rfl
      have p2 : W2.cell? ⟨w.heap.size, 2, none⟩ = some (.slice A n c) := BB.out.cell rfl
      have l0 : W2.cell? ⟨w.heap.size + 1, 0, none⟩ = some (.int .i64 a) := BL.out.cell rfl
      have l1 : W2.cell? ⟨w.heap.size + 1, 1, none⟩ = some (.int .i64 b) := BL.out.cell rfl
      go_enter Try.func69, Try.ntmps69
      go_wp2_with fail
      rw [← hW2]
      clear hW2
      clear p0 p1 p2
      clear l0 l1
      refine (isOn0_any _ _ _ _ _ _ _ _ _ RH.out).mono ?_
      rw [ht]
      rintro e wv ⟨rfl, hb⟩
      replace BB := Lib.hid (BB.out.keep hb)
      replace BL := Lib.hid (BL.out.keep hb)
      replace RH := Lib.hid (RH.out.keep hb)
      replace HSZ := Lib.hid (Nat.le_trans HSZ.out hb.size)
      replace B := Lib.hid (below_next B.out hb)
      clear hb
      have p0 : wv.cell? ⟨w.heap.size, 0, none⟩ = some (.int .i64 W) := BB.out.cell rfl
      have p1 : wv.cell? ⟨w.heap.size, 1, none⟩ = some (.int .i64 H) := BB.out.cell rfl
      have p2 : wv.cell? ⟨w.heap.size, 2, none⟩ = some (.slice A n c) := BB.out.cell rfl
      go_wp2_with fail
      clear p0 p1 p2
      refine (cellsThere_any _ _ _ _ _ _ _ RH.out (two_gK ht)).mono ?_
      rintro e wv ⟨A', M, c', rfl, own, hb⟩
      have HM := Lib.hid own.len
      clear own
      replace BB := Lib.hid (BB.out.keep hb)
      replace BL := Lib.hid (BL.out.keep hb)
      replace RH := Lib.hid (RH.out.keep hb)
      replace HSZ := Lib.hid (Nat.le_trans HSZ.out hb.size)
      replace B := Lib.hid (below_next B.out hb)
      clear hb
      have hM2 : (M : Int) ≤ 16 := by have := HM.out; omega
      go_wp2
      go_ret
      exact ⟨ret_bool (by rw [pzB, fewB, ht, show decide ((cellsL W H xs).length ≤ 16) = true by simpa using hf]; rfl), B.out⟩
    · have p0 : W2.cell? ⟨w.heap.size, 0, none⟩ = some (.int .i64 W) := BB.out.cell rfl
      have p1 : W2.cell? ⟨w.heap.size, 1, none⟩ = some (.int .i64 H) := BB.out.cell rfl
      have p2 : W2.cell? ⟨w.heap.size, 2, none⟩ = some (.slice A n c) := BB.out.cell rfl
      have l0 : W2.cell? ⟨w.heap.size + 1, 0, none⟩ = some (.int .i64 a) := BL.out.cell rfl
      have l1 : W2.cell? ⟨w.heap.size + 1, 1, none⟩ = some (.int .i64 b) := BL.out.cell rfl
      go_enter Try.func69, Try.ntmps69
      go_wp2_with fail
      rw [← hW2]
      clear hW2
      clear p0 p1 p2
      clear l0 l1
      refine (isOn0_any _ _ _ _ _ _ _ _ _ RH.out).mono ?_
      rw [ht]
      rintro e wv ⟨rfl, hb⟩
      replace BB := Lib.hid (BB.out.keep hb)
      replace BL := Lib.hid (BL.out.keep hb)
      replace RH := Lib.hid (RH.out.keep hb)
      replace HSZ := Lib.hid (Nat.le_trans HSZ.out hb.size)
      replace B := Lib.hid (below_next B.out hb)
      clear hb
      have p0 : wv.cell? ⟨w.heap.size, 0, none⟩ = some (.int .i64 W) := BB.out.cell rfl
      have p1 : wv.cell? ⟨w.heap.size, 1, none⟩ = some (.int .i64 H) := BB.out.cell rfl
      have p2 : wv.cell? ⟨w.heap.size, 2, none⟩ = some (.slice A n c) := BB.out.cell rfl
      go_wp2_with fail
      clear p0 p1 p2
      refine (cellsThere_any _ _ _ _ _ _ _ RH.out (two_gK ht)).mono ?_
      rintro e wv ⟨A', M, c', rfl, own, hb⟩
      have HM := Lib.hid own.len
      clear own
      replace BB := Lib.hid (BB.out.keep hb)
      replace BL := Lib.hid (BL.out.keep hb)
      replace RH := Lib.hid (RH.out.keep hb)
      replace HSZ := Lib.hid (Nat.le_trans HSZ.out hb.size)
      replace B := Lib.hid (below_next B.out hb)
      clear hb
      have hM2 : ¬ (M : Int) ≤ 16 := by have := HM.out; omega
      go_wp2
      go_ret
      exact ⟨ret_bool (by rw [pzB, fewB, ht, show decide ((cellsL W H xs).length ≤ 16) = false by simpa using hf]; simp; omega), B.out⟩
  · have p0 : W2.cell? ⟨w.heap.size, 0, none⟩ = some (.int .i64 W) := BB.out.cell rfl
    have p1 : W2.cell? ⟨w.heap.size, 1, none⟩ = some (.int .i64 H) := BB.out.cell rfl
    have p2 : W2.cell? ⟨w.heap.size, 2, none⟩ = some (.slice A n c) := BB.out.cell rfl
    have l0 : W2.cell? ⟨w.heap.size + 1, 0, none⟩ = some (.int .i64 a) := BL.out.cell rfl
    have l1 : W2.cell? ⟨w.heap.size + 1, 1, none⟩ = some (.int .i64 b) := BL.out.cell rfl
    go_enter Try.func69, Try.ntmps69
    go_wp2_with fail
    rw [← hW2]
    clear hW2
    clear p0 p1 p2
    clear l0 l1
    refine (isOn0_any _ _ _ _ _ _ _ _ _ RH.out).mono ?_
    rw [show twoV W H xs a b = false by simpa using ht]
    rintro e wv ⟨rfl, hb⟩
    replace BB := Lib.hid (BB.out.keep hb)
    replace BL := Lib.hid (BL.out.keep hb)
    replace RH := Lib.hid (RH.out.keep hb)
    replace HSZ := Lib.hid (Nat.le_trans HSZ.out hb.size)
    replace B := Lib.hid (below_next B.out hb)
    clear hb
    go_wp2
    go_ret
    exact ⟨ret_bool (by rw [pzB, show twoV W H xs a b = false by simpa using ht]; rfl), B.out⟩

end Go.Proofs.Ytkdfilhiljfanaa
