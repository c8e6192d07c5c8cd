/-
  Contracts: IsPuzzle, the program; GapsOf.
-/
import Derived.Test.YtkdfilhiljfanaaA4
namespace Go.Proofs.Ytkdfilhiljfanaa
open Go.RowKit

theorem planV_len (W H : Int) (xs : List Int) (a b : Int) (ns : List Int) : (words (planV W H xs a b ns)).length = 20 := by
  unfold planV; split
  · simp [words, planL_len]
  · simp [words]
theorem zero20_words : (#[.int .u64 0, .int .u64 0, .int .u64 0, .int .u64 0, .int .u64 0, .int .u64 0, .int .u64 0, .int .u64 0, .int .u64 0, .int .u64 0, .int .u64 0, .int .u64 0, .int .u64 0, .int .u64 0, .int .u64 0, .int .u64 0, .int .u64 0, .int .u64 0, .int .u64 0, .int .u64 0] : Array Value) = (words zero20).toArray := rfl
set_option maxRecDepth 100000 in
set_option maxHeartbeats 1000000 in
theorem impl_IsPuzzle (W H : Int) (A : Option Addr) (n c : Nat) (a b : Int) (A2 : Option Addr) (n2 c2 : Nat) (xs ns : List Int) (w : World) (ha : Rd w A n xs) (hp : Rd w A2 n2 ns) :
    Calls Try.prog 14 #[pzv W H A n c a b A2 n2 c2] w fun e w' => e = .returned (.bool (goodP W H xs a b ns)) ∧ Below w.heap.size w w' := by
  go_enter Try.func14, Try.ntmps14
  go_wp2_with fail
  refine (planOf_any W H A n c a b A2 n2 c2 xs ns _ (ha.alloc _) (hp.alloc _)).mono ?_
  unfold planEnd
  have HLN := Lib.hid (planV_len W H xs a b ns)
  obtain ⟨P, hP⟩ : ∃ P, P = words (planV W H xs a b ns) := ⟨_, rfl⟩
  rw [← hP] at HLN ⊢
  have HONE := all_oneCell_toArray (cs := P) (by rw [hP]; exact words_one _)
  clear hP
  rintro e wv ⟨rfl, hb⟩
  have HB := Lib.hid (below_box hb)
  clear hb
  have NB := Lib.hid (Bx.new wv (words zero20).toArray 63)
  go_wp2_with (first | refine wpList_store_row rfl 63 _ _ rfl wv.heap.size _ P.toArray rfl rfl NB.out (by rw [infoPlan]; simp [HLN.out]) (by simp [words, zero20_len, HLN.out]) HONE ?_)
  go_ret
  exact ⟨rfl, (HB.out.alloc HB.out.size _).grown (grown_setRow _ _ _) (by have := HB.out.size; simp; omega) (fun g9 h9 => by injection h9 with h9; have := HB.out.size; omega)⟩


def isGap (ns : List Int) (c : Int) : Bool := ns.getD c.toNat 0 == 0
def gapsV (W H : Int) (xs : List Int) (a b : Int) (ns : List Int) : Int := if goodP W H xs a b ns then (((cellsL W H xs).filter (isGap ns)).length : Int) else 0
theorem cntI_yes {f : Int → Bool} {l : List Int} {k : Nat} {x : Int} (hx : l[k]? = some x) (h : f x = true) : ((l.take (k + 1)).filter f).length = ((l.take k).filter f).length + 1 := by
  rw [List.take_add_one, hx, List.filter_append]; simp [h]
theorem cntI_no {f : Int → Bool} {l : List Int} {k : Nat} {x : Int} (hx : l[k]? = some x) (h : f x = false) : ((l.take (k + 1)).filter f).length = ((l.take k).filter f).length := by
  rw [List.take_add_one, hx, List.filter_append]; simp [h]
theorem cell_of {W H a b : Int} {xs ns : List Int} (h : goodP W H xs a b ns = true) {k : Nat} {x : Int} (hx : (cellsL W H xs)[k]? = some x) : ∃ j : Nat, x = (j : Int) ∧ j < ns.length ∧ j < 64 := by
  have h1 := (hasB_iff.1 (cellsL_mem.1 (List.mem_of_getElem? hx))).1
  have h2 := goodP_len h
  have h3 := good_N (two_gK (goodP_two h))
  exact ⟨x.toNat, by omega, by omega, by omega⟩
set_option maxRecDepth 100000 in
set_option maxHeartbeats 2000000 in
theorem impl_GapsOf (W H : Int) (A : Option Addr) (n c : Nat) (a b : Int) (A2 : Option Addr) (n2 c2 : Nat) (xs ns : List Int) (w : World) (ha : Rd w A n xs) (hp : Rd w A2 n2 ns) :
    Calls Try.prog 17 #[pzv W H A n c a b A2 n2 c2] w fun e w' => e = .returned (.tuple #[.int .i64 (gapsV W H xs a b ns), .bool (goodP W H xs a b ns)]) ∧ Below w.heap.size w w' := by
  have HL := Lib.hid hp.1
  have n9 := hp.2.1
  obtain ⟨W2, hW2⟩ : ∃ W2, W2 = w.alloc (.cells #[.int .i64 W, .int .i64 H, .slice A n c, .int .i64 a, .int .i64 b, .slice A2 n2 c2] 34) := ⟨_, rfl⟩
  have BP := Lib.hid (show Bx W2 (w.heap.size) #[.int .i64 W, .int .i64 H, .slice A n c, .int .i64 a, .int .i64 b, .slice A2 n2 c2] 34 by rw [hW2]; exact Bx.new (w) #[.int .i64 W, .int .i64 H, .slice A n c, .int .i64 a, .int .i64 b, .slice A2 n2 c2] 34)
  have B := Lib.hid (show Below w.heap.size w W2 by rw [hW2]; repeat (first | exact Below.refl _ _ | refine below_new ?_ _))
  have HSZ := Lib.hid (show w.heap.size + 1 ≤ W2.heap.size by rw [hW2]; simp)
  have RH := Lib.hid (ha.keep B.out); have RN := Lib.hid (hp.keep B.out)
  clear ha hp
  by_cases ht : goodP W H xs a b ns = true
  · have p0 : W2.cell? ⟨w.heap.size, 0, none⟩ = some (.int .i64 W) := BP.out.cell rfl
    have p1 : W2.cell? ⟨w.heap.size, 1, none⟩ = some (.int .i64 H) := BP.out.cell rfl
    have p2 : W2.cell? ⟨w.heap.size, 2, none⟩ = some (.slice A n c) := BP.out.cell rfl
    have p3 : W2.cell? ⟨w.heap.size, 3, none⟩ = some (.int .i64 a) := BP.out.cell rfl
    have p4 : W2.cell? ⟨w.heap.size, 4, none⟩ = some (.int .i64 b) := BP.out.cell rfl
    have p5 : W2.cell? ⟨w.heap.size, 5, none⟩ = some (.slice A2 n2 c2) := BP.out.cell rfl
    go_enter Try.func17, Try.ntmps17
    go_wp2_with fail
    rw [← hW2]
    clear hW2
    clear p0 p1 p2 p3 p4 p5
    refine (impl_IsPuzzle W H A n c a b A2 n2 c2 xs ns _ RH.out RN.out).mono ?_
    rw [ht]
    rintro e wv ⟨rfl, hb⟩
    replace BP := Lib.hid (BP.out.keep hb)
    replace RH := Lib.hid (RH.out.keep hb)
    replace RN := Lib.hid (RN.out.keep hb)
    replace HSZ := Lib.hid (Nat.le_trans HSZ.out hb.size)
    replace B := Lib.hid (below_next B.out hb)
    clear hb
    have HG := Lib.hid ht
    have HTW := Lib.hid (two_gK (goodP_two ht))
    clear ht
    have p0 : wv.cell? ⟨w.heap.size, 0, none⟩ = some (.int .i64 W) := BP.out.cell rfl
    have p1 : wv.cell? ⟨w.heap.size, 1, none⟩ = some (.int .i64 H) := BP.out.cell rfl
    have p2 : wv.cell? ⟨w.heap.size, 2, none⟩ = some (.slice A n c) := BP.out.cell rfl
    go_wp2_with fail
    clear p0 p1 p2
    refine (cellsThere_any _ _ _ _ _ _ _ RH.out HTW.out).mono ?_
    rintro e wv ⟨A', M, c', rfl, own, hb⟩
    have OC := Lib.hid own
    have HM := Lib.hid own.len
    have hM64 : M ≤ 64 := by rw [← HM.out]; have := good_N HTW.out; have := cellsL_len HTW.out; omega
    clear own
    replace BP := Lib.hid (BP.out.keep hb)
    replace RH := Lib.hid (RH.out.keep hb)
    replace RN := Lib.hid (RN.out.keep hb)
    replace HSZ := Lib.hid (Nat.le_trans HSZ.out hb.size)
    replace B := Lib.hid (below_next B.out hb)
    clear hb
    go_wp2
    go_loopw [4, 14] (fun s4 i wr => ∃ k : Nat, k ≤ M ∧ i = .int .i64 k ∧ s4 = .int .i64 ((((cellsL W H xs).take k).filter (isGap ns)).length : Int) ∧ Below wv.heap.size wv wr) (fun _ i _ => M - (intOf i).toNat)
    case atStart => exact ⟨0, Nat.zero_le _, rfl, rfl, Below.refl _ _⟩
    case round =>
      obtain ⟨k, hk, rfl, rfl, hbw⟩ := hrel
      have BW := Lib.hid hbw
      clear hbw
      have hcl : (((cellsL W H xs).take k).filter (isGap ns)).length ≤ 64 := by have := List.length_filter_le (isGap ns) ((cellsL W H xs).take k); simp at this; omega
      by_cases hlt : k < M
      · obtain ⟨bb, oo, x, rfl, hg1, hx, x0⟩ := (OC.out.rd.keep BW.out).at_ hlt
        obtain ⟨j, rfl, hj1, hj2⟩ := cell_of HG.out hx
        have HX := Lib.hid hx
        clear hx
        have hjn : j < n2 := by have := HL.out; omega
        obtain ⟨b2, o2, z, rfl, hg2, hz, z0⟩ := (RN.out.keep BW.out).at_ hjn
        have HZ := Lib.hid hz
        clear hz
        have p5 : wr.cell? ⟨w.heap.size, 5, none⟩ = some (.slice (some ⟨b2, o2, none⟩) n2 c2) := (BP.out.keep BW.out).cell rfl
        have hj0 : (0 : Int) ≤ (j : Int) := by omega
        have hjn2 : (j : Int) < (n2 : Int) := by omega
        by_cases h0 : z = 0
        · subst h0
          go_wp2
          go_roundw
          case rel => exact ⟨k + 1, by omega, by go_num, by rw [cntI_yes HX.out (show isGap ns (j : Int) = true by rw [isGap, Int.toNat_natCast, List.getD_eq_getElem?_getD, HZ.out]; simp)]; go_num, BW.out⟩
          case measure => simp [intOf]; omega
        · have hne0 : (z == 0) = false := by simpa using h0
          go_wp2
          go_roundw
          case rel => exact ⟨k + 1, by omega, by go_num, by rw [cntI_no HX.out (show isGap ns (j : Int) = false by rw [isGap, Int.toNat_natCast, List.getD_eq_getElem?_getD, HZ.out]; simp; exact h0)], BW.out⟩
          case measure => simp [intOf]; omega
      · have hkM : k = M := by omega
        go_wp2
        go_ret2
        exact ⟨by rw [gapsV, HG.out, if_pos rfl, List.take_of_length_le (by have := HM.out; omega)]; rfl, below_next B.out BW.out⟩
  · have p0 : W2.cell? ⟨w.heap.size, 0, none⟩ = some (.int .i64 W) := BP.out.cell rfl
    have p1 : W2.cell? ⟨w.heap.size, 1, none⟩ = some (.int .i64 H) := BP.out.cell rfl
    have p2 : W2.cell? ⟨w.heap.size, 2, none⟩ = some (.slice A n c) := BP.out.cell rfl
    have p3 : W2.cell? ⟨w.heap.size, 3, none⟩ = some (.int .i64 a) := BP.out.cell rfl
    have p4 : W2.cell? ⟨w.heap.size, 4, none⟩ = some (.int .i64 b) := BP.out.cell rfl
    have p5 : W2.cell? ⟨w.heap.size, 5, none⟩ = some (.slice A2 n2 c2) := BP.out.cell rfl
    go_enter Try.func17, Try.ntmps17
    go_wp2_with fail
    rw [← hW2]
    clear hW2
    clear p0 p1 p2 p3 p4 p5
    refine (impl_IsPuzzle W H A n c a b A2 n2 c2 xs ns _ RH.out RN.out).mono ?_
    rw [show goodP W H xs a b ns = false by simpa using ht]
    rintro e wv ⟨rfl, hb⟩
    replace BP := Lib.hid (BP.out.keep hb)
    replace RH := Lib.hid (RH.out.keep hb)
    replace RN := Lib.hid (RN.out.keep hb)
    replace HSZ := Lib.hid (Nat.le_trans HSZ.out hb.size)
    replace B := Lib.hid (below_next B.out hb)
    clear hb
    go_wp2
    go_ret2
    exact ⟨by rw [gapsV, show goodP W H xs a b ns = false by simpa using ht]; rfl, B.out⟩

set_option maxRecDepth 100000 in
set_option maxHeartbeats 2000000 in
theorem spec_GapsOf (W H : Int) (A : Option Addr) (n c : Nat) (a b : Int) (A2 : Option Addr) (n2 c2 : Nat) (xs ns : List Int) (w : World) (ha : Rd w A n xs) (hp : Rd w A2 n2 ns) (hcap : n2 ≤ c2) :
    Calls Try.prog 16 #[pzv W H A n c a b A2 n2 c2] w fun e w' => e = .returned (.tuple #[.int .i64 (gapsV W H xs a b ns), .bool (goodP W H xs a b ns)]) ∧ Below w.heap.size w w' := by
  have HL := Lib.hid hp.1
  have n9 := hp.2.1
  obtain ⟨W2, hW2⟩ : ∃ W2, W2 = w.alloc (.cells #[.int .i64 W, .int .i64 H, .slice A n c, .int .i64 a, .int .i64 b, .slice A2 n2 c2] 34) := ⟨_, rfl⟩
  have BP := Lib.hid (show Bx W2 (w.heap.size) #[.int .i64 W, .int .i64 H, .slice A n c, .int .i64 a, .int .i64 b, .slice A2 n2 c2] 34 by rw [hW2]; exact Bx.new (w) #[.int .i64 W, .int .i64 H, .slice A n c, .int .i64 a, .int .i64 b, .slice A2 n2 c2] 34)
  have B := Lib.hid (show Below w.heap.size w W2 by rw [hW2]; repeat (first | exact Below.refl _ _ | refine below_new ?_ _))
  have HSZ := Lib.hid (show w.heap.size + 1 ≤ W2.heap.size by rw [hW2]; simp)
  have RH := Lib.hid (ha.keep B.out); have RN := Lib.hid (hp.keep B.out)
  clear ha hp
  by_cases ht : goodP W H xs a b ns = true
  · have p0 : W2.cell? ⟨w.heap.size, 0, none⟩ = some (.int .i64 W) := BP.out.cell rfl
    have p1 : W2.cell? ⟨w.heap.size, 1, none⟩ = some (.int .i64 H) := BP.out.cell rfl
    have p2 : W2.cell? ⟨w.heap.size, 2, none⟩ = some (.slice A n c) := BP.out.cell rfl
    have p3 : W2.cell? ⟨w.heap.size, 3, none⟩ = some (.int .i64 a) := BP.out.cell rfl
    have p4 : W2.cell? ⟨w.heap.size, 4, none⟩ = some (.int .i64 b) := BP.out.cell rfl
    have p5 : W2.cell? ⟨w.heap.size, 5, none⟩ = some (.slice A2 n2 c2) := BP.out.cell rfl
    go_enter Try.func16, Try.ntmps16
    go_wp2_with fail
    rw [← hW2]
    clear hW2
    clear p0 p1 p2 p3 p4 p5
    refine (pzGood_any W H A n c a b A2 n2 c2 xs ns _ RH.out RN.out hcap).mono ?_
    rw [ht]
    rintro e wv ⟨rfl, hb⟩
    replace BP := Lib.hid (BP.out.keep hb)
    replace RH := Lib.hid (RH.out.keep hb)
    replace RN := Lib.hid (RN.out.keep hb)
    replace HSZ := Lib.hid (Nat.le_trans HSZ.out hb.size)
    replace B := Lib.hid (below_next B.out hb)
    clear hb
    have HG := Lib.hid ht
    have HTW := Lib.hid (two_gK (goodP_two ht))
    clear ht
    have p0 : wv.cell? ⟨w.heap.size, 0, none⟩ = some (.int .i64 W) := BP.out.cell rfl
    have p1 : wv.cell? ⟨w.heap.size, 1, none⟩ = some (.int .i64 H) := BP.out.cell rfl
    have p2 : wv.cell? ⟨w.heap.size, 2, none⟩ = some (.slice A n c) := BP.out.cell rfl
    go_wp2_with fail
    clear p0 p1 p2
    refine (boCells_any _ _ _ _ _ _ _ RH.out (good_N HTW.out)).mono ?_
    rintro e wv ⟨A', M, c', rfl, own, hb⟩
    have OC := Lib.hid own
    have HM := Lib.hid own.len
    have hM64 : M ≤ 64 := by rw [← HM.out]; have := good_N HTW.out; have := cellsL_len HTW.out; omega
    clear own
    replace BP := Lib.hid (BP.out.keep hb)
    replace RH := Lib.hid (RH.out.keep hb)
    replace RN := Lib.hid (RN.out.keep hb)
    replace HSZ := Lib.hid (Nat.le_trans HSZ.out hb.size)
    replace B := Lib.hid (below_next B.out hb)
    clear hb
    go_wp2
    go_loopw [4, 14] (fun s4 i wr => ∃ k : Nat, k ≤ M ∧ i = .int .i64 k ∧ s4 = .int .i64 ((((cellsL W H xs).take k).filter (isGap ns)).length : Int) ∧ Below wv.heap.size wv wr) (fun _ i _ => M - (intOf i).toNat)
    case atStart => exact ⟨0, Nat.zero_le _, rfl, rfl, Below.refl _ _⟩
    case round =>
      obtain ⟨k, hk, rfl, rfl, hbw⟩ := hrel
      have BW := Lib.hid hbw
      clear hbw
      have hcl : (((cellsL W H xs).take k).filter (isGap ns)).length ≤ 64 := by have := List.length_filter_le (isGap ns) ((cellsL W H xs).take k); simp at this; omega
      by_cases hlt : k < M
      · obtain ⟨bb, oo, x, rfl, hg1, hx, x0⟩ := (OC.out.rd.keep BW.out).at_ hlt
        obtain ⟨j, rfl, hj1, hj2⟩ := cell_of HG.out hx
        have HX := Lib.hid hx
        clear hx
        have hjn : j < n2 := by have := HL.out; omega
        obtain ⟨b2, o2, z, rfl, hg2, hz, z0⟩ := (RN.out.keep BW.out).at_ hjn
        have HZ := Lib.hid hz
        clear hz
        have p5 : wr.cell? ⟨w.heap.size, 5, none⟩ = some (.slice (some ⟨b2, o2, none⟩) n2 c2) := (BP.out.keep BW.out).cell rfl
        have hj0 : (0 : Int) ≤ (j : Int) := by omega
        have hjn2 : (j : Int) < (n2 : Int) := by omega
        by_cases h0 : z = 0
        · subst h0
          go_wp2
          go_roundw
          case rel => exact ⟨k + 1, by omega, by go_num, by rw [cntI_yes HX.out (show isGap ns (j : Int) = true by rw [isGap, Int.toNat_natCast, List.getD_eq_getElem?_getD, HZ.out]; simp)]; go_num, BW.out⟩
          case measure => simp [intOf]; omega
        · have hne0 : (z == 0) = false := by simpa using h0
          go_wp2
          go_roundw
          case rel => exact ⟨k + 1, by omega, by go_num, by rw [cntI_no HX.out (show isGap ns (j : Int) = false by rw [isGap, Int.toNat_natCast, List.getD_eq_getElem?_getD, HZ.out]; simp; exact h0)], BW.out⟩
          case measure => simp [intOf]; omega
      · have hkM : k = M := by omega
        go_wp2
        go_ret2
        exact ⟨by rw [gapsV, HG.out, if_pos rfl, List.take_of_length_le (by have := HM.out; omega)]; rfl, below_next B.out BW.out⟩
  · have p0 : W2.cell? ⟨w.heap.size, 0, none⟩ = some (.int .i64 W) := BP.out.cell rfl
    have p1 : W2.cell? ⟨w.heap.size, 1, none⟩ = some (.int .i64 H) := BP.out.cell rfl
    have p2 : W2.cell? ⟨w.heap.size, 2, none⟩ = some (.slice A n c) := BP.out.cell rfl
    have p3 : W2.cell? ⟨w.heap.size, 3, none⟩ = some (.int .i64 a) := BP.out.cell rfl
    have p4 : W2.cell? ⟨w.heap.size, 4, none⟩ = some (.int .i64 b) := BP.out.cell rfl
    have p5 : W2.cell? ⟨w.heap.size, 5, none⟩ = some (.slice A2 n2 c2) := BP.out.cell rfl
    go_enter Try.func16, Try.ntmps16
    go_wp2_with fail
    rw [← hW2]
    clear hW2
    clear p0 p1 p2 p3 p4 p5
    refine (pzGood_any W H A n c a b A2 n2 c2 xs ns _ RH.out RN.out hcap).mono ?_
    rw [show goodP W H xs a b ns = false by simpa using ht]
    rintro e wv ⟨rfl, hb⟩
    replace BP := Lib.hid (BP.out.keep hb)
    replace RH := Lib.hid (RH.out.keep hb)
    replace RN := Lib.hid (RN.out.keep hb)
    replace HSZ := Lib.hid (Nat.le_trans HSZ.out hb.size)
    replace B := Lib.hid (below_next B.out hb)
    clear hb
    go_wp2
    go_ret2
    exact ⟨by rw [gapsV, show goodP W H xs a b ns = false by simpa using ht]; rfl, B.out⟩

end Go.Proofs.Ytkdfilhiljfanaa
