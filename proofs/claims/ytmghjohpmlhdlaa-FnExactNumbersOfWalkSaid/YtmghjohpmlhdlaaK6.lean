/-
  Contracts: NumbersOfWalk.
-/
import Derived.Test.YtmghjohpmlhdlaaK5
namespace Go.Proofs.Ytmghjohpmlhdlaa
open Go.RowKit

/-- The numbers of a list of cells, from the index i on. -/
def numL : Nat → List Int → List Int → List Int
  | _, [], L => L
  | i, x :: t, L => numL (i + 1) t (L.set x.toNat ((i : Int) + 1))
theorem numL_drop {ps L : List Int} {k : Nat} {x : Int} (hx : ps[k]? = some x) : numL k (ps.drop k) L = numL (k + 1) (ps.drop (k + 1)) (L.set x.toNat ((k : Int) + 1)) := by
  rw [drop_cons_of hx]; rfl
theorem numL_len : ∀ (ps : List Int) (i : Nat) (L : List Int), (numL i ps L).length = L.length
  | [], _, _ => rfl
  | x :: t, i, L => by rw [numL, numL_len t, List.length_set]
def okNum (W H : Int) (xs : List Int) (a b : Int) (ps : List Int) : Bool := twoV W H xs a b && walkB W H xs a b ps
def numsL (W H : Int) (ps : List Int) : List Int := numL 0 ps (List.replicate (W * H).toNat 0)
def numbersV (W H : Int) (xs : List Int) (a b : Int) (ps : List Int) : List Int := if okNum W H xs a b ps then numsL W H ps else []
theorem good_in {W H a b : Int} {xs ps : List Int} (h : pathB W H xs a b ps = true) : ∀ x ∈ ps, 0 ≤ x ∧ x < W * H := fun x hx => (hasB_iff.1 (path_has h x hx)).1
theorem len_NumbersOfWalk (W H : Int) (xs : List Int) (a b : Int) (ps : List Int) : (numbersV W H xs a b ps).length ≤ 1000000 := by
  unfold numbersV
  split
  · rename_i h
    simp only [okNum, Bool.and_eq_true] at h
    have := good_N (two_gK h.1)
    rw [numsL, numL_len, List.length_replicate]; omega
  · simp

set_option maxRecDepth 100000 in
set_option maxHeartbeats 2000000 in
theorem numbersOf_any (W H : Int) (A : Option Addr) (n c : Nat) (A2 : Option Addr) (m c2 : Nat) (ps : List Int) (w : World) (hp : Rd w A2 m ps) (hN : 1 ≤ W * H ∧ W * H ≤ 64) (hin : ∀ x ∈ ps, 0 ≤ x ∧ x < W * H) :
    Calls Try.prog 88 #[brd W H A n c, .slice A2 m c2] w fun e w' => ∃ g, e = .returned (.slice (some ⟨g, 0, none⟩) (W * H).toNat (W * H).toNat) ∧ OwnI 3 w' w.heap.size (some ⟨g, 0, none⟩) (W * H).toNat (W * H).toNat (numsL W H ps) ∧ Below w.heap.size w w' := by
  obtain ⟨i0, hi, hz0, hz1, hz2⟩ := info_parts infoI
  have HI := Lib.hid hi; have HZ0 := Lib.hid hz0; have HZ1 := Lib.hid hz1; have HZ2 := Lib.hid hz2
  clear hi hz0 hz1 hz2
  have HPL := Lib.hid hp.1
  have m9 := hp.2.1
  obtain ⟨N, hWH⟩ : ∃ N : Nat, W * H = (N : Int) := ⟨(W * H).toNat, by omega⟩
  rw [hWH] at hin hN
  obtain ⟨hN1, hN2⟩ := hN
  have hN0 : (0 : Int) ≤ (N : Int) := by omega
  have HIN := Lib.hid hin
  have HWH := Lib.hid (show (W * H).toNat = N by omega)
  clear hin
  obtain ⟨W2, hW2⟩ : ∃ W2, W2 = w.alloc (.cells #[.int .i64 W, .int .i64 H, .slice A n c] 28) := ⟨_, rfl⟩
  have a0 : W2.cell? ⟨w.heap.size, 0, none⟩ = some (.int .i64 W) := by rw [hW2]; go_simp
  have a1 : W2.cell? ⟨w.heap.size, 1, none⟩ = some (.int .i64 H) := by rw [hW2]; go_simp
  have hsz : W2.heap.size = w.heap.size + 1 := by rw [hW2]; simp
  have B := Lib.hid (show Below w.heap.size w W2 by rw [hW2]; exact below_new (Below.refl _ _) _)
  have RP := Lib.hid (hp.keep B.out)
  clear hp
  go_enter Try.func88, Try.ntmps88
  go_wp2_with (at_make; refine wpList_make_full _ rfl _ _ 22 rfl W2.heap.size 3 i0 (.int .i64 0) 1 Try.underlying22 HI.out HZ0.out HZ1.out .i64 .i64 _ _ N rfl rfl rfl rfl (by rw [HZ2.out]; omega) (by unfold maxLen; omega) (by simp; omega) ?_; intro w1 hown1 hg1)
  rw [← hW2] at hown1 hg1
  have hO1 : OwnI 3 w1 W2.heap.size (some ⟨W2.heap.size, 0, none⟩) N N (List.replicate N 0) := by
    unfold OwnI
    rw [show N * 1 = N from by omega] at hown1
    have e : (madeCells (Value.cells (.int .i64 0)) N).toList = List.replicate N (.int .i64 0) := toList_madeCells_one (.int .i64 0) N
    rw [e] at hown1
    simpa using hown1
  obtain ⟨fb, hfb⟩ : ∃ fb, fb = W2.heap.size := ⟨_, rfl⟩
  rw [hsz] at hO1 hfb
  rw [hsz] at hown1
  have hfb9 : fb = w.heap.size + 1 := hfb
  rw [← hfb9] at hO1 ⊢
  rw [← hsz] at hfb
  clear hW2 hfb9
  have hg2 : W2.grownBy w1 (some fb) := ⟨hg1.os, hg1.tape, hg1.output, hg1.size, fun i hi _ => hg1.block i hi (by simp)⟩
  have FAR := Lib.hid hO1; have G1 := Lib.hid hg2
  have HFB := Lib.hid hfb
  have hw8 := hg1.size
  clear hfb hown1 hg1 hg2 hO1 hWH
  go_loopw [16] (fun i wr => ∃ (k : Nat) (L : List Int), k ≤ m ∧ i = .int .i64 k ∧ OwnI 3 wr fb (some ⟨fb, 0, none⟩) N N L ∧ numsL W H ps = numL k (ps.drop k) L ∧ W2.grownBy wr (some fb)) (fun i _ => m - (intOf i).toNat)
  case atStart => exact ⟨0, _, by omega, rfl, FAR.out, by rw [numsL, HWH.out]; simp, G1.out⟩
  case round =>
    obtain ⟨k, L, hk, rfl, hown, hnum, hgw⟩ := hrel
    have HNUM := Lib.hid hnum
    clear hnum
    by_cases hlt : k < m
    · obtain ⟨bb, oo, x, rfl, hg1, hx, x0⟩ := RP.out.at_ hlt
      have HX := Lib.hid hx
      obtain ⟨hx0, hx1⟩ := HIN.out x (List.mem_of_getElem? hx)
      have hne : bb ≠ fb := by have := HFB.out; omega
      replace x0 := hgw.cell x0 (by simpa using hne)
      clear hx
      obtain ⟨j, rfl⟩ : ∃ j : Nat, x = (j : Int) := ⟨x.toNat, by omega⟩
      have hll := hown.len
      obtain ⟨y0, hy⟩ : ∃ y, L[j]? = some y := ⟨_, List.getElem?_eq_getElem (show j < L.length by omega)⟩
      have c0 := hown.cell hy
      have f0 := hown.frozen j
      have hl0 : fb < wr.heap.size := by rcases hown.some_ (k := 0) (by omega) with ⟨g9, h9, _, h8⟩; injection h9 with h9; injection h9 with h9; omega
      obtain ⟨o1, g1⟩ := hown.stored j ((k : Int) + 1)
      have O1 := Lib.hid o1; have GW := Lib.hid (grown_next hgw g1)
      clear o1 g1 hgw hown hll hy hne
      go_wp2
      go_roundw
      case rel => exact ⟨k + 1, L.set j ((k : Int) + 1), by omega, by go_num, O1.out, by rw [HNUM.out, numL_drop HX.out]; rfl, GW.out⟩
      case measure => simp [intOf]; omega
    · have HE := Lib.hid (show numsL W H ps = L by rw [HNUM.out, List.drop_of_length_le (by have := HPL.out; omega)]; rfl)
      have HO := Lib.hid hown
      have HG2 := Lib.hid hgw
      clear hown hgw
      go_wp2
      go_ret
      rw [HWH.out]
      exact ⟨_, rfl, by rw [HE.out]; exact HO.out.lower (by have := HFB.out; have := B.out.size; omega), B.out.trans (below_of_grown HG2.out B.out.size (fun g h => by injection h with h; have := HFB.out; have := B.out.size; omega))⟩

set_option maxRecDepth 100000 in
set_option maxHeartbeats 2000000 in
theorem impl_NumbersOfWalk (W H : Int) (A : Option Addr) (n c : Nat) (xs : List Int) (a b : Int) (A2 : Option Addr) (m c2 : Nat) (ps : List Int) (w : World) (ha : Rd w A n xs) (hp : Rd w A2 m ps) (_ : m ≤ c2) :
    Calls Try.prog 50 #[brd W H A n c, lpr a b, .slice A2 m c2] w fun e w' => ∃ A' n' c', e = .returned (.tuple #[.slice A' n' c', .bool (okNum W H xs a b ps)]) ∧ OwnI 3 w' w.heap.size A' n' c' (numbersV W H xs a b ps) ∧ Below w.heap.size w w' := by
  by_cases ht : twoV W H xs a b = true
  · by_cases hq : walkB W H xs a b ps = true
    · go_enter Try.func50, Try.ntmps50
      go_wp2_with fail
      refine (isOn0_any _ _ _ _ _ _ _ _ _ ((ha.alloc _).alloc _)).mono ?_
      rw [ht]
      rintro e wv ⟨rfl, hb⟩
      have hbx0 := below_box hb
      have a0 : wv.cell? ⟨w.heap.size, 0, none⟩ = some (.int .i64 W) := by simpa using newbox hbx0 0
      have a1 : wv.cell? ⟨w.heap.size, 1, none⟩ = some (.int .i64 H) := by simpa using newbox hbx0 1
      have a2 : wv.cell? ⟨w.heap.size, 2, none⟩ = some (.slice A n c) := by simpa using newbox hbx0 2
      have al : w.heap.size < wv.heap.size := by simpa using newbox_lt hbx0
      have l0 : wv.cell? ⟨w.heap.size + 1, 0, none⟩ = some (.int .i64 a) := by simpa using newbox hb 0
      have l1 : wv.cell? ⟨w.heap.size + 1, 1, none⟩ = some (.int .i64 b) := by simpa using newbox hb 1
      have ll : w.heap.size + 1 < wv.heap.size := by simpa using newbox_lt hb
      have B := Lib.hid (below_box hbx0)
      clear hb hbx0
      go_wp2_with fail
      refine (isWalk_any W H A n c xs a b A2 m c2 ps _ (ha.keep B.out) (hp.keep B.out) (two_gK ht)).mono ?_
      rw [hq]
      rintro e wv ⟨rfl, hb⟩
      replace a0 := cell_keep a0 al hb
      replace a1 := cell_keep a1 al hb
      replace a2 := cell_keep a2 al hb
      replace al := lt_keep al hb
      replace l0 := cell_keep l0 ll hb
      replace l1 := cell_keep l1 ll hb
      replace ll := lt_keep ll hb
      replace B := Lib.hid (below_next B.out hb)
      clear hb
      have OK := Lib.hid (show okNum W H xs a b ps = true by rw [okNum, ht, hq]; rfl)
      have hN := good_N (two_gK ht)
      have hin := good_in (walk_path hq)
      have HNN := Lib.hid hN; have HIN := Lib.hid hin
      clear ht hq hN hin
      go_wp2_with fail
      refine (numbersOf_any W H A n c A2 m c2 ps _ (hp.keep B.out) HNN.out HIN.out).mono ?_
      rintro e wx ⟨g, rfl, own, hb⟩
      have O := Lib.hid (own.lower B.out.size)
      replace B := Lib.hid (below_next B.out hb)
      clear own hb
      go_wp2
      go_ret2
      exact ⟨_, _, _, by rw [OK.out]; rfl, by rw [numbersV, if_pos OK.out]; exact O.out, B.out⟩
    · have hq' : walkB W H xs a b ps = false := by simpa using hq
      go_enter Try.func50, Try.ntmps50
      go_wp2_with fail
      refine (isOn0_any _ _ _ _ _ _ _ _ _ ((ha.alloc _).alloc _)).mono ?_
      rw [ht]
      rintro e wv ⟨rfl, hb⟩
      have hbx0 := below_box hb
      have a0 : wv.cell? ⟨w.heap.size, 0, none⟩ = some (.int .i64 W) := by simpa using newbox hbx0 0
      have a1 : wv.cell? ⟨w.heap.size, 1, none⟩ = some (.int .i64 H) := by simpa using newbox hbx0 1
      have a2 : wv.cell? ⟨w.heap.size, 2, none⟩ = some (.slice A n c) := by simpa using newbox hbx0 2
      have al : w.heap.size < wv.heap.size := by simpa using newbox_lt hbx0
      have l0 : wv.cell? ⟨w.heap.size + 1, 0, none⟩ = some (.int .i64 a) := by simpa using newbox hb 0
      have l1 : wv.cell? ⟨w.heap.size + 1, 1, none⟩ = some (.int .i64 b) := by simpa using newbox hb 1
      have ll : w.heap.size + 1 < wv.heap.size := by simpa using newbox_lt hb
      have B := Lib.hid (below_box hbx0)
      clear hb hbx0
      go_wp2_with fail
      refine (isWalk_any W H A n c xs a b A2 m c2 ps _ (ha.keep B.out) (hp.keep B.out) (two_gK ht)).mono ?_
      rw [hq']
      rintro e wv ⟨rfl, hb⟩
      replace a0 := cell_keep a0 al hb
      replace a1 := cell_keep a1 al hb
      replace a2 := cell_keep a2 al hb
      replace al := lt_keep al hb
      replace l0 := cell_keep l0 ll hb
      replace l1 := cell_keep l1 ll hb
      replace ll := lt_keep ll hb
      replace B := Lib.hid (below_next B.out hb)
      clear hb
      go_wp2
      go_ret2
      exact ⟨none, 0, 0, by rw [show okNum W H xs a b ps = false by rw [okNum, hq', Bool.and_false]]; rfl, by rw [numbersV, if_neg (by rw [okNum, hq', Bool.and_false]; simp)]; exact OwnI.none_ _ _ _, B.out⟩
  · have ht' : twoV W H xs a b = false := by simpa using ht
    go_enter Try.func50, Try.ntmps50
    go_wp2_with fail
    refine (isOn0_any _ _ _ _ _ _ _ _ _ ((ha.alloc _).alloc _)).mono ?_
    rw [ht']
    rintro e wv ⟨rfl, hb⟩
    have hbx0 := below_box hb
    have a0 : wv.cell? ⟨w.heap.size, 0, none⟩ = some (.int .i64 W) := by simpa using newbox hbx0 0
    have a1 : wv.cell? ⟨w.heap.size, 1, none⟩ = some (.int .i64 H) := by simpa using newbox hbx0 1
    have a2 : wv.cell? ⟨w.heap.size, 2, none⟩ = some (.slice A n c) := by simpa using newbox hbx0 2
    have al : w.heap.size < wv.heap.size := by simpa using newbox_lt hbx0
    have l0 : wv.cell? ⟨w.heap.size + 1, 0, none⟩ = some (.int .i64 a) := by simpa using newbox hb 0
    have l1 : wv.cell? ⟨w.heap.size + 1, 1, none⟩ = some (.int .i64 b) := by simpa using newbox hb 1
    have ll : w.heap.size + 1 < wv.heap.size := by simpa using newbox_lt hb
    have B := Lib.hid (below_box hbx0)
    clear hb hbx0
    go_wp2
    go_ret2
    exact ⟨none, 0, 0, by rw [show okNum W H xs a b ps = false by rw [okNum, ht']; rfl]; rfl, by rw [numbersV, if_neg (by rw [okNum, ht']; simp)]; exact OwnI.none_ _ _ _, B.out⟩

set_option maxRecDepth 100000 in
set_option maxHeartbeats 2000000 in
theorem spec_NumbersOfWalk (W H : Int) (A : Option Addr) (n c : Nat) (xs : List Int) (a b : Int) (A2 : Option Addr) (m c2 : Nat) (ps : List Int) (w : World) (ha : Rd w A n xs) (hp : Rd w A2 m ps) (hcap : m ≤ c2) :
    Calls Try.prog 49 #[brd W H A n c, lpr a b, .slice A2 m c2] w fun e w' => ∃ A' n' c', e = .returned (.tuple #[.slice A' n' c', .bool (okNum W H xs a b ps)]) ∧ OwnI 3 w' w.heap.size A' n' c' (numbersV W H xs a b ps) ∧ Below w.heap.size w w' := by
  by_cases ht : twoV W H xs a b = true
  · by_cases hq : walkB W H xs a b ps = true
    · go_enter Try.func49, Try.ntmps49
      go_wp2_with fail
      refine (boTwoV_any _ _ _ _ _ _ _ _ _ ((ha.alloc _).alloc _)).mono ?_
      rw [ht]
      rintro e wv ⟨rfl, hb⟩
      have hbx0 := below_box hb
      have a0 : wv.cell? ⟨w.heap.size, 0, none⟩ = some (.int .i64 W) := by simpa using newbox hbx0 0
      have a1 : wv.cell? ⟨w.heap.size, 1, none⟩ = some (.int .i64 H) := by simpa using newbox hbx0 1
      have a2 : wv.cell? ⟨w.heap.size, 2, none⟩ = some (.slice A n c) := by simpa using newbox hbx0 2
      have al : w.heap.size < wv.heap.size := by simpa using newbox_lt hbx0
      have l0 : wv.cell? ⟨w.heap.size + 1, 0, none⟩ = some (.int .i64 a) := by simpa using newbox hb 0
      have l1 : wv.cell? ⟨w.heap.size + 1, 1, none⟩ = some (.int .i64 b) := by simpa using newbox hb 1
      have ll : w.heap.size + 1 < wv.heap.size := by simpa using newbox_lt hb
      have B := Lib.hid (below_box hbx0)
      clear hb hbx0
      go_wp2_with fail
      refine (toWalk_any W H A n c xs a b A2 m c2 ps _ (ha.keep B.out) (hp.keep B.out) hcap (two_gK ht)).mono ?_
      rw [hq]
      rintro e wv ⟨rfl, hb⟩
      replace a0 := cell_keep a0 al hb
      replace a1 := cell_keep a1 al hb
      replace a2 := cell_keep a2 al hb
      replace al := lt_keep al hb
      replace l0 := cell_keep l0 ll hb
      replace l1 := cell_keep l1 ll hb
      replace ll := lt_keep ll hb
      replace B := Lib.hid (below_next B.out hb)
      clear hb
      have OK := Lib.hid (show okNum W H xs a b ps = true by rw [okNum, ht, hq]; rfl)
      have hN := good_N (two_gK ht)
      have hin := good_in (walk_path hq)
      obtain ⟨i0, hi, hz0, hz1, hz2⟩ := info_parts infoI
      have HI := Lib.hid hi; have HZ0 := Lib.hid hz0; have HZ1 := Lib.hid hz1; have HZ2 := Lib.hid hz2
      clear hi hz0 hz1 hz2
      have HPL := Lib.hid hp.1
      have m9 := hp.2.1
      obtain ⟨N, hWH⟩ : ∃ N : Nat, W * H = (N : Int) := ⟨(W * H).toNat, by omega⟩
      rw [hWH] at hin hN
      obtain ⟨hN1, hN2⟩ := hN
      have hN0 : (0 : Int) ≤ (N : Int) := by omega
      have HIN := Lib.hid hin
      have HWH := Lib.hid (show (W * H).toNat = N by omega)
      clear hin
      have RP := Lib.hid (hp.keep B.out)
      clear a2 l0 l1 ll ht hq
      go_wp2_with (at_make; refine wpList_make_full _ rfl _ _ 22 rfl wv.heap.size 3 i0 (.int .i64 0) 1 Try.underlying22 HI.out HZ0.out HZ1.out .i64 .i64 _ _ N rfl rfl rfl rfl (by rw [HZ2.out]; omega) (by unfold maxLen; omega) (by exact Nat.le_refl _) ?_; intro w1 hown1 hg1)
      have hO1 : OwnI 3 w1 wv.heap.size (some ⟨wv.heap.size, 0, none⟩) N N (List.replicate N 0) := by
        unfold OwnI
        rw [show N * 1 = N from by omega] at hown1
        have e : (madeCells (Value.cells (.int .i64 0)) N).toList = List.replicate N (.int .i64 0) := toList_madeCells_one (.int .i64 0) N
        rw [e] at hown1
        simpa using hown1
      obtain ⟨fb, hfb⟩ : ∃ fb, fb = wv.heap.size := ⟨_, rfl⟩
      rw [← hfb] at hO1 ⊢
      have hg2 : wv.grownBy w1 (some fb) := ⟨hg1.os, hg1.tape, hg1.output, hg1.size, fun i hi _ => hg1.block i hi (by simp)⟩
      have FAR := Lib.hid hO1; have G1 := Lib.hid hg2
      have HFB := Lib.hid hfb
      have hw8 := hg1.size
      clear hfb hown1 hg1 hg2 hO1 hWH
      go_loopw [30] (fun i wr => ∃ (k : Nat) (L : List Int), k ≤ m ∧ i = .int .i64 k ∧ OwnI 3 wr fb (some ⟨fb, 0, none⟩) N N L ∧ numsL W H ps = numL k (ps.drop k) L ∧ wv.grownBy wr (some fb)) (fun i _ => m - (intOf i).toNat)
      case atStart => exact ⟨0, _, by omega, rfl, FAR.out, by rw [numsL, HWH.out]; simp, G1.out⟩
      case round =>
        obtain ⟨k, L, hk, rfl, hown, hnum, hgw⟩ := hrel
        have HNUM := Lib.hid hnum
        clear hnum
        by_cases hlt : k < m
        · obtain ⟨bb, oo, x, rfl, hg1, hx, x0⟩ := RP.out.at_ hlt
          have HX := Lib.hid hx
          obtain ⟨hx0, hx1⟩ := HIN.out x (List.mem_of_getElem? hx)
          have hne : bb ≠ fb := by have := HFB.out; omega
          replace x0 := hgw.cell x0 (by simpa using hne)
          clear hx
          obtain ⟨j, rfl⟩ : ∃ j : Nat, x = (j : Int) := ⟨x.toNat, by omega⟩
          have hll := hown.len
          obtain ⟨y0, hy⟩ : ∃ y, L[j]? = some y := ⟨_, List.getElem?_eq_getElem (show j < L.length by omega)⟩
          have c0 := hown.cell hy
          have f0 := hown.frozen j
          have hl0 : fb < wr.heap.size := by rcases hown.some_ (k := 0) (by omega) with ⟨g9, h9, _, h8⟩; injection h9 with h9; injection h9 with h9; omega
          obtain ⟨o1, g1⟩ := hown.stored j ((k : Int) + 1)
          have O1 := Lib.hid o1; have GW := Lib.hid (grown_next hgw g1)
          clear o1 g1 hgw hown hll hy hne
          go_wp2
          go_roundw
          case rel => exact ⟨k + 1, L.set j ((k : Int) + 1), by omega, by go_num, O1.out, by rw [HNUM.out, numL_drop HX.out]; rfl, GW.out⟩
          case measure => simp [intOf]; omega
        · have HE := Lib.hid (show numsL W H ps = L by rw [HNUM.out, List.drop_of_length_le (by have := HPL.out; omega)]; rfl)
          have HO := Lib.hid hown
          have HG2 := Lib.hid hgw
          clear hown hgw
          go_wp2
          go_ret2
          exact ⟨_, N, N, by rw [OK.out]; rfl, by rw [numbersV, if_pos OK.out, HE.out]; exact HO.out.lower (by have := HFB.out; have := B.out.size; omega), B.out.trans (below_of_grown HG2.out B.out.size (fun g h => by injection h with h; have := HFB.out; have := B.out.size; omega))⟩
    · have hq' : walkB W H xs a b ps = false := by simpa using hq
      go_enter Try.func49, Try.ntmps49
      go_wp2_with fail
      refine (boTwoV_any _ _ _ _ _ _ _ _ _ ((ha.alloc _).alloc _)).mono ?_
      rw [ht]
      rintro e wv ⟨rfl, hb⟩
      have hbx0 := below_box hb
      have a0 : wv.cell? ⟨w.heap.size, 0, none⟩ = some (.int .i64 W) := by simpa using newbox hbx0 0
      have a1 : wv.cell? ⟨w.heap.size, 1, none⟩ = some (.int .i64 H) := by simpa using newbox hbx0 1
      have a2 : wv.cell? ⟨w.heap.size, 2, none⟩ = some (.slice A n c) := by simpa using newbox hbx0 2
      have al : w.heap.size < wv.heap.size := by simpa using newbox_lt hbx0
      have l0 : wv.cell? ⟨w.heap.size + 1, 0, none⟩ = some (.int .i64 a) := by simpa using newbox hb 0
      have l1 : wv.cell? ⟨w.heap.size + 1, 1, none⟩ = some (.int .i64 b) := by simpa using newbox hb 1
      have ll : w.heap.size + 1 < wv.heap.size := by simpa using newbox_lt hb
      have B := Lib.hid (below_box hbx0)
      clear hb hbx0
      go_wp2_with fail
      refine (toWalk_any W H A n c xs a b A2 m c2 ps _ (ha.keep B.out) (hp.keep B.out) hcap (two_gK ht)).mono ?_
      rw [hq']
      rintro e wv ⟨rfl, hb⟩
      replace a0 := cell_keep a0 al hb
      replace a1 := cell_keep a1 al hb
      replace a2 := cell_keep a2 al hb
      replace al := lt_keep al hb
      replace l0 := cell_keep l0 ll hb
      replace l1 := cell_keep l1 ll hb
      replace ll := lt_keep ll hb
      replace B := Lib.hid (below_next B.out hb)
      clear hb
      go_wp2
      go_ret2
      exact ⟨none, 0, 0, by rw [show okNum W H xs a b ps = false by rw [okNum, hq', Bool.and_false]]; rfl, by rw [numbersV, if_neg (by rw [okNum, hq', Bool.and_false]; simp)]; exact OwnI.none_ _ _ _, B.out⟩
  · have ht' : twoV W H xs a b = false := by simpa using ht
    go_enter Try.func49, Try.ntmps49
    go_wp2_with fail
    refine (boTwoV_any _ _ _ _ _ _ _ _ _ ((ha.alloc _).alloc _)).mono ?_
    rw [ht']
    rintro e wv ⟨rfl, hb⟩
    have hbx0 := below_box hb
    have a0 : wv.cell? ⟨w.heap.size, 0, none⟩ = some (.int .i64 W) := by simpa using newbox hbx0 0
    have a1 : wv.cell? ⟨w.heap.size, 1, none⟩ = some (.int .i64 H) := by simpa using newbox hbx0 1
    have a2 : wv.cell? ⟨w.heap.size, 2, none⟩ = some (.slice A n c) := by simpa using newbox hbx0 2
    have al : w.heap.size < wv.heap.size := by simpa using newbox_lt hbx0
    have l0 : wv.cell? ⟨w.heap.size + 1, 0, none⟩ = some (.int .i64 a) := by simpa using newbox hb 0
    have l1 : wv.cell? ⟨w.heap.size + 1, 1, none⟩ = some (.int .i64 b) := by simpa using newbox hb 1
    have ll : w.heap.size + 1 < wv.heap.size := by simpa using newbox_lt hb
    have B := Lib.hid (below_box hbx0)
    clear hb hbx0
    go_wp2
    go_ret2
    exact ⟨none, 0, 0, by rw [show okNum W H xs a b ps = false by rw [okNum, ht']; rfl]; rfl, by rw [numbersV, if_neg (by rw [okNum, ht']; simp)]; exact OwnI.none_ _ _ _, B.out⟩

end Go.Proofs.Ytmghjohpmlhdlaa
