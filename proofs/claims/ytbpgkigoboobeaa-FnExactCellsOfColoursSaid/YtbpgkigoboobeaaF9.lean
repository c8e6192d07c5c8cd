/-
  Contracts: CellsOfColours, in the model.
-/
import Derived.Test.YtbpgkigoboobeaaF8
namespace Go.Proofs.Ytbpgkigoboobeaa
open Go.RowKit

def okCols (W H : Int) (xs cs : List Int) : Bool := goodB W H xs && goodCols W H xs cs
/-- How many cells have each colour. -/
def countsK (cs : List Int) (k : Nat) : List Int := (List.range 9).map fun c : Nat => (((cs.take k).count (c : Int) : Nat) : Int)
def countsV (W H : Int) (xs cs : List Int) : List Int := if okCols W H xs cs then countsK cs cs.length else []
theorem countsK_len (cs : List Int) (k : Nat) : (countsK cs k).length = 9 := by simp [countsK]
theorem len_CellsOfColours (W H : Int) (xs cs : List Int) : (countsV W H xs cs).length ≤ 1000000 := by
  unfold countsV; split <;> simp [countsK]
theorem countsK_at {cs : List Int} {k c : Nat} (hc : c < 9) : (countsK cs k)[c]? = some (((cs.take k).count (c : Int) : Nat) : Int) := by simp [countsK, hc]
theorem countsK_set {cs : List Int} {k c : Nat} (h : cs[k]? = some (c : Int)) : (countsK cs k).set c ((((cs.take k).count (c : Int) : Nat) : Int) + 1) = countsK cs (k + 1) := by
  apply List.ext_getElem?
  intro j
  rw [List.getElem?_set]
  by_cases hj : j < 9
  · by_cases e : c = j
    · subst e
      rw [if_pos rfl, if_pos (by rw [countsK_len]; omega), countsK_at hj, List.take_add_one, h, List.count_append]; simp
    · rw [if_neg e, countsK_at hj, countsK_at hj, List.take_add_one, h, List.count_append, List.count_eq_zero_of_not_mem (a := (j : Int)) (l := (some (c : Int)).toList) (by simp; omega)]; simp
  · have e1 : (countsK cs (k + 1))[j]? = none := List.getElem?_eq_none (by rw [countsK_len]; omega)
    have e2 : (countsK cs k)[j]? = none := List.getElem?_eq_none (by rw [countsK_len]; omega)
    rw [e1, e2]
    split
    · rw [if_neg (by rw [countsK_len]; omega)]
    · rfl
theorem countsK_skip {cs : List Int} {k : Nat} {x : Int} (h : cs[k]? = some x) (hx : x < 0) : countsK cs (k + 1) = countsK cs k := by
  unfold countsK
  refine List.map_congr_left fun c _ => ?_
  rw [List.take_add_one, h, List.count_append]
  have : ¬ x = (c : Int) := by omega
  simp [this]
theorem countsK_zero (cs : List Int) : countsK cs 0 = List.replicate 9 0 := by simp [countsK]; rfl

set_option maxRecDepth 100000 in
set_option maxHeartbeats 4000000 in
theorem spec_CellsOfColours (W H : Int) (A : Option Addr) (n c : Nat) (xs : List Int) (A2 : Option Addr) (m c2 : Nat) (cs : List Int) (w : World) (ha : Rd w A n xs) (hc : Rd w A2 m cs) :
    Calls Try.prog 9 #[brd W H A n c, .slice A2 m c2] w fun e w' => ∃ A' n' c', e = .returned (.tuple #[.slice A' n' c', .bool (okCols W H xs cs)]) ∧ OwnI 3 w' w.heap.size A' n' c' (countsV W H xs cs) ∧ Below w.heap.size w w' := by
  by_cases hg : goodB W H xs = true
  · by_cases hq : goodCols W H xs cs = true
    · have hok : okCols W H xs cs = true := by rw [okCols, hg, hq]; rfl
      have HOK := Lib.hid hok
      have HQ := Lib.hid hq; have HG := Lib.hid hg
      have hml := hc.1
      have m9 := hc.2.1
      have hm8 : m ≤ 64 := by have := good_len hq; have := cells_le (goodB_iff.1 hg).1 (goodB_iff.1 hg).2.1; omega
      have HML := Lib.hid hml
      obtain ⟨i0, hi, hz0, hz1, hz2⟩ := info_parts infoI
      have HI := Lib.hid hi; have HZ0 := Lib.hid hz0; have HZ1 := Lib.hid hz1; have HZ2 := Lib.hid hz2
      clear hi hz0 hz1 hz2 hok hml
      go_enter Try.func9, Try.ntmps9
      go_wp2_with fail
      refine (boGood_any _ _ _ _ _ _ _ (ha.alloc _)).mono ?_
      rw [hg]
      rintro e wv ⟨rfl, hb⟩
      have a0 := newbox hb 0; have a1 := newbox hb 1; have a2 := newbox hb 2; have al := newbox_lt hb
      simp only [List.getElem?_toArray, List.getElem?_cons_zero, List.getElem?_cons_succ] at a0 a1 a2
      have B := Lib.hid (below_box hb)
      clear hb hg
      go_wp2_with fail
      refine (paGood_any W H A n c xs A2 m c2 cs _ (ha.keep B.out) (hc.keep B.out) HG.out).mono ?_
      rw [hq]
      rintro e ws ⟨rfl, hb⟩
      replace B := Lib.hid (below_next B.out hb)
      have RC := Lib.hid hc
      clear hb a0 a1 a2 al hq ha hc
      go_wp2_with (at_make; refine wpList_make_full _ rfl _ _ 22 rfl ws.heap.size 3 i0 (.int .i64 0) 1 Try.underlying22 HI.out HZ0.out HZ1.out .i64 .i64 _ _ 9 rfl rfl rfl rfl (by rw [HZ2.out]; omega) (by unfold maxLen; omega) (by simp) ?_; intro w1 hown1 hg1)
      have hO1 : OwnI 3 w1 ws.heap.size (some ⟨ws.heap.size, 0, none⟩) 9 9 (countsK cs 0) := by
        unfold OwnI
        have e : (madeCells (Value.cells (.int .i64 0)) 9).toList = List.replicate 9 (.int .i64 0) := toList_madeCells_one (.int .i64 0) 9
        rw [show 9 * 1 = 9 from rfl, e] at hown1
        rw [countsK_zero]
        simpa using hown1
      obtain ⟨fb, hfb⟩ : ∃ fb, fb = ws.heap.size := ⟨_, rfl⟩
      have hg2 : ws.grownBy w1 (some fb) := ⟨hg1.os, hg1.tape, hg1.output, hg1.size, fun i hi _ => hg1.block i hi (by simp)⟩
      rw [← hfb] at hO1 ⊢
      have FAR := Lib.hid hO1; have G1 := Lib.hid hg2; have HFB := Lib.hid hfb
      have hw8 := hg1.size
      clear hown1 hg1 hg2 hO1 hfb
      go_loopw [21] (fun i wr => ∃ k : Nat, k ≤ m ∧ i = .int .i64 k ∧ OwnI 3 wr fb (some ⟨fb, 0, none⟩) 9 9 (countsK cs k) ∧ ws.grownBy wr (some fb)) (fun i _ => m - (intOf i).toNat)
      case atStart => exact ⟨0, Nat.zero_le _, rfl, FAR.out, G1.out⟩
      case round =>
        obtain ⟨k, hk, rfl, hown, hgw⟩ := hrel
        have HGW := Lib.hid hgw
        have HWR := Lib.hid (B.out.trans (below_of_grown hgw B.out.size (fun g h => by injection h with h; have := HFB.out; have := B.out.size; omega)))
        by_cases hlt : k < m
        · obtain ⟨bb, oo, x, rfl, hl1, hx, x0⟩ := RC.out.at_ hlt
          have HX := Lib.hid hx
          obtain ⟨hx1, hx2⟩ := ok_rng (good_at HQ.out hx)
          replace x0 := cell_keep x0 hl1 HWR.out
          by_cases h0 : 0 ≤ x
          · obtain ⟨j, rfl⟩ : ∃ j : Nat, x = (j : Int) := ⟨x.toNat, by omega⟩
            have hj : j < 9 := by omega
            have hq9 : (cs.take k).count (j : Int) ≤ k := Nat.le_trans List.count_le_length (by rw [List.length_take]; omega)
            obtain ⟨q, hq⟩ : ∃ q, q = (cs.take k).count (j : Int) := ⟨_, rfl⟩
            have c0 := hown.cell (countsK_at (cs := cs) (k := k) hj)
            have f0 := hown.frozen j
            obtain ⟨o1, g1⟩ := hown.stored j ((((cs.take k).count (j : Int) : Nat) : Int) + 1)
            rw [countsK_set hx] at o1
            rw [← hq] at c0 o1 g1 hq9
            have O1 := Lib.hid o1; have GW := Lib.hid (grown_next hgw g1)
            have hl0 : fb < wr.heap.size := by rcases hown.some_ (k := 0) (by omega) with ⟨g9, h9, _, h8⟩; injection h9 with h9; injection h9 with h9; omega
            clear o1 g1 hgw hown hx hq hl1
            go_wp2
            go_roundw
            case rel => exact ⟨k + 1, by omega, by go_num, O1.out, GW.out⟩
            case measure => simp [intOf]; omega
          · have HO := Lib.hid hown
            clear hown hgw hx hl1
            go_wp2
            go_roundw
            case rel => exact ⟨k + 1, by omega, by go_num, by rw [countsK_skip HX.out (by omega)]; exact HO.out, HGW.out⟩
            case measure => simp [intOf]; omega
        · have hkm : k = m := by omega
          subst hkm
          have HO := Lib.hid hown
          clear hown hgw
          go_wp2
          go_ret2
          exact ⟨_, _, _, by rw [HOK.out]; rfl, by rw [countsV, HOK.out, if_pos rfl, HML.out]; exact HO.out.lower (by have := HFB.out; have := B.out.size; omega), HWR.out⟩
    · have hq' : goodCols W H xs cs = false := by simpa using hq
      have hok : okCols W H xs cs = false := by rw [okCols, hq']; simp
      have HG := Lib.hid hg
      go_enter Try.func9, Try.ntmps9
      go_wp2_with fail
      refine (boGood_any _ _ _ _ _ _ _ (ha.alloc _)).mono ?_
      rw [hg]
      rintro e wv ⟨rfl, hb⟩
      have a0 := newbox hb 0; have a1 := newbox hb 1; have a2 := newbox hb 2; have al := newbox_lt hb
      simp only [List.getElem?_toArray, List.getElem?_cons_zero, List.getElem?_cons_succ] at a0 a1 a2
      have B := Lib.hid (below_box hb)
      clear hb hg
      go_wp2_with fail
      refine (paGood_any W H A n c xs A2 m c2 cs _ (ha.keep B.out) (hc.keep B.out) HG.out).mono ?_
      rw [hq']
      rintro e ws ⟨rfl, hb⟩
      replace B := Lib.hid (below_next B.out hb)
      clear hb a0 a1 a2 al
      go_wp2
      go_ret2
      exact ⟨none, 0, 0, by rw [hok]; rfl, by rw [countsV, hok]; exact OwnI.none_ _ _ _, B.out⟩
  · have hg' : goodB W H xs = false := by simpa using hg
    have hok : okCols W H xs cs = false := by rw [okCols, hg']; simp
    go_enter Try.func9, Try.ntmps9
    go_wp2_with fail
    refine (boGood_any _ _ _ _ _ _ _ (ha.alloc _)).mono ?_
    rw [hg']
    rintro e wv ⟨rfl, hb⟩
    have B := Lib.hid (below_box hb)
    clear hb
    go_wp2
    go_ret2
    exact ⟨none, 0, 0, by rw [hok]; rfl, by rw [countsV, hok]; exact OwnI.none_ _ _ _, B.out⟩

end Go.Proofs.Ytbpgkigoboobeaa
