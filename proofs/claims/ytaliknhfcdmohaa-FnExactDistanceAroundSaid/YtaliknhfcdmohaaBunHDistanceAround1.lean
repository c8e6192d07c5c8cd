/-
  Contracts: leaps onward around, as a map; DistanceAround.
  Contracts: the distance of two cells; DistanceAround.
  The walk of the exact law on DistanceAround: it answers true, and what was there stays.
-/
import Derived.Test.YtaliknhfcdmohaaOL
import Derived.Test.YtaliknhfcdmohaaLaw0
namespace Go.Proofs.Ytaliknhfcdmohaa
open Go.RowKit


set_option maxRecDepth 100000 in
set_option maxHeartbeats 2000000 in
theorem onwardAround_any (W H : Int) (ac up : Bool) (a b : Int) (w : World) (hg : goodA W H = true) (hl : leaperB a b = true) :
    Calls Try.prog 67 #[ard W H ac up, lpr a b] w fun e w' => ∃ mb, e = .returned (.map (some mb)) ∧ OnMap w' w.heap.size mb (upTo (W * H).toNat) (leapsA W H ac up a b) ∧ Below w.heap.size w w' := by
  have HG := Lib.hid hg; have HL := Lib.hid hl
  have hA := areaA hg
  obtain ⟨A1, A2⟩ := hA
  obtain ⟨N, hN⟩ : ∃ N : Nat, W * H = (N : Int) := ⟨(W * H).toNat, by omega⟩
  have hNn := Lib.hid (show (W * H).toNat = N by omega)
  have HWH := Lib.hid hN
  have N2 : N ≤ 144 := by omega
  have HSZ := Lib.hid (fun w' => sizeA_any W H ac up w' hg)
  rw [hN] at HSZ
  clear hg hl hN A1 A2
  obtain ⟨W2, hW2⟩ : ∃ W2, W2 = ((w.alloc (.cells #[.int .i64 W, .int .i64 H, .bool ac, .bool up] 25)).alloc (.cells #[.int .i64 a, .int .i64 b] 36)).alloc (.map #[] 0) := ⟨_, rfl⟩
  have hsz : W2.heap.size = w.heap.size + 3 := by rw [hW2]; simp
  have a0 : W2.cell? ⟨w.heap.size, 0, none⟩ = some (.int .i64 W) := by rw [hW2]; go_simp
  have a1 : W2.cell? ⟨w.heap.size, 1, none⟩ = some (.int .i64 H) := by rw [hW2]; go_simp
  have a2 : W2.cell? ⟨w.heap.size, 2, none⟩ = some (.bool ac) := by rw [hW2]; go_simp
  have a3 : W2.cell? ⟨w.heap.size, 3, none⟩ = some (.bool up) := by rw [hW2]; go_simp
  have al : w.heap.size < W2.heap.size := by omega
  have l0 : W2.cell? ⟨w.heap.size + 1, 0, none⟩ = some (.int .i64 a) := by rw [hW2]; go_simp
  have l1 : W2.cell? ⟨w.heap.size + 1, 1, none⟩ = some (.int .i64 b) := by rw [hW2]; go_simp
  have ll : w.heap.size + 1 < W2.heap.size := by omega
  have B := Lib.hid (show Below w.heap.size w W2 by rw [hW2]; repeat (first | exact Below.refl _ _ | refine below_new ?_ _))
  have MP := Lib.hid (show MapI Try.prog 3 W2 (w.heap.size + 1 + 1) 0 (.slice none 0 0) (fun _ => .slice none 0 0) by
    rw [hW2]
    have := MapI.made Try.prog 3 ((w.alloc (.cells #[.int .i64 W, .int .i64 H, .bool ac, .bool up] 25)).alloc (.cells #[.int .i64 a, .int .i64 b] 36)) (.slice none 0 0)
    simpa using this)
  have hmm := @run_makeMap Try.prog
  go_enter Try.func67, Try.ntmps67
  go_wp2_with fail
  rw [← hW2]
  obtain ⟨mb, hmb⟩ : ∃ mb, mb = w.heap.size + 1 + 1 := ⟨_, rfl⟩
  rw [← hmb] at MP ⊢
  have hmb1 : w.heap.size + 2 ≤ mb := by omega
  have hmb2 : mb < W2.heap.size := by omega
  clear hW2 hmm hmb hsz
  refine (HSZ.out _).mono ?_
  rintro e ws ⟨rfl, hb⟩
  replace a0 := cell_keep a0 al hb
  replace a1 := cell_keep a1 al hb
  replace a2 := cell_keep a2 al hb
  replace a3 := cell_keep a3 al hb
  replace al := lt_keep al hb
  replace l0 := cell_keep l0 ll hb
  replace l1 := cell_keep l1 ll hb
  replace ll := lt_keep ll hb
  replace B := Lib.hid (below_next B.out hb)
  replace MP := Lib.hid (MP.out.keep hb)
  have hmlt : mb < ws.heap.size := Nat.lt_of_lt_of_le hmb2 hb.size
  clear hb
  go_wp2
  go_loopw [10] (fun i wr => ∃ (k : Nat) (f : Int → Value), k ≤ N ∧ i = .int .i64 k ∧ MapI Try.prog 3 wr mb k (.slice none 0 0) f ∧ (∀ x ∈ upTo k, RowAt wr w.heap.size mb (f x) (leapsA W H ac up a b x)) ∧ ws.grownBy wr (some mb)) (fun i _ => N - (intOf i).toNat)
  case atStart => exact ⟨0, _, by omega, rfl, MP.out, (fun x hx => by simp [upTo] at hx), grown_refl _ _⟩
  case round =>
    obtain ⟨k, f, hk, rfl, hm, hrows, hgw⟩ := hrel
    have hBw : Below w.heap.size w wr := B.out.trans (below_of_grown hgw (by omega) (fun g h => by injection h with h; omega))
    have HM := Lib.hid hm; have HR := Lib.hid hrows
    have HGW := Lib.hid hgw
    have hsw := hgw.size
    clear hm hrows
    by_cases hlt : k < N
    · have b0 := hgw.cell a0 (by simp; omega); have b1 := hgw.cell a1 (by simp; omega); have b2 := hgw.cell a2 (by simp; omega); have b3 := hgw.cell a3 (by simp; omega); have c0 := hgw.cell l0 (by simp; omega); have c1 := hgw.cell l1 (by simp; omega)
      have HBW := Lib.hid hBw
      clear hgw hBw
      go_wp2_with fail
      refine (leapsAround_any W H ac up a b (k : Int) _ HG.out HL.out ⟨by omega, by rw [HWH.out]; omega⟩).mono ?_
      rintro e wv ⟨A3, n3, c3, rfl, hl3, hb⟩
      have hn3 : n3 ≤ 64 := by have h1 := leapsA_len (W := W) (H := H) (ac := ac) (up := up) (q := (k : Int)) HL.out; have h2 := hl3.len; omega
      have HL3 := Lib.hid hl3
      replace HM := Lib.hid (HM.out.keep hb)
      replace HR := Lib.hid (fun y hy => (HR.out y hy).keep hb)
      replace HGW := Lib.hid (grown_next HGW.out (grown_of_below hb (some mb)))
      have hsv := hb.size
      clear hl3 hb b0 b1 b2 b3 c0 c1
      go_wp2_with (at_mapUpdate; refine wpList_update rfl (.tmp 13) (.tmp 14) (.tmp 18) rfl Try.underlying3 Try.underlying71 rfl HM.out (by omega) (k : Int) (.slice A3 n3 c3) rfl rfl (wf_small ⟨by omega, by omega⟩) ?_; intro w2 hm2 hg2)
      have HM2 := Lib.hid hm2; have HG2 := Lib.hid hg2
      clear hm2 hg2
      go_wp2
      go_roundw
      case rel =>
        refine ⟨k + 1, _, by omega, by go_num, HM2.out, fun y hy => ?_, grown_next HGW.out HG2.out⟩
        rw [upTo_mem] at hy
        by_cases hne : y = (k : Int)
        · subst hne
          rw [if_pos rfl]
          have hrow : RowAt _ w.heap.size mb (.slice A3 n3 c3) (leapsA W H ac up a b k) := ⟨A3, n3, c3, rfl, HL3.out.rd, hn3, fun z hz => by
            rcases HL3.out.form with ⟨h, _⟩ | ⟨g, h, h2, h3, _⟩
            · rw [h] at hz; cases hz
            · rw [h] at hz; injection hz with hz; rw [← hz]; exact ⟨by show w.heap.size ≤ g; omega, h3, by show g ≠ mb; omega⟩⟩
          exact hrow.other HG2.out
        · rw [if_neg hne]
          exact (HR.out y (upTo_mem.2 ⟨hy.1, by omega⟩)).other HG2.out
      case measure => simp [intOf]; omega
    · have ek : k = N := by omega
      subst ek
      have HBW := Lib.hid hBw
      have HRR := Lib.hid (show OnMap wr w.heap.size mb (upTo k) (leapsA W H ac up a b) from ⟨by omega, k, f, by omega, HM.out, HR.out⟩)
      clear hBw hgw
      go_wp2
      go_ret
      exact ⟨mb, rfl, by rw [hNn.out]; exact HRR.out, HBW.out⟩

end Go.Proofs.Ytaliknhfcdmohaa

namespace Go.Proofs.Ytaliknhfcdmohaa
open Go.RowKit

theorem run_farK (L : List Int) (_hl : L.length = 144) (q : Nat) (hq : q < 144) (v : Int) (hv : L[q]? = some v) (w : World) :
    (Instr.index 75 (.agg (L.map (Value.int .i64)).toArray) (.int .i64 (q : Int))).run Try.prog w = .ok (.int .i64 v) w := by
  have hu := Try.underlying75
  have hz := Try.sizeOf3
  have ha := Try.isAgg3
  simp [Instr.index, run_underlying hu, asIntOf, go_sem]
  rw [if_pos hq, hv]
  rfl
def distA (W H : Int) (ac up : Bool) (a b p : Int) : List Int := farL (leapsA W H ac up a b) (W * H).toNat p
def distAV (W H : Int) (ac up : Bool) (a b p q : Int) : Int := (distA W H ac up a b p).getD q.toNat (-1)
/-- What holds where there are a leaper and a board around. -/
structure ArFacts (W H : Int) (a b : Int) (N : Nat) : Prop where
  g : goodA W H = true
  l : leaperB a b = true
  wh : W * H = (N : Int)
  n : 1 ≤ N ∧ N ≤ 144
theorem ar_facts {W H a b : Int} (h : twoA W H a b = true) : ArFacts W H a b (W * H).toNat := by
  obtain ⟨h1, h2⟩ := twoA_iff.1 h
  have := areaA h2
  exact ⟨h2, h1, by omega, by omega⟩
theorem ArFacts.nat {W H a b : Int} {N : Nat} (h : ArFacts W H a b N) : (W * H).toNat = N := by have := h.wh; omega
theorem adjA_in {W H a b : Int} {ac up : Bool} {N : Nat} (h : ArFacts W H a b N) : ∀ x, ∀ y ∈ leapsA W H ac up a b x, y ∈ upTo N := fun _ _ hy => upTo_mem.2 (leapsA_in h.wh hy)
theorem distA_len {W H a b p : Int} {ac up : Bool} {N : Nat} (h : ArFacts W H a b N) (hp : 0 ≤ p ∧ p < N) : (distA W H ac up a b p).length = N := by
  rw [distA, h.nat]
  exact (bfs_ok (adj := leapsA W H ac up a b) (N := N) (start := p) hp (fun c _ x hx => leapsA_in h.wh hx) N).len
theorem far144 {W H a b p : Int} {ac up : Bool} {N : Nat} (h : ArFacts W H a b N) (hp : 0 ≤ p ∧ p < N) : farL (leapsA W H ac up a b) 144 p = distA W H ac up a b p ++ List.replicate (144 - N) (-1) := by
  rw [distA, h.nat, ← far_pad (M := 144 - N) hp (fun c _ x hx => leapsA_in h.wh hx), show N + (144 - N) = 144 by have := h.n; omega]
theorem distA_at {W H a b p : Int} {ac up : Bool} {N : Nat} (h : ArFacts W H a b N) (hp : 0 ≤ p ∧ p < N) {qn : Nat} (hq : qn < N) :
    (distA W H ac up a b p)[qn]? = some (distAV W H ac up a b p (qn : Int)) ∧ -1 ≤ distAV W H ac up a b p (qn : Int) ∧ distAV W H ac up a b p (qn : Int) ≤ 144 := by
  have hlen := distA_len (ac := ac) (up := up) h hp
  have hx : (distA W H ac up a b p)[qn]? = some (distA W H ac up a b p)[qn] := List.getElem?_eq_getElem (by omega)
  have hv : distAV W H ac up a b p (qn : Int) = (distA W H ac up a b p)[qn] := by rw [distAV, Int.toNat_natCast, List.getD_eq_getElem?_getD, hx]; rfl
  rw [hv]
  refine ⟨hx, ?_⟩
  have hb := (bfs_ok (adj := leapsA W H ac up a b) (N := N) (start := p) hp (fun c _ x hx => leapsA_in h.wh hx) N).lo qn (distA W H ac up a b p)[qn] (by rw [← hx, distA, h.nat]; rfl)
  have := h.n; omega
def dAns (d : Int) : Int := if d = -1 then 0 else d
def dOk (d : Int) : Bool := !(d == -1)
theorem dOk_eq {d : Int} (h : -1 ≤ d) : dOk d = decide (0 ≤ d) := by rw [dOk, Bool.eq_iff_iff]; simp; omega
theorem dAns_eq {d : Int} (h : -1 ≤ d) : dAns d = if decide (0 ≤ d) = true then d else 0 := by
  unfold dAns
  by_cases h2 : d = -1
  · rw [if_pos h2, if_neg (by simp; omega)]
  · rw [if_neg h2, if_pos (by simp; omega)]
def okDA (W H : Int) (ac up : Bool) (a b p q : Int) : Bool := leaperB a b && cellA W H p && cellA W H q && decide (0 ≤ distAV W H ac up a b p q)
def disV (W H : Int) (ac up : Bool) (a b p q : Int) : Int := if okDA W H ac up a b p q then distAV W H ac up a b p q else 0
theorem disV_no {W H a b p q : Int} {ac up : Bool} (h : okDA W H ac up a b p q = false) : disV W H ac up a b p q = 0 := by rw [disV, h]; rfl


set_option maxRecDepth 100000 in
set_option maxHeartbeats 600000 in
theorem distance_any (lo0 mb : Nat) (cells : List Int) (adj : Int → List Int) (s t : Nat) (d : Int) (w : World) (hm : OnMap w lo0 mb cells adj) (hs : s < 144) (hsc : (s : Int) ∈ cells) (hcl : ∀ x ∈ cells, 0 ≤ x ∧ x < 144) (hadj : ∀ x, ∀ y ∈ adj x, y ∈ cells) (ht : t < 144) (hlen : (farL adj 144 s).length = 144) (hd : (farL adj 144 s)[t]? = some d) (hd0 : -1 ≤ d ∧ d ≤ 144) :
    Calls Try.prog 68 #[.map (some mb), .int .i64 (s : Int), .int .i64 (t : Int)] w fun e w' => e = .returned (.tuple #[.int .i64 (dAns d), .bool (dOk d)]) ∧ Below w.heap.size w w' := by
  have HFL := Lib.hid hlen; have HAT := Lib.hid (fun w' => run_farK (farL adj 144 s) hlen t ht d hd w')
  have HDF := Lib.hid (fun w' (hm' : OnMap w' lo0 mb cells adj) => distancesFrom_any lo0 mb cells adj s w' hm' hs hsc hcl hadj)
  have HM := Lib.hid hm
  have hd' := hd0
  obtain ⟨d1, d2⟩ := hd0
  have t0 : (0 : Int) ≤ (t : Int) := by omega
  have t1 : (t : Int) < 144 := by omega
  obtain ⟨L, hL⟩ : ∃ L, L = Value.agg ((farL adj 144 s).map (Value.int .i64)).toArray := ⟨_, rfl⟩
  rw [← hL] at HAT HDF
  clear hm hs hsc hcl hadj hd hlen hL hd' ht
  have DO := Lib.hid (show dOk d = !(d == -1) from rfl); have DA := Lib.hid (show dAns d = if d = -1 then 0 else d from rfl)
  obtain ⟨x, hx⟩ : ∃ x, dAns d = x := ⟨_, rfl⟩
  obtain ⟨y, hy⟩ : ∃ y, dOk d = y := ⟨_, rfl⟩
  rw [hx, hy]
  have HX := Lib.hid hx; have HY := Lib.hid hy
  clear hx hy
  by_cases hneg : d = -1
  · have hne : (d == -1) = true := by simpa using hneg
    go_enter Try.func68, Try.ntmps68
    go_wp2_with fail
    refine (HDF.out _ HM.out).mono ?_
    rintro e wv ⟨rfl, hb⟩
    have hix := HAT.out
    have HB := Lib.hid hb
    clear hb
    go_wp2
    go_ret2
    exact ⟨by rw [show x = 0 by rw [← HX.out, DA.out, if_pos hneg], show y = false by rw [← HY.out, DO.out, hne]; rfl]; rfl, HB.out⟩
  · have hne : (d == -1) = false := by simpa using hneg
    go_enter Try.func68, Try.ntmps68
    go_wp2_with fail
    refine (HDF.out _ HM.out).mono ?_
    rintro e wv ⟨rfl, hb⟩
    have hix := HAT.out
    have HB := Lib.hid hb
    clear hb
    go_wp2
    go_ret2
    exact ⟨by rw [show x = d by rw [← HX.out, DA.out, if_neg hneg], show y = true by rw [← HY.out, DO.out, hne]; rfl]; rfl, HB.out⟩

set_option maxRecDepth 100000 in
set_option maxHeartbeats 2000000 in
theorem spec_DistanceAround (W H : Int) (ac up : Bool) (a b p q : Int) (w : World) :
    Calls Try.prog 32 #[ard W H ac up, lpr a b, .int .i64 p, .int .i64 q] w fun e w' => e = .returned (.tuple #[.int .i64 (disV W H ac up a b p q), .bool (okDA W H ac up a b p q)]) ∧ Below w.heap.size w w' := by
  obtain ⟨W2, hW2⟩ : ∃ W2, W2 = (w.alloc (.cells #[.int .i64 W, .int .i64 H, .bool ac, .bool up] 25)).alloc (.cells #[.int .i64 a, .int .i64 b] 36) := ⟨_, rfl⟩
  have hsz : W2.heap.size = w.heap.size + 2 := by rw [hW2]; simp
  have a0 : W2.cell? ⟨w.heap.size, 0, none⟩ = some (.int .i64 W) := by rw [hW2]; go_simp
  have a1 : W2.cell? ⟨w.heap.size, 1, none⟩ = some (.int .i64 H) := by rw [hW2]; go_simp
  have a2 : W2.cell? ⟨w.heap.size, 2, none⟩ = some (.bool ac) := by rw [hW2]; go_simp
  have a3 : W2.cell? ⟨w.heap.size, 3, none⟩ = some (.bool up) := by rw [hW2]; go_simp
  have al : w.heap.size < W2.heap.size := by omega
  have l0 : W2.cell? ⟨w.heap.size + 1, 0, none⟩ = some (.int .i64 a) := by rw [hW2]; go_simp
  have l1 : W2.cell? ⟨w.heap.size + 1, 1, none⟩ = some (.int .i64 b) := by rw [hW2]; go_simp
  have ll : w.heap.size + 1 < W2.heap.size := by omega
  have B := Lib.hid (show Below w.heap.size w W2 by rw [hW2]; repeat (first | exact Below.refl _ _ | refine below_new ?_ _))
  cases ht : twoA W H a b
  · have OK := Lib.hid (show okDA W H ac up a b p q = false by rw [okDA, Bool.and_eq_false_iff, Bool.and_eq_false_iff, Bool.and_eq_false_iff]; left; left; rw [twoA, Bool.and_eq_false_iff] at ht; rcases ht with h | h; exact .inl h; right; rw [cellA, h]; rfl)
    go_enter Try.func32, Try.ntmps32
    go_wp2_with fail
    rw [← hW2]
    clear hW2
    refine (arTwo_any _ _ _ _ _ _ _).mono ?_
    rw [ht]
    rintro e wv ⟨rfl, hb⟩
    replace a0 := cell_keep a0 al hb
    replace a1 := cell_keep a1 al hb
    replace a2 := cell_keep a2 al hb
    replace a3 := cell_keep a3 al hb
    replace al := lt_keep al hb
    replace l0 := cell_keep l0 ll hb
    replace l1 := cell_keep l1 ll hb
    replace ll := lt_keep ll hb
    replace B := Lib.hid (below_next B.out hb)
    clear hb
    clear a0 a1 a2 a3 l0 l1 al ll
    go_wp2
    go_ret2
    exact ⟨by rw [disV_no OK.out, OK.out]; rfl, B.out⟩
  have hl1 := (twoA_iff.1 ht).1
  cases hp1 : cellA W H p
  · have OK := Lib.hid (show okDA W H ac up a b p q = false by rw [okDA, hp1]; simp)
    go_enter Try.func32, Try.ntmps32
    go_wp2_with fail
    rw [← hW2]
    clear hW2
    refine (arTwo_any _ _ _ _ _ _ _).mono ?_
    rw [ht]
    rintro e wv ⟨rfl, hb⟩
    replace a0 := cell_keep a0 al hb
    replace a1 := cell_keep a1 al hb
    replace a2 := cell_keep a2 al hb
    replace a3 := cell_keep a3 al hb
    replace al := lt_keep al hb
    replace l0 := cell_keep l0 ll hb
    replace l1 := cell_keep l1 ll hb
    replace ll := lt_keep ll hb
    replace B := Lib.hid (below_next B.out hb)
    clear hb
    go_wp2_with fail
    refine (arCell_any _ _ _ _ _ _).mono ?_
    rw [hp1]
    rintro e wv ⟨rfl, hb⟩
    replace a0 := cell_keep a0 al hb
    replace a1 := cell_keep a1 al hb
    replace a2 := cell_keep a2 al hb
    replace a3 := cell_keep a3 al hb
    replace al := lt_keep al hb
    replace l0 := cell_keep l0 ll hb
    replace l1 := cell_keep l1 ll hb
    replace ll := lt_keep ll hb
    replace B := Lib.hid (below_next B.out hb)
    clear hb
    clear a0 a1 a2 a3 l0 l1 al ll
    go_wp2
    go_ret2
    exact ⟨by rw [disV_no OK.out, OK.out]; rfl, B.out⟩
  cases hq1 : cellA W H q
  · have OK := Lib.hid (show okDA W H ac up a b p q = false by rw [okDA, hq1]; simp)
    go_enter Try.func32, Try.ntmps32
    go_wp2_with fail
    rw [← hW2]
    clear hW2
    refine (arTwo_any _ _ _ _ _ _ _).mono ?_
    rw [ht]
    rintro e wv ⟨rfl, hb⟩
    replace a0 := cell_keep a0 al hb
    replace a1 := cell_keep a1 al hb
    replace a2 := cell_keep a2 al hb
    replace a3 := cell_keep a3 al hb
    replace al := lt_keep al hb
    replace l0 := cell_keep l0 ll hb
    replace l1 := cell_keep l1 ll hb
    replace ll := lt_keep ll hb
    replace B := Lib.hid (below_next B.out hb)
    clear hb
    go_wp2_with fail
    refine (arCell_any _ _ _ _ _ _).mono ?_
    rw [hp1]
    rintro e wv ⟨rfl, hb⟩
    replace a0 := cell_keep a0 al hb
    replace a1 := cell_keep a1 al hb
    replace a2 := cell_keep a2 al hb
    replace a3 := cell_keep a3 al hb
    replace al := lt_keep al hb
    replace l0 := cell_keep l0 ll hb
    replace l1 := cell_keep l1 ll hb
    replace ll := lt_keep ll hb
    replace B := Lib.hid (below_next B.out hb)
    clear hb
    go_wp2_with fail
    refine (arCell_any _ _ _ _ _ _).mono ?_
    rw [hq1]
    rintro e wv ⟨rfl, hb⟩
    replace a0 := cell_keep a0 al hb
    replace a1 := cell_keep a1 al hb
    replace a2 := cell_keep a2 al hb
    replace a3 := cell_keep a3 al hb
    replace al := lt_keep al hb
    replace l0 := cell_keep l0 ll hb
    replace l1 := cell_keep l1 ll hb
    replace ll := lt_keep ll hb
    replace B := Lib.hid (below_next B.out hb)
    clear hb
    clear a0 a1 a2 a3 l0 l1 al ll
    go_wp2
    go_ret2
    exact ⟨by rw [disV_no OK.out, OK.out]; rfl, B.out⟩
  · have HT := Lib.hid (show twoA W H a b = true from twoA_iff.2 ⟨hl1, (cellA_iff.1 hp1).1⟩)
    have HF := Lib.hid (ar_facts HT.out)
    have HPR := (cellA_iff.1 hp1).2; have HQR := (cellA_iff.1 hq1).2
    obtain ⟨N, hN⟩ : ∃ N, (W * H).toNat = N := ⟨_, rfl⟩
    rw [hN] at HF
    rw [HF.out.wh] at HPR HQR
    obtain ⟨pn, rfl⟩ : ∃ pn : Nat, p = (pn : Int) := ⟨p.toNat, by omega⟩
    obtain ⟨qn, rfl⟩ : ∃ qn : Nat, q = (qn : Int) := ⟨q.toNat, by omega⟩
    have hpN : pn < N := by omega
    have hqN : qn < N := by omega
    have N2 := HF.out.n.2
    obtain ⟨hd1, hd2, hd3⟩ := distA_at (ac := ac) (up := up) HF.out HPR hqN
    have HLN := Lib.hid (distA_len (ac := ac) (up := up) HF.out HPR)
    have HOK := Lib.hid (show okDA W H ac up a b pn qn = decide (0 ≤ distAV W H ac up a b pn qn) by rw [okDA, hl1, hp1, hq1]; rfl)
    have HV := Lib.hid (show disV W H ac up a b pn qn = if okDA W H ac up a b pn qn then distAV W H ac up a b pn qn else 0 from rfl)
    have HPA := Lib.hid HPR
    obtain ⟨d, hd⟩ : ∃ d, distAV W H ac up a b (pn : Int) (qn : Int) = d := ⟨_, rfl⟩
    rw [hd] at hd1 hd2 hd3 HOK HV
    have HD1 := Lib.hid hd1
    clear hd hd1 HPR
    by_cases hneg : d < 0
    · have OK := Lib.hid (show okDA W H ac up a b pn qn = false by rw [HOK.out]; simp; omega)
      go_enter Try.func32, Try.ntmps32
      go_wp2_with fail
      rw [← hW2]
      clear hW2
      refine (arTwo_any _ _ _ _ _ _ _).mono ?_
      rw [ht]
      rintro e wv ⟨rfl, hb⟩
      replace a0 := cell_keep a0 al hb
      replace a1 := cell_keep a1 al hb
      replace a2 := cell_keep a2 al hb
      replace a3 := cell_keep a3 al hb
      replace al := lt_keep al hb
      replace l0 := cell_keep l0 ll hb
      replace l1 := cell_keep l1 ll hb
      replace ll := lt_keep ll hb
      replace B := Lib.hid (below_next B.out hb)
      clear hb
      go_wp2_with fail
      refine (arCell_any _ _ _ _ _ _).mono ?_
      rw [hp1]
      rintro e wv ⟨rfl, hb⟩
      replace a0 := cell_keep a0 al hb
      replace a1 := cell_keep a1 al hb
      replace a2 := cell_keep a2 al hb
      replace a3 := cell_keep a3 al hb
      replace al := lt_keep al hb
      replace l0 := cell_keep l0 ll hb
      replace l1 := cell_keep l1 ll hb
      replace ll := lt_keep ll hb
      replace B := Lib.hid (below_next B.out hb)
      clear hb
      go_wp2_with fail
      refine (arCell_any _ _ _ _ _ _).mono ?_
      rw [hq1]
      rintro e wv ⟨rfl, hb⟩
      replace a0 := cell_keep a0 al hb
      replace a1 := cell_keep a1 al hb
      replace a2 := cell_keep a2 al hb
      replace a3 := cell_keep a3 al hb
      replace al := lt_keep al hb
      replace l0 := cell_keep l0 ll hb
      replace l1 := cell_keep l1 ll hb
      replace ll := lt_keep ll hb
      replace B := Lib.hid (below_next B.out hb)
      clear hb
      go_wp2_with fail
      refine (arFrom_any W H ac up a b pn N _ HF.out.g HF.out.l HF.out.wh hpN).mono ?_
      rintro e wx ⟨gf, rfl, hown, hb⟩
      have hcl := hown.cell (show (farL (leapsA W H ac up a b) N (pn : Int))[qn]? = some d by have h := HD1.out; rw [distA, hN] at h; exact h)
      replace B := Lib.hid (below_next B.out hb)
      have q0 : (0 : Int) ≤ (qn : Int) := by omega
      have q1 : (qn : Int) < (N : Int) := by omega
      clear hown hb
      clear a0 a1 a2 a3 l0 l1 al ll
      go_wp2
      go_ret2
      exact ⟨by rw [disV_no OK.out, OK.out]; rfl, B.out⟩
    · have OK := Lib.hid (show okDA W H ac up a b pn qn = true by rw [HOK.out]; simp; omega)
      go_enter Try.func32, Try.ntmps32
      go_wp2_with fail
      rw [← hW2]
      clear hW2
      refine (arTwo_any _ _ _ _ _ _ _).mono ?_
      rw [ht]
      rintro e wv ⟨rfl, hb⟩
      replace a0 := cell_keep a0 al hb
      replace a1 := cell_keep a1 al hb
      replace a2 := cell_keep a2 al hb
      replace a3 := cell_keep a3 al hb
      replace al := lt_keep al hb
      replace l0 := cell_keep l0 ll hb
      replace l1 := cell_keep l1 ll hb
      replace ll := lt_keep ll hb
      replace B := Lib.hid (below_next B.out hb)
      clear hb
      go_wp2_with fail
      refine (arCell_any _ _ _ _ _ _).mono ?_
      rw [hp1]
      rintro e wv ⟨rfl, hb⟩
      replace a0 := cell_keep a0 al hb
      replace a1 := cell_keep a1 al hb
      replace a2 := cell_keep a2 al hb
      replace a3 := cell_keep a3 al hb
      replace al := lt_keep al hb
      replace l0 := cell_keep l0 ll hb
      replace l1 := cell_keep l1 ll hb
      replace ll := lt_keep ll hb
      replace B := Lib.hid (below_next B.out hb)
      clear hb
      go_wp2_with fail
      refine (arCell_any _ _ _ _ _ _).mono ?_
      rw [hq1]
      rintro e wv ⟨rfl, hb⟩
      replace a0 := cell_keep a0 al hb
      replace a1 := cell_keep a1 al hb
      replace a2 := cell_keep a2 al hb
      replace a3 := cell_keep a3 al hb
      replace al := lt_keep al hb
      replace l0 := cell_keep l0 ll hb
      replace l1 := cell_keep l1 ll hb
      replace ll := lt_keep ll hb
      replace B := Lib.hid (below_next B.out hb)
      clear hb
      go_wp2_with fail
      refine (arFrom_any W H ac up a b pn N _ HF.out.g HF.out.l HF.out.wh hpN).mono ?_
      rintro e wx ⟨gf, rfl, hown, hb⟩
      have hcl := hown.cell (show (farL (leapsA W H ac up a b) N (pn : Int))[qn]? = some d by have h := HD1.out; rw [distA, hN] at h; exact h)
      replace B := Lib.hid (below_next B.out hb)
      have q0 : (0 : Int) ≤ (qn : Int) := by omega
      have q1 : (qn : Int) < (N : Int) := by omega
      clear hown hb
      clear a0 a1 a2 a3 l0 l1 al ll
      go_wp2
      go_ret2
      exact ⟨by rw [HV.out, OK.out]; rfl, B.out⟩

set_option maxRecDepth 100000 in
set_option maxHeartbeats 2000000 in
theorem impl_DistanceAround (W H : Int) (ac up : Bool) (a b p q : Int) (w : World) :
    Calls Try.prog 33 #[ard W H ac up, lpr a b, .int .i64 p, .int .i64 q] w fun e w' => e = .returned (.tuple #[.int .i64 (disV W H ac up a b p q), .bool (okDA W H ac up a b p q)]) ∧ Below w.heap.size w w' := by
  obtain ⟨W2, hW2⟩ : ∃ W2, W2 = ((w.alloc (.cells #[.int .i64 W, .int .i64 H, .bool ac, .bool up] 25)).alloc (.cells #[.int .i64 a, .int .i64 b] 36)).alloc (.cells #[.int .i64 p, .int .i64 q] 3) := ⟨_, rfl⟩
  have hsz : W2.heap.size = w.heap.size + 3 := by rw [hW2]; simp
  have a0 : W2.cell? ⟨w.heap.size, 0, none⟩ = some (.int .i64 W) := by rw [hW2]; go_simp
  have a1 : W2.cell? ⟨w.heap.size, 1, none⟩ = some (.int .i64 H) := by rw [hW2]; go_simp
  have a2 : W2.cell? ⟨w.heap.size, 2, none⟩ = some (.bool ac) := by rw [hW2]; go_simp
  have a3 : W2.cell? ⟨w.heap.size, 3, none⟩ = some (.bool up) := by rw [hW2]; go_simp
  have al : w.heap.size < W2.heap.size := by omega
  have l0 : W2.cell? ⟨w.heap.size + 1, 0, none⟩ = some (.int .i64 a) := by rw [hW2]; go_simp
  have l1 : W2.cell? ⟨w.heap.size + 1, 1, none⟩ = some (.int .i64 b) := by rw [hW2]; go_simp
  have ll : w.heap.size + 1 < W2.heap.size := by omega
  have q0 : W2.cell? ⟨w.heap.size + 1 + 1, 0, none⟩ = some (.int .i64 p) := by rw [hW2]; go_simp
  have q1 : W2.cell? ⟨w.heap.size + 1 + 1, 1, none⟩ = some (.int .i64 q) := by rw [hW2]; go_simp
  have ql : w.heap.size + 1 + 1 < W2.heap.size := by omega
  have B := Lib.hid (show Below w.heap.size w W2 by rw [hW2]; repeat (first | exact Below.refl _ _ | refine below_new ?_ _))
  have RQ := Lib.hid (show Rd W2 (some ⟨w.heap.size + 1 + 1, 0, none⟩) 2 [p, q] from ⟨rfl, by omega, fun k hk => by
    have h2 : k = 0 ∨ k = 1 := by omega
    rcases h2 with rfl | rfl
    · exact ⟨_, 0, _, rfl, by omega, rfl, q0⟩
    · exact ⟨_, 0, _, rfl, by omega, rfl, q1⟩⟩)
  have HE := Lib.hid (show (leaperB a b && aroundB W H [p, q]) = (leaperB a b && cellA W H p && cellA W H q) by rw [aroundB, cellA, cellA, List.all_cons, List.all_cons, List.all_nil]; cases leaperB a b <;> cases goodA W H <;> simp)
  clear q0 q1 ql hsz
  cases hq : (leaperB a b && cellA W H p && cellA W H q)
  · have OK := Lib.hid (show okDA W H ac up a b p q = false by rw [okDA, hq]; rfl)
    go_enter Try.func33, Try.ntmps33
    go_wp2_with fail
    rw [← hW2]
    clear hW2
    refine (isLeaperAround_any W H ac up a b _ 2 2 _ _ RQ.out).mono ?_
    rw [HE.out, hq]
    rintro e wv ⟨rfl, hb⟩
    replace a0 := cell_keep a0 al hb
    replace a1 := cell_keep a1 al hb
    replace a2 := cell_keep a2 al hb
    replace a3 := cell_keep a3 al hb
    replace al := lt_keep al hb
    replace l0 := cell_keep l0 ll hb
    replace l1 := cell_keep l1 ll hb
    replace ll := lt_keep ll hb
    replace B := Lib.hid (below_next B.out hb)
    clear hb
    clear RQ HE
    clear a0 a1 a2 a3 l0 l1 al ll
    go_wp2
    go_ret2
    exact ⟨by rw [disV_no OK.out, OK.out]; rfl, B.out⟩
  · have h9 := hq
    rw [Bool.and_eq_true, Bool.and_eq_true] at h9
    obtain ⟨⟨hl1, hp1⟩, hq1⟩ := h9
    have HT := Lib.hid (show twoA W H a b = true from twoA_iff.2 ⟨hl1, (cellA_iff.1 hp1).1⟩)
    have HF := Lib.hid (ar_facts HT.out)
    have HPR := (cellA_iff.1 hp1).2; have HQR := (cellA_iff.1 hq1).2
    obtain ⟨N, hN⟩ : ∃ N, (W * H).toNat = N := ⟨_, rfl⟩
    rw [hN] at HF
    rw [HF.out.wh] at HPR HQR
    obtain ⟨pn, rfl⟩ : ∃ pn : Nat, p = (pn : Int) := ⟨p.toNat, by omega⟩
    obtain ⟨qn, rfl⟩ : ∃ qn : Nat, q = (qn : Int) := ⟨q.toNat, by omega⟩
    have hpN : pn < N := by omega
    have hqN : qn < N := by omega
    have N2 := HF.out.n.2
    obtain ⟨hd1, hd2, hd3⟩ := distA_at (ac := ac) (up := up) HF.out HPR hqN
    have HLN := Lib.hid (distA_len (ac := ac) (up := up) HF.out HPR)
    have HOK := Lib.hid (show okDA W H ac up a b pn qn = decide (0 ≤ distAV W H ac up a b pn qn) by rw [okDA, hl1, hp1, hq1]; rfl)
    have HV := Lib.hid (show disV W H ac up a b pn qn = if okDA W H ac up a b pn qn then distAV W H ac up a b pn qn else 0 from rfl)
    have HPA := Lib.hid HPR
    obtain ⟨d, hd⟩ : ∃ d, distAV W H ac up a b (pn : Int) (qn : Int) = d := ⟨_, rfl⟩
    rw [hd] at hd1 hd2 hd3 HOK HV
    have HD1 := Lib.hid hd1
    clear hd hd1 HPR
    have HDIS := Lib.hid (fun lo0 mb w' (hm : OnMap w' lo0 mb (upTo N) (leapsA W H ac up a b)) => distance_any lo0 mb (upTo N) (leapsA W H ac up a b) pn qn d w' hm (by omega) (upTo_mem.2 HPA.out) (fun x hx => by have := upTo_mem.1 hx; omega) (adjA_in HF.out) (by omega) (by rw [far144 HF.out HPA.out, List.length_append, HLN.out, List.length_replicate]; omega) (by rw [far144 HF.out HPA.out, List.getElem?_append_left (by rw [HLN.out]; exact hqN)]; exact HD1.out) ⟨hd2, hd3⟩)
    go_enter Try.func33, Try.ntmps33
    go_wp2_with fail
    rw [← hW2]
    clear hW2
    refine (isLeaperAround_any W H ac up a b _ 2 2 _ _ RQ.out).mono ?_
    rw [HE.out, hq]
    rintro e wv ⟨rfl, hb⟩
    replace a0 := cell_keep a0 al hb
    replace a1 := cell_keep a1 al hb
    replace a2 := cell_keep a2 al hb
    replace a3 := cell_keep a3 al hb
    replace al := lt_keep al hb
    replace l0 := cell_keep l0 ll hb
    replace l1 := cell_keep l1 ll hb
    replace ll := lt_keep ll hb
    replace B := Lib.hid (below_next B.out hb)
    clear hb
    clear RQ HE
    go_wp2_with fail
    refine (onwardAround_any W H ac up a b _ HF.out.g HF.out.l).mono ?_
    rintro e wx ⟨mb, rfl, hom, hb⟩
    rw [hN] at hom
    have HOM := Lib.hid hom
    replace B := Lib.hid (below_next B.out hb)
    clear hom hb
    clear a0 a1 a2 a3 l0 l1 al ll
    go_wp2_with fail
    refine (HDIS.out _ mb _ HOM.out).mono ?_
    rintro e wy ⟨rfl, hb⟩
    replace B := Lib.hid (below_next B.out hb)
    clear hb
    go_wp2
    go_ret2
    exact ⟨by rw [HV.out, HOK.out, ← dAns_eq hd2, ← dOk_eq hd2]; rfl, B.out⟩

end Go.Proofs.Ytaliknhfcdmohaa

namespace Go.Proofs.Ytaliknhfcdmohaa
open Go.RowKit

set_option maxHeartbeats 4000000 in
set_option maxRecDepth 100000 in
theorem law_DistanceAround (w : World) (W H : Int) (ac up : Bool) (a b : Int) (q2 : Int) (q3 : Int) :
    Calls Try.prog 8 #[ard W H ac up, lpr a b, .int .i64 q2, .int .i64 q3] w fun e w' => e = .returned (.bool true) ∧ Below w.heap.size w w' := by
  obtain ⟨W2, hW2⟩ : ∃ W2, W2 = (w.alloc (.cells #[.int .i64 W, .int .i64 H, .bool ac, .bool up] 23)).alloc (.cells #[.int .i64 a, .int .i64 b] 32) := ⟨_, rfl⟩
  have hsz : W2.heap.size = w.heap.size + 2 := by rw [hW2]; simp
  have a0 : W2.cell? ⟨w.heap.size, 0, none⟩ = some (.int .i64 W) := by rw [hW2]; go_simp
  have a1 : W2.cell? ⟨w.heap.size, 1, none⟩ = some (.int .i64 H) := by rw [hW2]; go_simp
  have a2 : W2.cell? ⟨w.heap.size, 2, none⟩ = some (.bool ac) := by rw [hW2]; go_simp
  have a3 : W2.cell? ⟨w.heap.size, 3, none⟩ = some (.bool up) := by rw [hW2]; go_simp
  have al : w.heap.size < W2.heap.size := by omega
  have l0 : W2.cell? ⟨w.heap.size + 1, 0, none⟩ = some (.int .i64 a) := by rw [hW2]; go_simp
  have l1 : W2.cell? ⟨w.heap.size + 1, 1, none⟩ = some (.int .i64 b) := by rw [hW2]; go_simp
  have ll : w.heap.size + 1 < W2.heap.size := by omega
  have B := Lib.hid (show Below w.heap.size w W2 by rw [hW2]; repeat (first | exact Below.refl _ _ | refine below_new ?_ _))
  have hs0 := Lib.hid B.out.size
  go_enter Try.func8, Try.ntmps8
  go_wp2_with fail
  rw [← hW2]
  clear hW2
  refine wp_region_held_drew (S := fun w' => w'.cell? ⟨w.heap.size, 0, none⟩ = some (.int .i64 W) ∧ w'.cell? ⟨w.heap.size, 1, none⟩ = some (.int .i64 H) ∧ w'.cell? ⟨w.heap.size, 2, none⟩ = some (.bool ac) ∧ w'.cell? ⟨w.heap.size, 3, none⟩ = some (.bool up) ∧ w'.cell? ⟨w.heap.size + 1, 0, none⟩ = some (.int .i64 a) ∧ w'.cell? ⟨w.heap.size + 1, 1, none⟩ = some (.int .i64 b)) (by kernel_rfl) ?_ (fun hHeld => ?_)
  · (try dsimp only)
    exact ⟨a0, a1, a2, a3, l0, l1⟩
  refine wpAnyH_take (i := 0) (oi := ⟨_, _, _, _, _, _⟩) (v := ?_) rfl (by kernel_rfl) (by kernel_rfl) (by kernel_rfl) (fun _ _ _ h => h) (Or.inl ⟨by rfl, ?_⟩) (by assumption) ?_
  rotate_left
  · intro w hSw
    (try dsimp only at hSw)
    go_simp
    (try with_reducible rfl)
  (try simp only [Act.put, List.setIfInBounds_toArray, List.set_cons_zero, List.set_cons_succ])
  refine wpAnyH_take (i := 2) (oi := ⟨_, _, _, _, _, _⟩) (v := ?_) rfl (by kernel_rfl) (by kernel_rfl) (by kernel_rfl) (fun _ _ _ h => h) (Or.inl ⟨by rfl, ?_⟩) (by assumption) ?_
  rotate_left
  · intro w hSw
    (try dsimp only at hSw)
    go_simp
    (try with_reducible rfl)
  (try simp only [Act.put, List.setIfInBounds_toArray, List.set_cons_zero, List.set_cons_succ])
  refine wpAnyH_take (i := 4) (oi := ⟨_, _, _, _, _, _⟩) (v := ?_) rfl (by kernel_rfl) (by kernel_rfl) (by kernel_rfl) (fun _ _ _ h => h) (Or.inl ⟨by rfl, ?_⟩) (by assumption) ?_
  rotate_left
  · intro w hSw
    (try dsimp only at hSw)
    go_simp
    (try with_reducible rfl)
  (try simp only [Act.put, List.setIfInBounds_toArray, List.set_cons_zero, List.set_cons_succ])
  refine wpAnyH_take (i := 5) (oi := ⟨_, _, _, _, _, _⟩) (v := ?_) rfl (by kernel_rfl) (by kernel_rfl) (by kernel_rfl) (fun _ _ _ h => h) (Or.inl ⟨by rfl, ?_⟩) (by assumption) ?_
  rotate_left
  · intro w hSw
    (try dsimp only at hSw)
    go_simp
    (try with_reducible rfl)
  (try simp only [Act.put, List.setIfInBounds_toArray, List.set_cons_zero, List.set_cons_succ])
  refine wpAnyH_ready (rs := [1]) (by kernel_rfl) (by simp) ?_
  refine AllReadyH.cons (o := ⟨_, _, _, _, _, _⟩) rfl (fun K hK => ?_) AllReadyH.nil
  go_simp
  (go_at_call 18; refine (toAround_any _ _ _ _ _).mono ?_; rintro e wv ⟨rfl, hb⟩; (repeat (first | replace hb := below_undrew hb | replace hb := below_undrewN hb)); have hs1 := Lib.hid hb.size; replace a0 := cell_keep a0 al hb; replace a1 := cell_keep a1 al hb; replace a2 := cell_keep a2 al hb; replace a3 := cell_keep a3 al hb; replace al := lt_keep al hb; replace l0 := cell_keep l0 ll hb; replace l1 := cell_keep l1 ll hb; replace ll := lt_keep ll hb; replace B := Lib.hid (below_next B.out hb); clear hb)
  (try go_wp2_with fail)
  refine hK.out _ _ ?_ (fun hHeld => ?_)
  · (try dsimp only)
    exact ⟨a0, a1, a2, a3, l0, l1⟩
  clear hK K
  (try simp only [Act.put, List.setIfInBounds_toArray, List.set_cons_zero, List.set_cons_succ])
  refine wpAnyH_ready (rs := [3]) (by kernel_rfl) (by simp) ?_
  refine AllReadyH.cons (o := ⟨_, _, _, _, _, _⟩) rfl (fun K hK => ?_) AllReadyH.nil
  go_simp
  (go_at_call 23; refine (toLeaper_any _ _ _).mono ?_; rintro e wv ⟨rfl, hb⟩; (repeat (first | replace hb := below_undrew hb | replace hb := below_undrewN hb)); have hs2 := Lib.hid hb.size; replace a0 := cell_keep a0 al hb; replace a1 := cell_keep a1 al hb; replace a2 := cell_keep a2 al hb; replace a3 := cell_keep a3 al hb; replace al := lt_keep al hb; replace l0 := cell_keep l0 ll hb; replace l1 := cell_keep l1 ll hb; replace ll := lt_keep ll hb; replace B := Lib.hid (below_next B.out hb); clear hb)
  (try go_wp2_with fail)
  refine hK.out _ _ ?_ (fun hHeld => ?_)
  · (try dsimp only)
    exact ⟨a0, a1, a2, a3, l0, l1⟩
  clear hK K
  (try simp only [Act.put, List.setIfInBounds_toArray, List.set_cons_zero, List.set_cons_succ])
  refine wpAnyH_ready (rs := [6]) (by kernel_rfl) (by simp) ?_
  refine AllReadyH.cons (o := ⟨_, _, _, _, _, _⟩) rfl (fun K hK => ?_) AllReadyH.nil
  go_simp
  (go_at_call 32; refine (spec_DistanceAround _ _ _ _ _ _ _ _ _).mono ?_; rintro e wv ⟨rfl, hb⟩; (repeat (first | replace hb := below_undrew hb | replace hb := below_undrewN hb)); have hs3 := Lib.hid hb.size; replace a0 := cell_keep a0 al hb; replace a1 := cell_keep a1 al hb; replace a2 := cell_keep a2 al hb; replace a3 := cell_keep a3 al hb; replace al := lt_keep al hb; replace l0 := cell_keep l0 ll hb; replace l1 := cell_keep l1 ll hb; replace ll := lt_keep ll hb; replace B := Lib.hid (below_next B.out hb); clear hb)
  (try go_wp2_with fail)
  refine hK.out _ _ ?_ (fun hHeld => ?_)
  · (try dsimp only)
    exact ⟨a0, a1, a2, a3, l0, l1⟩
  clear hK K
  (try simp only [Act.put, List.setIfInBounds_toArray, List.set_cons_zero, List.set_cons_succ])
  refine wpAnyH_take (i := 7) (oi := ⟨_, _, _, _, _, _⟩) (v := ?_) rfl (by kernel_rfl) (by kernel_rfl) (by kernel_rfl) (fun _ _ _ h => h) (Or.inl ⟨by rfl, ?_⟩) (by assumption) ?_
  rotate_left
  · intro w hSw
    (try dsimp only at hSw)
    go_simp
    (try with_reducible rfl)
  (try simp only [Act.put, List.setIfInBounds_toArray, List.set_cons_zero, List.set_cons_succ])
  refine wpAnyH_take (i := 8) (oi := ⟨_, _, _, _, _, _⟩) (v := ?_) rfl (by kernel_rfl) (by kernel_rfl) (by kernel_rfl) (fun _ _ _ h => h) (Or.inl ⟨by rfl, ?_⟩) (by assumption) ?_
  rotate_left
  · intro w hSw
    (try dsimp only at hSw)
    go_simp
    (try with_reducible rfl)
  (try simp only [Act.put, List.setIfInBounds_toArray, List.set_cons_zero, List.set_cons_succ])
  refine wpAnyH_take (i := 9) (oi := ⟨_, _, _, _, _, _⟩) (v := ?_) rfl (by kernel_rfl) (by kernel_rfl) (by kernel_rfl) (fun _ _ _ h => h) (Or.inl ⟨by rfl, ?_⟩) (by assumption) ?_
  rotate_left
  · intro w hSw
    (try dsimp only at hSw)
    go_simp
    (try with_reducible rfl)
  (try simp only [Act.put, List.setIfInBounds_toArray, List.set_cons_zero, List.set_cons_succ])
  refine wpAnyH_take (i := 10) (oi := ⟨_, _, _, _, _, _⟩) (v := ?_) rfl (by kernel_rfl) (by kernel_rfl) (by kernel_rfl) (fun _ _ _ h => h) (Or.inl ⟨by rfl, ?_⟩) (by assumption) ?_
  rotate_left
  · intro w hSw
    (try dsimp only at hSw)
    go_simp
    (try with_reducible rfl)
  (try simp only [Act.put, List.setIfInBounds_toArray, List.set_cons_zero, List.set_cons_succ])
  refine wpAnyH_take (i := 11) (oi := ⟨_, _, _, _, _, _⟩) (v := ?_) rfl (by kernel_rfl) (by kernel_rfl) (by kernel_rfl) (fun _ _ _ h => h) (Or.inl ⟨by rfl, ?_⟩) (by assumption) ?_
  rotate_left
  · intro w hSw
    (try dsimp only at hSw)
    go_simp
    (try with_reducible rfl)
  (try simp only [Act.put, List.setIfInBounds_toArray, List.set_cons_zero, List.set_cons_succ])
  refine wpAnyH_done (by kernel_rfl) ?_ _
  clear hHeld
  go_wp2_with fail
  refine wp_region_held_drew (S := fun w' => w'.cell? ⟨w.heap.size, 0, none⟩ = some (.int .i64 W) ∧ w'.cell? ⟨w.heap.size, 1, none⟩ = some (.int .i64 H) ∧ w'.cell? ⟨w.heap.size, 2, none⟩ = some (.bool ac) ∧ w'.cell? ⟨w.heap.size, 3, none⟩ = some (.bool up) ∧ w'.cell? ⟨w.heap.size + 1, 0, none⟩ = some (.int .i64 a) ∧ w'.cell? ⟨w.heap.size + 1, 1, none⟩ = some (.int .i64 b)) (by kernel_rfl) ?_ (fun hHeld => ?_)
  · (try dsimp only)
    exact ⟨a0, a1, a2, a3, l0, l1⟩
  refine wpAnyH_take (i := 0) (oi := ⟨_, _, _, _, _, _⟩) (v := ?_) rfl (by kernel_rfl) (by kernel_rfl) (by kernel_rfl) (fun _ _ _ h => h) (Or.inl ⟨by rfl, ?_⟩) (by assumption) ?_
  rotate_left
  · intro w hSw
    (try dsimp only at hSw)
    go_simp
    (try with_reducible rfl)
  (try simp only [Act.put, List.setIfInBounds_toArray, List.set_cons_zero, List.set_cons_succ])
  refine wpAnyH_take (i := 2) (oi := ⟨_, _, _, _, _, _⟩) (v := ?_) rfl (by kernel_rfl) (by kernel_rfl) (by kernel_rfl) (fun _ _ _ h => h) (Or.inl ⟨by rfl, ?_⟩) (by assumption) ?_
  rotate_left
  · intro w hSw
    (try dsimp only at hSw)
    go_simp
    (try with_reducible rfl)
  (try simp only [Act.put, List.setIfInBounds_toArray, List.set_cons_zero, List.set_cons_succ])
  refine wpAnyH_take (i := 4) (oi := ⟨_, _, _, _, _, _⟩) (v := ?_) rfl (by kernel_rfl) (by kernel_rfl) (by kernel_rfl) (fun _ _ _ h => h) (Or.inl ⟨by rfl, ?_⟩) (by assumption) ?_
  rotate_left
  · intro w hSw
    (try dsimp only at hSw)
    go_simp
    (try with_reducible rfl)
  (try simp only [Act.put, List.setIfInBounds_toArray, List.set_cons_zero, List.set_cons_succ])
  refine wpAnyH_take (i := 5) (oi := ⟨_, _, _, _, _, _⟩) (v := ?_) rfl (by kernel_rfl) (by kernel_rfl) (by kernel_rfl) (fun _ _ _ h => h) (Or.inl ⟨by rfl, ?_⟩) (by assumption) ?_
  rotate_left
  · intro w hSw
    (try dsimp only at hSw)
    go_simp
    (try with_reducible rfl)
  (try simp only [Act.put, List.setIfInBounds_toArray, List.set_cons_zero, List.set_cons_succ])
  refine wpAnyH_ready (rs := [1]) (by kernel_rfl) (by simp) ?_
  refine AllReadyH.cons (o := ⟨_, _, _, _, _, _⟩) rfl (fun K hK => ?_) AllReadyH.nil
  go_simp
  (go_at_call 18; refine (toAround_any _ _ _ _ _).mono ?_; rintro e wv ⟨rfl, hb⟩; (repeat (first | replace hb := below_undrew hb | replace hb := below_undrewN hb)); have hs4 := Lib.hid hb.size; replace a0 := cell_keep a0 al hb; replace a1 := cell_keep a1 al hb; replace a2 := cell_keep a2 al hb; replace a3 := cell_keep a3 al hb; replace al := lt_keep al hb; replace l0 := cell_keep l0 ll hb; replace l1 := cell_keep l1 ll hb; replace ll := lt_keep ll hb; replace B := Lib.hid (below_next B.out hb); clear hb)
  (try go_wp2_with fail)
  refine hK.out _ _ ?_ (fun hHeld => ?_)
  · (try dsimp only)
    exact ⟨a0, a1, a2, a3, l0, l1⟩
  clear hK K
  (try simp only [Act.put, List.setIfInBounds_toArray, List.set_cons_zero, List.set_cons_succ])
  refine wpAnyH_ready (rs := [3]) (by kernel_rfl) (by simp) ?_
  refine AllReadyH.cons (o := ⟨_, _, _, _, _, _⟩) rfl (fun K hK => ?_) AllReadyH.nil
  go_simp
  (go_at_call 23; refine (toLeaper_any _ _ _).mono ?_; rintro e wv ⟨rfl, hb⟩; (repeat (first | replace hb := below_undrew hb | replace hb := below_undrewN hb)); have hs5 := Lib.hid hb.size; replace a0 := cell_keep a0 al hb; replace a1 := cell_keep a1 al hb; replace a2 := cell_keep a2 al hb; replace a3 := cell_keep a3 al hb; replace al := lt_keep al hb; replace l0 := cell_keep l0 ll hb; replace l1 := cell_keep l1 ll hb; replace ll := lt_keep ll hb; replace B := Lib.hid (below_next B.out hb); clear hb)
  (try go_wp2_with fail)
  refine hK.out _ _ ?_ (fun hHeld => ?_)
  · (try dsimp only)
    exact ⟨a0, a1, a2, a3, l0, l1⟩
  clear hK K
  (try simp only [Act.put, List.setIfInBounds_toArray, List.set_cons_zero, List.set_cons_succ])
  refine wpAnyH_ready (rs := [6]) (by kernel_rfl) (by simp) ?_
  refine AllReadyH.cons (o := ⟨_, _, _, _, _, _⟩) rfl (fun K hK => ?_) AllReadyH.nil
  go_simp
  (go_at_call 33; refine (impl_DistanceAround _ _ _ _ _ _ _ _ _).mono ?_; rintro e wv ⟨rfl, hb⟩; (repeat (first | replace hb := below_undrew hb | replace hb := below_undrewN hb)); have hs6 := Lib.hid hb.size; replace a0 := cell_keep a0 al hb; replace a1 := cell_keep a1 al hb; replace a2 := cell_keep a2 al hb; replace a3 := cell_keep a3 al hb; replace al := lt_keep al hb; replace l0 := cell_keep l0 ll hb; replace l1 := cell_keep l1 ll hb; replace ll := lt_keep ll hb; replace B := Lib.hid (below_next B.out hb); clear hb)
  (try go_wp2_with fail)
  refine hK.out _ _ ?_ (fun hHeld => ?_)
  · (try dsimp only)
    exact ⟨a0, a1, a2, a3, l0, l1⟩
  clear hK K
  (try simp only [Act.put, List.setIfInBounds_toArray, List.set_cons_zero, List.set_cons_succ])
  refine wpAnyH_take (i := 7) (oi := ⟨_, _, _, _, _, _⟩) (v := ?_) rfl (by kernel_rfl) (by kernel_rfl) (by kernel_rfl) (fun _ _ _ h => h) (Or.inl ⟨by rfl, ?_⟩) (by assumption) ?_
  rotate_left
  · intro w hSw
    (try dsimp only at hSw)
    go_simp
    (try with_reducible rfl)
  (try simp only [Act.put, List.setIfInBounds_toArray, List.set_cons_zero, List.set_cons_succ])
  refine wpAnyH_take (i := 8) (oi := ⟨_, _, _, _, _, _⟩) (v := ?_) rfl (by kernel_rfl) (by kernel_rfl) (by kernel_rfl) (fun _ _ _ h => h) (Or.inl ⟨by rfl, ?_⟩) (by assumption) ?_
  rotate_left
  · intro w hSw
    (try dsimp only at hSw)
    go_simp
    (try with_reducible rfl)
  (try simp only [Act.put, List.setIfInBounds_toArray, List.set_cons_zero, List.set_cons_succ])
  refine wpAnyH_take (i := 9) (oi := ⟨_, _, _, _, _, _⟩) (v := ?_) rfl (by kernel_rfl) (by kernel_rfl) (by kernel_rfl) (fun _ _ _ h => h) (Or.inl ⟨by rfl, ?_⟩) (by assumption) ?_
  rotate_left
  · intro w hSw
    (try dsimp only at hSw)
    go_simp
    (try with_reducible rfl)
  (try simp only [Act.put, List.setIfInBounds_toArray, List.set_cons_zero, List.set_cons_succ])
  refine wpAnyH_take (i := 10) (oi := ⟨_, _, _, _, _, _⟩) (v := ?_) rfl (by kernel_rfl) (by kernel_rfl) (by kernel_rfl) (fun _ _ _ h => h) (Or.inl ⟨by rfl, ?_⟩) (by assumption) ?_
  rotate_left
  · intro w hSw
    (try dsimp only at hSw)
    go_simp
    (try with_reducible rfl)
  (try simp only [Act.put, List.setIfInBounds_toArray, List.set_cons_zero, List.set_cons_succ])
  refine wpAnyH_take (i := 11) (oi := ⟨_, _, _, _, _, _⟩) (v := ?_) rfl (by kernel_rfl) (by kernel_rfl) (by kernel_rfl) (fun _ _ _ h => h) (Or.inl ⟨by rfl, ?_⟩) (by assumption) ?_
  rotate_left
  · intro w hSw
    (try dsimp only at hSw)
    go_simp
    (try with_reducible rfl)
  (try simp only [Act.put, List.setIfInBounds_toArray, List.set_cons_zero, List.set_cons_succ])
  refine wpAnyH_done (by kernel_rfl) ?_ _
  clear hHeld
  clear a0 a1 a2 a3 l0 l1 al ll
  go_wp2
  go_ret
  exact ⟨rfl, (by repeat (first | exact B.out | refine below_drewN ?_ _ | refine Below.drew ?_))⟩

end Go.Proofs.Ytaliknhfcdmohaa
