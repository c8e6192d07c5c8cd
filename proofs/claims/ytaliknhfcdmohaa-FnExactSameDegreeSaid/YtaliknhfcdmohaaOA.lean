/-
  Contracts: degrees around: CountLeapsAround and SameDegree, in the model and in the program.
-/
import Derived.Test.YtaliknhfcdmohaaO9
import Derived.Test.YtaliknhfcdmohaaZS
namespace Go.Proofs.Ytaliknhfcdmohaa
open Go.RowKit

def degL (W H : Int) (ac up : Bool) (a b : Int) (k : Nat) : List Int := (upTo k).map fun i => ((leapsA W H ac up a b i).length : Int)
theorem degL_succ (W H : Int) (ac up : Bool) (a b : Int) (k : Nat) : degL W H ac up a b (k + 1) = degL W H ac up a b k ++ [((leapsA W H ac up a b k).length : Int)] := by
  rw [degL, upTo_succ, List.map_append]; rfl
theorem degL_len (W H : Int) (ac up : Bool) (a b : Int) (k : Nat) : (degL W H ac up a b k).length = k := by simp [degL, upTo]
theorem degL_at {W H a b : Int} {ac up : Bool} {k N : Nat} (h : k < N) : (degL W H ac up a b N)[k]? = some ((leapsA W H ac up a b k).length : Int) := by simp [degL, upTo, h]
theorem degL_sum {W H a b : Int} {ac up : Bool} (hl : leaperB a b = true) (k : Nat) : 0 ≤ sumL (degL W H ac up a b k) ∧ sumL (degL W H ac up a b k) ≤ 8 * k := by
  induction k with
  | zero => exact ⟨by simp [sumL, degL, upTo], by simp [sumL, degL, upTo]⟩
  | succ k ih =>
    rw [degL_succ, sumL_snoc]
    have := leapsA_len (W := W) (H := H) (ac := ac) (up := up) (q := (k : Int)) hl
    omega
theorem degL_take {W H a b : Int} {ac up : Bool} {k N : Nat} (h : k ≤ N) : (degL W H ac up a b N).take k = degL W H ac up a b k := by
  rw [degL, ← List.map_take, upTo, ← List.map_take, List.take_range, Nat.min_eq_left h]; rfl
def cntAV (W H : Int) (ac up : Bool) (a b : Int) : Int := if twoA W H a b then sumL (degL W H ac up a b (W * H).toNat) / 2 else 0
def sameOk (W H : Int) (ac up : Bool) (a b : Int) : Bool := twoA W H a b && sameL (degL W H ac up a b (W * H).toNat)
def sameAV (W H : Int) (ac up : Bool) (a b : Int) : Int := if sameOk W H ac up a b then (leapsA W H ac up a b 0).length else 0
theorem same_degL {W H a b : Int} {ac up : Bool} {N : Nat} (hN : 1 ≤ N) : sameL (degL W H ac up a b N) = true ↔ ∀ j : Nat, j < N → (leapsA W H ac up a b j).length = (leapsA W H ac up a b 0).length := by
  rw [sameL, inAll_iff, List.getD_eq_getElem?_getD, degL_at (by omega : 0 < N)]
  simp only [Option.getD_some]
  constructor
  · intro h j hj
    have := h _ (List.mem_of_getElem? (degL_at (W := W) (H := H) (a := a) (b := b) (ac := ac) (up := up) hj))
    have e : ((0 : Nat) : Int) = 0 := rfl
    rw [e] at this
    omega
  · intro h x hx
    obtain ⟨i, hi, rfl⟩ := List.mem_map.1 hx
    have hi2 := upTo_mem.1 hi
    have := h i.toNat (by omega)
    rw [show ((i.toNat : Nat) : Int) = i by omega] at this
    have e : ((0 : Nat) : Int) = 0 := rfl
    rw [e]
    omega
theorem cntAV_no {W H a b : Int} {ac up : Bool} (h : twoA W H a b = false) : cntAV W H ac up a b = 0 := by rw [cntAV, h]; rfl
theorem sameAV_no {W H a b : Int} {ac up : Bool} (h : sameOk W H ac up a b = false) : sameAV W H ac up a b = 0 := by rw [sameAV, h]; rfl

set_option maxRecDepth 100000 in
set_option maxHeartbeats 2000000 in
theorem spec_CountLeapsAround (W H : Int) (ac up : Bool) (a b : Int) (w : World) :
    Calls Try.prog 28 #[ard W H ac up, lpr a b] w fun e w' => e = .returned (.tuple #[.int .i64 (cntAV W H ac up a b), .bool (twoA W H a b)]) ∧ Below w.heap.size w w' := by
  obtain ⟨W2, hW2⟩ : ∃ W2, W2 = (w.alloc (.cells #[.int .i64 W, .int .i64 H, .bool ac, .bool up] 25)).alloc (.cells #[.int .i64 a, .int .i64 b] 36) := ⟨_, rfl⟩
  have hsz : W2.heap.size = w.heap.size + 2 := by rw [hW2]; simp
  have a0 : W2.cell? ⟨w.heap.size, 0, none⟩ = some (.int .i64 W) := by rw [hW2]; go_simp
  have a1 : W2.cell? ⟨w.heap.size, 1, none⟩ = some (.int .i64 H) := by rw [hW2]; go_simp
  have a2 : W2.cell? ⟨w.heap.size, 2, none⟩ = some (.bool ac) := by rw [hW2]; go_simp
  have a3 : W2.cell? ⟨w.heap.size, 3, none⟩ = some (.bool up) := by rw [hW2]; go_simp
  have al : w.heap.size < W2.heap.size := by omega
  have l0 : W2.cell? ⟨w.heap.size + 1, 0, none⟩ = some (.int .i64 a) := by rw [hW2]; go_simp
  have l1 : W2.cell? ⟨w.heap.size + 1, 1, none⟩ = some (.int .i64 b) := by rw [hW2]; go_simp
  have ll : w.heap.size + 1 < W2.heap.size := by omega
  have B := Lib.hid (show Below w.heap.size w W2 by rw [hW2]; repeat (first | exact Below.refl _ _ | refine below_new ?_ _))
  cases ht : twoA W H a b
  · have OK := Lib.hid ht
    go_enter Try.func28, Try.ntmps28
    go_wp2_with fail
    rw [← hW2]
    clear hW2
    refine (arTwo_any _ _ _ _ _ _ _).mono ?_
    rw [ht]
    rintro e wv ⟨rfl, hb⟩
    replace a0 := cell_keep a0 al hb
    replace a1 := cell_keep a1 al hb
    replace a2 := cell_keep a2 al hb
    replace a3 := cell_keep a3 al hb
    replace al := lt_keep al hb
    replace l0 := cell_keep l0 ll hb
    replace l1 := cell_keep l1 ll hb
    replace ll := lt_keep ll hb
    replace B := Lib.hid (below_next B.out hb)
    clear hb
    clear a0 a1 a2 a3 l0 l1 al ll
    go_wp2
    go_ret2
    exact ⟨by rw [cntAV_no OK.out]; rfl, B.out⟩
  · have HT := Lib.hid (twoA_iff.1 ht)
    have hA := areaA HT.out.2
    obtain ⟨A1, A2⟩ := hA
    obtain ⟨⟨hW1, hW2b⟩, hH1, hH2⟩ := goodA_iff.1 HT.out.2
    obtain ⟨N, hN⟩ : ∃ N : Nat, W * H = (N : Int) := ⟨(W * H).toNat, by omega⟩
    have hNn : (W * H).toNat = N := by omega
    have N1 : 1 ≤ N := by omega
    have N2 : N ≤ 144 := by omega
    go_enter Try.func28, Try.ntmps28
    go_wp2_with fail
    rw [← hW2]
    clear hW2
    refine (arTwo_any _ _ _ _ _ _ _).mono ?_
    rw [ht]
    rintro e wv ⟨rfl, hb⟩
    replace a0 := cell_keep a0 al hb
    replace a1 := cell_keep a1 al hb
    replace a2 := cell_keep a2 al hb
    replace a3 := cell_keep a3 al hb
    replace al := lt_keep al hb
    replace l0 := cell_keep l0 ll hb
    replace l1 := cell_keep l1 ll hb
    replace ll := lt_keep ll hb
    replace B := Lib.hid (below_next B.out hb)
    clear hb
    have OKT := Lib.hid ht
    skip
    go_wp2
    go_loopw [6, 7] (fun v i wr => ∃ k : Nat, k ≤ N ∧ i = .int .i64 k ∧ v = .int .i64 (sumL (degL W H ac up a b k)) ∧ Below wv.heap.size wv wr) (fun _ i _ => N - (intOf i).toNat)
    case atStart => exact ⟨0, by omega, rfl, rfl, Below.refl _ _⟩
    case round =>
      obtain ⟨k, hk, rfl, rfl, hbw⟩ := hrel
      have b0 := cell_keep a0 al hbw; have b1 := cell_keep a1 al hbw; have b2 := cell_keep a2 al hbw; have b3 := cell_keep a3 al hbw; have c0 := cell_keep l0 ll hbw; have c1 := cell_keep l1 ll hbw
      have HS := Lib.hid (degL_succ W H ac up a b k); have HSB := degL_sum (W := W) (H := H) (ac := ac) (up := up) HT.out.1 k
      obtain ⟨s, hs⟩ : ∃ s, sumL (degL W H ac up a b k) = s := ⟨_, rfl⟩
      rw [hs] at HSB ⊢
      have HSS := Lib.hid hs
      have HB := Lib.hid hbw
      obtain ⟨s1, s2⟩ := HSB
      clear hs hbw
      by_cases hlt : (k : Int) < W * H
      · have hL8 := leapsA_len (W := W) (H := H) (ac := ac) (up := up) (q := (k : Int)) HT.out.1
        go_wp2_with fail
        refine (arLeaps_any W H ac up a b k _ HT.out.2 HT.out.1 (by omega)).mono ?_
        rintro e w3 ⟨A1, n1, c1', rfl, hown, hb⟩
        have hn := hown.len
        have HN1 := Lib.hid hn
        have hn8 : n1 ≤ 8 := by omega
        replace HB := Lib.hid (HB.out.trans (hb.mono HB.out.size))
        clear hown hb b0 b1 b2 b3 c0 c1 hn hL8
        go_wp2
        go_roundw
        case rel => exact ⟨k + 1, by omega, by go_num, by rw [HS.out, sumL_snoc, HSS.out, HN1.out], HB.out⟩
        case measure => simp [intOf]; omega
      · have e : k = N := by omega
        subst e
        go_wp2
        go_ret2
        exact ⟨by rw [cntAV, ht, hNn, HSS.out]; rfl, B.out.trans (HB.out.mono B.out.size)⟩

set_option maxRecDepth 100000 in
set_option maxHeartbeats 2000000 in
theorem spec_SameDegree (W H : Int) (ac up : Bool) (a b : Int) (w : World) :
    Calls Try.prog 30 #[ard W H ac up, lpr a b] w fun e w' => e = .returned (.tuple #[.int .i64 (sameAV W H ac up a b), .bool (sameOk W H ac up a b)]) ∧ Below w.heap.size w w' := by
  obtain ⟨W2, hW2⟩ : ∃ W2, W2 = (w.alloc (.cells #[.int .i64 W, .int .i64 H, .bool ac, .bool up] 25)).alloc (.cells #[.int .i64 a, .int .i64 b] 36) := ⟨_, rfl⟩
  have hsz : W2.heap.size = w.heap.size + 2 := by rw [hW2]; simp
  have a0 : W2.cell? ⟨w.heap.size, 0, none⟩ = some (.int .i64 W) := by rw [hW2]; go_simp
  have a1 : W2.cell? ⟨w.heap.size, 1, none⟩ = some (.int .i64 H) := by rw [hW2]; go_simp
  have a2 : W2.cell? ⟨w.heap.size, 2, none⟩ = some (.bool ac) := by rw [hW2]; go_simp
  have a3 : W2.cell? ⟨w.heap.size, 3, none⟩ = some (.bool up) := by rw [hW2]; go_simp
  have al : w.heap.size < W2.heap.size := by omega
  have l0 : W2.cell? ⟨w.heap.size + 1, 0, none⟩ = some (.int .i64 a) := by rw [hW2]; go_simp
  have l1 : W2.cell? ⟨w.heap.size + 1, 1, none⟩ = some (.int .i64 b) := by rw [hW2]; go_simp
  have ll : w.heap.size + 1 < W2.heap.size := by omega
  have B := Lib.hid (show Below w.heap.size w W2 by rw [hW2]; repeat (first | exact Below.refl _ _ | refine below_new ?_ _))
  cases ht : twoA W H a b
  · have OK := Lib.hid (show sameOk W H ac up a b = false by rw [sameOk, ht]; rfl)
    go_enter Try.func30, Try.ntmps30
    go_wp2_with fail
    rw [← hW2]
    clear hW2
    refine (arTwo_any _ _ _ _ _ _ _).mono ?_
    rw [ht]
    rintro e wv ⟨rfl, hb⟩
    replace a0 := cell_keep a0 al hb
    replace a1 := cell_keep a1 al hb
    replace a2 := cell_keep a2 al hb
    replace a3 := cell_keep a3 al hb
    replace al := lt_keep al hb
    replace l0 := cell_keep l0 ll hb
    replace l1 := cell_keep l1 ll hb
    replace ll := lt_keep ll hb
    replace B := Lib.hid (below_next B.out hb)
    clear hb
    clear a0 a1 a2 a3 l0 l1 al ll
    go_wp2
    go_ret2
    exact ⟨by rw [sameAV_no OK.out, OK.out]; rfl, B.out⟩
  · have HTT := Lib.hid ht
    have HT := Lib.hid (twoA_iff.1 ht)
    have hA := areaA HT.out.2
    obtain ⟨A1, A2⟩ := hA
    obtain ⟨⟨hW1, hW2b⟩, hH1, hH2⟩ := goodA_iff.1 HT.out.2
    obtain ⟨N, hN⟩ : ∃ N : Nat, W * H = (N : Int) := ⟨(W * H).toNat, by omega⟩
    have hNn : (W * H).toNat = N := by omega
    have N1 : 1 ≤ N := by omega
    have N2 : N ≤ 144 := by omega
    go_enter Try.func30, Try.ntmps30
    go_wp2_with fail
    rw [← hW2]
    clear hW2
    refine (arTwo_any _ _ _ _ _ _ _).mono ?_
    rw [ht]
    rintro e wv ⟨rfl, hb⟩
    replace a0 := cell_keep a0 al hb
    replace a1 := cell_keep a1 al hb
    replace a2 := cell_keep a2 al hb
    replace a3 := cell_keep a3 al hb
    replace al := lt_keep al hb
    replace l0 := cell_keep l0 ll hb
    replace l1 := cell_keep l1 ll hb
    replace ll := lt_keep ll hb
    replace B := Lib.hid (below_next B.out hb)
    clear hb
    go_wp2_with fail
    refine (arLeaps_any W H ac up a b 0 _ HT.out.2 HT.out.1 (by omega)).mono ?_
    rintro e w4 ⟨A0, n0, c0', rfl, hown, hb⟩
    have HN0 := Lib.hid hown.len
    have hn08 : n0 ≤ 8 := by have := hown.len; have := leapsA_len (W := W) (H := H) (ac := ac) (up := up) (q := 0) HT.out.1; omega
    have HSD := Lib.hid (same_degL (W := W) (H := H) (a := a) (b := b) (ac := ac) (up := up) N1)
    replace a0 := cell_keep a0 al hb
    replace a1 := cell_keep a1 al hb
    replace a2 := cell_keep a2 al hb
    replace a3 := cell_keep a3 al hb
    replace al := lt_keep al hb
    replace l0 := cell_keep l0 ll hb
    replace l1 := cell_keep l1 ll hb
    replace ll := lt_keep ll hb
    replace B := Lib.hid (below_next B.out hb)
    clear hb
    clear hown
    go_wp2
    go_loopw [7] (fun i wr => ∃ k : Nat, k ≤ N ∧ i = .int .i64 k ∧ (∀ j : Nat, j < k → (leapsA W H ac up a b j).length = (leapsA W H ac up a b 0).length) ∧ Below w4.heap.size w4 wr) (fun i _ => N - (intOf i).toNat)
    case atStart => exact ⟨0, by omega, rfl, (fun j h => absurd h (by omega)), Below.refl _ _⟩
    case round =>
      obtain ⟨k, hk, rfl, hall, hbw⟩ := hrel
      have b0 := cell_keep a0 al hbw; have b1 := cell_keep a1 al hbw; have b2 := cell_keep a2 al hbw; have b3 := cell_keep a3 al hbw; have c0 := cell_keep l0 ll hbw; have c1 := cell_keep l1 ll hbw
      have HALL := Lib.hid hall
      have HB := Lib.hid hbw
      clear hbw hall
      by_cases hlt : (k : Int) < W * H
      · go_wp2_with fail
        refine (arLeaps_any W H ac up a b k _ HT.out.2 HT.out.1 (by omega)).mono ?_
        rintro e w3 ⟨A1, n1, c1', rfl, hown, hb⟩
        have HN1 := Lib.hid hown.len
        replace HB := Lib.hid (HB.out.trans (hb.mono HB.out.size))
        clear hown hb b0 b1 b2 b3 c0 c1
        by_cases hn : n1 = n0
        · subst hn
          go_wp2
          go_roundw
          case rel => exact ⟨k + 1, by omega, by go_num, (fun j hj => by
            rcases Nat.lt_or_eq_of_le (Nat.le_of_lt_succ hj) with h | h
            · exact HALL.out j h
            · subst h; rw [HN0.out, HN1.out]), HB.out⟩
          case measure => simp [intOf]; omega
        · have hne : ((n1 : Int) != (n0 : Int)) = true := by simp; omega
          have OK := Lib.hid (show sameOk W H ac up a b = false by
            rw [sameOk, hNn, Bool.and_eq_false_iff]
            right
            rw [Bool.eq_false_iff]
            intro h
            have := HSD.out.1 h k (by omega)
            rw [HN0.out, HN1.out] at this
            exact hn this)
          go_wp2
          go_ret2
          exact ⟨by rw [sameAV_no OK.out, OK.out]; rfl, B.out.trans (HB.out.mono B.out.size)⟩
      · have e : k = N := by omega
        subst e
        have OK := Lib.hid (show sameOk W H ac up a b = true by rw [sameOk, hNn, HTT.out, HSD.out.2 HALL.out]; rfl)
        go_wp2
        go_ret2
        exact ⟨by rw [sameAV, OK.out, if_pos rfl, HN0.out]; rfl, B.out.trans (HB.out.mono B.out.size)⟩

set_option maxRecDepth 100000 in
set_option maxHeartbeats 2000000 in
theorem degreesAround_any (W H : Int) (ac up : Bool) (a b : Int) (w : World) (hg : goodA W H = true) (hl : leaperB a b = true) :
    Calls Try.prog 64 #[ard W H ac up, lpr a b] w fun e w' => ∃ A' n' c', e = .returned (.slice A' n' c') ∧ OwnI 3 w' w.heap.size A' n' c' (degL W H ac up a b (W * H).toNat) ∧ Below w.heap.size w w' := by
  have HG := Lib.hid hg; have HL := Lib.hid hl
  have hA := areaA hg
  obtain ⟨A1, A2⟩ := hA
  obtain ⟨N, hN⟩ : ∃ N : Nat, W * H = (N : Int) := ⟨(W * H).toNat, by omega⟩
  have hNn : (W * H).toNat = N := by omega
  have N2 : N ≤ 144 := by omega
  obtain ⟨i0, hi, hz0, hz1, hz2⟩ := info_parts infoI
  have HI := Lib.hid hi; have HZ0 := Lib.hid hz0; have HZ1 := Lib.hid hz1; have HZ2 := Lib.hid hz2
  clear hg hl hi hz0 hz1 hz2
  obtain ⟨W2, hW2⟩ : ∃ W2, W2 = (w.alloc (.cells #[.int .i64 W, .int .i64 H, .bool ac, .bool up] 25)).alloc (.cells #[.int .i64 a, .int .i64 b] 36) := ⟨_, rfl⟩
  have hsz : W2.heap.size = w.heap.size + 2 := by rw [hW2]; simp
  have a0 : W2.cell? ⟨w.heap.size, 0, none⟩ = some (.int .i64 W) := by rw [hW2]; go_simp
  have a1 : W2.cell? ⟨w.heap.size, 1, none⟩ = some (.int .i64 H) := by rw [hW2]; go_simp
  have a2 : W2.cell? ⟨w.heap.size, 2, none⟩ = some (.bool ac) := by rw [hW2]; go_simp
  have a3 : W2.cell? ⟨w.heap.size, 3, none⟩ = some (.bool up) := by rw [hW2]; go_simp
  have al : w.heap.size < W2.heap.size := by omega
  have l0 : W2.cell? ⟨w.heap.size + 1, 0, none⟩ = some (.int .i64 a) := by rw [hW2]; go_simp
  have l1 : W2.cell? ⟨w.heap.size + 1, 1, none⟩ = some (.int .i64 b) := by rw [hW2]; go_simp
  have ll : w.heap.size + 1 < W2.heap.size := by omega
  have B := Lib.hid (show Below w.heap.size w W2 by rw [hW2]; repeat (first | exact Below.refl _ _ | refine below_new ?_ _))
  go_enter Try.func64, Try.ntmps64
  go_wp2_with fail
  rw [← hW2]
  clear hW2
  refine (sizeA_any W H ac up _ HG.out).mono ?_
  rw [hN]
  rintro e ws ⟨rfl, hb⟩
  replace a0 := cell_keep a0 al hb
  replace a1 := cell_keep a1 al hb
  replace a2 := cell_keep a2 al hb
  replace a3 := cell_keep a3 al hb
  replace al := lt_keep al hb
  replace l0 := cell_keep l0 ll hb
  replace l1 := cell_keep l1 ll hb
  replace ll := lt_keep ll hb
  replace B := Lib.hid (below_next B.out hb)
  clear hb
  clear hsz
  go_wp2
  go_loopw [5, 9] (fun v i wr => ∃ (k c' : Nat) (A' : Option Addr), k ≤ N ∧ i = .int .i64 k ∧ v = .slice A' k c' ∧ OwnI 3 wr ws.heap.size A' k c' (degL W H ac up a b k) ∧ Below ws.heap.size ws wr) (fun _ i _ => N - (intOf i).toNat)
  case atStart => exact ⟨0, 0, none, by omega, rfl, rfl, OwnI.none_ _ _ _, Below.refl _ _⟩
  case round =>
    obtain ⟨k, c', A', hk, rfl, rfl, hown, hbw⟩ := hrel
    have HO := Lib.hid hown; have HB := Lib.hid hbw
    have hsw := hbw.size
    by_cases hlt : k < N
    · have b0 := cell_keep a0 al hbw; have b1 := cell_keep a1 al hbw; have b2 := cell_keep a2 al hbw; have b3 := cell_keep a3 al hbw; have c0 := cell_keep l0 ll hbw; have c1 := cell_keep l1 ll hbw
      have hL8 := leapsA_len (W := W) (H := H) (ac := ac) (up := up) (q := (k : Int)) HL.out
      have HS := Lib.hid (degL_succ W H ac up a b k)
      clear hown hbw
      go_wp2_with fail
      refine (leapsAround_any W H ac up a b k _ HG.out HL.out (by omega)).mono ?_
      rintro e w3 ⟨A1, n1, c1', rfl, hown, hb⟩
      have HN1 := Lib.hid hown.len
      have hn8 : n1 ≤ 8 := by have := hown.len; omega
      replace HO := Lib.hid (HO.out.keep hb)
      replace HB := Lib.hid (HB.out.trans (hb.mono HB.out.size)); replace hsw := Nat.le_trans hsw hb.size
      clear hown hb b0 b1 b2 b3 c0 c1 hL8
      go_wp2_with (at_builtin; refine wpList_app1 rfl (.tmp 12) (.tmp 18) 33 3 rfl i0 Try.underlying33 HI.out HZ0.out HZ1.out HZ2.out ws.heap.size A' k c' _ (n1 : Int) rfl HO.out rfl (by omega) hsw ?_; intro A3 c3 w5 hown3 hb5)
      have O3 := Lib.hid hown3; have B3 := Lib.hid (HB.out.trans hb5)
      clear hown3 hb5
      go_wp2
      go_roundw
      case rel => exact ⟨k + 1, c3, A3, by omega, by go_num, rfl, by rw [HS.out, HN1.out]; exact O3.out, B3.out⟩
      case measure => simp [intOf]; omega
    · have e : k = N := by omega
      subst e
      clear hown hbw a0 a1 a2 a3 al l0 l1 ll
      go_wp2
      go_ret
      exact ⟨A', k, c', rfl, by rw [hNn]; exact HO.out.lower B.out.size, B.out.trans (HB.out.mono B.out.size)⟩

set_option maxRecDepth 100000 in
set_option maxHeartbeats 2000000 in
theorem impl_CountLeapsAround (W H : Int) (ac up : Bool) (a b : Int) (w : World) :
    Calls Try.prog 29 #[ard W H ac up, lpr a b] w fun e w' => e = .returned (.tuple #[.int .i64 (cntAV W H ac up a b), .bool (twoA W H a b)]) ∧ Below w.heap.size w w' := by
  obtain ⟨W2, hW2⟩ : ∃ W2, W2 = (w.alloc (.cells #[.int .i64 W, .int .i64 H, .bool ac, .bool up] 25)).alloc (.cells #[.int .i64 a, .int .i64 b] 36) := ⟨_, rfl⟩
  have hsz : W2.heap.size = w.heap.size + 2 := by rw [hW2]; simp
  have a0 : W2.cell? ⟨w.heap.size, 0, none⟩ = some (.int .i64 W) := by rw [hW2]; go_simp
  have a1 : W2.cell? ⟨w.heap.size, 1, none⟩ = some (.int .i64 H) := by rw [hW2]; go_simp
  have a2 : W2.cell? ⟨w.heap.size, 2, none⟩ = some (.bool ac) := by rw [hW2]; go_simp
  have a3 : W2.cell? ⟨w.heap.size, 3, none⟩ = some (.bool up) := by rw [hW2]; go_simp
  have al : w.heap.size < W2.heap.size := by omega
  have l0 : W2.cell? ⟨w.heap.size + 1, 0, none⟩ = some (.int .i64 a) := by rw [hW2]; go_simp
  have l1 : W2.cell? ⟨w.heap.size + 1, 1, none⟩ = some (.int .i64 b) := by rw [hW2]; go_simp
  have ll : w.heap.size + 1 < W2.heap.size := by omega
  have B := Lib.hid (show Below w.heap.size w W2 by rw [hW2]; repeat (first | exact Below.refl _ _ | refine below_new ?_ _))
  have HE := Lib.hid (show (leaperB a b && aroundB W H []) = twoA W H a b by rw [aroundB_nil]; rfl)
  cases ht : twoA W H a b
  · have OK := Lib.hid ht
    go_enter Try.func29, Try.ntmps29
    go_wp2_with fail
    rw [← hW2]
    clear hW2
    refine (isLeaperAround_any W H ac up a b none 0 0 [] _ (Rd.nil _ _)).mono ?_
    rw [HE.out, ht]
    rintro e wv ⟨rfl, hb⟩
    replace a0 := cell_keep a0 al hb
    replace a1 := cell_keep a1 al hb
    replace a2 := cell_keep a2 al hb
    replace a3 := cell_keep a3 al hb
    replace al := lt_keep al hb
    replace l0 := cell_keep l0 ll hb
    replace l1 := cell_keep l1 ll hb
    replace ll := lt_keep ll hb
    replace B := Lib.hid (below_next B.out hb)
    clear hb
    clear HE
    clear a0 a1 a2 a3 l0 l1 al ll
    go_wp2
    go_ret2
    exact ⟨by rw [cntAV_no OK.out]; rfl, B.out⟩
  · have HTT := Lib.hid ht
    have HT := Lib.hid (twoA_iff.1 ht)
    have hA := areaA HT.out.2
    obtain ⟨A1, A2⟩ := hA
    obtain ⟨⟨hW1, hW2b⟩, hH1, hH2⟩ := goodA_iff.1 HT.out.2
    obtain ⟨N, hN⟩ : ∃ N : Nat, W * H = (N : Int) := ⟨(W * H).toNat, by omega⟩
    have hNn : (W * H).toNat = N := by omega
    have N1 : 1 ≤ N := by omega
    have N2 : N ≤ 144 := by omega
    go_enter Try.func29, Try.ntmps29
    go_wp2_with fail
    rw [← hW2]
    clear hW2
    refine (isLeaperAround_any W H ac up a b none 0 0 [] _ (Rd.nil _ _)).mono ?_
    rw [HE.out, ht]
    rintro e wv ⟨rfl, hb⟩
    replace a0 := cell_keep a0 al hb
    replace a1 := cell_keep a1 al hb
    replace a2 := cell_keep a2 al hb
    replace a3 := cell_keep a3 al hb
    replace al := lt_keep al hb
    replace l0 := cell_keep l0 ll hb
    replace l1 := cell_keep l1 ll hb
    replace ll := lt_keep ll hb
    replace B := Lib.hid (below_next B.out hb)
    clear hb
    clear HE
    go_wp2_with fail
    refine (degreesAround_any W H ac up a b _ HT.out.2 HT.out.1).mono ?_
    rintro e wx ⟨A', n', c', rfl, hown, hb⟩
    rw [hNn] at hown
    have HNL := Lib.hid (show n' = N by have := hown.len; rw [degL_len] at this; omega)
    have O := Lib.hid hown
    replace B := Lib.hid (below_next B.out hb)
    have hnn := HNL.out
    subst hnn
    clear a0 a1 a2 a3 l0 l1 al ll
    clear hown hb
    have R := Lib.hid O.out.rd
    go_wp2
    go_loopw [6, 17] (fun v i wr => ∃ k : Nat, k ≤ n' ∧ i = .int .i64 k ∧ v = .int .i64 (sumL (degL W H ac up a b k)) ∧ Below wx.heap.size wx wr) (fun _ i _ => n' - (intOf i).toNat)
    case atStart => exact ⟨0, by omega, rfl, rfl, Below.refl _ _⟩
    case round =>
      obtain ⟨k, hk, rfl, rfl, hbw⟩ := hrel
      have HS := Lib.hid (degL_succ W H ac up a b k); have HSB := degL_sum (W := W) (H := H) (ac := ac) (up := up) HT.out.1 k
      obtain ⟨s, hs⟩ : ∃ s, sumL (degL W H ac up a b k) = s := ⟨_, rfl⟩
      rw [hs] at HSB ⊢
      have HSS := Lib.hid hs
      have HB := Lib.hid hbw
      obtain ⟨s1, s2⟩ := HSB
      clear hs
      by_cases hlt : k < n'
      · obtain ⟨bb, oo, x, rfl, hg1, hx, x0⟩ := R.out.at_ hlt
        replace x0 := cell_keep x0 hg1 hbw
        rw [degL_at hlt] at hx
        injection hx with hx
        have hL8 := leapsA_len (W := W) (H := H) (ac := ac) (up := up) (q := (k : Int)) HT.out.1
        have x8 : x ≤ 8 := by omega
        have x9 : 0 ≤ x := by omega
        have HX := Lib.hid hx
        clear hx hL8 hbw hg1
        go_wp2
        go_roundw
        case rel => exact ⟨k + 1, by omega, by go_num, by rw [HS.out, sumL_snoc, HSS.out, HX.out], HB.out⟩
        case measure => simp [intOf]; omega
      · have e : k = n' := by omega
        subst e
        clear hbw
        go_wp2
        go_ret2
        exact ⟨by rw [cntAV, HTT.out, hNn, HSS.out]; rfl, B.out.trans (HB.out.mono B.out.size)⟩

set_option maxRecDepth 100000 in
set_option maxHeartbeats 2000000 in
theorem impl_SameDegree (W H : Int) (ac up : Bool) (a b : Int) (w : World) :
    Calls Try.prog 31 #[ard W H ac up, lpr a b] w fun e w' => e = .returned (.tuple #[.int .i64 (sameAV W H ac up a b), .bool (sameOk W H ac up a b)]) ∧ Below w.heap.size w w' := by
  obtain ⟨W2, hW2⟩ : ∃ W2, W2 = (w.alloc (.cells #[.int .i64 W, .int .i64 H, .bool ac, .bool up] 25)).alloc (.cells #[.int .i64 a, .int .i64 b] 36) := ⟨_, rfl⟩
  have hsz : W2.heap.size = w.heap.size + 2 := by rw [hW2]; simp
  have a0 : W2.cell? ⟨w.heap.size, 0, none⟩ = some (.int .i64 W) := by rw [hW2]; go_simp
  have a1 : W2.cell? ⟨w.heap.size, 1, none⟩ = some (.int .i64 H) := by rw [hW2]; go_simp
  have a2 : W2.cell? ⟨w.heap.size, 2, none⟩ = some (.bool ac) := by rw [hW2]; go_simp
  have a3 : W2.cell? ⟨w.heap.size, 3, none⟩ = some (.bool up) := by rw [hW2]; go_simp
  have al : w.heap.size < W2.heap.size := by omega
  have l0 : W2.cell? ⟨w.heap.size + 1, 0, none⟩ = some (.int .i64 a) := by rw [hW2]; go_simp
  have l1 : W2.cell? ⟨w.heap.size + 1, 1, none⟩ = some (.int .i64 b) := by rw [hW2]; go_simp
  have ll : w.heap.size + 1 < W2.heap.size := by omega
  have B := Lib.hid (show Below w.heap.size w W2 by rw [hW2]; repeat (first | exact Below.refl _ _ | refine below_new ?_ _))
  have HE := Lib.hid (show (leaperB a b && aroundB W H []) = twoA W H a b by rw [aroundB_nil]; rfl)
  cases ht : twoA W H a b
  · have OK := Lib.hid (show sameOk W H ac up a b = false by rw [sameOk, ht]; rfl)
    go_enter Try.func31, Try.ntmps31
    go_wp2_with fail
    rw [← hW2]
    clear hW2
    refine (isLeaperAround_any W H ac up a b none 0 0 [] _ (Rd.nil _ _)).mono ?_
    rw [HE.out, ht]
    rintro e wv ⟨rfl, hb⟩
    replace a0 := cell_keep a0 al hb
    replace a1 := cell_keep a1 al hb
    replace a2 := cell_keep a2 al hb
    replace a3 := cell_keep a3 al hb
    replace al := lt_keep al hb
    replace l0 := cell_keep l0 ll hb
    replace l1 := cell_keep l1 ll hb
    replace ll := lt_keep ll hb
    replace B := Lib.hid (below_next B.out hb)
    clear hb
    clear HE
    clear a0 a1 a2 a3 l0 l1 al ll
    go_wp2
    go_ret2
    exact ⟨by rw [sameAV_no OK.out, OK.out]; rfl, B.out⟩
  · have HTT := Lib.hid ht
    have HT := Lib.hid (twoA_iff.1 ht)
    have hA := areaA HT.out.2
    obtain ⟨A1, A2⟩ := hA
    obtain ⟨⟨hW1, hW2b⟩, hH1, hH2⟩ := goodA_iff.1 HT.out.2
    obtain ⟨N, hN⟩ : ∃ N : Nat, W * H = (N : Int) := ⟨(W * H).toNat, by omega⟩
    have hNn : (W * H).toNat = N := by omega
    have N1 : 1 ≤ N := by omega
    have N2 : N ≤ 144 := by omega
    go_enter Try.func31, Try.ntmps31
    go_wp2_with fail
    rw [← hW2]
    clear hW2
    refine (isLeaperAround_any W H ac up a b none 0 0 [] _ (Rd.nil _ _)).mono ?_
    rw [HE.out, ht]
    rintro e wv ⟨rfl, hb⟩
    replace a0 := cell_keep a0 al hb
    replace a1 := cell_keep a1 al hb
    replace a2 := cell_keep a2 al hb
    replace a3 := cell_keep a3 al hb
    replace al := lt_keep al hb
    replace l0 := cell_keep l0 ll hb
    replace l1 := cell_keep l1 ll hb
    replace ll := lt_keep ll hb
    replace B := Lib.hid (below_next B.out hb)
    clear hb
    clear HE
    go_wp2_with fail
    refine (degreesAround_any W H ac up a b _ HT.out.2 HT.out.1).mono ?_
    rintro e wx ⟨A', n', c', rfl, hown, hb⟩
    rw [hNn] at hown
    have HNL := Lib.hid (show n' = N by have := hown.len; rw [degL_len] at this; omega)
    have O := Lib.hid hown
    replace B := Lib.hid (below_next B.out hb)
    have hnn := HNL.out
    subst hnn
    clear a0 a1 a2 a3 l0 l1 al ll
    clear hown hb
    obtain ⟨g1, rfl, hg1, hg2⟩ := O.out.some_ (k := 0) (by omega)
    have x0 := O.out.cell (degL_at (W := W) (H := H) (a := a) (b := b) (ac := ac) (up := up) (show 0 < n' by omega))
    have HX := Lib.hid (show ((0 : Nat) : Int) = 0 from rfl)
    rw [HX.out] at x0
    have hcap := O.out.cap
    cases hsm : sameL (degL W H ac up a b n')
    · have OK := Lib.hid (show sameOk W H ac up a b = false by rw [sameOk, hNn, hsm, Bool.and_false])
      go_wp2_with fail
      refine (areSame_any _ g1 n' c' _ _ O.out ⟨by omega, by omega⟩).mono ?_
      rw [hsm]
      rintro e w9 ⟨rfl, rfl⟩
      go_wp2
      go_ret2
      exact ⟨by rw [sameAV_no OK.out, OK.out]; rfl, B.out⟩
    · have OK := Lib.hid (show sameOk W H ac up a b = true by rw [sameOk, hNn, hsm, HTT.out]; rfl)
      go_wp2_with fail
      refine (areSame_any _ g1 n' c' _ _ O.out ⟨by omega, by omega⟩).mono ?_
      rw [hsm]
      rintro e w9 ⟨rfl, rfl⟩
      go_wp2
      go_ret2
      exact ⟨by rw [sameAV, OK.out, if_pos rfl]; rfl, B.out⟩

end Go.Proofs.Ytaliknhfcdmohaa
