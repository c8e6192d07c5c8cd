/-
  Contracts: leaps onward around, as a map; DistanceAround.
  Contracts: arrays of distances: the greatest one, how many cells have each of them.
  Contracts: the distance of two cells; DistanceAround.
  Contracts: CountByAround, in the model and in the program.
  The walk of the exact law on CountByAround: it answers true, and what was there stays.
-/
import Derived.Test.YtaliknhfcdmohaaOL
import Derived.Test.YtaliknhfcdmohaaT3
import Derived.Test.YtaliknhfcdmohaaQ4
import Derived.Test.YtaliknhfcdmohaaShelf
import Derived.Test.YtaliknhfcdmohaaApp
import Derived.Deep.MidRow
import Derived.Deep.WholeRow
import Derived.Test.YtaliknhfcdmohaaLaw0
namespace Go.Proofs.Ytaliknhfcdmohaa
open Go.RowKit


set_option maxRecDepth 100000 in
set_option maxHeartbeats 2000000 in
theorem onwardAround_any (W H : Int) (ac up : Bool) (a b : Int) (w : World) (hg : goodA W H = true) (hl : leaperB a b = true) :
    Calls Try.prog 67 #[ard W H ac up, lpr a b] w fun e w' => ∃ mb, e = .returned (.map (some mb)) ∧ OnMap w' w.heap.size mb (upTo (W * H).toNat) (leapsA W H ac up a b) ∧ Below w.heap.size w w' := by
  have HG := Lib.hid hg; have HL := Lib.hid hl
  have hA := areaA hg
  obtain ⟨A1, A2⟩ := hA
  obtain ⟨N, hN⟩ : ∃ N : Nat, W * H = (N : Int) := ⟨(W * H).toNat, by omega⟩
  have hNn := Lib.hid (show (W * H).toNat = N by omega)
  have HWH := Lib.hid hN
  have N2 : N ≤ 144 := by omega
  have HSZ := Lib.hid (fun w' => sizeA_any W H ac up w' hg)
  rw [hN] at HSZ
  clear hg hl hN A1 A2
  obtain ⟨W2, hW2⟩ : ∃ W2, W2 = ((w.alloc (.cells #[.int .i64 W, .int .i64 H, .bool ac, .bool up] 25)).alloc (.cells #[.int .i64 a, .int .i64 b] 36)).alloc (.map #[] 0) := ⟨_, rfl⟩
  have hsz : W2.heap.size = w.heap.size + 3 := by rw [hW2]; simp
  have a0 : W2.cell? ⟨w.heap.size, 0, none⟩ = some (.int .i64 W) := by rw [hW2]; go_simp
  have a1 : W2.cell? ⟨w.heap.size, 1, none⟩ = some (.int .i64 H) := by rw [hW2]; go_simp
  have a2 : W2.cell? ⟨w.heap.size, 2, none⟩ = some (.bool ac) := by rw [hW2]; go_simp
  have a3 : W2.cell? ⟨w.heap.size, 3, none⟩ = some (.bool up) := by rw [hW2]; go_simp
  have al : w.heap.size < W2.heap.size := by omega
  have l0 : W2.cell? ⟨w.heap.size + 1, 0, none⟩ = some (.int .i64 a) := by rw [hW2]; go_simp
  have l1 : W2.cell? ⟨w.heap.size + 1, 1, none⟩ = some (.int .i64 b) := by rw [hW2]; go_simp
  have ll : w.heap.size + 1 < W2.heap.size := by omega
  have B := Lib.hid (show Below w.heap.size w W2 by rw [hW2]; repeat (first | exact Below.refl _ _ | refine below_new ?_ _))
  have MP := Lib.hid (show MapI Try.prog 3 W2 (w.heap.size + 1 + 1) 0 (.slice none 0 0) (fun _ => .slice none 0 0) by
    rw [hW2]
    have := MapI.made Try.prog 3 ((w.alloc (.cells #[.int .i64 W, .int .i64 H, .bool ac, .bool up] 25)).alloc (.cells #[.int .i64 a, .int .i64 b] 36)) (.slice none 0 0)
    simpa using this)
  have hmm := @run_makeMap Try.prog
  go_enter Try.func67, Try.ntmps67
  go_wp2_with fail
  rw [← hW2]
  obtain ⟨mb, hmb⟩ : ∃ mb, mb = w.heap.size + 1 + 1 := ⟨_, rfl⟩
  rw [← hmb] at MP ⊢
  have hmb1 : w.heap.size + 2 ≤ mb := by omega
  have hmb2 : mb < W2.heap.size := by omega
  clear hW2 hmm hmb hsz
  refine (HSZ.out _).mono ?_
  rintro e ws ⟨rfl, hb⟩
  replace a0 := cell_keep a0 al hb
  replace a1 := cell_keep a1 al hb
  replace a2 := cell_keep a2 al hb
  replace a3 := cell_keep a3 al hb
  replace al := lt_keep al hb
  replace l0 := cell_keep l0 ll hb
  replace l1 := cell_keep l1 ll hb
  replace ll := lt_keep ll hb
  replace B := Lib.hid (below_next B.out hb)
  replace MP := Lib.hid (MP.out.keep hb)
  have hmlt : mb < ws.heap.size := Nat.lt_of_lt_of_le hmb2 hb.size
  clear hb
  go_wp2
  go_loopw [10] (fun i wr => ∃ (k : Nat) (f : Int → Value), k ≤ N ∧ i = .int .i64 k ∧ MapI Try.prog 3 wr mb k (.slice none 0 0) f ∧ (∀ x ∈ upTo k, RowAt wr w.heap.size mb (f x) (leapsA W H ac up a b x)) ∧ ws.grownBy wr (some mb)) (fun i _ => N - (intOf i).toNat)
  case atStart => exact ⟨0, _, by omega, rfl, MP.out, (fun x hx => by simp [upTo] at hx), grown_refl _ _⟩
  case round =>
    obtain ⟨k, f, hk, rfl, hm, hrows, hgw⟩ := hrel
    have hBw : Below w.heap.size w wr := B.out.trans (below_of_grown hgw (by omega) (fun g h => by injection h with h; omega))
    have HM := Lib.hid hm; have HR := Lib.hid hrows
    have HGW := Lib.hid hgw
    have hsw := hgw.size
    clear hm hrows
    by_cases hlt : k < N
    · have b0 := hgw.cell a0 (by simp; omega); have b1 := hgw.cell a1 (by simp; omega); have b2 := hgw.cell a2 (by simp; omega); have b3 := hgw.cell a3 (by simp; omega); have c0 := hgw.cell l0 (by simp; omega); have c1 := hgw.cell l1 (by simp; omega)
      have HBW := Lib.hid hBw
      clear hgw hBw
      go_wp2_with fail
      refine (leapsAround_any W H ac up a b (k : Int) _ HG.out HL.out ⟨by omega, by rw [HWH.out]; omega⟩).mono ?_
      rintro e wv ⟨A3, n3, c3, rfl, hl3, hb⟩
      have hn3 : n3 ≤ 64 := by have h1 := leapsA_len (W := W) (H := H) (ac := ac) (up := up) (q := (k : Int)) HL.out; have h2 := hl3.len; omega
      have HL3 := Lib.hid hl3
      replace HM := Lib.hid (HM.out.keep hb)
      replace HR := Lib.hid (fun y hy => (HR.out y hy).keep hb)
      replace HGW := Lib.hid (grown_next HGW.out (grown_of_below hb (some mb)))
      have hsv := hb.size
      clear hl3 hb b0 b1 b2 b3 c0 c1
      go_wp2_with (at_mapUpdate; refine wpList_update rfl (.tmp 13) (.tmp 14) (.tmp 18) rfl Try.underlying3 Try.underlying71 rfl HM.out (by omega) (k : Int) (.slice A3 n3 c3) rfl rfl (wf_small ⟨by omega, by omega⟩) ?_; intro w2 hm2 hg2)
      have HM2 := Lib.hid hm2; have HG2 := Lib.hid hg2
      clear hm2 hg2
      go_wp2
      go_roundw
      case rel =>
        refine ⟨k + 1, _, by omega, by go_num, HM2.out, fun y hy => ?_, grown_next HGW.out HG2.out⟩
        rw [upTo_mem] at hy
        by_cases hne : y = (k : Int)
        · subst hne
          rw [if_pos rfl]
          have hrow : RowAt _ w.heap.size mb (.slice A3 n3 c3) (leapsA W H ac up a b k) := ⟨A3, n3, c3, rfl, HL3.out.rd, hn3, fun z hz => by
            rcases HL3.out.form with ⟨h, _⟩ | ⟨g, h, h2, h3, _⟩
            · rw [h] at hz; cases hz
            · rw [h] at hz; injection hz with hz; rw [← hz]; exact ⟨by show w.heap.size ≤ g; omega, h3, by show g ≠ mb; omega⟩⟩
          exact hrow.other HG2.out
        · rw [if_neg hne]
          exact (HR.out y (upTo_mem.2 ⟨hy.1, by omega⟩)).other HG2.out
      case measure => simp [intOf]; omega
    · have ek : k = N := by omega
      subst ek
      have HBW := Lib.hid hBw
      have HRR := Lib.hid (show OnMap wr w.heap.size mb (upTo k) (leapsA W H ac up a b) from ⟨by omega, k, f, by omega, HM.out, HR.out⟩)
      clear hBw hgw
      go_wp2
      go_ret
      exact ⟨mb, rfl, by rw [hNn.out]; exact HRR.out, HBW.out⟩

end Go.Proofs.Ytaliknhfcdmohaa

namespace Go.Proofs.Ytaliknhfcdmohaa
open Go.RowKit

theorem cell_laid (w : World) (L : List Int) (E : TypeId) : ∀ j, j < L.length → (w.alloc (.cells (L.map (Value.int .i64)).toArray E)).cell? ⟨w.heap.size, 0 + j, none⟩ = some (.int .i64 (L.getD j 0)) := by
  intro j hj
  have h := newbox (w := w) (w' := w.alloc (.cells (L.map (Value.int .i64)).toArray E)) (cs := (L.map (Value.int .i64)).toArray) (t := E) (Below.refl _ _) j
  rw [Nat.zero_add, h, ← Array.getElem?_toList, List.toList_toArray, List.getElem?_map, List.getElem?_eq_getElem hj, List.getD_eq_getElem?_getD, List.getElem?_eq_getElem hj]
  rfl
theorem range_laid (w : World) (L : List Int) (E : TypeId) : (w.alloc (.cells (L.map (Value.int .i64)).toArray E)).rangeAt w.heap.size 0 (L.map (Value.int .i64)) := fun j v hv => by
  have h := newbox (w := w) (w' := w.alloc (.cells (L.map (Value.int .i64)).toArray E)) (cs := (L.map (Value.int .i64)).toArray) (t := E) (Below.refl _ _) j
  rw [Nat.zero_add, h, ← Array.getElem?_toList, List.toList_toArray]; exact hv
theorem range_keep {w w' : World} {g o : Nat} {cs : List Value} (h : w.rangeAt g o cs) (hg : g < w.heap.size) (hb : Below w.heap.size w w') : w'.rangeAt g o cs := fun j v hv => cell_keep (h j v hv) hg hb
theorem range_cells {w : World} {g : Nat} {L : List Int} (h : ∀ j, j < L.length → w.cell? ⟨g, 0 + j, none⟩ = some (.int .i64 (L.getD j 0))) : w.rangeAt g 0 (L.map (Value.int .i64)) := fun j v hv => by
  rw [List.getElem?_map] at hv
  cases hj : L[j]? with
  | none => rw [hj] at hv; cases hv
  | some y =>
    rw [hj] at hv
    injection hv with hv
    have hjl : j < L.length := (List.getElem?_eq_some_iff.1 hj).1
    rw [← hv, h j hjl, List.getD_eq_getElem?_getD, hj]; rfl
theorem bump_bd (D : List Int) (m : Nat) : ∀ (k : Nat) (v : Int), v ∈ (D.take k).foldl bumpStep (List.replicate m 0) → 0 ≤ v ∧ v ≤ (k : Int)
  | 0, v, h => by
    rw [List.take_zero] at h
    have := (List.mem_replicate.1 h).2; omega
  | k + 1, v, h => by
    cases hx : D[k]? with
    | none =>
      rw [List.take_add_one, hx] at h
      have := bump_bd D m k v (by simpa using h); omega
    | some x =>
      rw [take_foldl bumpStep hx] at h
      have key : ∀ u, u ∈ (D.take k).foldl bumpStep (List.replicate m 0) → 0 ≤ u ∧ u ≤ (k : Int) := bump_bd D m k
      generalize (D.take k).foldl bumpStep (List.replicate m 0) = O0 at h key
      rw [bumpStep] at h
      split at h
      · have := key v h; omega
      · rw [bump] at h
        rcases List.mem_or_eq_of_mem_set h with h | h
        · have := key v h; omega
        · rw [List.getD_eq_getElem?_getD] at h
          cases he : O0[x.toNat]? with
          | none => rw [he] at h; simp at h; omega
          | some u => rw [he] at h; simp at h; have := key u (List.mem_of_getElem? he); omega

theorem run_whole (g : Nat) (w : World) :
    (Instr.sliceAt 75 (.pointer (some ⟨g, 0, none⟩)) none none none).run Try.prog w = .ok (.slice (some ⟨g, 0, none⟩) 144 144) w := by
  have hl : Try.prog.arrayLen 75 = 144 := by kernel_rfl
  have he : Try.prog.elem 75 = 3 := by kernel_rfl
  have hu : Try.prog.underlying 75 = some (.array (Try.prog.arrayLen 75) (Try.prog.elem 75)) := by rw [hl, he]; exact Try.underlying75
  rw [run_sliceAt_array_all w _ _ hu, he, Try.sizeOf3, hl]
  simp [slicedAt]
  rfl

set_option maxRecDepth 100000 in
set_option maxHeartbeats 2000000 in
theorem greatest_any (L : List Int) (h64 : L.length = 144) (w : World) :
    Calls Try.prog 99 #[.agg (L.map (Value.int .i64)).toArray] w fun e w' => e = .returned (.int .i64 (Go.Lib.maxOf L)) ∧ Below w.heap.size w w' := by
  obtain ⟨W1, hW1⟩ : ∃ W1, W1 = w.alloc (.cells (L.map (Value.int .i64)).toArray 75) := ⟨_, rfl⟩
  have hcs := cell_laid w L 75
  rw [← hW1] at hcs
  have HCS := Lib.hid hcs; have HL := Lib.hid h64
  have B := Lib.hid (show Below w.heap.size w W1 by rw [hW1]; exact below_new (Below.refl _ _) _)
  have hsl := fun w' => run_whole w.heap.size w'
  obtain ⟨V, hV⟩ : ∃ V, V = L.map (Value.int .i64) := ⟨_, rfl⟩
  rw [← hV] at hW1 ⊢
  clear hcs h64 hV
  go_enter Try.func99, Try.ntmps99
  go_wp2_with fail
  rw [← hW1]
  clear hW1
  refine (Try.slices_Max_int w.heap.size 0 144 144 L _ (by omega) (by have := HL.out; omega) (by omega) HCS.out).mono ?_
  rintro e wz ⟨rfl, rfl⟩
  go_wp2
  go_ret
  exact ⟨ret_int (by rw [List.take_of_length_le (by have := HL.out; omega)]), B.out⟩

theorem most_max {D L : List Int} {j m : Nat} (M : IsMost D j) (h : L = D ++ List.replicate m (-1)) : Go.Lib.maxOf L = D.getD j (-1) := by
  have hj := M.lt
  have e : D.getD j (-1) = D[j] := by rw [List.getD_eq_getElem?_getD, List.getElem?_eq_getElem hj]; rfl
  refine max_of ?_ ?_ ?_
  · intro h0; rw [h0] at h; have := congrArg List.length h; simp at this; omega
  · rw [h, e]; exact List.mem_append_left _ (List.getElem_mem hj)
  · intro x hx
    rw [h] at hx
    rcases List.mem_append.1 hx with hx | hx
    · obtain ⟨i, hi, rfl⟩ := List.getElem_of_mem hx
      have := M.le i
      rwa [List.getD_eq_getElem?_getD, List.getElem?_eq_getElem hi] at this
    · have := (List.mem_replicate.1 hx).2; have := M.nn; omega
theorem run_farK (L : List Int) (_hl : L.length = 144) (q : Nat) (hq : q < 144) (v : Int) (hv : L[q]? = some v) (w : World) :
    (Instr.index 75 (.agg (L.map (Value.int .i64)).toArray) (.int .i64 (q : Int))).run Try.prog w = .ok (.int .i64 v) w := by
  have hu := Try.underlying75
  have hz := Try.sizeOf3
  have ha := Try.isAgg3
  simp [Instr.index, run_underlying hu, asIntOf, go_sem]
  rw [if_pos hq, hv]
  rfl

set_option maxRecDepth 100000 in
set_option maxHeartbeats 4000000 in
theorem counts_any (L C : List Int) (gn : Nat) (w : World) (hl : L.length = 144) (hbnd : ∀ x ∈ L, -1 ≤ x ∧ x ≤ (gn : Int)) (hmx : Go.Lib.maxOf L = (gn : Int)) (hg : gn ≤ 144) (hC : L.foldl bumpStep (List.replicate (gn + 1) 0) = C) :
    Calls Try.prog 70 #[.agg (L.map (Value.int .i64)).toArray] w fun e w' => ∃ A' n' c', e = .returned (.slice A' n' c') ∧ OwnI 3 w' w.heap.size A' n' c' C ∧ Below w.heap.size w w' := by
  obtain ⟨i0, hi, hz0, hz1, hz2⟩ := info_parts infoI
  have HI := Lib.hid hi; have HZ0 := Lib.hid hz0; have HZ1 := Lib.hid hz1; have HZ2 := Lib.hid hz2
  clear hi hz0 hz1 hz2
  have HGR := Lib.hid (fun w' => greatest_any L hl w')
  rw [hmx] at HGR
  have HIX := Lib.hid (fun (k : Nat) (hk : k < 144) (x : Int) (hx : L[k]? = some x) (w' : World) => run_farK L hl k hk x hx w')
  have HIN := Lib.hid (show (Try.prog.info? 75).map (·.size) = some (L.map (Value.int .i64)).length from infoD.trans (by rw [List.length_map, hl]))
  have HRL := Lib.hid (range_laid w L 75)
  have H64 := Lib.hid hl; have HLM := Lib.hid hbnd; have HCC := Lib.hid hC
  obtain ⟨V, hV⟩ : ∃ V, V = L.map (Value.int .i64) := ⟨_, rfl⟩
  rw [← hV] at HGR HIX HIN HRL ⊢
  obtain ⟨W3, hW3⟩ : ∃ W3, W3 = w.alloc (.cells V.toArray 75) := ⟨_, rfl⟩
  rw [← hW3] at HRL
  have B := Lib.hid (show Below w.heap.size w W3 by rw [hW3]; exact below_new (Below.refl _ _) _)
  have hs3 : w.heap.size < W3.heap.size := by rw [hW3]; simp
  obtain ⟨gx, hgx⟩ : ∃ gx, gx = w.heap.size := ⟨_, rfl⟩
  rw [← hgx] at HRL
  have HGX := Lib.hid hgx
  have hrg := HRL.out
  clear hl hbnd hmx hC hV
  go_enter Try.func70, Try.ntmps70
  go_upto_region 1 with fail
  rw [← hW3, ← hgx]
  rw [← hgx] at hs3
  clear hW3 hgx
  go_wp2_with (refine wpList_load_mid rfl 75 (.tmp 1) rfl gx 0 rfl V _ hrg Try.underlying75 rfl HIN.out ?_)
  refine (HGR.out _).mono ?_
  rintro e w5 ⟨rfl, hb⟩
  have hrg5 : w5.rangeAt gx 0 V := range_keep hrg hs3 hb
  have hs5 : gx < w5.heap.size := Nat.lt_of_lt_of_le hs3 hb.size
  have HRG := Lib.hid hrg5
  replace B := Lib.hid (B.out.trans (hb.mono B.out.size))
  clear hb hrg hrg5 HRL
  go_wp2_with (first | (at_make; refine wpList_make_full _ rfl _ _ 33 rfl w5.heap.size 3 i0 (.int .i64 0) 1 Try.underlying33 HI.out HZ0.out HZ1.out .i64 .i64 _ _ (gn + 1) rfl rfl (by first | rfl | omega) (by first | rfl | omega) (by rw [HZ2.out]; omega) (by unfold maxLen; omega) (by simp) ?_; intro w6 hown6 hg6; have hrg6 : w6.rangeAt gx 0 V := range_keep HRG.out (by omega) (below_of_grown hg6 (Nat.le_refl _) (fun g h => by cases h))) | (refine wpList_load_mid rfl 75 (.tmp 1) rfl gx 0 rfl V _ hrg6 Try.underlying75 rfl HIN.out ?_))
  have hO6 : OwnI 3 w6 w5.heap.size (some ⟨w5.heap.size, 0, none⟩) (gn + 1) (gn + 1) (List.replicate (gn + 1) 0) := by
    unfold OwnI
    rw [show (gn + 1) * 1 = gn + 1 from by omega] at hown6
    have e : (madeCells (Value.cells (.int .i64 0)) (gn + 1)).toList = List.replicate (gn + 1) (.int .i64 0) := toList_madeCells_one (.int .i64 0) (gn + 1)
    rw [e] at hown6
    simpa using hown6
  have HO6 := Lib.hid hO6
  have HB6 := Lib.hid (below_of_grown hg6 (Nat.le_refl _) (fun g h => by cases h))
  clear hown6 hO6 hg6 hrg6 HRG HIN HGR
  generalize (Value.agg V.toArray) = LV at *
  go_loopw [11] (fun i wr => ∃ k : Nat, k ≤ 144 ∧ i = .int .i64 k ∧ OwnI 3 wr w5.heap.size (some ⟨w5.heap.size, 0, none⟩) (gn + 1) (gn + 1) ((L.take k).foldl bumpStep (List.replicate (gn + 1) 0)) ∧ Below w5.heap.size w5 wr) (fun i _ => 144 - (intOf i).toNat)
  case atStart => exact ⟨0, by omega, rfl, by rw [List.take_zero, List.foldl_nil]; exact HO6.out, HB6.out⟩
  case round =>
    clear HB6 HO6
    obtain ⟨k, hk, rfl, hown, hbw⟩ := hrel
    have hbsz := hbw.size
    by_cases hlt : k < 144
    · obtain ⟨x, hx⟩ : ∃ x, L[k]? = some x := ⟨_, List.getElem?_eq_getElem (show k < L.length by have := H64.out; omega)⟩
      have HXB := Lib.hid (HLM.out x (List.mem_of_getElem? hx))
      have hix := HIX.out k hlt x hx
      have hst := take_foldl bumpStep hx (List.replicate (gn + 1) 0)
      have hbd : ∀ v, v ∈ (L.take k).foldl bumpStep (List.replicate (gn + 1) 0) → 0 ≤ v ∧ v ≤ (k : Int) := bump_bd L (gn + 1) k
      obtain ⟨O0, hO0⟩ : ∃ O0, O0 = (L.take k).foldl bumpStep (List.replicate (gn + 1) 0) := ⟨_, rfl⟩
      rw [← hO0] at hown hst hbd
      have ST := Lib.hid hst
      clear hx hst hO0
      by_cases hm : x = -1
      · subst hm
        have HO := Lib.hid hown; have HB := Lib.hid hbw
        clear hown hbw hbd
        go_wp2
        go_roundw
        case rel => exact ⟨k + 1, by omega, by go_num, by rw [ST.out, bumpStep, if_pos (by omega)]; exact HO.out, HB.out⟩
        case measure => simp [intOf]; omega
      · have hm' : (x != -1) = true := by simpa using hm
        obtain ⟨xn, rfl⟩ : ∃ xn : Nat, x = (xn : Int) := ⟨x.toNat, by have := HXB.out; omega⟩
        have hx0 : (0 : Int) ≤ (xn : Int) := by omega
        have hx1 : (xn : Int) < ((gn + 1 : Nat) : Int) := by have := HXB.out; omega
        obtain ⟨v, hv⟩ : ∃ v, O0[xn]? = some v := ⟨_, List.getElem?_eq_getElem (by have := HXB.out; have := hown.len; omega)⟩
        have cv := hown.cell hv
        have fv := hown.frozen xn
        obtain ⟨o1, g1⟩ := hown.stored xn (v + 1)
        have hvb := hbd v (List.mem_of_getElem? hv)
        have HO3 := Lib.hid o1
        have HB3 := Lib.hid (hbw.trans (below_of_grown g1 hbsz (fun g h => by injection h with h; omega)))
        have ES : Hid (O0.set xn (v + 1) = (L.take (k + 1)).foldl bumpStep (List.replicate (gn + 1) 0)) := Lib.hid (by rw [ST.out, bumpStep, if_neg (by omega), bump, Int.toNat_natCast, List.getD_eq_getElem?_getD, hv]; rfl)
        clear hown hbw o1 g1 hv hbd
        go_wp2
        go_roundw
        case rel => exact ⟨k + 1, by omega, by go_num, by rw [← ES.out]; exact HO3.out, HB3.out⟩
        case measure => simp [intOf]; omega
    · obtain rfl : k = 144 := by omega
      have eL : (L.take 144).foldl bumpStep (List.replicate (gn + 1) 0) = C := by rw [List.take_of_length_le (by have := H64.out; omega), HCC.out]
      rw [eL] at hown
      have HO := Lib.hid (hown.lower (show w.heap.size ≤ w5.heap.size by have := HGX.out; omega)); have HB := Lib.hid (below_next B.out hbw)
      clear hown hbw eL
      go_wp2
      go_ret
      exact ⟨_, _, _, rfl, HO.out, HB.out⟩

end Go.Proofs.Ytaliknhfcdmohaa

namespace Go.Proofs.Ytaliknhfcdmohaa
open Go.RowKit

def distA (W H : Int) (ac up : Bool) (a b p : Int) : List Int := farL (leapsA W H ac up a b) (W * H).toNat p
def distAV (W H : Int) (ac up : Bool) (a b p q : Int) : Int := (distA W H ac up a b p).getD q.toNat (-1)
/-- What holds where there are a leaper and a board around. -/
structure ArFacts (W H : Int) (a b : Int) (N : Nat) : Prop where
  g : goodA W H = true
  l : leaperB a b = true
  wh : W * H = (N : Int)
  n : 1 ≤ N ∧ N ≤ 144
theorem ar_facts {W H a b : Int} (h : twoA W H a b = true) : ArFacts W H a b (W * H).toNat := by
  obtain ⟨h1, h2⟩ := twoA_iff.1 h
  have := areaA h2
  exact ⟨h2, h1, by omega, by omega⟩
theorem ArFacts.nat {W H a b : Int} {N : Nat} (h : ArFacts W H a b N) : (W * H).toNat = N := by have := h.wh; omega
theorem adjA_in {W H a b : Int} {ac up : Bool} {N : Nat} (h : ArFacts W H a b N) : ∀ x, ∀ y ∈ leapsA W H ac up a b x, y ∈ upTo N := fun _ _ hy => upTo_mem.2 (leapsA_in h.wh hy)
theorem distA_len {W H a b p : Int} {ac up : Bool} {N : Nat} (h : ArFacts W H a b N) (hp : 0 ≤ p ∧ p < N) : (distA W H ac up a b p).length = N := by
  rw [distA, h.nat]
  exact (bfs_ok (adj := leapsA W H ac up a b) (N := N) (start := p) hp (fun c _ x hx => leapsA_in h.wh hx) N).len
theorem far144 {W H a b p : Int} {ac up : Bool} {N : Nat} (h : ArFacts W H a b N) (hp : 0 ≤ p ∧ p < N) : farL (leapsA W H ac up a b) 144 p = distA W H ac up a b p ++ List.replicate (144 - N) (-1) := by
  rw [distA, h.nat, ← far_pad (M := 144 - N) hp (fun c _ x hx => leapsA_in h.wh hx), show N + (144 - N) = 144 by have := h.n; omega]
theorem distA_at {W H a b p : Int} {ac up : Bool} {N : Nat} (h : ArFacts W H a b N) (hp : 0 ≤ p ∧ p < N) {qn : Nat} (hq : qn < N) :
    (distA W H ac up a b p)[qn]? = some (distAV W H ac up a b p (qn : Int)) ∧ -1 ≤ distAV W H ac up a b p (qn : Int) ∧ distAV W H ac up a b p (qn : Int) ≤ 144 := by
  have hlen := distA_len (ac := ac) (up := up) h hp
  have hx : (distA W H ac up a b p)[qn]? = some (distA W H ac up a b p)[qn] := List.getElem?_eq_getElem (by omega)
  have hv : distAV W H ac up a b p (qn : Int) = (distA W H ac up a b p)[qn] := by rw [distAV, Int.toNat_natCast, List.getD_eq_getElem?_getD, hx]; rfl
  rw [hv]
  refine ⟨hx, ?_⟩
  have hb := (bfs_ok (adj := leapsA W H ac up a b) (N := N) (start := p) hp (fun c _ x hx => leapsA_in h.wh hx) N).lo qn (distA W H ac up a b p)[qn] (by rw [← hx, distA, h.nat]; rfl)
  have := h.n; omega
def dAns (d : Int) : Int := if d = -1 then 0 else d
def dOk (d : Int) : Bool := !(d == -1)
theorem dOk_eq {d : Int} (h : -1 ≤ d) : dOk d = decide (0 ≤ d) := by rw [dOk, Bool.eq_iff_iff]; simp; omega
theorem dAns_eq {d : Int} (h : -1 ≤ d) : dAns d = if decide (0 ≤ d) = true then d else 0 := by
  unfold dAns
  by_cases h2 : d = -1
  · rw [if_pos h2, if_neg (by simp; omega)]
  · rw [if_neg h2, if_pos (by simp; omega)]
def okDA (W H : Int) (ac up : Bool) (a b p q : Int) : Bool := leaperB a b && cellA W H p && cellA W H q && decide (0 ≤ distAV W H ac up a b p q)
def disV (W H : Int) (ac up : Bool) (a b p q : Int) : Int := if okDA W H ac up a b p q then distAV W H ac up a b p q else 0
theorem disV_no {W H a b p q : Int} {ac up : Bool} (h : okDA W H ac up a b p q = false) : disV W H ac up a b p q = 0 := by rw [disV, h]; rfl


set_option maxRecDepth 100000 in
set_option maxHeartbeats 600000 in
theorem distance_any (lo0 mb : Nat) (cells : List Int) (adj : Int → List Int) (s t : Nat) (d : Int) (w : World) (hm : OnMap w lo0 mb cells adj) (hs : s < 144) (hsc : (s : Int) ∈ cells) (hcl : ∀ x ∈ cells, 0 ≤ x ∧ x < 144) (hadj : ∀ x, ∀ y ∈ adj x, y ∈ cells) (ht : t < 144) (hlen : (farL adj 144 s).length = 144) (hd : (farL adj 144 s)[t]? = some d) (hd0 : -1 ≤ d ∧ d ≤ 144) :
    Calls Try.prog 68 #[.map (some mb), .int .i64 (s : Int), .int .i64 (t : Int)] w fun e w' => e = .returned (.tuple #[.int .i64 (dAns d), .bool (dOk d)]) ∧ Below w.heap.size w w' := by
  have HFL := Lib.hid hlen; have HAT := Lib.hid (fun w' => run_farK (farL adj 144 s) hlen t ht d hd w')
  have HDF := Lib.hid (fun w' (hm' : OnMap w' lo0 mb cells adj) => distancesFrom_any lo0 mb cells adj s w' hm' hs hsc hcl hadj)
  have HM := Lib.hid hm
  have hd' := hd0
  obtain ⟨d1, d2⟩ := hd0
  have t0 : (0 : Int) ≤ (t : Int) := by omega
  have t1 : (t : Int) < 144 := by omega
  obtain ⟨L, hL⟩ : ∃ L, L = Value.agg ((farL adj 144 s).map (Value.int .i64)).toArray := ⟨_, rfl⟩
  rw [← hL] at HAT HDF
  clear hm hs hsc hcl hadj hd hlen hL hd' ht
  have DO := Lib.hid (show dOk d = !(d == -1) from rfl); have DA := Lib.hid (show dAns d = if d = -1 then 0 else d from rfl)
  obtain ⟨x, hx⟩ : ∃ x, dAns d = x := ⟨_, rfl⟩
  obtain ⟨y, hy⟩ : ∃ y, dOk d = y := ⟨_, rfl⟩
  rw [hx, hy]
  have HX := Lib.hid hx; have HY := Lib.hid hy
  clear hx hy
  by_cases hneg : d = -1
  · have hne : (d == -1) = true := by simpa using hneg
    go_enter Try.func68, Try.ntmps68
    go_wp2_with fail
    refine (HDF.out _ HM.out).mono ?_
    rintro e wv ⟨rfl, hb⟩
    have hix := HAT.out
    have HB := Lib.hid hb
    clear hb
    go_wp2
    go_ret2
    exact ⟨by rw [show x = 0 by rw [← HX.out, DA.out, if_pos hneg], show y = false by rw [← HY.out, DO.out, hne]; rfl]; rfl, HB.out⟩
  · have hne : (d == -1) = false := by simpa using hneg
    go_enter Try.func68, Try.ntmps68
    go_wp2_with fail
    refine (HDF.out _ HM.out).mono ?_
    rintro e wv ⟨rfl, hb⟩
    have hix := HAT.out
    have HB := Lib.hid hb
    clear hb
    go_wp2
    go_ret2
    exact ⟨by rw [show x = d by rw [← HX.out, DA.out, if_neg hneg], show y = true by rw [← HY.out, DO.out, hne]; rfl]; rfl, HB.out⟩

set_option maxRecDepth 100000 in
set_option maxHeartbeats 2000000 in
theorem spec_DistanceAround (W H : Int) (ac up : Bool) (a b p q : Int) (w : World) :
    Calls Try.prog 32 #[ard W H ac up, lpr a b, .int .i64 p, .int .i64 q] w fun e w' => e = .returned (.tuple #[.int .i64 (disV W H ac up a b p q), .bool (okDA W H ac up a b p q)]) ∧ Below w.heap.size w w' := by
  obtain ⟨W2, hW2⟩ : ∃ W2, W2 = (w.alloc (.cells #[.int .i64 W, .int .i64 H, .bool ac, .bool up] 25)).alloc (.cells #[.int .i64 a, .int .i64 b] 36) := ⟨_, rfl⟩
  have hsz : W2.heap.size = w.heap.size + 2 := by rw [hW2]; simp
  have a0 : W2.cell? ⟨w.heap.size, 0, none⟩ = some (.int .i64 W) := by rw [hW2]; go_simp
  have a1 : W2.cell? ⟨w.heap.size, 1, none⟩ = some (.int .i64 H) := by rw [hW2]; go_simp
  have a2 : W2.cell? ⟨w.heap.size, 2, none⟩ = some (.bool ac) := by rw [hW2]; go_simp
  have a3 : W2.cell? ⟨w.heap.size, 3, none⟩ = some (.bool up) := by rw [hW2]; go_simp
  have al : w.heap.size < W2.heap.size := by omega
  have l0 : W2.cell? ⟨w.heap.size + 1, 0, none⟩ = some (.int .i64 a) := by rw [hW2]; go_simp
  have l1 : W2.cell? ⟨w.heap.size + 1, 1, none⟩ = some (.int .i64 b) := by rw [hW2]; go_simp
  have ll : w.heap.size + 1 < W2.heap.size := by omega
  have B := Lib.hid (show Below w.heap.size w W2 by rw [hW2]; repeat (first | exact Below.refl _ _ | refine below_new ?_ _))
  cases ht : twoA W H a b
  · have OK := Lib.hid (show okDA W H ac up a b p q = false by rw [okDA, Bool.and_eq_false_iff, Bool.and_eq_false_iff, Bool.and_eq_false_iff]; left; left; rw [twoA, Bool.and_eq_false_iff] at ht; rcases ht with h | h; exact .inl h; right; rw [cellA, h]; rfl)
    go_enter Try.func32, Try.ntmps32
    go_wp2_with fail
    rw [← hW2]
    clear hW2
    refine (arTwo_any _ _ _ _ _ _ _).mono ?_
    rw [ht]
    rintro e wv ⟨rfl, hb⟩
    replace a0 := cell_keep a0 al hb
    replace a1 := cell_keep a1 al hb
    replace a2 := cell_keep a2 al hb
    replace a3 := cell_keep a3 al hb
    replace al := lt_keep al hb
    replace l0 := cell_keep l0 ll hb
    replace l1 := cell_keep l1 ll hb
    replace ll := lt_keep ll hb
    replace B := Lib.hid (below_next B.out hb)
    clear hb
    clear a0 a1 a2 a3 l0 l1 al ll
    go_wp2
    go_ret2
    exact ⟨by rw [disV_no OK.out, OK.out]; rfl, B.out⟩
  have hl1 := (twoA_iff.1 ht).1
  cases hp1 : cellA W H p
  · have OK := Lib.hid (show okDA W H ac up a b p q = false by rw [okDA, hp1]; simp)
    go_enter Try.func32, Try.ntmps32
    go_wp2_with fail
    rw [← hW2]
    clear hW2
    refine (arTwo_any _ _ _ _ _ _ _).mono ?_
    rw [ht]
    rintro e wv ⟨rfl, hb⟩
    replace a0 := cell_keep a0 al hb
    replace a1 := cell_keep a1 al hb
    replace a2 := cell_keep a2 al hb
    replace a3 := cell_keep a3 al hb
    replace al := lt_keep al hb
    replace l0 := cell_keep l0 ll hb
    replace l1 := cell_keep l1 ll hb
    replace ll := lt_keep ll hb
    replace B := Lib.hid (below_next B.out hb)
    clear hb
    go_wp2_with fail
    refine (arCell_any _ _ _ _ _ _).mono ?_
    rw [hp1]
    rintro e wv ⟨rfl, hb⟩
    replace a0 := cell_keep a0 al hb
    replace a1 := cell_keep a1 al hb
    replace a2 := cell_keep a2 al hb
    replace a3 := cell_keep a3 al hb
    replace al := lt_keep al hb
    replace l0 := cell_keep l0 ll hb
    replace l1 := cell_keep l1 ll hb
    replace ll := lt_keep ll hb
    replace B := Lib.hid (below_next B.out hb)
    clear hb
    clear a0 a1 a2 a3 l0 l1 al ll
    go_wp2
    go_ret2
    exact ⟨by rw [disV_no OK.out, OK.out]; rfl, B.out⟩
  cases hq1 : cellA W H q
  · have OK := Lib.hid (show okDA W H ac up a b p q = false by rw [okDA, hq1]; simp)
    go_enter Try.func32, Try.ntmps32
    go_wp2_with fail
    rw [← hW2]
    clear hW2
    refine (arTwo_any _ _ _ _ _ _ _).mono ?_
    rw [ht]
    rintro e wv ⟨rfl, hb⟩
    replace a0 := cell_keep a0 al hb
    replace a1 := cell_keep a1 al hb
    replace a2 := cell_keep a2 al hb
    replace a3 := cell_keep a3 al hb
    replace al := lt_keep al hb
    replace l0 := cell_keep l0 ll hb
    replace l1 := cell_keep l1 ll hb
    replace ll := lt_keep ll hb
    replace B := Lib.hid (below_next B.out hb)
    clear hb
    go_wp2_with fail
    refine (arCell_any _ _ _ _ _ _).mono ?_
    rw [hp1]
    rintro e wv ⟨rfl, hb⟩
    replace a0 := cell_keep a0 al hb
    replace a1 := cell_keep a1 al hb
    replace a2 := cell_keep a2 al hb
    replace a3 := cell_keep a3 al hb
    replace al := lt_keep al hb
    replace l0 := cell_keep l0 ll hb
    replace l1 := cell_keep l1 ll hb
    replace ll := lt_keep ll hb
    replace B := Lib.hid (below_next B.out hb)
    clear hb
    go_wp2_with fail
    refine (arCell_any _ _ _ _ _ _).mono ?_
    rw [hq1]
    rintro e wv ⟨rfl, hb⟩
    replace a0 := cell_keep a0 al hb
    replace a1 := cell_keep a1 al hb
    replace a2 := cell_keep a2 al hb
    replace a3 := cell_keep a3 al hb
    replace al := lt_keep al hb
    replace l0 := cell_keep l0 ll hb
    replace l1 := cell_keep l1 ll hb
    replace ll := lt_keep ll hb
    replace B := Lib.hid (below_next B.out hb)
    clear hb
    clear a0 a1 a2 a3 l0 l1 al ll
    go_wp2
    go_ret2
    exact ⟨by rw [disV_no OK.out, OK.out]; rfl, B.out⟩
  · have HT := Lib.hid (show twoA W H a b = true from twoA_iff.2 ⟨hl1, (cellA_iff.1 hp1).1⟩)
    have HF := Lib.hid (ar_facts HT.out)
    have HPR := (cellA_iff.1 hp1).2; have HQR := (cellA_iff.1 hq1).2
    obtain ⟨N, hN⟩ : ∃ N, (W * H).toNat = N := ⟨_, rfl⟩
    rw [hN] at HF
    rw [HF.out.wh] at HPR HQR
    obtain ⟨pn, rfl⟩ : ∃ pn : Nat, p = (pn : Int) := ⟨p.toNat, by omega⟩
    obtain ⟨qn, rfl⟩ : ∃ qn : Nat, q = (qn : Int) := ⟨q.toNat, by omega⟩
    have hpN : pn < N := by omega
    have hqN : qn < N := by omega
    have N2 := HF.out.n.2
    obtain ⟨hd1, hd2, hd3⟩ := distA_at (ac := ac) (up := up) HF.out HPR hqN
    have HLN := Lib.hid (distA_len (ac := ac) (up := up) HF.out HPR)
    have HOK := Lib.hid (show okDA W H ac up a b pn qn = decide (0 ≤ distAV W H ac up a b pn qn) by rw [okDA, hl1, hp1, hq1]; rfl)
    have HV := Lib.hid (show disV W H ac up a b pn qn = if okDA W H ac up a b pn qn then distAV W H ac up a b pn qn else 0 from rfl)
    have HPA := Lib.hid HPR
    obtain ⟨d, hd⟩ : ∃ d, distAV W H ac up a b (pn : Int) (qn : Int) = d := ⟨_, rfl⟩
    rw [hd] at hd1 hd2 hd3 HOK HV
    have HD1 := Lib.hid hd1
    clear hd hd1 HPR
    by_cases hneg : d < 0
    · have OK := Lib.hid (show okDA W H ac up a b pn qn = false by rw [HOK.out]; simp; omega)
      go_enter Try.func32, Try.ntmps32
      go_wp2_with fail
      rw [← hW2]
      clear hW2
      refine (arTwo_any _ _ _ _ _ _ _).mono ?_
      rw [ht]
      rintro e wv ⟨rfl, hb⟩
      replace a0 := cell_keep a0 al hb
      replace a1 := cell_keep a1 al hb
      replace a2 := cell_keep a2 al hb
      replace a3 := cell_keep a3 al hb
      replace al := lt_keep al hb
      replace l0 := cell_keep l0 ll hb
      replace l1 := cell_keep l1 ll hb
      replace ll := lt_keep ll hb
      replace B := Lib.hid (below_next B.out hb)
      clear hb
      go_wp2_with fail
      refine (arCell_any _ _ _ _ _ _).mono ?_
      rw [hp1]
      rintro e wv ⟨rfl, hb⟩
      replace a0 := cell_keep a0 al hb
      replace a1 := cell_keep a1 al hb
      replace a2 := cell_keep a2 al hb
      replace a3 := cell_keep a3 al hb
      replace al := lt_keep al hb
      replace l0 := cell_keep l0 ll hb
      replace l1 := cell_keep l1 ll hb
      replace ll := lt_keep ll hb
      replace B := Lib.hid (below_next B.out hb)
      clear hb
      go_wp2_with fail
      refine (arCell_any _ _ _ _ _ _).mono ?_
      rw [hq1]
      rintro e wv ⟨rfl, hb⟩
      replace a0 := cell_keep a0 al hb
      replace a1 := cell_keep a1 al hb
      replace a2 := cell_keep a2 al hb
      replace a3 := cell_keep a3 al hb
      replace al := lt_keep al hb
      replace l0 := cell_keep l0 ll hb
      replace l1 := cell_keep l1 ll hb
      replace ll := lt_keep ll hb
      replace B := Lib.hid (below_next B.out hb)
      clear hb
      go_wp2_with fail
      refine (arFrom_any W H ac up a b pn N _ HF.out.g HF.out.l HF.out.wh hpN).mono ?_
      rintro e wx ⟨gf, rfl, hown, hb⟩
      have hcl := hown.cell (show (farL (leapsA W H ac up a b) N (pn : Int))[qn]? = some d by have h := HD1.out; rw [distA, hN] at h; exact h)
      replace B := Lib.hid (below_next B.out hb)
      have q0 : (0 : Int) ≤ (qn : Int) := by omega
      have q1 : (qn : Int) < (N : Int) := by omega
      clear hown hb
      clear a0 a1 a2 a3 l0 l1 al ll
      go_wp2
      go_ret2
      exact ⟨by rw [disV_no OK.out, OK.out]; rfl, B.out⟩
    · have OK := Lib.hid (show okDA W H ac up a b pn qn = true by rw [HOK.out]; simp; omega)
      go_enter Try.func32, Try.ntmps32
      go_wp2_with fail
      rw [← hW2]
      clear hW2
      refine (arTwo_any _ _ _ _ _ _ _).mono ?_
      rw [ht]
      rintro e wv ⟨rfl, hb⟩
      replace a0 := cell_keep a0 al hb
      replace a1 := cell_keep a1 al hb
      replace a2 := cell_keep a2 al hb
      replace a3 := cell_keep a3 al hb
      replace al := lt_keep al hb
      replace l0 := cell_keep l0 ll hb
      replace l1 := cell_keep l1 ll hb
      replace ll := lt_keep ll hb
      replace B := Lib.hid (below_next B.out hb)
      clear hb
      go_wp2_with fail
      refine (arCell_any _ _ _ _ _ _).mono ?_
      rw [hp1]
      rintro e wv ⟨rfl, hb⟩
      replace a0 := cell_keep a0 al hb
      replace a1 := cell_keep a1 al hb
      replace a2 := cell_keep a2 al hb
      replace a3 := cell_keep a3 al hb
      replace al := lt_keep al hb
      replace l0 := cell_keep l0 ll hb
      replace l1 := cell_keep l1 ll hb
      replace ll := lt_keep ll hb
      replace B := Lib.hid (below_next B.out hb)
      clear hb
      go_wp2_with fail
      refine (arCell_any _ _ _ _ _ _).mono ?_
      rw [hq1]
      rintro e wv ⟨rfl, hb⟩
      replace a0 := cell_keep a0 al hb
      replace a1 := cell_keep a1 al hb
      replace a2 := cell_keep a2 al hb
      replace a3 := cell_keep a3 al hb
      replace al := lt_keep al hb
      replace l0 := cell_keep l0 ll hb
      replace l1 := cell_keep l1 ll hb
      replace ll := lt_keep ll hb
      replace B := Lib.hid (below_next B.out hb)
      clear hb
      go_wp2_with fail
      refine (arFrom_any W H ac up a b pn N _ HF.out.g HF.out.l HF.out.wh hpN).mono ?_
      rintro e wx ⟨gf, rfl, hown, hb⟩
      have hcl := hown.cell (show (farL (leapsA W H ac up a b) N (pn : Int))[qn]? = some d by have h := HD1.out; rw [distA, hN] at h; exact h)
      replace B := Lib.hid (below_next B.out hb)
      have q0 : (0 : Int) ≤ (qn : Int) := by omega
      have q1 : (qn : Int) < (N : Int) := by omega
      clear hown hb
      clear a0 a1 a2 a3 l0 l1 al ll
      go_wp2
      go_ret2
      exact ⟨by rw [HV.out, OK.out]; rfl, B.out⟩

set_option maxRecDepth 100000 in
set_option maxHeartbeats 2000000 in
theorem impl_DistanceAround (W H : Int) (ac up : Bool) (a b p q : Int) (w : World) :
    Calls Try.prog 33 #[ard W H ac up, lpr a b, .int .i64 p, .int .i64 q] w fun e w' => e = .returned (.tuple #[.int .i64 (disV W H ac up a b p q), .bool (okDA W H ac up a b p q)]) ∧ Below w.heap.size w w' := by
  obtain ⟨W2, hW2⟩ : ∃ W2, W2 = ((w.alloc (.cells #[.int .i64 W, .int .i64 H, .bool ac, .bool up] 25)).alloc (.cells #[.int .i64 a, .int .i64 b] 36)).alloc (.cells #[.int .i64 p, .int .i64 q] 3) := ⟨_, rfl⟩
  have hsz : W2.heap.size = w.heap.size + 3 := by rw [hW2]; simp
  have a0 : W2.cell? ⟨w.heap.size, 0, none⟩ = some (.int .i64 W) := by rw [hW2]; go_simp
  have a1 : W2.cell? ⟨w.heap.size, 1, none⟩ = some (.int .i64 H) := by rw [hW2]; go_simp
  have a2 : W2.cell? ⟨w.heap.size, 2, none⟩ = some (.bool ac) := by rw [hW2]; go_simp
  have a3 : W2.cell? ⟨w.heap.size, 3, none⟩ = some (.bool up) := by rw [hW2]; go_simp
  have al : w.heap.size < W2.heap.size := by omega
  have l0 : W2.cell? ⟨w.heap.size + 1, 0, none⟩ = some (.int .i64 a) := by rw [hW2]; go_simp
  have l1 : W2.cell? ⟨w.heap.size + 1, 1, none⟩ = some (.int .i64 b) := by rw [hW2]; go_simp
  have ll : w.heap.size + 1 < W2.heap.size := by omega
  have q0 : W2.cell? ⟨w.heap.size + 1 + 1, 0, none⟩ = some (.int .i64 p) := by rw [hW2]; go_simp
  have q1 : W2.cell? ⟨w.heap.size + 1 + 1, 1, none⟩ = some (.int .i64 q) := by rw [hW2]; go_simp
  have ql : w.heap.size + 1 + 1 < W2.heap.size := by omega
  have B := Lib.hid (show Below w.heap.size w W2 by rw [hW2]; repeat (first | exact Below.refl _ _ | refine below_new ?_ _))
  have RQ := Lib.hid (show Rd W2 (some ⟨w.heap.size + 1 + 1, 0, none⟩) 2 [p, q] from ⟨rfl, by omega, fun k hk => by
    have h2 : k = 0 ∨ k = 1 := by omega
    rcases h2 with rfl | rfl
    · exact ⟨_, 0, _, rfl, by omega, rfl, q0⟩
    · exact ⟨_, 0, _, rfl, by omega, rfl, q1⟩⟩)
  have HE := Lib.hid (show (leaperB a b && aroundB W H [p, q]) = (leaperB a b && cellA W H p && cellA W H q) by rw [aroundB, cellA, cellA, List.all_cons, List.all_cons, List.all_nil]; cases leaperB a b <;> cases goodA W H <;> simp)
  clear q0 q1 ql hsz
  cases hq : (leaperB a b && cellA W H p && cellA W H q)
  · have OK := Lib.hid (show okDA W H ac up a b p q = false by rw [okDA, hq]; rfl)
    go_enter Try.func33, Try.ntmps33
    go_wp2_with fail
    rw [← hW2]
    clear hW2
    refine (isLeaperAround_any W H ac up a b _ 2 2 _ _ RQ.out).mono ?_
    rw [HE.out, hq]
    rintro e wv ⟨rfl, hb⟩
    replace a0 := cell_keep a0 al hb
    replace a1 := cell_keep a1 al hb
    replace a2 := cell_keep a2 al hb
    replace a3 := cell_keep a3 al hb
    replace al := lt_keep al hb
    replace l0 := cell_keep l0 ll hb
    replace l1 := cell_keep l1 ll hb
    replace ll := lt_keep ll hb
    replace B := Lib.hid (below_next B.out hb)
    clear hb
    clear RQ HE
    clear a0 a1 a2 a3 l0 l1 al ll
    go_wp2
    go_ret2
    exact ⟨by rw [disV_no OK.out, OK.out]; rfl, B.out⟩
  · have h9 := hq
    rw [Bool.and_eq_true, Bool.and_eq_true] at h9
    obtain ⟨⟨hl1, hp1⟩, hq1⟩ := h9
    have HT := Lib.hid (show twoA W H a b = true from twoA_iff.2 ⟨hl1, (cellA_iff.1 hp1).1⟩)
    have HF := Lib.hid (ar_facts HT.out)
    have HPR := (cellA_iff.1 hp1).2; have HQR := (cellA_iff.1 hq1).2
    obtain ⟨N, hN⟩ : ∃ N, (W * H).toNat = N := ⟨_, rfl⟩
    rw [hN] at HF
    rw [HF.out.wh] at HPR HQR
    obtain ⟨pn, rfl⟩ : ∃ pn : Nat, p = (pn : Int) := ⟨p.toNat, by omega⟩
    obtain ⟨qn, rfl⟩ : ∃ qn : Nat, q = (qn : Int) := ⟨q.toNat, by omega⟩
    have hpN : pn < N := by omega
    have hqN : qn < N := by omega
    have N2 := HF.out.n.2
    obtain ⟨hd1, hd2, hd3⟩ := distA_at (ac := ac) (up := up) HF.out HPR hqN
    have HLN := Lib.hid (distA_len (ac := ac) (up := up) HF.out HPR)
    have HOK := Lib.hid (show okDA W H ac up a b pn qn = decide (0 ≤ distAV W H ac up a b pn qn) by rw [okDA, hl1, hp1, hq1]; rfl)
    have HV := Lib.hid (show disV W H ac up a b pn qn = if okDA W H ac up a b pn qn then distAV W H ac up a b pn qn else 0 from rfl)
    have HPA := Lib.hid HPR
    obtain ⟨d, hd⟩ : ∃ d, distAV W H ac up a b (pn : Int) (qn : Int) = d := ⟨_, rfl⟩
    rw [hd] at hd1 hd2 hd3 HOK HV
    have HD1 := Lib.hid hd1
    clear hd hd1 HPR
    have HDIS := Lib.hid (fun lo0 mb w' (hm : OnMap w' lo0 mb (upTo N) (leapsA W H ac up a b)) => distance_any lo0 mb (upTo N) (leapsA W H ac up a b) pn qn d w' hm (by omega) (upTo_mem.2 HPA.out) (fun x hx => by have := upTo_mem.1 hx; omega) (adjA_in HF.out) (by omega) (by rw [far144 HF.out HPA.out, List.length_append, HLN.out, List.length_replicate]; omega) (by rw [far144 HF.out HPA.out, List.getElem?_append_left (by rw [HLN.out]; exact hqN)]; exact HD1.out) ⟨hd2, hd3⟩)
    go_enter Try.func33, Try.ntmps33
    go_wp2_with fail
    rw [← hW2]
    clear hW2
    refine (isLeaperAround_any W H ac up a b _ 2 2 _ _ RQ.out).mono ?_
    rw [HE.out, hq]
    rintro e wv ⟨rfl, hb⟩
    replace a0 := cell_keep a0 al hb
    replace a1 := cell_keep a1 al hb
    replace a2 := cell_keep a2 al hb
    replace a3 := cell_keep a3 al hb
    replace al := lt_keep al hb
    replace l0 := cell_keep l0 ll hb
    replace l1 := cell_keep l1 ll hb
    replace ll := lt_keep ll hb
    replace B := Lib.hid (below_next B.out hb)
    clear hb
    clear RQ HE
    go_wp2_with fail
    refine (onwardAround_any W H ac up a b _ HF.out.g HF.out.l).mono ?_
    rintro e wx ⟨mb, rfl, hom, hb⟩
    rw [hN] at hom
    have HOM := Lib.hid hom
    replace B := Lib.hid (below_next B.out hb)
    clear hom hb
    clear a0 a1 a2 a3 l0 l1 al ll
    go_wp2_with fail
    refine (HDIS.out _ mb _ HOM.out).mono ?_
    rintro e wy ⟨rfl, hb⟩
    replace B := Lib.hid (below_next B.out hb)
    clear hb
    go_wp2
    go_ret2
    exact ⟨by rw [HV.out, HOK.out, ← dAns_eq hd2, ← dOk_eq hd2]; rfl, B.out⟩

end Go.Proofs.Ytaliknhfcdmohaa

namespace Go.Proofs.Ytaliknhfcdmohaa
open Go.RowKit

theorem pad_mem {l : List Int} {n : Nat} {v : Int} (h : v ∈ padTo l n) : v = 0 ∨ v ∈ l := by
  rcases List.mem_append.1 h with h | h
  · exact .inr h
  · exact .inl (List.mem_replicate.1 h).2
theorem cnt_bd (D : List Int) : ∀ (k : Nat) (v : Int), v = 0 ∨ v ∈ (D.take k).foldl cntStep [] → 0 ≤ v ∧ v ≤ (k : Int)
  | 0, v, h => by
    rcases h with h | h
    · omega
    · simp at h
  | k + 1, v, h => by
    rcases h with h | h
    · omega
    · cases hx : D[k]? with
      | none =>
        rw [List.take_add_one, hx] at h
        have := cnt_bd D k v (.inr (by simpa using h)); omega
      | some x =>
        rw [take_foldl cntStep hx] at h
        have key : ∀ u, u = 0 ∨ u ∈ (D.take k).foldl cntStep [] → 0 ≤ u ∧ u ≤ (k : Int) := cnt_bd D k
        generalize (D.take k).foldl cntStep [] = O0 at h key
        rw [cntStep] at h
        split at h
        · have := key v (.inr h); omega
        · rw [bump] at h
          rcases List.mem_or_eq_of_mem_set h with h | h
          · have := key v (pad_mem h); omega
          · have h9 : (padTo O0 (x.toNat + 1)).getD x.toNat 0 = 0 ∨ (padTo O0 (x.toNat + 1)).getD x.toNat 0 ∈ O0 := by
              rw [List.getD_eq_getElem?_getD]
              cases he : (padTo O0 (x.toNat + 1))[x.toNat]? with
              | none => exact .inl rfl
              | some u => exact pad_mem (List.mem_of_getElem? he)
            have := key _ h9; omega
theorem distA_bd {W H a b : Int} {ac up : Bool} {N s : Nat} (h : ArFacts W H a b N) (hs : s < N) : ∀ x ∈ distA W H ac up a b (s : Int), -1 ≤ x ∧ x ≤ 144 := fun x hx => by
  obtain ⟨i, hi, rfl⟩ := List.getElem_of_mem hx
  have hlen := distA_len (ac := ac) (up := up) h (show 0 ≤ (s : Int) ∧ (s : Int) < N by omega)
  obtain ⟨h1, h2, h3⟩ := distA_at (ac := ac) (up := up) h (show 0 ≤ (s : Int) ∧ (s : Int) < N by omega) (qn := i) (by omega)
  rw [List.getElem?_eq_getElem hi] at h1
  injection h1 with h1
  rw [h1]; exact ⟨h2, h3⟩
theorem distA_self {W H a b : Int} {ac up : Bool} {N s : Nat} (h : ArFacts W H a b N) (hs : s < N) : (distA W H ac up a b (s : Int)).getD s (-1) = 0 := by
  have hb := bfs_start (adj := leapsA W H ac up a b) (N := N) (start := (s : Int)) (by omega) N
  have hlen := distA_len (ac := ac) (up := up) h (show 0 ≤ (s : Int) ∧ (s : Int) < N by omega)
  have e : distA W H ac up a b (s : Int) = (bfsTo (leapsA W H ac up a b) N (s : Int) N).1 := by rw [distA, h.nat]; rfl
  rw [Int.toNat_natCast, ← e] at hb
  rw [List.getD_eq_getElem?_getD, List.getElem?_eq_getElem (by omega)] at hb ⊢
  exact hb
theorem countsA_facts {W H a b : Int} {ac up : Bool} {N s : Nat} (h : ArFacts W H a b N) (hs : s < N) : ∃ gn : Nat, (farL (leapsA W H ac up a b) 144 (s : Int)).length = 144 ∧ (∀ x ∈ farL (leapsA W H ac up a b) 144 (s : Int), -1 ≤ x ∧ x ≤ (gn : Int)) ∧ Go.Lib.maxOf (farL (leapsA W H ac up a b) 144 (s : Int)) = (gn : Int) ∧ gn ≤ 144 ∧ (farL (leapsA W H ac up a b) 144 (s : Int)).foldl bumpStep (List.replicate (gn + 1) 0) = cntL (distA W H ac up a b (s : Int)) ∧ (cntL (distA W H ac up a b (s : Int))).length = gn + 1 := by
  have hp : 0 ≤ (s : Int) ∧ (s : Int) < N := by omega
  have hLe := far144 (ac := ac) (up := up) h hp
  have hlen := distA_len (ac := ac) (up := up) h hp
  have hbd := distA_bd (ac := ac) (up := up) h hs
  obtain ⟨j, ej, M⟩ := most_is (L := distA W H ac up a b (s : Int)) (k := s) (by omega) (by rw [distA_self h hs]; omega)
  have hmx : Go.Lib.maxOf (farL (leapsA W H ac up a b) 144 (s : Int)) = (distA W H ac up a b (s : Int)).getD j (-1) := most_max M hLe
  have hgj : (distA W H ac up a b (s : Int))[j]? = some ((distA W H ac up a b (s : Int)).getD j (-1)) := by rw [List.getD_eq_getElem?_getD, List.getElem?_eq_getElem M.lt]; rfl
  have hjb := hbd _ (List.mem_of_getElem? hgj)
  have hjn := M.nn
  obtain ⟨gn, hgn⟩ : ∃ gn : Nat, (distA W H ac up a b (s : Int)).getD j (-1) = (gn : Int) := ⟨((distA W H ac up a b (s : Int)).getD j (-1)).toNat, by omega⟩
  have hle : ∀ x ∈ distA W H ac up a b (s : Int), x ≤ (gn : Int) := fun x hx => by
    obtain ⟨i, hi, rfl⟩ := List.getElem_of_mem hx
    have := M.le i
    rw [hgn, List.getD_eq_getElem?_getD, List.getElem?_eq_getElem hi] at this
    exact this
  rw [hgn] at hmx hgj hjb
  have CB := cnt_both (List.mem_of_getElem? hgj) hle (144 - N)
  rw [← hLe] at CB
  have hn := h.n
  refine ⟨gn, by rw [hLe, List.length_append, hlen, List.length_replicate]; omega, fun x hx => ?_, hmx, by omega, CB.1, CB.2⟩
  rw [hLe] at hx
  rcases List.mem_append.1 hx with hx | hx
  · exact ⟨(hbd x hx).1, hle x hx⟩
  · have := (List.mem_replicate.1 hx).2; omega
def countsAV (W H : Int) (ac up : Bool) (a b q : Int) : List Int := if okLA W H a b q then cntL (distA W H ac up a b q) else []
theorem countsAV_no {W H a b q : Int} {ac up : Bool} (h : okLA W H a b q = false) : countsAV W H ac up a b q = [] := by rw [countsAV, h]; rfl
theorem len_CountByAround (W H : Int) (ac up : Bool) (a b q : Int) : (countsAV W H ac up a b q).length ≤ 1000000 := by
  unfold countsAV; split
  · rename_i h
    obtain ⟨h1, h2, h3, h4⟩ := okLA_iff.1 h
    have F := ar_facts (twoA_iff.2 ⟨h1, h2⟩)
    obtain ⟨s, rfl⟩ : ∃ s : Nat, q = (s : Int) := ⟨q.toNat, by omega⟩
    obtain ⟨gn, _, _, _, hg, _, hl⟩ := countsA_facts (ac := ac) (up := up) F (show s < (W * H).toNat by omega)
    omega
  · simp

set_option maxRecDepth 100000 in
set_option maxHeartbeats 4000000 in
theorem spec_CountByAround (W H : Int) (ac up : Bool) (a b q : Int) (w : World) :
    Calls Try.prog 34 #[ard W H ac up, lpr a b, .int .i64 q] w fun e w' => ∃ A' n' c', e = .returned (.tuple #[.slice A' n' c', .bool (okLA W H a b q)]) ∧ OwnI 3 w' w.heap.size A' n' c' (countsAV W H ac up a b q) ∧ Below w.heap.size w w' := by
  obtain ⟨i0, hi, hz0, hz1, hz2⟩ := info_parts infoI
  have HI := Lib.hid hi; have HZ0 := Lib.hid hz0; have HZ1 := Lib.hid hz1; have HZ2 := Lib.hid hz2
  clear hi hz0 hz1 hz2
  obtain ⟨W2, hW2⟩ : ∃ W2, W2 = (w.alloc (.cells #[.int .i64 W, .int .i64 H, .bool ac, .bool up] 25)).alloc (.cells #[.int .i64 a, .int .i64 b] 36) := ⟨_, rfl⟩
  have hsz : W2.heap.size = w.heap.size + 2 := by rw [hW2]; simp
  have a0 : W2.cell? ⟨w.heap.size, 0, none⟩ = some (.int .i64 W) := by rw [hW2]; go_simp
  have a1 : W2.cell? ⟨w.heap.size, 1, none⟩ = some (.int .i64 H) := by rw [hW2]; go_simp
  have a2 : W2.cell? ⟨w.heap.size, 2, none⟩ = some (.bool ac) := by rw [hW2]; go_simp
  have a3 : W2.cell? ⟨w.heap.size, 3, none⟩ = some (.bool up) := by rw [hW2]; go_simp
  have al : w.heap.size < W2.heap.size := by omega
  have l0 : W2.cell? ⟨w.heap.size + 1, 0, none⟩ = some (.int .i64 a) := by rw [hW2]; go_simp
  have l1 : W2.cell? ⟨w.heap.size + 1, 1, none⟩ = some (.int .i64 b) := by rw [hW2]; go_simp
  have ll : w.heap.size + 1 < W2.heap.size := by omega
  have B := Lib.hid (show Below w.heap.size w W2 by rw [hW2]; repeat (first | exact Below.refl _ _ | refine below_new ?_ _))
  cases ht : twoA W H a b
  · have OK := Lib.hid (show okLA W H a b q = false by rw [Bool.eq_false_iff]; intro h; rw [okLA_iff] at h; rw [twoA_iff.2 ⟨h.1, h.2.1⟩] at ht; cases ht)
    go_enter Try.func34, Try.ntmps34
    go_wp2_with fail
    rw [← hW2]
    clear hW2
    refine (arTwo_any _ _ _ _ _ _ _).mono ?_
    rw [ht]
    rintro e wv ⟨rfl, hb⟩
    replace a0 := cell_keep a0 al hb
    replace a1 := cell_keep a1 al hb
    replace a2 := cell_keep a2 al hb
    replace a3 := cell_keep a3 al hb
    replace al := lt_keep al hb
    replace l0 := cell_keep l0 ll hb
    replace l1 := cell_keep l1 ll hb
    replace ll := lt_keep ll hb
    replace B := Lib.hid (below_next B.out hb)
    clear hb
    clear a0 a1 a2 a3 l0 l1 al ll
    go_wp2
    go_ret2
    exact ⟨none, 0, 0, by first | (rw [OK.out]; rfl) | rfl, by rw [countsAV_no OK.out]; exact OwnI.none_ _ _ _, B.out⟩
  cases hq : cellA W H q
  · have OK := Lib.hid (show okLA W H a b q = false by rw [okLA, hq, Bool.and_false])
    go_enter Try.func34, Try.ntmps34
    go_wp2_with fail
    rw [← hW2]
    clear hW2
    refine (arTwo_any _ _ _ _ _ _ _).mono ?_
    rw [ht]
    rintro e wv ⟨rfl, hb⟩
    replace a0 := cell_keep a0 al hb
    replace a1 := cell_keep a1 al hb
    replace a2 := cell_keep a2 al hb
    replace a3 := cell_keep a3 al hb
    replace al := lt_keep al hb
    replace l0 := cell_keep l0 ll hb
    replace l1 := cell_keep l1 ll hb
    replace ll := lt_keep ll hb
    replace B := Lib.hid (below_next B.out hb)
    clear hb
    go_wp2_with fail
    refine (arCell_any _ _ _ _ _ _).mono ?_
    rw [hq]
    rintro e wv ⟨rfl, hb⟩
    replace a0 := cell_keep a0 al hb
    replace a1 := cell_keep a1 al hb
    replace a2 := cell_keep a2 al hb
    replace a3 := cell_keep a3 al hb
    replace al := lt_keep al hb
    replace l0 := cell_keep l0 ll hb
    replace l1 := cell_keep l1 ll hb
    replace ll := lt_keep ll hb
    replace B := Lib.hid (below_next B.out hb)
    clear hb
    clear a0 a1 a2 a3 l0 l1 al ll
    go_wp2
    go_ret2
    exact ⟨none, 0, 0, by first | (rw [OK.out]; rfl) | rfl, by rw [countsAV_no OK.out]; exact OwnI.none_ _ _ _, B.out⟩
  · have HC := Lib.hid (okLA_iff.2 ⟨(twoA_iff.1 ht).1, cellA_iff.1 hq⟩)
    have OK := Lib.hid HC.out
    replace HC := Lib.hid (okLA_iff.1 HC.out)
    have HT := Lib.hid (show twoA W H a b = true from twoA_iff.2 ⟨HC.out.1, HC.out.2.1⟩)
    have HF := Lib.hid (ar_facts HT.out)
    have HPR := HC.out.2.2
    obtain ⟨N, hN⟩ : ∃ N, (W * H).toNat = N := ⟨_, rfl⟩
    rw [hN] at HF
    rw [HF.out.wh] at HPR
    obtain ⟨s, rfl⟩ : ∃ s : Nat, q = (s : Int) := ⟨q.toNat, by omega⟩
    have hs : s < N := by omega
    have N2 := HF.out.n.2
    have HLN := Lib.hid (distA_len (ac := ac) (up := up) HF.out HPR)
    have HBB := Lib.hid (distA_bd (ac := ac) (up := up) HF.out hs)
    have HNN := Lib.hid hN
    clear HPR
    go_enter Try.func34, Try.ntmps34
    go_wp2_with fail
    rw [← hW2]
    clear hW2
    refine (arTwo_any _ _ _ _ _ _ _).mono ?_
    rw [ht]
    rintro e wv ⟨rfl, hb⟩
    replace a0 := cell_keep a0 al hb
    replace a1 := cell_keep a1 al hb
    replace a2 := cell_keep a2 al hb
    replace a3 := cell_keep a3 al hb
    replace al := lt_keep al hb
    replace l0 := cell_keep l0 ll hb
    replace l1 := cell_keep l1 ll hb
    replace ll := lt_keep ll hb
    replace B := Lib.hid (below_next B.out hb)
    clear hb
    go_wp2_with fail
    refine (arCell_any _ _ _ _ _ _).mono ?_
    rw [hq]
    rintro e wv ⟨rfl, hb⟩
    replace a0 := cell_keep a0 al hb
    replace a1 := cell_keep a1 al hb
    replace a2 := cell_keep a2 al hb
    replace a3 := cell_keep a3 al hb
    replace al := lt_keep al hb
    replace l0 := cell_keep l0 ll hb
    replace l1 := cell_keep l1 ll hb
    replace ll := lt_keep ll hb
    replace B := Lib.hid (below_next B.out hb)
    clear hb
    go_wp2_with fail
    refine (arFrom_any W H ac up a b s N _ HF.out.g HF.out.l HF.out.wh hs).mono ?_
    rintro e wx ⟨g, rfl, own, hb⟩
    rw [show farL (leapsA W H ac up a b) N (s : Int) = distA W H ac up a b (s : Int) by rw [distA, HNN.out]] at own
    have O := Lib.hid own
    replace B := Lib.hid (below_next B.out hb)
    have DLEN := Lib.hid own.len
    clear own hb
    have hbd := HBB.out
    clear a0 a1 a2 a3 l0 l1 al ll
    obtain ⟨D, hD⟩ : ∃ D, D = distA W H ac up a b (s : Int) := ⟨_, rfl⟩
    rw [← hD] at O DLEN hbd
    have HDD := Lib.hid hD; have HBD := Lib.hid hbd
    have HC : Hid (∀ k, ((D.take k).foldl cntStep []).length ≤ 145) := Lib.hid (fun k => (cnt_pad (M := 145) (D.take k) [] (fun x hx => by have := hbd x (List.mem_of_mem_take hx); omega) (by simp)).2)
    clear hD hbd
    go_wp2
    go_loopw [8, 26] (fun v i wr => ∃ (k n' c' : Nat) (A' : Option Addr), k ≤ N ∧ i = .int .i64 k ∧ v = .slice A' n' c' ∧ OwnI 3 wr wx.heap.size A' n' c' ((D.take k).foldl cntStep []) ∧ Below wx.heap.size wx wr) (fun _ i _ => N - (intOf i).toNat)
    case atStart => exact ⟨0, 0, 0, none, by omega, rfl, rfl, OwnI.none_ _ _ _, Below.refl _ _⟩
    case round =>
      obtain ⟨k, n', c', A', hk, rfl, rfl, hown, hbw⟩ := hrel
      have hbsz := hbw.size
      by_cases hlt : k < N
      · obtain ⟨x, hx⟩ : ∃ x, D[k]? = some x := ⟨_, List.getElem?_eq_getElem (show k < D.length by have := DLEN.out; omega)⟩
        have c0 := (O.out.keep hbw).cell hx
        have hxb := HBD.out x (List.mem_of_getElem? hx)
        have hol := hown.len
        have hC := HC.out k
        have hst := take_foldl cntStep hx []
        have hpb : ∀ v, v = 0 ∨ v ∈ (D.take k).foldl cntStep [] → 0 ≤ v ∧ v ≤ (k : Int) := cnt_bd D k
        obtain ⟨O0, hO0⟩ : ∃ O0, O0 = (D.take k).foldl cntStep [] := ⟨_, rfl⟩
        rw [← hO0] at hown hol hC hst hpb
        have PB := Lib.hid hpb
        have ST := Lib.hid hst; have HO := Lib.hid hown; have HB := Lib.hid hbw
        clear hx hown hbw hst hO0 hpb
        by_cases hneg : x < 0
        · go_wp2
          go_roundw
          case rel => exact ⟨k + 1, n', c', A', by omega, by go_num, rfl, by rw [ST.out, cntStep, if_pos hneg]; exact HO.out, HB.out⟩
          case measure => simp [intOf]; omega
        · obtain ⟨xn, rfl⟩ : ∃ xn : Nat, x = (xn : Int) := ⟨x.toNat, by omega⟩
          have hneg' : decide ((xn : Int) < 0) = false := by simp
          go_wp2
          go_loopw [8] (fun v w2 => ∃ (m c2 : Nat) (A2 : Option Addr), n' ≤ m ∧ m ≤ max n' (xn + 1) ∧ v = .slice A2 m c2 ∧ OwnI 3 w2 wx.heap.size A2 m c2 (padTo O0 m) ∧ Below wx.heap.size wx w2) (fun v _ => match v with | .slice _ m _ => xn + 1 - m | _ => 0)
          case atStart => exact ⟨n', c', A', by omega, by omega, rfl, by rw [padTo_self (by omega)]; exact HO.out, HB.out⟩
          case round =>
            obtain ⟨m, c2, A2, hm1, hm2, rfl, hown, hbw⟩ := hrel
            have hbsz2 := hbw.size
            by_cases hmx : m ≤ xn
            · have HO2 := Lib.hid hown; have HB2 := Lib.hid hbw
              clear hown hbw
              have hmi : (m : Int) ≤ (xn : Int) := by omega
              go_wp2_with (at_builtin; refine wpList_app1 rfl (.tmp 36) (.tmp 37) 33 3 rfl i0 Try.underlying33 HI.out HZ0.out HZ1.out HZ2.out wx.heap.size A2 m c2 (padTo O0 m) 0 rfl HO2.out rfl (by omega) hbsz2 ?_; intro A3 c3 w3 hown3 hb3)
              have HO3 := Lib.hid hown3; have HB3 := Lib.hid (HB2.out.trans hb3)
              clear hown3 hb3
              go_wp2
              go_roundw
              case rel => exact ⟨m + 1, c3, A3, by omega, by omega, rfl, by rw [padTo_succ (by omega)]; exact HO3.out, HB3.out⟩
              case measure => simp; omega
            · have hmi : ¬ (m : Int) ≤ (xn : Int) := by omega
              have hxm : (xn : Int) < (m : Int) := by omega
              have hx0 : (0 : Int) ≤ (xn : Int) := by omega
              have e : padTo O0 m = padTo O0 (xn + 1) := by
                by_cases h : n' ≤ xn + 1
                · rw [show m = xn + 1 by omega]
                · rw [padTo_self (by omega), padTo_self (by omega)]
              rw [e] at hown
              obtain ⟨gb, rfl, hg1, hg2⟩ := hown.some_ (k := 0) (by omega)
              obtain ⟨v, hv⟩ : ∃ v, (padTo O0 (xn + 1))[xn]? = some v := ⟨_, List.getElem?_eq_getElem (by have := hown.len; omega)⟩
              have cv := hown.cell hv
              have fv := hown.frozen xn
              obtain ⟨o1, g1⟩ := hown.stored xn (v + 1)
              have hv65 : 0 ≤ v ∧ v ≤ (k : Int) := PB.out _ (pad_mem (List.mem_of_getElem? hv))
              have HO3 := Lib.hid o1
              have HB3 := Lib.hid (hbw.trans (below_of_grown g1 hbsz2 (fun g h => by injection h with h; omega)))
              have ES : Hid ((padTo O0 (xn + 1)).set xn (v + 1) = (D.take (k + 1)).foldl cntStep []) := Lib.hid (by rw [ST.out, cntStep, if_neg (by omega), bump, Int.toNat_natCast, List.getD_eq_getElem?_getD, hv]; rfl)
              clear hown hbw o1 g1 hv e
              go_wp2
              go_roundw
              case rel => exact ⟨k + 1, m, c2, _, by omega, by go_num, rfl, by rw [← ES.out]; exact HO3.out, HB3.out⟩
              case measure => simp [intOf]; omega
      · obtain rfl : k = N := by omega
        have eL : (D.take k).foldl cntStep [] = countsAV W H ac up a b (s : Int) := by rw [countsAV, OK.out, if_pos rfl, ← HDD.out, List.take_of_length_le (by have := DLEN.out; omega)]; rfl
        rw [eL] at hown
        have HO := Lib.hid (hown.lower B.out.size); have HB := Lib.hid (below_next B.out hbw)
        clear hown hbw eL
        go_wp2
        go_ret2
        exact ⟨_, _, _, by rw [OK.out]; rfl, HO.out, HB.out⟩

set_option maxRecDepth 100000 in
set_option maxHeartbeats 2000000 in
theorem impl_CountByAround (W H : Int) (ac up : Bool) (a b q : Int) (w : World) :
    Calls Try.prog 35 #[ard W H ac up, lpr a b, .int .i64 q] w fun e w' => ∃ A' n' c', e = .returned (.tuple #[.slice A' n' c', .bool (okLA W H a b q)]) ∧ OwnI 3 w' w.heap.size A' n' c' (countsAV W H ac up a b q) ∧ Below w.heap.size w w' := by
  obtain ⟨W2, hW2⟩ : ∃ W2, W2 = ((w.alloc (.cells #[.int .i64 W, .int .i64 H, .bool ac, .bool up] 25)).alloc (.cells #[.int .i64 a, .int .i64 b] 36)).alloc (.cells #[.int .i64 q] 3) := ⟨_, rfl⟩
  have hsz : W2.heap.size = w.heap.size + 3 := by rw [hW2]; simp
  have a0 : W2.cell? ⟨w.heap.size, 0, none⟩ = some (.int .i64 W) := by rw [hW2]; go_simp
  have a1 : W2.cell? ⟨w.heap.size, 1, none⟩ = some (.int .i64 H) := by rw [hW2]; go_simp
  have a2 : W2.cell? ⟨w.heap.size, 2, none⟩ = some (.bool ac) := by rw [hW2]; go_simp
  have a3 : W2.cell? ⟨w.heap.size, 3, none⟩ = some (.bool up) := by rw [hW2]; go_simp
  have al : w.heap.size < W2.heap.size := by omega
  have l0 : W2.cell? ⟨w.heap.size + 1, 0, none⟩ = some (.int .i64 a) := by rw [hW2]; go_simp
  have l1 : W2.cell? ⟨w.heap.size + 1, 1, none⟩ = some (.int .i64 b) := by rw [hW2]; go_simp
  have ll : w.heap.size + 1 < W2.heap.size := by omega
  have q0 : W2.cell? ⟨w.heap.size + 1 + 1, 0, none⟩ = some (.int .i64 q) := by rw [hW2]; go_simp
  have ql : w.heap.size + 1 + 1 < W2.heap.size := by omega
  have B := Lib.hid (show Below w.heap.size w W2 by rw [hW2]; repeat (first | exact Below.refl _ _ | refine below_new ?_ _))
  have RQ := Lib.hid (show Rd W2 (some ⟨w.heap.size + 1 + 1, 0, none⟩) 1 [q] from ⟨rfl, by omega, fun k hk => by
    obtain rfl : k = 0 := by omega
    exact ⟨_, 0, _, rfl, by omega, rfl, q0⟩⟩)
  clear q0 ql hsz
  have HE := Lib.hid (show (leaperB a b && aroundB W H [q]) = okLA W H a b q by rw [aroundB_one]; rfl)
  cases hq : okLA W H a b q
  · have OK := Lib.hid hq
    go_enter Try.func35, Try.ntmps35
    go_wp2_with fail
    rw [← hW2]
    clear hW2
    refine (isLeaperAround_any W H ac up a b _ 1 1 _ _ RQ.out).mono ?_
    rw [HE.out, hq]
    rintro e wv ⟨rfl, hb⟩
    replace a0 := cell_keep a0 al hb
    replace a1 := cell_keep a1 al hb
    replace a2 := cell_keep a2 al hb
    replace a3 := cell_keep a3 al hb
    replace al := lt_keep al hb
    replace l0 := cell_keep l0 ll hb
    replace l1 := cell_keep l1 ll hb
    replace ll := lt_keep ll hb
    replace B := Lib.hid (below_next B.out hb)
    clear hb
    clear RQ HE
    clear a0 a1 a2 a3 l0 l1 al ll
    go_wp2
    go_ret2
    exact ⟨none, 0, 0, by first | (rw [OK.out]; rfl) | rfl, by rw [countsAV_no OK.out]; exact OwnI.none_ _ _ _, B.out⟩
  · have OK := Lib.hid hq
    have HC := Lib.hid (okLA_iff.1 hq)
    have HT := Lib.hid (show twoA W H a b = true from twoA_iff.2 ⟨HC.out.1, HC.out.2.1⟩)
    have HF := Lib.hid (ar_facts HT.out)
    have HPR := HC.out.2.2
    obtain ⟨N, hN⟩ : ∃ N, (W * H).toNat = N := ⟨_, rfl⟩
    rw [hN] at HF
    rw [HF.out.wh] at HPR
    obtain ⟨s, rfl⟩ : ∃ s : Nat, q = (s : Int) := ⟨q.toNat, by omega⟩
    have hs : s < N := by omega
    have N2 := HF.out.n.2
    have HLN := Lib.hid (distA_len (ac := ac) (up := up) HF.out HPR)
    have HBB := Lib.hid (distA_bd (ac := ac) (up := up) HF.out hs)
    have HNN := Lib.hid hN
    clear HPR
    go_enter Try.func35, Try.ntmps35
    go_wp2_with fail
    rw [← hW2]
    clear hW2
    refine (isLeaperAround_any W H ac up a b _ 1 1 _ _ RQ.out).mono ?_
    rw [HE.out, hq]
    rintro e wv ⟨rfl, hb⟩
    replace a0 := cell_keep a0 al hb
    replace a1 := cell_keep a1 al hb
    replace a2 := cell_keep a2 al hb
    replace a3 := cell_keep a3 al hb
    replace al := lt_keep al hb
    replace l0 := cell_keep l0 ll hb
    replace l1 := cell_keep l1 ll hb
    replace ll := lt_keep ll hb
    replace B := Lib.hid (below_next B.out hb)
    clear hb
    clear RQ HE
    go_wp2_with fail
    refine (onwardAround_any W H ac up a b _ HF.out.g HF.out.l).mono ?_
    rintro e wx ⟨mb, rfl, hom, hb⟩
    rw [HNN.out] at hom
    replace B := Lib.hid (below_next B.out hb)
    clear hb
    clear a0 a1 a2 a3 l0 l1 al ll
    go_wp2_with fail
    refine (distancesFrom_any _ mb _ _ s _ hom (by omega) (upTo_mem.2 (by omega)) (fun x hx => by have := upTo_mem.1 hx; omega) (adjA_in HF.out)).mono ?_
    rintro e wy ⟨rfl, hb⟩
    replace B := Lib.hid (below_next B.out hb)
    clear hb hom
    obtain ⟨gn, hl, hbnd, hmx, hg, hCC, _⟩ := countsA_facts (ac := ac) (up := up) HF.out hs
    have HCT := Lib.hid (fun w' => counts_any _ _ gn w' hl hbnd hmx hg hCC)
    generalize (Value.agg ((farL (leapsA W H ac up a b) 144 (s : Int)).map (Value.int .i64)).toArray) = LV at HCT ⊢
    clear hl hbnd hmx hg hCC
    go_wp2_with fail
    refine (HCT.out _).mono ?_
    rintro e wz ⟨A', n', c', rfl, hown, hb⟩
    have O := Lib.hid (hown.lower B.out.size)
    replace B := Lib.hid (below_next B.out hb)
    clear hown hb HCT
    go_wp2
    go_ret2
    exact ⟨A', n', c', by first | (rw [OK.out]; rfl) | rfl, by rw [countsAV, OK.out]; exact O.out, B.out⟩

end Go.Proofs.Ytaliknhfcdmohaa

namespace Go.Proofs.Ytaliknhfcdmohaa
open Go.RowKit

set_option maxHeartbeats 4000000 in
set_option maxRecDepth 100000 in
theorem law_CountByAround (w : World) (W H : Int) (ac up : Bool) (a b : Int) (q2 : Int) :
    Calls Try.prog 9 #[ard W H ac up, lpr a b, .int .i64 q2] w fun e w' => e = .returned (.bool true) ∧ Below w.heap.size w w' := by
  obtain ⟨W2, hW2⟩ : ∃ W2, W2 = (w.alloc (.cells #[.int .i64 W, .int .i64 H, .bool ac, .bool up] 23)).alloc (.cells #[.int .i64 a, .int .i64 b] 32) := ⟨_, rfl⟩
  have hsz : W2.heap.size = w.heap.size + 2 := by rw [hW2]; simp
  have a0 : W2.cell? ⟨w.heap.size, 0, none⟩ = some (.int .i64 W) := by rw [hW2]; go_simp
  have a1 : W2.cell? ⟨w.heap.size, 1, none⟩ = some (.int .i64 H) := by rw [hW2]; go_simp
  have a2 : W2.cell? ⟨w.heap.size, 2, none⟩ = some (.bool ac) := by rw [hW2]; go_simp
  have a3 : W2.cell? ⟨w.heap.size, 3, none⟩ = some (.bool up) := by rw [hW2]; go_simp
  have al : w.heap.size < W2.heap.size := by omega
  have l0 : W2.cell? ⟨w.heap.size + 1, 0, none⟩ = some (.int .i64 a) := by rw [hW2]; go_simp
  have l1 : W2.cell? ⟨w.heap.size + 1, 1, none⟩ = some (.int .i64 b) := by rw [hW2]; go_simp
  have ll : w.heap.size + 1 < W2.heap.size := by omega
  have B := Lib.hid (show Below w.heap.size w W2 by rw [hW2]; repeat (first | exact Below.refl _ _ | refine below_new ?_ _))
  have hs0 := Lib.hid B.out.size
  go_enter Try.func9, Try.ntmps9
  go_wp2_with fail
  rw [← hW2]
  clear hW2
  refine wp_region_held_drew (S := fun w' => w'.cell? ⟨w.heap.size, 0, none⟩ = some (.int .i64 W) ∧ w'.cell? ⟨w.heap.size, 1, none⟩ = some (.int .i64 H) ∧ w'.cell? ⟨w.heap.size, 2, none⟩ = some (.bool ac) ∧ w'.cell? ⟨w.heap.size, 3, none⟩ = some (.bool up) ∧ w'.cell? ⟨w.heap.size + 1, 0, none⟩ = some (.int .i64 a) ∧ w'.cell? ⟨w.heap.size + 1, 1, none⟩ = some (.int .i64 b)) (by kernel_rfl) ?_ (fun hHeld => ?_)
  · (try dsimp only)
    exact ⟨a0, a1, a2, a3, l0, l1⟩
  refine wpAnyH_take (i := 0) (oi := ⟨_, _, _, _, _, _⟩) (v := ?_) rfl (by kernel_rfl) (by kernel_rfl) (by kernel_rfl) (fun _ _ _ h => h) (Or.inl ⟨by rfl, ?_⟩) (by assumption) ?_
  rotate_left
  · intro w hSw
    (try dsimp only at hSw)
    go_simp
    (try with_reducible rfl)
  (try simp only [Act.put, List.setIfInBounds_toArray, List.set_cons_zero, List.set_cons_succ])
  refine wpAnyH_take (i := 2) (oi := ⟨_, _, _, _, _, _⟩) (v := ?_) rfl (by kernel_rfl) (by kernel_rfl) (by kernel_rfl) (fun _ _ _ h => h) (Or.inl ⟨by rfl, ?_⟩) (by assumption) ?_
  rotate_left
  · intro w hSw
    (try dsimp only at hSw)
    go_simp
    (try with_reducible rfl)
  (try simp only [Act.put, List.setIfInBounds_toArray, List.set_cons_zero, List.set_cons_succ])
  refine wpAnyH_take (i := 4) (oi := ⟨_, _, _, _, _, _⟩) (v := ?_) rfl (by kernel_rfl) (by kernel_rfl) (by kernel_rfl) (fun _ _ _ h => h) (Or.inl ⟨by rfl, ?_⟩) (by assumption) ?_
  rotate_left
  · intro w hSw
    (try dsimp only at hSw)
    go_simp
    (try with_reducible rfl)
  (try simp only [Act.put, List.setIfInBounds_toArray, List.set_cons_zero, List.set_cons_succ])
  refine wpAnyH_ready (rs := [1]) (by kernel_rfl) (by simp) ?_
  refine AllReadyH.cons (o := ⟨_, _, _, _, _, _⟩) rfl (fun K hK => ?_) AllReadyH.nil
  go_simp
  (go_at_call 18; refine (toAround_any _ _ _ _ _).mono ?_; rintro e wv ⟨rfl, hb⟩; (repeat (first | replace hb := below_undrew hb | replace hb := below_undrewN hb)); have hs1 := Lib.hid hb.size; replace a0 := cell_keep a0 al hb; replace a1 := cell_keep a1 al hb; replace a2 := cell_keep a2 al hb; replace a3 := cell_keep a3 al hb; replace al := lt_keep al hb; replace l0 := cell_keep l0 ll hb; replace l1 := cell_keep l1 ll hb; replace ll := lt_keep ll hb; replace B := Lib.hid (below_next B.out hb); clear hb)
  (try go_wp2_with fail)
  refine hK.out _ _ ?_ (fun hHeld => ?_)
  · (try dsimp only)
    exact ⟨a0, a1, a2, a3, l0, l1⟩
  clear hK K
  (try simp only [Act.put, List.setIfInBounds_toArray, List.set_cons_zero, List.set_cons_succ])
  refine wpAnyH_ready (rs := [3]) (by kernel_rfl) (by simp) ?_
  refine AllReadyH.cons (o := ⟨_, _, _, _, _, _⟩) rfl (fun K hK => ?_) AllReadyH.nil
  go_simp
  (go_at_call 23; refine (toLeaper_any _ _ _).mono ?_; rintro e wv ⟨rfl, hb⟩; (repeat (first | replace hb := below_undrew hb | replace hb := below_undrewN hb)); have hs2 := Lib.hid hb.size; replace a0 := cell_keep a0 al hb; replace a1 := cell_keep a1 al hb; replace a2 := cell_keep a2 al hb; replace a3 := cell_keep a3 al hb; replace al := lt_keep al hb; replace l0 := cell_keep l0 ll hb; replace l1 := cell_keep l1 ll hb; replace ll := lt_keep ll hb; replace B := Lib.hid (below_next B.out hb); clear hb)
  (try go_wp2_with fail)
  refine hK.out _ _ ?_ (fun hHeld => ?_)
  · (try dsimp only)
    exact ⟨a0, a1, a2, a3, l0, l1⟩
  clear hK K
  (try simp only [Act.put, List.setIfInBounds_toArray, List.set_cons_zero, List.set_cons_succ])
  refine wpAnyH_ready (rs := [5]) (by kernel_rfl) (by simp) ?_
  refine AllReadyH.cons (o := ⟨_, _, _, _, _, _⟩) rfl (fun K hK => ?_) AllReadyH.nil
  go_simp
  (go_at_call 34; refine (spec_CountByAround _ _ _ _ _ _ _ _).mono ?_; rintro e wv ⟨AW, nW, cW, rfl, ownW, hb⟩; (repeat (first | replace hb := below_undrew hb | replace hb := below_undrewN hb)); have hs3 := Lib.hid hb.size; replace a0 := cell_keep a0 al hb; replace a1 := cell_keep a1 al hb; replace a2 := cell_keep a2 al hb; replace a3 := cell_keep a3 al hb; replace al := lt_keep al hb; replace l0 := cell_keep l0 ll hb; replace l1 := cell_keep l1 ll hb; replace ll := lt_keep ll hb; replace B := Lib.hid (below_next B.out hb); have OW := Lib.hid ownW; have SPW := Lib.hid ownW.span; clear ownW; clear hb)
  (try go_wp2_with fail)
  refine hK.out _ _ ?_ (fun hHeld => ?_)
  · (try dsimp only)
    exact ⟨a0, a1, a2, a3, l0, l1⟩
  clear hK K
  (try simp only [Act.put, List.setIfInBounds_toArray, List.set_cons_zero, List.set_cons_succ])
  refine wpAnyH_take (i := 6) (oi := ⟨_, _, _, _, _, _⟩) (v := ?_) rfl (by kernel_rfl) (by kernel_rfl) (by kernel_rfl) (fun _ _ _ h => h) (Or.inl ⟨by rfl, ?_⟩) (by assumption) ?_
  rotate_left
  · intro w hSw
    (try dsimp only at hSw)
    go_simp
    (try with_reducible rfl)
  (try simp only [Act.put, List.setIfInBounds_toArray, List.set_cons_zero, List.set_cons_succ])
  refine wpAnyH_take (i := 7) (oi := ⟨_, _, _, _, _, _⟩) (v := ?_) rfl (by kernel_rfl) (by kernel_rfl) (by kernel_rfl) (fun _ _ _ h => h) (Or.inl ⟨by rfl, ?_⟩) (by assumption) ?_
  rotate_left
  · intro w hSw
    (try dsimp only at hSw)
    go_simp
    (try with_reducible rfl)
  (try simp only [Act.put, List.setIfInBounds_toArray, List.set_cons_zero, List.set_cons_succ])
  refine wpAnyH_take (i := 8) (oi := ⟨_, _, _, _, _, _⟩) (v := ?_) rfl (by kernel_rfl) (by kernel_rfl) (by kernel_rfl) (fun _ _ _ h => h) (Or.inl ⟨by rfl, ?_⟩) (by assumption) ?_
  rotate_left
  · intro w hSw
    (try dsimp only at hSw)
    go_simp
    (try with_reducible rfl)
  (try simp only [Act.put, List.setIfInBounds_toArray, List.set_cons_zero, List.set_cons_succ])
  refine wpAnyH_take (i := 9) (oi := ⟨_, _, _, _, _, _⟩) (v := ?_) rfl (by kernel_rfl) (by kernel_rfl) (by kernel_rfl) (fun _ _ _ h => h) (Or.inl ⟨by rfl, ?_⟩) (by assumption) ?_
  rotate_left
  · intro w hSw
    (try dsimp only at hSw)
    go_simp
    (try with_reducible rfl)
  (try simp only [Act.put, List.setIfInBounds_toArray, List.set_cons_zero, List.set_cons_succ])
  refine wpAnyH_take (i := 10) (oi := ⟨_, _, _, _, _, _⟩) (v := ?_) rfl (by kernel_rfl) (by kernel_rfl) (by kernel_rfl) (fun _ _ _ h => h) (Or.inl ⟨by rfl, ?_⟩) (by assumption) ?_
  rotate_left
  · intro w hSw
    (try dsimp only at hSw)
    go_simp
    (try with_reducible rfl)
  (try simp only [Act.put, List.setIfInBounds_toArray, List.set_cons_zero, List.set_cons_succ])
  refine wpAnyH_done (by kernel_rfl) ?_ _
  clear hHeld
  go_wp2_with fail
  refine wp_region_held_drew (S := fun w' => w'.cell? ⟨w.heap.size, 0, none⟩ = some (.int .i64 W) ∧ w'.cell? ⟨w.heap.size, 1, none⟩ = some (.int .i64 H) ∧ w'.cell? ⟨w.heap.size, 2, none⟩ = some (.bool ac) ∧ w'.cell? ⟨w.heap.size, 3, none⟩ = some (.bool up) ∧ w'.cell? ⟨w.heap.size + 1, 0, none⟩ = some (.int .i64 a) ∧ w'.cell? ⟨w.heap.size + 1, 1, none⟩ = some (.int .i64 b)) (by kernel_rfl) ?_ (fun hHeld => ?_)
  · (try dsimp only)
    exact ⟨a0, a1, a2, a3, l0, l1⟩
  refine wpAnyH_take (i := 0) (oi := ⟨_, _, _, _, _, _⟩) (v := ?_) rfl (by kernel_rfl) (by kernel_rfl) (by kernel_rfl) (fun _ _ _ h => h) (Or.inl ⟨by rfl, ?_⟩) (by assumption) ?_
  rotate_left
  · intro w hSw
    (try dsimp only at hSw)
    go_simp
    (try with_reducible rfl)
  (try simp only [Act.put, List.setIfInBounds_toArray, List.set_cons_zero, List.set_cons_succ])
  refine wpAnyH_take (i := 2) (oi := ⟨_, _, _, _, _, _⟩) (v := ?_) rfl (by kernel_rfl) (by kernel_rfl) (by kernel_rfl) (fun _ _ _ h => h) (Or.inl ⟨by rfl, ?_⟩) (by assumption) ?_
  rotate_left
  · intro w hSw
    (try dsimp only at hSw)
    go_simp
    (try with_reducible rfl)
  (try simp only [Act.put, List.setIfInBounds_toArray, List.set_cons_zero, List.set_cons_succ])
  refine wpAnyH_take (i := 4) (oi := ⟨_, _, _, _, _, _⟩) (v := ?_) rfl (by kernel_rfl) (by kernel_rfl) (by kernel_rfl) (fun _ _ _ h => h) (Or.inl ⟨by rfl, ?_⟩) (by assumption) ?_
  rotate_left
  · intro w hSw
    (try dsimp only at hSw)
    go_simp
    (try with_reducible rfl)
  (try simp only [Act.put, List.setIfInBounds_toArray, List.set_cons_zero, List.set_cons_succ])
  refine wpAnyH_ready (rs := [1]) (by kernel_rfl) (by simp) ?_
  refine AllReadyH.cons (o := ⟨_, _, _, _, _, _⟩) rfl (fun K hK => ?_) AllReadyH.nil
  go_simp
  (go_at_call 18; refine (toAround_any _ _ _ _ _).mono ?_; rintro e wv ⟨rfl, hb⟩; (repeat (first | replace hb := below_undrew hb | replace hb := below_undrewN hb)); have hs4 := Lib.hid hb.size; replace a0 := cell_keep a0 al hb; replace a1 := cell_keep a1 al hb; replace a2 := cell_keep a2 al hb; replace a3 := cell_keep a3 al hb; replace al := lt_keep al hb; replace l0 := cell_keep l0 ll hb; replace l1 := cell_keep l1 ll hb; replace ll := lt_keep ll hb; replace OW := Lib.hid (OW.out.keep hb); replace B := Lib.hid (below_next B.out hb); clear hb)
  (try go_wp2_with fail)
  refine hK.out _ _ ?_ (fun hHeld => ?_)
  · (try dsimp only)
    exact ⟨a0, a1, a2, a3, l0, l1⟩
  clear hK K
  (try simp only [Act.put, List.setIfInBounds_toArray, List.set_cons_zero, List.set_cons_succ])
  refine wpAnyH_ready (rs := [3]) (by kernel_rfl) (by simp) ?_
  refine AllReadyH.cons (o := ⟨_, _, _, _, _, _⟩) rfl (fun K hK => ?_) AllReadyH.nil
  go_simp
  (go_at_call 23; refine (toLeaper_any _ _ _).mono ?_; rintro e wv ⟨rfl, hb⟩; (repeat (first | replace hb := below_undrew hb | replace hb := below_undrewN hb)); have hs5 := Lib.hid hb.size; replace a0 := cell_keep a0 al hb; replace a1 := cell_keep a1 al hb; replace a2 := cell_keep a2 al hb; replace a3 := cell_keep a3 al hb; replace al := lt_keep al hb; replace l0 := cell_keep l0 ll hb; replace l1 := cell_keep l1 ll hb; replace ll := lt_keep ll hb; replace OW := Lib.hid (OW.out.keep hb); replace B := Lib.hid (below_next B.out hb); clear hb)
  (try go_wp2_with fail)
  refine hK.out _ _ ?_ (fun hHeld => ?_)
  · (try dsimp only)
    exact ⟨a0, a1, a2, a3, l0, l1⟩
  clear hK K
  (try simp only [Act.put, List.setIfInBounds_toArray, List.set_cons_zero, List.set_cons_succ])
  refine wpAnyH_ready (rs := [5]) (by kernel_rfl) (by simp) ?_
  refine AllReadyH.cons (o := ⟨_, _, _, _, _, _⟩) rfl (fun K hK => ?_) AllReadyH.nil
  go_simp
  (go_at_call 35; refine (impl_CountByAround _ _ _ _ _ _ _ _).mono ?_; rintro e wv ⟨AG, nG, cG, rfl, ownG, hb⟩; (repeat (first | replace hb := below_undrew hb | replace hb := below_undrewN hb)); have hs6 := Lib.hid hb.size; replace a0 := cell_keep a0 al hb; replace a1 := cell_keep a1 al hb; replace a2 := cell_keep a2 al hb; replace a3 := cell_keep a3 al hb; replace al := lt_keep al hb; replace l0 := cell_keep l0 ll hb; replace l1 := cell_keep l1 ll hb; replace ll := lt_keep ll hb; replace OW := Lib.hid (OW.out.keep hb); replace B := Lib.hid (below_next B.out hb); have OG := Lib.hid ownG; have SPG := Lib.hid ownG.span; clear ownG; clear hb)
  (try go_wp2_with fail)
  refine hK.out _ _ ?_ (fun hHeld => ?_)
  · (try dsimp only)
    exact ⟨a0, a1, a2, a3, l0, l1⟩
  clear hK K
  (try simp only [Act.put, List.setIfInBounds_toArray, List.set_cons_zero, List.set_cons_succ])
  refine wpAnyH_take (i := 6) (oi := ⟨_, _, _, _, _, _⟩) (v := ?_) rfl (by kernel_rfl) (by kernel_rfl) (by kernel_rfl) (fun _ _ _ h => h) (Or.inl ⟨by rfl, ?_⟩) (by assumption) ?_
  rotate_left
  · intro w hSw
    (try dsimp only at hSw)
    go_simp
    (try with_reducible rfl)
  (try simp only [Act.put, List.setIfInBounds_toArray, List.set_cons_zero, List.set_cons_succ])
  refine wpAnyH_take (i := 7) (oi := ⟨_, _, _, _, _, _⟩) (v := ?_) rfl (by kernel_rfl) (by kernel_rfl) (by kernel_rfl) (fun _ _ _ h => h) (Or.inl ⟨by rfl, ?_⟩) (by assumption) ?_
  rotate_left
  · intro w hSw
    (try dsimp only at hSw)
    go_simp
    (try with_reducible rfl)
  (try simp only [Act.put, List.setIfInBounds_toArray, List.set_cons_zero, List.set_cons_succ])
  refine wpAnyH_take (i := 8) (oi := ⟨_, _, _, _, _, _⟩) (v := ?_) rfl (by kernel_rfl) (by kernel_rfl) (by kernel_rfl) (fun _ _ _ h => h) (Or.inl ⟨by rfl, ?_⟩) (by assumption) ?_
  rotate_left
  · intro w hSw
    (try dsimp only at hSw)
    go_simp
    (try with_reducible rfl)
  (try simp only [Act.put, List.setIfInBounds_toArray, List.set_cons_zero, List.set_cons_succ])
  refine wpAnyH_take (i := 9) (oi := ⟨_, _, _, _, _, _⟩) (v := ?_) rfl (by kernel_rfl) (by kernel_rfl) (by kernel_rfl) (fun _ _ _ h => h) (Or.inl ⟨by rfl, ?_⟩) (by assumption) ?_
  rotate_left
  · intro w hSw
    (try dsimp only at hSw)
    go_simp
    (try with_reducible rfl)
  (try simp only [Act.put, List.setIfInBounds_toArray, List.set_cons_zero, List.set_cons_succ])
  refine wpAnyH_take (i := 10) (oi := ⟨_, _, _, _, _, _⟩) (v := ?_) rfl (by kernel_rfl) (by kernel_rfl) (by kernel_rfl) (fun _ _ _ h => h) (Or.inl ⟨by rfl, ?_⟩) (by assumption) ?_
  rotate_left
  · intro w hSw
    (try dsimp only at hSw)
    go_simp
    (try with_reducible rfl)
  (try simp only [Act.put, List.setIfInBounds_toArray, List.set_cons_zero, List.set_cons_succ])
  refine wpAnyH_done (by kernel_rfl) ?_ _
  clear hHeld
  have SZ := Lib.hid (show nG ≤ 1000000 by rw [← OG.out.len]; exact len_CountByAround _ _ _ _ _ _ _)
  go_wp2_with fail
  refine (eqIntS_any _ _ _ _ _ _ _ _ _ OG.out.rd OW.out.rd).mono ?_
  simp only [decide_true]
  rintro e wv ⟨rfl, hb⟩
  have hs7 := Lib.hid hb.size
  replace a0 := cell_keep a0 al hb
  replace a1 := cell_keep a1 al hb
  replace a2 := cell_keep a2 al hb
  replace a3 := cell_keep a3 al hb
  replace al := lt_keep al hb
  replace l0 := cell_keep l0 ll hb
  replace l1 := cell_keep l1 ll hb
  replace ll := lt_keep ll hb
  replace OW := Lib.hid (OW.out.keep hb)
  replace OG := Lib.hid (OG.out.keep hb)
  replace B := Lib.hid (below_next B.out hb)
  clear hb
  go_wp2_with fail
  refine (markIntS_any _ _ _ _ 1 _ _ OG.out (by omega) (by have := SZ.out; omega)).mono ?_
  rintro e wv ⟨rfl, OG', hg⟩
  replace a0 := cell_mark a0 hg (row_ne fun b hb => by have := SPG.out b hb; have := hsz; have := hs0.out; have := hs1.out; have := hs2.out; have := hs3.out; have := hs4.out; have := hs5.out; have := hs6.out; have := hs7.out; omega)
  replace a1 := cell_mark a1 hg (row_ne fun b hb => by have := SPG.out b hb; have := hsz; have := hs0.out; have := hs1.out; have := hs2.out; have := hs3.out; have := hs4.out; have := hs5.out; have := hs6.out; have := hs7.out; omega)
  replace a2 := cell_mark a2 hg (row_ne fun b hb => by have := SPG.out b hb; have := hsz; have := hs0.out; have := hs1.out; have := hs2.out; have := hs3.out; have := hs4.out; have := hs5.out; have := hs6.out; have := hs7.out; omega)
  replace a3 := cell_mark a3 hg (row_ne fun b hb => by have := SPG.out b hb; have := hsz; have := hs0.out; have := hs1.out; have := hs2.out; have := hs3.out; have := hs4.out; have := hs5.out; have := hs6.out; have := hs7.out; omega)
  replace al := Nat.lt_of_lt_of_le al hg.size
  replace l0 := cell_mark l0 hg (row_ne fun b hb => by have := SPG.out b hb; have := hsz; have := hs0.out; have := hs1.out; have := hs2.out; have := hs3.out; have := hs4.out; have := hs5.out; have := hs6.out; have := hs7.out; omega)
  replace l1 := cell_mark l1 hg (row_ne fun b hb => by have := SPG.out b hb; have := hsz; have := hs0.out; have := hs1.out; have := hs2.out; have := hs3.out; have := hs4.out; have := hs5.out; have := hs6.out; have := hs7.out; omega)
  replace ll := Nat.lt_of_lt_of_le ll hg.size
  replace OW := Lib.hid (OW.out.other hg fun a ha => row_ne fun b hb => by have := SPW.out a ha; have := SPG.out b hb; have := hsz; have := hs0.out; have := hs1.out; have := hs2.out; have := hs3.out; have := hs4.out; have := hs5.out; have := hs6.out; have := hs7.out; omega)
  replace B := Lib.hid (B.out.grown hg B.out.size (row_ge fun b hb => by have := SPG.out b hb; have := hsz; have := hs0.out; have := hs1.out; have := hs2.out; have := hs3.out; have := hs4.out; have := hs5.out; have := hs6.out; have := hs7.out; omega))
  replace OG := Lib.hid OG'; clear OG' hg
  go_wp2_with fail
  refine (heldIntS_any _ _ _ 1 _ OG.out.rd (by omega) (by have := SZ.out; omega)).mono ?_
  rintro e wv ⟨rfl, hb⟩
  have hs8 := Lib.hid hb.size
  replace a0 := cell_keep a0 al hb
  replace a1 := cell_keep a1 al hb
  replace a2 := cell_keep a2 al hb
  replace a3 := cell_keep a3 al hb
  replace al := lt_keep al hb
  replace l0 := cell_keep l0 ll hb
  replace l1 := cell_keep l1 ll hb
  replace ll := lt_keep ll hb
  replace OW := Lib.hid (OW.out.keep hb)
  replace OG := Lib.hid (OG.out.keep hb)
  replace B := Lib.hid (below_next B.out hb)
  clear hb
  go_wp2_with fail
  refine wp_region_held_drew (S := fun w' => w'.cell? ⟨w.heap.size, 0, none⟩ = some (.int .i64 W) ∧ w'.cell? ⟨w.heap.size, 1, none⟩ = some (.int .i64 H) ∧ w'.cell? ⟨w.heap.size, 2, none⟩ = some (.bool ac) ∧ w'.cell? ⟨w.heap.size, 3, none⟩ = some (.bool up) ∧ w'.cell? ⟨w.heap.size + 1, 0, none⟩ = some (.int .i64 a) ∧ w'.cell? ⟨w.heap.size + 1, 1, none⟩ = some (.int .i64 b)) (by kernel_rfl) ?_ (fun hHeld => ?_)
  · (try dsimp only)
    exact ⟨a0, a1, a2, a3, l0, l1⟩
  refine wpAnyH_take (i := 0) (oi := ⟨_, _, _, _, _, _⟩) (v := ?_) rfl (by kernel_rfl) (by kernel_rfl) (by kernel_rfl) (fun _ _ _ h => h) (Or.inl ⟨by rfl, ?_⟩) (by assumption) ?_
  rotate_left
  · intro w hSw
    (try dsimp only at hSw)
    go_simp
    (try with_reducible rfl)
  (try simp only [Act.put, List.setIfInBounds_toArray, List.set_cons_zero, List.set_cons_succ])
  refine wpAnyH_take (i := 2) (oi := ⟨_, _, _, _, _, _⟩) (v := ?_) rfl (by kernel_rfl) (by kernel_rfl) (by kernel_rfl) (fun _ _ _ h => h) (Or.inl ⟨by rfl, ?_⟩) (by assumption) ?_
  rotate_left
  · intro w hSw
    (try dsimp only at hSw)
    go_simp
    (try with_reducible rfl)
  (try simp only [Act.put, List.setIfInBounds_toArray, List.set_cons_zero, List.set_cons_succ])
  refine wpAnyH_take (i := 4) (oi := ⟨_, _, _, _, _, _⟩) (v := ?_) rfl (by kernel_rfl) (by kernel_rfl) (by kernel_rfl) (fun _ _ _ h => h) (Or.inl ⟨by rfl, ?_⟩) (by assumption) ?_
  rotate_left
  · intro w hSw
    (try dsimp only at hSw)
    go_simp
    (try with_reducible rfl)
  (try simp only [Act.put, List.setIfInBounds_toArray, List.set_cons_zero, List.set_cons_succ])
  refine wpAnyH_ready (rs := [1]) (by kernel_rfl) (by simp) ?_
  refine AllReadyH.cons (o := ⟨_, _, _, _, _, _⟩) rfl (fun K hK => ?_) AllReadyH.nil
  go_simp
  (go_at_call 18; refine (toAround_any _ _ _ _ _).mono ?_; rintro e wv ⟨rfl, hb⟩; (repeat (first | replace hb := below_undrew hb | replace hb := below_undrewN hb)); have hs9 := Lib.hid hb.size; replace a0 := cell_keep a0 al hb; replace a1 := cell_keep a1 al hb; replace a2 := cell_keep a2 al hb; replace a3 := cell_keep a3 al hb; replace al := lt_keep al hb; replace l0 := cell_keep l0 ll hb; replace l1 := cell_keep l1 ll hb; replace ll := lt_keep ll hb; replace OW := Lib.hid (OW.out.keep hb); replace OG := Lib.hid (OG.out.keep hb); replace B := Lib.hid (below_next B.out hb); clear hb)
  (try go_wp2_with fail)
  refine hK.out _ _ ?_ (fun hHeld => ?_)
  · (try dsimp only)
    exact ⟨a0, a1, a2, a3, l0, l1⟩
  clear hK K
  (try simp only [Act.put, List.setIfInBounds_toArray, List.set_cons_zero, List.set_cons_succ])
  refine wpAnyH_ready (rs := [3]) (by kernel_rfl) (by simp) ?_
  refine AllReadyH.cons (o := ⟨_, _, _, _, _, _⟩) rfl (fun K hK => ?_) AllReadyH.nil
  go_simp
  (go_at_call 23; refine (toLeaper_any _ _ _).mono ?_; rintro e wv ⟨rfl, hb⟩; (repeat (first | replace hb := below_undrew hb | replace hb := below_undrewN hb)); have hs10 := Lib.hid hb.size; replace a0 := cell_keep a0 al hb; replace a1 := cell_keep a1 al hb; replace a2 := cell_keep a2 al hb; replace a3 := cell_keep a3 al hb; replace al := lt_keep al hb; replace l0 := cell_keep l0 ll hb; replace l1 := cell_keep l1 ll hb; replace ll := lt_keep ll hb; replace OW := Lib.hid (OW.out.keep hb); replace OG := Lib.hid (OG.out.keep hb); replace B := Lib.hid (below_next B.out hb); clear hb)
  (try go_wp2_with fail)
  refine hK.out _ _ ?_ (fun hHeld => ?_)
  · (try dsimp only)
    exact ⟨a0, a1, a2, a3, l0, l1⟩
  clear hK K
  (try simp only [Act.put, List.setIfInBounds_toArray, List.set_cons_zero, List.set_cons_succ])
  refine wpAnyH_ready (rs := [5]) (by kernel_rfl) (by simp) ?_
  refine AllReadyH.cons (o := ⟨_, _, _, _, _, _⟩) rfl (fun K hK => ?_) AllReadyH.nil
  go_simp
  (go_at_call 35; refine (impl_CountByAround _ _ _ _ _ _ _ _).mono ?_; rintro e wv ⟨AH, nH, cH, rfl, ownH, hb⟩; (repeat (first | replace hb := below_undrew hb | replace hb := below_undrewN hb)); have hs11 := Lib.hid hb.size; replace a0 := cell_keep a0 al hb; replace a1 := cell_keep a1 al hb; replace a2 := cell_keep a2 al hb; replace a3 := cell_keep a3 al hb; replace al := lt_keep al hb; replace l0 := cell_keep l0 ll hb; replace l1 := cell_keep l1 ll hb; replace ll := lt_keep ll hb; replace OW := Lib.hid (OW.out.keep hb); replace OG := Lib.hid (OG.out.keep hb); replace B := Lib.hid (below_next B.out hb); have OH := Lib.hid ownH; have SPH := Lib.hid ownH.span; clear ownH; clear hb)
  (try go_wp2_with fail)
  refine hK.out _ _ ?_ (fun hHeld => ?_)
  · (try dsimp only)
    exact ⟨a0, a1, a2, a3, l0, l1⟩
  clear hK K
  (try simp only [Act.put, List.setIfInBounds_toArray, List.set_cons_zero, List.set_cons_succ])
  refine wpAnyH_take (i := 6) (oi := ⟨_, _, _, _, _, _⟩) (v := ?_) rfl (by kernel_rfl) (by kernel_rfl) (by kernel_rfl) (fun _ _ _ h => h) (Or.inl ⟨by rfl, ?_⟩) (by assumption) ?_
  rotate_left
  · intro w hSw
    (try dsimp only at hSw)
    go_simp
    (try with_reducible rfl)
  (try simp only [Act.put, List.setIfInBounds_toArray, List.set_cons_zero, List.set_cons_succ])
  refine wpAnyH_take (i := 7) (oi := ⟨_, _, _, _, _, _⟩) (v := ?_) rfl (by kernel_rfl) (by kernel_rfl) (by kernel_rfl) (fun _ _ _ h => h) (Or.inl ⟨by rfl, ?_⟩) (by assumption) ?_
  rotate_left
  · intro w hSw
    (try dsimp only at hSw)
    go_simp
    (try with_reducible rfl)
  (try simp only [Act.put, List.setIfInBounds_toArray, List.set_cons_zero, List.set_cons_succ])
  refine wpAnyH_take (i := 8) (oi := ⟨_, _, _, _, _, _⟩) (v := ?_) rfl (by kernel_rfl) (by kernel_rfl) (by kernel_rfl) (fun _ _ _ h => h) (Or.inl ⟨by rfl, ?_⟩) (by assumption) ?_
  rotate_left
  · intro w hSw
    (try dsimp only at hSw)
    go_simp
    (try with_reducible rfl)
  (try simp only [Act.put, List.setIfInBounds_toArray, List.set_cons_zero, List.set_cons_succ])
  refine wpAnyH_take (i := 9) (oi := ⟨_, _, _, _, _, _⟩) (v := ?_) rfl (by kernel_rfl) (by kernel_rfl) (by kernel_rfl) (fun _ _ _ h => h) (Or.inl ⟨by rfl, ?_⟩) (by assumption) ?_
  rotate_left
  · intro w hSw
    (try dsimp only at hSw)
    go_simp
    (try with_reducible rfl)
  (try simp only [Act.put, List.setIfInBounds_toArray, List.set_cons_zero, List.set_cons_succ])
  refine wpAnyH_take (i := 10) (oi := ⟨_, _, _, _, _, _⟩) (v := ?_) rfl (by kernel_rfl) (by kernel_rfl) (by kernel_rfl) (fun _ _ _ h => h) (Or.inl ⟨by rfl, ?_⟩) (by assumption) ?_
  rotate_left
  · intro w hSw
    (try dsimp only at hSw)
    go_simp
    (try with_reducible rfl)
  (try simp only [Act.put, List.setIfInBounds_toArray, List.set_cons_zero, List.set_cons_succ])
  refine wpAnyH_done (by kernel_rfl) ?_ _
  clear hHeld
  clear SPH
  go_wp2_with fail
  refine (eqIntS_any _ _ _ _ _ _ _ _ _ OH.out.rd OW.out.rd).mono ?_
  simp only [decide_true]
  rintro e wv ⟨rfl, hb⟩
  have hs12 := Lib.hid hb.size
  replace a0 := cell_keep a0 al hb
  replace a1 := cell_keep a1 al hb
  replace a2 := cell_keep a2 al hb
  replace a3 := cell_keep a3 al hb
  replace al := lt_keep al hb
  replace l0 := cell_keep l0 ll hb
  replace l1 := cell_keep l1 ll hb
  replace ll := lt_keep ll hb
  replace OW := Lib.hid (OW.out.keep hb)
  replace OG := Lib.hid (OG.out.keep hb)
  replace OH := Lib.hid (OH.out.keep hb)
  replace B := Lib.hid (below_next B.out hb)
  clear hb
  go_wp2_with fail
  refine (heldIntS_any _ _ _ 1 _ OG.out.rd (by omega) (by have := SZ.out; omega)).mono ?_
  rintro e wv ⟨rfl, hb⟩
  have hs13 := Lib.hid hb.size
  replace a0 := cell_keep a0 al hb
  replace a1 := cell_keep a1 al hb
  replace a2 := cell_keep a2 al hb
  replace a3 := cell_keep a3 al hb
  replace al := lt_keep al hb
  replace l0 := cell_keep l0 ll hb
  replace l1 := cell_keep l1 ll hb
  replace ll := lt_keep ll hb
  replace OW := Lib.hid (OW.out.keep hb)
  replace OG := Lib.hid (OG.out.keep hb)
  replace OH := Lib.hid (OH.out.keep hb)
  replace B := Lib.hid (below_next B.out hb)
  clear hb
  clear a0 a1 a2 a3 l0 l1 al ll
  go_wp2
  go_ret
  exact ⟨rfl, (by repeat (first | exact B.out | refine below_drewN ?_ _ | refine Below.drew ?_))⟩

end Go.Proofs.Ytaliknhfcdmohaa
