/-
  Contracts: arrays of distances: the greatest one, how many cells have each of them.
-/
import Derived.Test.YtoangjjikmjkgaaT3
import Derived.Test.YtoangjjikmjkgaaQ4
import Derived.Test.YtoangjjikmjkgaaShelf
import Derived.Test.YtoangjjikmjkgaaApp
import Derived.Deep.MidRow
import Derived.Deep.WholeRow
namespace Go.Proofs.Ytoangjjikmjkgaa
open Go.RowKit

theorem cell_laid (w : World) (L : List Int) (E : TypeId) : ∀ j, j < L.length → (w.alloc (.cells (L.map (Value.int .i64)).toArray E)).cell? ⟨w.heap.size, 0 + j, none⟩ = some (.int .i64 (L.getD j 0)) := by
  intro j hj
  have h := newbox (w := w) (w' := w.alloc (.cells (L.map (Value.int .i64)).toArray E)) (cs := (L.map (Value.int .i64)).toArray) (t := E) (Below.refl _ _) j
  rw [Nat.zero_add, h, ← Array.getElem?_toList, List.toList_toArray, List.getElem?_map, List.getElem?_eq_getElem hj, List.getD_eq_getElem?_getD, List.getElem?_eq_getElem hj]
  rfl
theorem range_laid (w : World) (L : List Int) (E : TypeId) : (w.alloc (.cells (L.map (Value.int .i64)).toArray E)).rangeAt w.heap.size 0 (L.map (Value.int .i64)) := fun j v hv => by
  have h := newbox (w := w) (w' := w.alloc (.cells (L.map (Value.int .i64)).toArray E)) (cs := (L.map (Value.int .i64)).toArray) (t := E) (Below.refl _ _) j
  rw [Nat.zero_add, h, ← Array.getElem?_toList, List.toList_toArray]; exact hv
theorem range_keep {w w' : World} {g o : Nat} {cs : List Value} (h : w.rangeAt g o cs) (hg : g < w.heap.size) (hb : Below w.heap.size w w') : w'.rangeAt g o cs := fun j v hv => cell_keep (h j v hv) hg hb
theorem range_cells {w : World} {g : Nat} {L : List Int} (h : ∀ j, j < L.length → w.cell? ⟨g, 0 + j, none⟩ = some (.int .i64 (L.getD j 0))) : w.rangeAt g 0 (L.map (Value.int .i64)) := fun j v hv => by
  rw [List.getElem?_map] at hv
  cases hj : L[j]? with
  | none => rw [hj] at hv; cases hv
  | some y =>
    rw [hj] at hv
    injection hv with hv
    have hjl : j < L.length := (List.getElem?_eq_some_iff.1 hj).1
    rw [← hv, h j hjl, List.getD_eq_getElem?_getD, hj]; rfl
theorem bump_bd (D : List Int) (m : Nat) : ∀ (k : Nat) (v : Int), v ∈ (D.take k).foldl bumpStep (List.replicate m 0) → 0 ≤ v ∧ v ≤ (k : Int)
  | 0, v, h => by
    rw [List.take_zero] at h
    have := (List.mem_replicate.1 h).2; omega
  | k + 1, v, h => by
    cases hx : D[k]? with
    | none =>
      rw [List.take_add_one, hx] at h
      have := bump_bd D m k v (by simpa using h); omega
    | some x =>
      rw [take_foldl bumpStep hx] at h
      have key : ∀ u, u ∈ (D.take k).foldl bumpStep (List.replicate m 0) → 0 ≤ u ∧ u ≤ (k : Int) := bump_bd D m k
      generalize (D.take k).foldl bumpStep (List.replicate m 0) = O0 at h key
      rw [bumpStep] at h
      split at h
      · have := key v h; omega
      · rw [bump] at h
        rcases List.mem_or_eq_of_mem_set h with h | h
        · have := key v h; omega
        · rw [List.getD_eq_getElem?_getD] at h
          cases he : O0[x.toNat]? with
          | none => rw [he] at h; simp at h; omega
          | some u => rw [he] at h; simp at h; have := key u (List.mem_of_getElem? he); omega

theorem run_whole (g : Nat) (w : World) :
    (Instr.sliceAt 57 (.pointer (some ⟨g, 0, none⟩)) none none none).run Try.prog w = .ok (.slice (some ⟨g, 0, none⟩) 144 144) w := by
  have hl : Try.prog.arrayLen 57 = 144 := by kernel_rfl
  have he : Try.prog.elem 57 = 3 := by kernel_rfl
  have hu : Try.prog.underlying 57 = some (.array (Try.prog.arrayLen 57) (Try.prog.elem 57)) := by rw [hl, he]; exact Try.underlying57
  rw [run_sliceAt_array_all w _ _ hu, he, Try.sizeOf3, hl]
  simp [slicedAt]
  rfl

set_option maxRecDepth 100000 in
set_option maxHeartbeats 2000000 in
theorem greatest_any (L : List Int) (h64 : L.length = 144) (w : World) :
    Calls Try.prog 49 #[.agg (L.map (Value.int .i64)).toArray] w fun e w' => e = .returned (.int .i64 (Go.Lib.maxOf L)) ∧ Below w.heap.size w w' := by
  obtain ⟨W1, hW1⟩ : ∃ W1, W1 = w.alloc (.cells (L.map (Value.int .i64)).toArray 57) := ⟨_, rfl⟩
  have hcs := cell_laid w L 57
  rw [← hW1] at hcs
  have HCS := Lib.hid hcs; have HL := Lib.hid h64
  have B := Lib.hid (show Below w.heap.size w W1 by rw [hW1]; exact below_new (Below.refl _ _) _)
  have hsl := fun w' => run_whole w.heap.size w'
  obtain ⟨V, hV⟩ : ∃ V, V = L.map (Value.int .i64) := ⟨_, rfl⟩
  rw [← hV] at hW1 ⊢
  clear hcs h64 hV
  go_enter Try.func49, Try.ntmps49
  go_wp2_with fail
  rw [← hW1]
  clear hW1
  refine (Try.slices_Max_int w.heap.size 0 144 144 L _ (by omega) (by have := HL.out; omega) (by omega) HCS.out).mono ?_
  rintro e wz ⟨rfl, rfl⟩
  go_wp2
  go_ret
  exact ⟨ret_int (by rw [List.take_of_length_le (by have := HL.out; omega)]), B.out⟩

theorem most_max {D L : List Int} {j m : Nat} (M : IsMost D j) (h : L = D ++ List.replicate m (-1)) : Go.Lib.maxOf L = D.getD j (-1) := by
  have hj := M.lt
  have e : D.getD j (-1) = D[j] := by rw [List.getD_eq_getElem?_getD, List.getElem?_eq_getElem hj]; rfl
  refine max_of ?_ ?_ ?_
  · intro h0; rw [h0] at h; have := congrArg List.length h; simp at this; omega
  · rw [h, e]; exact List.mem_append_left _ (List.getElem_mem hj)
  · intro x hx
    rw [h] at hx
    rcases List.mem_append.1 hx with hx | hx
    · obtain ⟨i, hi, rfl⟩ := List.getElem_of_mem hx
      have := M.le i
      rwa [List.getD_eq_getElem?_getD, List.getElem?_eq_getElem hi] at this
    · have := (List.mem_replicate.1 hx).2; have := M.nn; omega
theorem run_farK (L : List Int) (_hl : L.length = 144) (q : Nat) (hq : q < 144) (v : Int) (hv : L[q]? = some v) (w : World) :
    (Instr.index 57 (.agg (L.map (Value.int .i64)).toArray) (.int .i64 (q : Int))).run Try.prog w = .ok (.int .i64 v) w := by
  have hu := Try.underlying57
  have hz := Try.sizeOf3
  have ha := Try.isAgg3
  simp [Instr.index, run_underlying hu, asIntOf, go_sem]
  rw [if_pos hq, hv]
  rfl

set_option maxRecDepth 100000 in
set_option maxHeartbeats 4000000 in
theorem counts_any (L C : List Int) (gn : Nat) (w : World) (hl : L.length = 144) (hbnd : ∀ x ∈ L, -1 ≤ x ∧ x ≤ (gn : Int)) (hmx : Go.Lib.maxOf L = (gn : Int)) (hg : gn ≤ 144) (hC : L.foldl bumpStep (List.replicate (gn + 1) 0) = C) :
    Calls Try.prog 51 #[.agg (L.map (Value.int .i64)).toArray] w fun e w' => ∃ A' n' c', e = .returned (.slice A' n' c') ∧ OwnI 3 w' w.heap.size A' n' c' C ∧ Below w.heap.size w w' := by
  obtain ⟨i0, hi, hz0, hz1, hz2⟩ := info_parts infoI
  have HI := Lib.hid hi; have HZ0 := Lib.hid hz0; have HZ1 := Lib.hid hz1; have HZ2 := Lib.hid hz2
  clear hi hz0 hz1 hz2
  have HGR := Lib.hid (fun w' => greatest_any L hl w')
  rw [hmx] at HGR
  have HIX := Lib.hid (fun (k : Nat) (hk : k < 144) (x : Int) (hx : L[k]? = some x) (w' : World) => run_farK L hl k hk x hx w')
  have HIN := Lib.hid (show (Try.prog.info? 57).map (·.size) = some (L.map (Value.int .i64)).length from infoD.trans (by rw [List.length_map, hl]))
  have HRL := Lib.hid (range_laid w L 57)
  have H64 := Lib.hid hl; have HLM := Lib.hid hbnd; have HCC := Lib.hid hC
  obtain ⟨V, hV⟩ : ∃ V, V = L.map (Value.int .i64) := ⟨_, rfl⟩
  rw [← hV] at HGR HIX HIN HRL ⊢
  obtain ⟨W3, hW3⟩ : ∃ W3, W3 = w.alloc (.cells V.toArray 57) := ⟨_, rfl⟩
  rw [← hW3] at HRL
  have B := Lib.hid (show Below w.heap.size w W3 by rw [hW3]; exact below_new (Below.refl _ _) _)
  have hs3 : w.heap.size < W3.heap.size := by rw [hW3]; simp
  obtain ⟨gx, hgx⟩ : ∃ gx, gx = w.heap.size := ⟨_, rfl⟩
  rw [← hgx] at HRL
  have HGX := Lib.hid hgx
  have hrg := HRL.out
  clear hl hbnd hmx hC hV
  go_enter Try.func51, Try.ntmps51
  go_upto_region 1 with fail
  rw [← hW3, ← hgx]
  rw [← hgx] at hs3
  clear hW3 hgx
  go_wp2_with (refine wpList_load_mid rfl 57 (.tmp 1) rfl gx 0 rfl V _ hrg Try.underlying57 rfl HIN.out ?_)
  refine (HGR.out _).mono ?_
  rintro e w5 ⟨rfl, hb⟩
  have hrg5 : w5.rangeAt gx 0 V := range_keep hrg hs3 hb
  have hs5 : gx < w5.heap.size := Nat.lt_of_lt_of_le hs3 hb.size
  have HRG := Lib.hid hrg5
  replace B := Lib.hid (B.out.trans (hb.mono B.out.size))
  clear hb hrg hrg5 HRL
  go_wp2_with (first | (at_make; refine wpList_make_full _ rfl _ _ 22 rfl w5.heap.size 3 i0 (.int .i64 0) 1 Try.underlying22 HI.out HZ0.out HZ1.out .i64 .i64 _ _ (gn + 1) rfl rfl (by first | rfl | omega) (by first | rfl | omega) (by rw [HZ2.out]; omega) (by unfold maxLen; omega) (by simp) ?_; intro w6 hown6 hg6; have hrg6 : w6.rangeAt gx 0 V := range_keep HRG.out (by omega) (below_of_grown hg6 (Nat.le_refl _) (fun g h => by cases h))) | (refine wpList_load_mid rfl 57 (.tmp 1) rfl gx 0 rfl V _ hrg6 Try.underlying57 rfl HIN.out ?_))
  have hO6 : OwnI 3 w6 w5.heap.size (some ⟨w5.heap.size, 0, none⟩) (gn + 1) (gn + 1) (List.replicate (gn + 1) 0) := by
    unfold OwnI
    rw [show (gn + 1) * 1 = gn + 1 from by omega] at hown6
    have e : (madeCells (Value.cells (.int .i64 0)) (gn + 1)).toList = List.replicate (gn + 1) (.int .i64 0) := toList_madeCells_one (.int .i64 0) (gn + 1)
    rw [e] at hown6
    simpa using hown6
  have HO6 := Lib.hid hO6
  have HB6 := Lib.hid (below_of_grown hg6 (Nat.le_refl _) (fun g h => by cases h))
  clear hown6 hO6 hg6 hrg6 HRG HIN HGR
  generalize (Value.agg V.toArray) = LV at *
  go_loopw [11] (fun i wr => ∃ k : Nat, k ≤ 144 ∧ i = .int .i64 k ∧ OwnI 3 wr w5.heap.size (some ⟨w5.heap.size, 0, none⟩) (gn + 1) (gn + 1) ((L.take k).foldl bumpStep (List.replicate (gn + 1) 0)) ∧ Below w5.heap.size w5 wr) (fun i _ => 144 - (intOf i).toNat)
  case atStart => exact ⟨0, by omega, rfl, by rw [List.take_zero, List.foldl_nil]; exact HO6.out, HB6.out⟩
  case round =>
    clear HB6 HO6
    obtain ⟨k, hk, rfl, hown, hbw⟩ := hrel
    have hbsz := hbw.size
    by_cases hlt : k < 144
    · obtain ⟨x, hx⟩ : ∃ x, L[k]? = some x := ⟨_, List.getElem?_eq_getElem (show k < L.length by have := H64.out; omega)⟩
      have HXB := Lib.hid (HLM.out x (List.mem_of_getElem? hx))
      have hix := HIX.out k hlt x hx
      have hst := take_foldl bumpStep hx (List.replicate (gn + 1) 0)
      have hbd : ∀ v, v ∈ (L.take k).foldl bumpStep (List.replicate (gn + 1) 0) → 0 ≤ v ∧ v ≤ (k : Int) := bump_bd L (gn + 1) k
      obtain ⟨O0, hO0⟩ : ∃ O0, O0 = (L.take k).foldl bumpStep (List.replicate (gn + 1) 0) := ⟨_, rfl⟩
      rw [← hO0] at hown hst hbd
      have ST := Lib.hid hst
      clear hx hst hO0
      by_cases hm : x = -1
      · subst hm
        have HO := Lib.hid hown; have HB := Lib.hid hbw
        clear hown hbw hbd
        go_wp2
        go_roundw
        case rel => exact ⟨k + 1, by omega, by go_num, by rw [ST.out, bumpStep, if_pos (by omega)]; exact HO.out, HB.out⟩
        case measure => simp [intOf]; omega
      · have hm' : (x != -1) = true := by simpa using hm
        obtain ⟨xn, rfl⟩ : ∃ xn : Nat, x = (xn : Int) := ⟨x.toNat, by have := HXB.out; omega⟩
        have hx0 : (0 : Int) ≤ (xn : Int) := by omega
        have hx1 : (xn : Int) < ((gn + 1 : Nat) : Int) := by have := HXB.out; omega
        obtain ⟨v, hv⟩ : ∃ v, O0[xn]? = some v := ⟨_, List.getElem?_eq_getElem (by have := HXB.out; have := hown.len; omega)⟩
        have cv := hown.cell hv
        have fv := hown.frozen xn
        obtain ⟨o1, g1⟩ := hown.stored xn (v + 1)
        have hvb := hbd v (List.mem_of_getElem? hv)
        have HO3 := Lib.hid o1
        have HB3 := Lib.hid (hbw.trans (below_of_grown g1 hbsz (fun g h => by injection h with h; omega)))
        have ES : Hid (O0.set xn (v + 1) = (L.take (k + 1)).foldl bumpStep (List.replicate (gn + 1) 0)) := Lib.hid (by rw [ST.out, bumpStep, if_neg (by omega), bump, Int.toNat_natCast, List.getD_eq_getElem?_getD, hv]; rfl)
        clear hown hbw o1 g1 hv hbd
        go_wp2
        go_roundw
        case rel => exact ⟨k + 1, by omega, by go_num, by rw [← ES.out]; exact HO3.out, HB3.out⟩
        case measure => simp [intOf]; omega
    · obtain rfl : k = 144 := by omega
      have eL : (L.take 144).foldl bumpStep (List.replicate (gn + 1) 0) = C := by rw [List.take_of_length_le (by have := H64.out; omega), HCC.out]
      rw [eL] at hown
      have HO := Lib.hid (hown.lower (show w.heap.size ≤ w5.heap.size by have := HGX.out; omega)); have HB := Lib.hid (below_next B.out hbw)
      clear hown hbw eL
      go_wp2
      go_ret
      exact ⟨_, _, _, rfl, HO.out, HB.out⟩

end Go.Proofs.Ytoangjjikmjkgaa
