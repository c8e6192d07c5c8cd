/-
  Contracts: PaintBySteps, in the program.
-/
import Derived.Test.YtmmlhbfekjbdpaaDoorF15
import Derived.Test.YtmmlhbfekjbdpaaDoorF11
import Derived.Test.YtmmlhbfekjbdpaaDoorB7
import Derived.Test.YtmmlhbfekjbdpaaDoorB5
import Derived.Deep.RegionWith
namespace Go.Proofs.YtmmlhbfekjbdpaaDoor
open Go.RowKit Go.Shelf
attribute [local go_sem] Oper.semAt_some

/-- The colour of a cell by steps. -/
def byV (W p q m x : Int) : Int := (p * (x % W) + q * (x / W)) % m
def byOk (W H : Int) (xs : List Int) (p q m : Int) : Bool := goodB W H xs && stepsOk p q m
def byL (W H : Int) (xs : List Int) (p q m : Int) : List Int := (upTo (W * H).toNat).map fun x => if hasB W H xs x then byV W p q m x else -1
def byLV (W H : Int) (xs : List Int) (p q m : Int) : List Int := if byOk W H xs p q m then byL W H xs p q m else []
/-- The painting of some cells by a colouring. -/
def paintF (f : Int → Nat) (ys : List Int) : List Nat := (List.range 9).map fun c => setBits ((ys.filter fun y => f y == c).map Int.toNat)
theorem paintF_len (f : Int → Nat) (ys : List Int) : (paintF f ys).length = 9 := by simp [paintF]
theorem paintF_at {f : Int → Nat} {ys : List Int} {c : Nat} (hc : c < 9) : (paintF f ys)[c]? = some (setBits ((ys.filter fun y => f y == c).map Int.toNat)) := by simp [paintF, hc]
theorem paintF_snoc {f : Int → Nat} {ys : List Int} {y : Int} : (paintF f ys).set (f y) (setBits ((ys.filter fun z => f z == f y).map Int.toNat) ||| 2 ^ y.toNat) = paintF f (ys ++ [y]) := by
  apply List.ext_getElem?
  intro j
  rw [List.getElem?_set]
  by_cases hj : j < 9
  · rw [paintF_at hj, paintF_at hj]
    by_cases e : f y = j
    · subst e
      rw [if_pos rfl, if_pos (by rw [paintF_len]; omega), List.filter_append, List.map_append]
      simp [setBits_snoc]
    · rw [if_neg e, List.filter_append, List.map_append]
      have : (f y == j) = false := by simpa using e
      simp [this]
  · have e1 : (paintF f (ys ++ [y]))[j]? = none := List.getElem?_eq_none (by rw [paintF_len]; omega)
    have e2 : (paintF f ys)[j]? = none := List.getElem?_eq_none (by rw [paintF_len]; omega)
    rw [e1, e2]
    split
    · rw [if_neg (by rw [paintF_len]; omega)]
    · rfl
theorem paintF_nil (f : Int → Nat) : paintF f [] = none9 := by rfl
theorem paintF_lt {f : Int → Nat} {ys : List Int} (h : ∀ y ∈ ys, 0 ≤ y ∧ y < 64) : ∀ s ∈ paintF f ys, s < 18446744073709551616 := by
  intro s hs
  obtain ⟨c, _, rfl⟩ := List.mem_map.1 hs
  refine setBits_lt _ (fun i hi => ?_)
  obtain ⟨y, hy, rfl⟩ := List.mem_map.1 hi
  have := h y (List.mem_filter.1 hy).1
  omega
theorem paintF_bit {f : Int → Nat} {ys : List Int} (h : ∀ y ∈ ys, 0 ≤ y ∧ y < 64) {c : Nat} {z : Int} : z ∈ bitsL (setBits ((ys.filter fun y => f y == c).map Int.toNat)) ↔ z ∈ ys ∧ f z = c := by
  rw [bitsL_mem, setBits_test _ _ _ rfl]
  constructor
  · rintro ⟨h0, h1, hm⟩
    obtain ⟨y, hy, e⟩ := List.mem_map.1 hm
    obtain ⟨hy1, hy2⟩ := List.mem_filter.1 hy
    have := h y hy1
    obtain rfl : y = z := by omega
    exact ⟨hy1, by simpa using hy2⟩
  · rintro ⟨h1, h2⟩
    have := h z h1
    exact ⟨this.1, this.2, List.mem_map.2 ⟨z, List.mem_filter.2 ⟨h1, by simpa using h2⟩, rfl⟩⟩
theorem putC_at (c : Nat) : ∀ (ys L : List Int) (i : Nat), (∀ y ∈ ys, 0 ≤ y) → i < L.length → (putC c L ys)[i]? = if (i : Int) ∈ ys then some (c : Int) else L[i]?
  | [], L, i, _, _ => by simp [putC]
  | y :: t, L, i, h, hi => by
    have ht := putC_at c t (L.set y.toNat (c : Int)) i (fun z hz => h z (List.mem_cons_of_mem _ hz)) (by simpa using hi)
    rw [show putC c L (y :: t) = putC c (L.set y.toNat (c : Int)) t from rfl, ht, List.getElem?_set]
    have hy := h y List.mem_cons_self
    by_cases h1 : (i : Int) ∈ t
    · simp [h1]
    · by_cases h2 : (i : Int) = y
      · simp [h2]; rw [show y.toNat = i by omega]; simp [hi]
      · have : ¬ y.toNat = i := by omega
        simp [h1, h2, this]
theorem colsK_at {f : Int → Nat} {ys : List Int} {N : Nat} (h : ∀ y ∈ ys, 0 ≤ y ∧ y < 64) {i : Nat} (hi : i < N) : ∀ k, k ≤ 9 → (colsK (paintF f ys) N k)[i]? = some (if (i : Int) ∈ ys ∧ f i < k then (f i : Int) else -1)
  | 0, _ => by simp [colsK, hi]
  | k + 1, hk => by
    have ih := colsK_at (f := f) h hi k (by omega)
    have hg : (paintF f ys).getD k 0 = setBits ((ys.filter fun y => f y == k).map Int.toNat) := by rw [List.getD_eq_getElem?_getD, paintF_at (by omega)]; rfl
    rw [colsK, putC_at k _ _ i (fun y hy => (bitsL_mem.1 hy).1) (by rw [colsK_len]; exact hi), ih, hg]
    by_cases hm : (i : Int) ∈ ys
    · by_cases hf : f i = k
      · rw [if_pos ((paintF_bit h).2 ⟨hm, hf⟩), if_pos ⟨hm, by omega⟩, hf]
      · rw [if_neg (fun h9 => hf ((paintF_bit h).1 h9).2)]
        by_cases hl : f i < k
        · rw [if_pos ⟨hm, hl⟩, if_pos ⟨hm, by omega⟩]
        · rw [if_neg (fun h9 => hl h9.2), if_neg (fun h9 => by have := h9.2; omega)]
    · rw [if_neg (fun h9 => hm ((paintF_bit h).1 h9).1), if_neg (fun h9 => hm h9.1), if_neg (fun h9 => hm h9.1)]

theorem ByAt.keepG {w w' : World} {gp gq gm g : Nat} {p q m : Int} (h : ByAt w gp gq gm p q m) (hg : w.grownBy w' (some g)) (h1 : gp ≠ g) (h2 : gq ≠ g) (h3 : gm ≠ g) : ByAt w' gp gq gm p q m :=
  ⟨hg.cell h.1 (by simpa using h1), hg.cell h.2.1 (by simpa using h2), hg.cell h.2.2.1 (by simpa using h3), Nat.lt_of_lt_of_le h.2.2.2.1 hg.size, Nat.lt_of_lt_of_le h.2.2.2.2.1 hg.size, Nat.lt_of_lt_of_le h.2.2.2.2.2 hg.size⟩
theorem cell_setRow_ne {W : World} {b o g : Nat} {v : Value} {cs : Array Value} (h : W.cell? ⟨b, o, none⟩ = some v) (hne : b ≠ g) : (W.setRow g cs).cell? ⟨b, o, none⟩ = some v := by
  rw [← h]
  simp [World.cell?, World.setRow, Array.getElem?_modify, show ¬ g = b from fun e => hne e.symm]

theorem range_of_row {w : World} {g : Nat} {L : List Value} {T : TypeId} (h : w.heap[g]? = some (.cells L.toArray T (0, 0))) : w.rangeAt g 0 L := fun j v hv => by
  rw [Nat.zero_add, cell_of_row _ _ _ _ _ _ h]; simpa using hv
theorem there_of_row {w : World} {g n : Nat} {L : List Value} {T : TypeId} (h : w.heap[g]? = some (.cells L.toArray T (0, 0))) (hn : L.length = n) : w.there g 0 n := fun j hj => by
  refine ⟨?_, frozen_of_row _ _ _ _ _ h⟩
  rw [Nat.zero_add, cell_of_row _ _ _ _ _ _ h, List.getElem?_toArray, List.getElem?_eq_getElem (by omega)]; rfl
theorem step_load_paint {ops : Array Oper} {o : Oper} {a : Act} {w : World} {K : Act → World → Prop} {Q : Exit → Act → World → Prop} {E0 : Prop} (hgd : o.guard = none) (x : Operand) (ho : o.op = .load 63 x)
    (g : Nat) (hx : a.eval x = .pointer (some ⟨g, 0, none⟩)) (L : List Nat) (h : w.heap[g]? = some (.cells (words L).toArray 63 (0, 0))) (hL : L.length = 9)
    (hK : K (a.put o.dst (.agg (words L).toArray)) w) : if Region.wanted o (yielded ops a.tmps) = true then Oper.wp Tryd.prog o a w K Q else E0 := by
  have hw : Region.wanted o (yielded ops a.tmps) = true := by simp [Region.wanted, hgd]
  rw [if_pos hw]
  unfold Oper.wp execOp
  simp only [ho, hx, Sem.run_bind, paint_load h hL, Sem.run_pure, Result.andThen_ok]
  exact hK
theorem step_store_paint {ops : Array Oper} {o : Oper} {a : Act} {w : World} {K : Act → World → Prop} {Q : Exit → Act → World → Prop} {E0 : Prop} (hgd : o.guard = none) (x y : Operand) (ho : o.op = .store 63 x y)
    (g : Nat) (hx : a.eval x = .pointer (some ⟨g, 0, none⟩)) (L L0 : List Nat) (hy : a.eval y = .agg (words L).toArray) (h : w.heap[g]? = some (.cells (words L0).toArray 63 (0, 0))) (hL0 : L0.length = 9) (hL : L.length = 9)
    (hK : K (a.put o.dst undef) (w.setRow g (words L).toArray)) : if Region.wanted o (yielded ops a.tmps) = true then Oper.wp Tryd.prog o a w K Q else E0 := by
  have hw : Region.wanted o (yielded ops a.tmps) = true := by simp [Region.wanted, hgd]
  rw [if_pos hw]
  unfold Oper.wp execOp
  simp only [ho, hx, hy, Sem.run_bind, paint_store h (by simp [words, hL0]) hL, Sem.run_pure, Result.andThen_ok]
  exact hK
theorem nine_of_len {P : List Nat} (h : P.length = 9) : ∃ y0 y1 y2 y3 y4 y5 y6 y7 y8 : Nat, P = [y0, y1, y2, y3, y4, y5, y6, y7, y8] := by
  match P, h with
  | [y0, y1, y2, y3, y4, y5, y6, y7, y8], _ => exact ⟨y0, y1, y2, y3, y4, y5, y6, y7, y8, rfl⟩
theorem nine_cells {W : World} {g : Nat} {T : TypeId} {y0 y1 y2 y3 y4 y5 y6 y7 y8 : Nat} (h : W.heap[g]? = some (.cells (words [y0, y1, y2, y3, y4, y5, y6, y7, y8]).toArray T (0, 0))) :
    W.cell? ⟨g, 0, none⟩ = some (.int .u64 ((y0 : Nat) : Int)) ∧ W.cell? ⟨g, 1, none⟩ = some (.int .u64 ((y1 : Nat) : Int)) ∧ W.cell? ⟨g, 2, none⟩ = some (.int .u64 ((y2 : Nat) : Int)) ∧ W.cell? ⟨g, 3, none⟩ = some (.int .u64 ((y3 : Nat) : Int)) ∧ W.cell? ⟨g, 4, none⟩ = some (.int .u64 ((y4 : Nat) : Int)) ∧ W.cell? ⟨g, 5, none⟩ = some (.int .u64 ((y5 : Nat) : Int)) ∧ W.cell? ⟨g, 6, none⟩ = some (.int .u64 ((y6 : Nat) : Int)) ∧ W.cell? ⟨g, 7, none⟩ = some (.int .u64 ((y7 : Nat) : Int)) ∧ W.cell? ⟨g, 8, none⟩ = some (.int .u64 ((y8 : Nat) : Int)) :=
  ⟨by rw [cell_of_row _ _ _ _ _ _ h]; rfl, by rw [cell_of_row _ _ _ _ _ _ h]; rfl, by rw [cell_of_row _ _ _ _ _ _ h]; rfl, by rw [cell_of_row _ _ _ _ _ _ h]; rfl, by rw [cell_of_row _ _ _ _ _ _ h]; rfl, by rw [cell_of_row _ _ _ _ _ _ h]; rfl, by rw [cell_of_row _ _ _ _ _ _ h]; rfl, by rw [cell_of_row _ _ _ _ _ _ h]; rfl, by rw [cell_of_row _ _ _ _ _ _ h]; rfl⟩
theorem byV_rng {W p q m x : Int} (hs : stepsOk p q m = true) : 0 ≤ byV W p q m x ∧ byV W p q m x < m ∧ m ≤ 9 := by
  obtain ⟨m1, m2, _⟩ := of_decide_eq_true hs
  exact ⟨Int.emod_nonneg _ (by omega), Int.emod_lt_of_pos _ (by omega), m2⟩
theorem byV_tmod {W p q m x : Int} (hW : 1 ≤ W ∧ W ≤ 8) (hs : stepsOk p q m = true) (hx : 0 ≤ x) : (p * (x % W) + q * (x / W)).tmod m = byV W p q m x := by
  obtain ⟨m1, m2, p1, p2, q1, q2⟩ := of_decide_eq_true hs
  have h1 := Int.emod_nonneg x (show W ≠ 0 by omega)
  have h2 := Int.ediv_nonneg hx (show 0 ≤ W by omega)
  exact Int.tmod_eq_emod_of_nonneg (Int.add_nonneg (Int.mul_nonneg p1 h1) (Int.mul_nonneg q1 h2))

theorem cols_by {W H : Int} {xs : List Int} {p q m : Int} {f : Int → Nat} {N : Nat} (hWH : W * H = (N : Int)) (hg : goodB W H xs = true) (hs : stepsOk p q m = true) (hf : f = fun y => (byV W p q m y).toNat) :
    colsK (paintF f (cellsL W H xs)) N 9 = byL W H xs p q m := by
  have hcl : ∀ y ∈ cellsL W H xs, 0 ≤ y ∧ y < 64 := fun y hy => by
    have h1 := (hasB_iff.1 (cellsL_mem.1 hy)).1
    obtain ⟨hW, hH, _, _⟩ := goodB_iff.1 hg
    have := cells_le hW hH
    omega
  have hn : (W * H).toNat = N := by omega
  apply List.ext_getElem?
  intro i
  rw [byL, hn, List.getElem?_map]
  by_cases hi : i < N
  · rw [colsK_at hcl hi 9 (Nat.le_refl _), upTo, List.getElem?_map, List.getElem?_range hi]
    have hr := byV_rng (W := W) (x := (i : Int)) hs
    have hfi : f (i : Int) < 9 := by rw [hf]; show (byV W p q m (i : Int)).toNat < 9; omega
    have hfv : ((f (i : Int) : Nat) : Int) = byV W p q m (i : Int) := by rw [hf]; show (((byV W p q m (i : Int)).toNat : Nat) : Int) = _; omega
    simp only [Option.map_some]
    congr 1
    by_cases hm : (i : Int) ∈ cellsL W H xs
    · rw [if_pos ⟨hm, hfi⟩, if_pos (cellsL_mem.1 hm), hfv]
    · rw [if_neg (fun h => hm h.1), if_neg (fun h => hm (cellsL_mem.2 h))]
  · rw [List.getElem?_eq_none (by rw [colsK_len]; omega), upTo, List.getElem?_map, List.getElem?_eq_none (by simp; omega)]; rfl

set_option maxRecDepth 100000 in
set_option maxHeartbeats 8000000 in
theorem impl_PaintBySteps (W H : Int) (A : Option Addr) (n c : Nat) (xs : List Int) (p q m : Int) (w : World) (ha : Rd w A n xs) (hTG : Tab64 w ∧ 0 < w.heap.size) :
    Calls Tryd.prog 17 #[brd W H A n c, .int .i64 p, .int .i64 q, .int .i64 m] w fun e w' => ∃ A' n' c', e = .returned (.tuple #[.slice A' n' c', .bool (byOk W H xs p q m)]) ∧ OwnI 3 w' w.heap.size A' n' c' (byLV W H xs p q m) ∧ Below w.heap.size w w' := by
  obtain ⟨hT, hgb⟩ := hTG
  have HT := Lib.hid hT
  clear hT
  by_cases hg : goodB W H xs = true
  rotate_left
  · have hg' : goodB W H xs = false := by simpa using hg
    have hok : byOk W H xs p q m = false := by rw [byOk, hg']; rfl
    go_enter Tryd.func17, Tryd.ntmps17
    go_wp2_with fail
    refine (isBoard_any _ _ _ _ _ _ _ (ha.alloc _)).mono ?_
    rw [hg']
    rintro e wv ⟨rfl, hb⟩
    have B := Lib.hid (below_box hb)
    clear hb
    go_wp2
    go_ret2
    exact ⟨none, 0, 0, by rw [hok]; rfl, by rw [byLV, hok]; exact OwnI.none_ _ _ _, B.out⟩
  have HG := Lib.hid hg
  go_enter Tryd.func17, Tryd.ntmps17
  go_wp2_with fail
  refine (isBoard_any _ _ _ _ _ _ _ (ha.alloc _)).mono ?_
  rw [hg]
  rintro e wv ⟨rfl, hb⟩
  have a0 := newbox hb 0; have a1 := newbox hb 1; have a2 := newbox hb 2; have al := newbox_lt hb
  simp only [List.getElem?_toArray, List.getElem?_cons_zero, List.getElem?_cons_succ] at a0 a1 a2
  have B := Lib.hid (below_box hb)
  clear hb hg
  go_wp2_with fail
  refine (areSteps_any _ _ _ _).mono ?_
  rintro e wv ⟨rfl, rfl⟩
  cases hs : stepsOk p q m with
  | false =>
    have HS := Lib.hid hs
    clear hs
    go_wp2
    go_ret2
    have hok : byOk W H xs p q m = false := by rw [byOk, HS.out]; simp
    exact ⟨none, 0, 0, by rw [hok]; rfl, by rw [byLV, hok]; exact OwnI.none_ _ _ _, B.out⟩
  | true =>
    have HS := Lib.hid hs
    clear hs
    go_wp2_with fail
    refine (colourBySteps_any p q m _).mono ?_
    rintro e w2 ⟨gp, gq, gm, rfl, hat, hb⟩
    replace a0 := cell_keep a0 al hb; replace a1 := cell_keep a1 al hb; replace a2 := cell_keep a2 al hb; replace al := lt_keep al hb
    replace B := Lib.hid (below_next B.out hb)
    have HAT := Lib.hid hat
    have HGN := Lib.hid (show gp ≠ w2.heap.size ∧ gq ≠ w2.heap.size ∧ gm ≠ w2.heap.size from ⟨by have := hat.2.2.2.1; omega, by have := hat.2.2.2.2.1; omega, by have := hat.2.2.2.2.2; omega⟩)
    clear hb hat
    obtain ⟨W3, hW3⟩ : ∃ W3, W3 = w2.alloc (.cells nine0 63) := ⟨_, rfl⟩
    have hb3 : Below w2.heap.size w2 W3 := by rw [hW3]; exact below_new (Below.refl _ _) _
    have hp3 := Lib.hid (show W3.heap[w2.heap.size]? = some (.cells (words (paintF (fun y => (byV W p q m y).toNat) [])).toArray 63 (0, 0)) by rw [hW3, paintF_nil, ← nine_words]; exact World.alloc_heap_new _ _)
    have hs3 : W3.heap.size = w2.heap.size + 1 := by rw [hW3]; simp
    have hC := cellsThere_any W H A n c xs W3 (ha.keep (below_next B.out hb3)) HG.out
    replace B := Lib.hid (below_next B.out hb3)
    have HAT3 := Lib.hid (HAT.out.keep hb3)
    have HB3 := Lib.hid hb3
    unfold nine0 at hW3
    clear hb3
    go_wp2_with fail
    rw [← hW3]
    clear hW3
    refine hC.mono ?_
    rintro e ws ⟨A1, n1, c1, rfl, hst, hb⟩
    replace a0 := cell_keep (cell_keep a0 al HB3.out) (lt_keep al HB3.out) hb; replace a1 := cell_keep (cell_keep a1 al HB3.out) (lt_keep al HB3.out) hb; replace a2 := cell_keep (cell_keep a2 al HB3.out) (lt_keep al HB3.out) hb
    have hps := Lib.hid ((hb.block w2.heap.size (by omega)).trans hp3.out)
    have HAS := Lib.hid (HAT3.out.keep hb)
    have hal2 := lt_keep (lt_keep al HB3.out) hb
    have hsw := hb.size
    replace B := Lib.hid (below_next B.out hb)
    have ST := Lib.hid hst
    have SL := Lib.hid hst.len
    clear hC hst hb
    go_wp2
    obtain ⟨hW, hH, -, -⟩ := goodB_iff.1 HG.out
    have HWr := Lib.hid hW; have HN := Lib.hid (cells_le hW hH)
    clear hW hH
    have n8 : n1 ≤ 64 := by have := cellsTo_len (W := W) (H := H) (hs := xs) (W * H).toNat; have := SL.out; have := HN.out; unfold cellsL at *; omega
    have hcl := Lib.hid (show ∀ y ∈ cellsL W H xs, 0 ≤ y ∧ y < 64 from fun y hy => by have := (hasB_iff.1 (cellsL_mem.1 hy)).1; have := HN.out; omega)
    obtain ⟨f, hf⟩ : ∃ f : Int → Nat, f = fun y => (byV W p q m y).toNat := ⟨_, rfl⟩
    rw [← hf] at hps
    have HF := Lib.hid hf
    clear hf hp3
    have hne : w.heap.size ≠ w2.heap.size := by omega
    unfold colFn
    go_loopw [31] (fun i wr => ∃ k : Nat, k ≤ n1 ∧ i = .int .i64 k ∧ ws.grownBy wr (some w2.heap.size) ∧ wr.heap[w2.heap.size]? = some (.cells (words (paintF f ((cellsL W H xs).take k))).toArray 63 (0, 0))) (fun i _ => n1 - (intOf i).toNat)
    case atStart => exact ⟨0, Nat.zero_le _, rfl, World.grownBy.refl _ _, hps.out⟩
    case round =>
      obtain ⟨k, hk, rfl, hgw, hpr⟩ := hrel
      have b0 := hgw.cell a0 (by simpa using hne); have b1 := hgw.cell a1 (by simpa using hne); have b2 := hgw.cell a2 (by simpa using hne)
      have bl := Nat.lt_of_lt_of_le hal2 hgw.size
      have gl := (Array.getElem?_eq_some_iff.1 hpr).1
      have HPR := Lib.hid hpr; have HGW := Lib.hid hgw
      have HBW := Lib.hid (B.out.grown hgw B.out.size (fun k e => by cases e; omega))
      clear hpr hgw
      by_cases hlt : k < n1
      · obtain ⟨g1, rfl, hg1, hg2⟩ := ST.out.some_ hlt
        obtain ⟨x, hx⟩ : ∃ x, (cellsL W H xs)[k]? = some x := ⟨_, List.getElem?_eq_getElem (by have := SL.out; omega)⟩
        have hxm := List.mem_of_getElem? hx
        obtain ⟨hx0, hx1⟩ := hcl.out x hxm
        obtain ⟨j, rfl⟩ : ∃ j : Nat, x = (j : Int) := ⟨x.toNat, by omega⟩
        have x0 := HGW.out.cell (ST.out.cell hx) (by simp; omega)
        have HX := Lib.hid hx
        have HBY := Lib.hid (HAS.out.keepG HGW.out HGN.out.1 HGN.out.2.1 HGN.out.2.2)
        have hfr := byV_rng (W := W) (x := (j : Int)) HS.out
        have hfj : f (j : Int) < 9 := by rw [HF.out]; show (byV W p q m (j : Int)).toNat < 9; omega
        have hcv : ((p * ((j : Int) % W) + q * ((j : Int) / W)).tmod m) = ((f (j : Int) : Nat) : Int) := by rw [byV_tmod HWr.out HS.out hx0, HF.out]; show _ = (((byV W p q m (j : Int)).toNat : Nat) : Int); omega
        have hCol : ∀ V, ByAt V gp gq gm p q m → Calls Tryd.prog 56 #[lpr ((j : Int) % W) ((j : Int) / W), .pointer (some ⟨gp, 0, none⟩), .pointer (some ⟨gq, 0, none⟩), .pointer (some ⟨gm, 0, none⟩)] V fun e w' => e = .returned (.int .i64 ((f (j : Int) : Nat) : Int)) ∧ Below V.heap.size V w' := fun V hV => by
          obtain ⟨r1, r2, r3⟩ := mod_bd (c := (j : Int)) HWr.out
          have r4 := Int.ediv_nonneg hx0 (show 0 ≤ W by have := HWr.out; omega)
          have r5 := Int.ediv_le_self W hx0
          have h := colour_any gp gq gm p q m ((j : Int) % W) ((j : Int) / W) V hV HS.out (by omega) (by omega) (by omega) (by omega)
          rwa [hcv] at h
        have HCol := Lib.hid hCol
        have HW1 := Lib.hid (with_any (paintF f ((cellsL W H xs).take k)) (paintF_len _ _) j (f (j : Int)) _ (by omega) hfj (paintF_at hfj) (setBits_lt _ (fun i hi => by
          obtain ⟨y, hy, rfl⟩ := List.mem_map.1 hi
          have := hcl.out y (List.mem_of_mem_take (List.mem_filter.1 hy).1)
          omega)))
        have hnx : (paintF f ((cellsL W H xs).take k)).set (f (j : Int)) (setBits ((((cellsL W H xs).take k).filter fun z => f z == f (j : Int)).map Int.toNat) ||| 2 ^ j) = paintF f ((cellsL W H xs).take (k + 1)) := by
          have h := paintF_snoc (f := f) (ys := (cellsL W H xs).take k) (y := (j : Int))
          rw [Int.toNat_natCast] at h
          rw [h, List.take_add_one, hx]; rfl
        rw [hnx] at HW1
        obtain ⟨P, hP⟩ : ∃ P, P = paintF f ((cellsL W H xs).take k) := ⟨_, rfl⟩
        obtain ⟨P1, hP1⟩ : ∃ P1, P1 = paintF f ((cellsL W H xs).take (k + 1)) := ⟨_, rfl⟩
        have hPl : P.length = 9 := by rw [hP]; exact paintF_len _ _
        have hPl1 : P1.length = 9 := by rw [hP1]; exact paintF_len _ _
        rw [← hP] at HPR HW1
        rw [← hP1] at HW1
        have HP1 := Lib.hid hP1
        clear hx hxm hnx hCol hcv hfr hP hP1
        have hPw : (words P).length = 9 := by simp [words, hPl]
        have hS9 : (words P1).length = 9 := by simp [words, hPl1]
        have hI8 : (Tryd.prog.info? 63).map (·.size) = some (words P1).length := by rw [info_painting, hS9]
        have HC9 := Lib.hid (show (words P).toArray.size = (words P1).length by rw [hS9]; simpa using hPw)
        have hO9 : ∀ v ∈ words P1, v.oneCell' = true := words_one _
        obtain ⟨y0, y1, y2, y3, y4, y5, y6, y7, y8, rfl⟩ := nine_of_len hPl
        obtain ⟨q0, q1, q2, q3, q4, q5, q6, q7, q8⟩ := nine_cells HPR.out
        go_wp2
        go_region_with (first
            | (go_at_call 40; refine (spotOf_any W H A n c (j : Int) _ HWr.out ⟨hx0, by omega⟩).mono ?_; rintro e wv ⟨rfl, hb⟩; (try replace hb := below_undrew hb); replace b0 := cell_keep b0 bl hb; replace b1 := cell_keep b1 bl hb; replace b2 := cell_keep b2 bl hb; replace HPR := Lib.hid ((hb.block w2.heap.size gl).trans HPR.out); replace HBY := Lib.hid (HBY.out.keep hb); replace HGW := Lib.hid (grown_next HGW.out (grown_of_below hb _)); replace bl := lt_keep bl hb; replace gl := lt_keep gl hb; clear hb; obtain ⟨q0, q1, q2, q3, q4, q5, q6, q7, q8⟩ := nine_cells HPR.out; have hst := store_row (P := Tryd.prog) (cs := words P1) HPR.out hI8 HC9.out hO9)
            | (go_at_call 56; refine (HCol.out _ HBY.out).mono ?_; rintro e wv ⟨rfl, hb⟩; (try replace hb := below_undrew hb); replace b0 := cell_keep b0 bl hb; replace b1 := cell_keep b1 bl hb; replace b2 := cell_keep b2 bl hb; replace HPR := Lib.hid ((hb.block w2.heap.size gl).trans HPR.out); replace HBY := Lib.hid (HBY.out.keep hb); replace HGW := Lib.hid (grown_next HGW.out (grown_of_below hb _)); replace bl := lt_keep bl hb; replace gl := lt_keep gl hb; clear hb; obtain ⟨q0, q1, q2, q3, q4, q5, q6, q7, q8⟩ := nine_cells HPR.out; have hst := store_row (P := Tryd.prog) (cs := words P1) HPR.out hI8 HC9.out hO9)
            | (go_at_call 39; refine (HW1.out _).mono ?_; rintro e wv ⟨rfl, hb⟩; (try replace hb := below_undrew hb); replace b0 := cell_keep b0 bl hb; replace b1 := cell_keep b1 bl hb; replace b2 := cell_keep b2 bl hb; replace HPR := Lib.hid ((hb.block w2.heap.size gl).trans HPR.out); replace HBY := Lib.hid (HBY.out.keep hb); replace HGW := Lib.hid (grown_next HGW.out (grown_of_below hb _)); replace bl := lt_keep bl hb; replace gl := lt_keep gl hb; clear hb; obtain ⟨q0, q1, q2, q3, q4, q5, q6, q7, q8⟩ := nine_cells HPR.out; have hst := store_row (P := Tryd.prog) (cs := words P1) HPR.out hI8 HC9.out hO9))
        all_goals go_wp2
        all_goals go_roundw
        all_goals (first | exact ⟨k + 1, by omega, by go_num, grown_next HGW.out (grown_setRow _ _ _), by rw [← HP1.out]; exact heap_setRow HPR.out⟩ | (simp [intOf]; omega))
      · have hkn : k = n1 := by omega
        have HE := Lib.hid (show (cellsL W H xs).take k = cellsL W H xs from List.take_of_length_le (by have := SL.out; omega))
        rw [HE.out] at HPR
        obtain ⟨N, hWH⟩ : ∃ N : Nat, W * H = (N : Int) := ⟨(W * H).toNat, by have := HN.out; omega⟩
        obtain ⟨hWa, hWb⟩ := HWr.out
        obtain ⟨hHa, hHb⟩ := (goodB_iff.1 HG.out).2.1
        have hCo := coloursOf_any W H A n c (paintF f (cellsL W H xs)) (paintF_len _ _) N hWH hWa hWb hHa hHb (paintF_lt hcl.out) (fun s hs y hy => by
          obtain ⟨c', _, rfl⟩ := List.mem_map.1 hs
          have := (hasB_iff.1 (cellsL_mem.1 ((paintF_bit hcl.out).1 hy).1)).1
          omega) wr (HT.out.keep hgb HBW.out) (Nat.lt_of_lt_of_le hgb HBW.out.size)
        have hrg := range_of_row HPR.out
        subst hkn
        go_wp2_with (refine wpList_load_mid rfl 63 _ rfl w2.heap.size 0 rfl (words (paintF f (cellsL W H xs))) (.array _ _) hrg rfl rfl (by rw [info_painting]; simp [words, paintF_len]) ?_)
        refine hCo.mono ?_
        rintro e wy ⟨g, rfl, hown, hb⟩
        have HO := Lib.hid hown
        replace HBW := Lib.hid (HBW.out.trans (hb.mono HBW.out.size))
        clear hb hCo hown hrg b0 b1 b2
        go_wp2
        go_ret2
        have hok : byOk W H xs p q m = true := by rw [byOk, HG.out, HS.out]; rfl
        exact ⟨_, _, _, by rw [hok]; rfl, by
          rw [byLV, hok, if_pos rfl, ← cols_by hWH HG.out HS.out HF.out]
          exact HO.out.lower (by omega), HBW.out⟩
end Go.Proofs.YtmmlhbfekjbdpaaDoor
