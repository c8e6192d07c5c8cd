/-
  Contracts: DeadEnds.
-/
import Derived.Test.YtmmfjmgjkbplpaaDoorE4
namespace Go.Proofs.YtmmfjmgjkbplpaaDoor
open Go.RowKit Go.Shelf
attribute [local go_sem] Oper.semAt_some

theorem isOnE_any (W H : Int) (A : Option Addr) (n c : Nat) (xs : List Int) (a b : Int) (w : World) (ha : Rd w A n xs) :
    Calls Tryd.prog 25 #[brd W H A n c, lpr a b, .slice none 0 0] w fun e w' => e = .returned (.bool (twoV W H xs a b)) ∧ Below w.heap.size w w' := by
  have h := isLeaperOnK_any W H A n c xs a b none 0 0 [] w ha (Rd.nil w none)
  rw [show onK W H xs a b [] = twoV W H xs a b by simp [onK]] at h
  exact h
theorem two_lp {W H a b : Int} {xs : List Int} (h : twoV W H xs a b = true) : leaperB a b = true := by simp only [twoV, Bool.and_eq_true] at h; exact h.2
def deadB (W H : Int) (xs : List Int) (a b c : Int) : Bool := decide ((leapsL W H xs a b c).length ≤ 1)
def deadL (W H : Int) (xs : List Int) (a b : Int) : List Int := (cellsL W H xs).filter (deadB W H xs a b)
def deadV (W H : Int) (xs : List Int) (a b : Int) : List Int := if twoV W H xs a b then deadL W H xs a b else []

theorem wpListIn_app1 {F : Fence} {nF : Nat} {P : Program} {w : World} {ops : Array Oper} {rest : List Oper} {o : Oper} {a : Act} {Q : Exit → Act → World → Prop} (hgd : o.guard = none) (s x : Operand) (T E : TypeId)
    (ho : o.op = .call { callee := .builtin .append, args := #[s, x], argTypes := #[T, T] }) (i0 : TypeInfo)
    (hT : P.underlying T = some (.slice E)) (hi : P.info? E = some i0) (hz0 : i0.zero = some (.int .i64 0)) (hz1 : i0.size = 1) (hz2 : i0.bytes = 8)
    (lo : Nat) (A : Option Addr) (n c : Nat) (xs : List Int) (q : Int) (hs : a.eval s = .slice A n c) (hown : OwnI E w lo A n c xs) (hx : a.eval x = .slice (some ⟨w.heap.size, 0, none⟩) 1 1)
    (hn : n ≤ 1000000) (hlo : lo ≤ w.heap.size)
    (h : ∀ A' c' w', OwnI E w' lo A' (n + 1) c' (xs ++ [q]) → Below lo w w' → KeepsFrom lo w w' → wpListIn F nF P ops Q rest (a.put o.dst (.slice A' (n + 1) c')) w') :
    wpListIn F nF P ops Q (o :: rest) a (w.alloc (.cells #[.int .i64 q] E)) := by
  refine wpListIn_append_own (w.alloc (.cells #[.int .i64 q] E)) hgd s x T ho lo E i0 (.int .i64 0) 1 8 hT hi hz0 hz1 hz2 rfl (by decide) (.slice A n c) n (xs.map (Value.int .i64)) hs (World.ownsRow.alloc hown _)
    ⟨w.heap.size, 0, none⟩ 1 1 [.int .i64 q] hx rfl ?_ ?_ (by unfold maxLen; omega) (by omega) (by simp; omega) ?_
  · intro j u hj
    match j, hj with
    | 0, hj =>
      simp at hj; subst hj
      exact cell_of_row (w.alloc (.cells #[.int .i64 q] E)) w.heap.size 0 #[.int .i64 q] E (0, 0) (World.alloc_heap_new w _)
  · intro u hu; simp at hu; subst hu; rfl
  · intro v' w' hown' hgrow _
    have e : xs.map (Value.int .i64) ++ [.int .i64 q] = (xs ++ [q]).map (Value.int .i64) := by simp
    rw [e] at hown'
    obtain ⟨A', c', rfl, hO⟩ := own_form hown'
    have hb : Below lo w (w.alloc (.cells #[.int .i64 q] E)) := (Below.refl _ _).alloc hlo _
    refine h A' c' w' hO (hb.grown hgrow (by simp; omega) (fun k hk => (World.ownsRow.lt hown k hk).1)) ⟨Nat.le_trans (by simp) hgrow.size, fun k o hk ho hc => ?_⟩
    have hlt := (Array.getElem?_eq_some_iff.1 ho).1
    refine ((hgrow.block k (by simp; omega) (fun e => ?_)).trans (Below.heap_alloc w _ k hlt)).trans ho
    rcases hown.2 with ⟨e1, _⟩ | ⟨g, cap, cur, e1, _, e2, _⟩
    · rw [e1] at e; cases e
    · rw [e1] at e
      have : k = g := by simpa [Value.ownBlock] using e
      rw [this, e2] at ho
      cases ho
      cases hc

/-- The ends that have been found when the cells of pre have been looked at. -/
def EndsG (w Wb : World) (gb q : Nat) (C : Array Value) (p : Int → Bool) (pre : List Int) (W' : World) : Prop :=
  Below w.heap.size w W' ∧ Wb.heap.size ≤ W'.heap.size ∧ W'.heap[gb]? = some (.cells C 58 (0, 0)) ∧
    ∃ A n c, W'.heap[q]? = some (.cells #[.slice A n c] 22 (0, 0)) ∧ OwnI 3 W' Wb.heap.size A n c (pre.filter p)
theorem endsG_own {w Wb : World} {gb q : Nat} {C : Array Value} {p : Int → Bool} (hg : gb < Wb.heap.size) (hq : q < Wb.heap.size) (hw : w.heap.size ≤ Wb.heap.size) : OwnFrom Wb.heap.size (EndsG w Wb gb q C p) := by
  rintro s W1 W2 row ⟨hb, hs, hc, A, n, c, hqq, ho⟩ hgr hr
  have hne : ∀ k, k < Wb.heap.size → some k ≠ row := fun k hk e => by have := (hr k e.symm).1; omega
  refine ⟨hb.grown hgr (Nat.le_trans hw hs) (fun k e => Nat.le_trans hw (hr k e).1), Nat.le_trans hs hgr.size, (hgr.block gb (by omega) (hne _ hg)).trans hc, A, n, c, (hgr.block q (by omega) (hne _ hq)).trans hqq, ho.other hgr ?_⟩
  intro ad e er
  obtain ⟨_, ob, h1, h2⟩ := hr _ er.symm
  rcases ho.2 with ⟨e1, _⟩ | ⟨g, cap, cur, e1, _, e2, _⟩
  · rw [e] at e1; cases e1
  · rw [e] at e1
    have : ad = ⟨g, 0, none⟩ := by injection e1 with e3; injection e3
    rw [this, e2] at h1
    cases h1
    cases h2
theorem own_ne {E : TypeId} {w : World} {lo n c r : Nat} {A : Option Addr} {xs : List Int} {o : Obj} (ho : OwnI E w lo A n c xs) (h : w.heap[r]? = some o) (hc : o.isCells = false) : ∀ ad, A = some ad → some ad.block ≠ some r := by
  intro ad e er
  rcases ho.2 with ⟨e1, _⟩ | ⟨g, cap, cur, e1, _, e2, _⟩
  · rw [e] at e1; cases e1
  · rw [e] at e1
    have e5 : ad = ⟨g, 0, none⟩ := by injection e1 with e3; injection e3
    have e6 : g = r := by rw [e5] at er; simpa using er
    rw [e6, h] at e2
    injection e2 with e7
    rw [e7] at hc
    cases hc
theorem gl_get {W H a b x : Int} {xs pre : List Int} (h0 : 0 ≤ x) (h1 : x < 64) (hx : x ∈ pre) : (words (gl W H xs a b pre)).toArray[1 + x.toNat]? = some (.int .u64 ((nearS W H xs a b x : Nat) : Int)) := by
  rw [List.getElem?_toArray, words, List.getElem?_map, gl, show 1 + x.toNat = x.toNat + 1 by omega, List.getElem?_cons_succ, List.getElem?_map, List.getElem?_range (by omega)]
  simp [show ((x.toNat : Nat) : Int) = x by omega, hx]
theorem leaps_pop {W H a b x : Int} {xs : List Int} (h : ∀ y ∈ leapsL W H xs a b x, 0 ≤ y ∧ y < 64) : popN 64 (nearS W H xs a b x) = (leapsL W H xs a b x).length :=
  (pop_walk h).2 (((cellsL_rise W H xs).filter _).imp (fun h => by omega))

set_option maxRecDepth 100000 in
set_option maxHeartbeats 1000000 in
theorem deadEnds_any (W H : Int) (A : Option Addr) (n c : Nat) (xs : List Int) (a b : Int) (w : World) (ha : Rd w A n xs) (hT : Tab64 w) (hgb : 0 < w.heap.size) :
    Calls Tryd.prog 9 #[brd W H A n c, lpr a b] w fun e w' => ∃ A' n' c', e = .returned (.tuple #[.slice A' n' c', .bool (twoV W H xs a b)]) ∧ OwnI 3 w' w.heap.size A' n' c' (deadV W H xs a b) ∧ Below w.heap.size w w' := by
  refine (callsIn_wide (n := 9)).1 ?_
  refine callsIn_of_wp_marks Tryd.func9 rfl trivial ?_ rfl
  simp only [Tryd.ntmps9, List.size_toArray, List.length_cons, List.length_nil, Nat.reduceAdd, Nat.reduceSub, Array.replicate_succ, Array.replicate_zero, List.push_toArray, List.append_toArray, List.nil_append, List.cons_append]
  obtain ⟨i0, hi, hz0, hz1, hz2⟩ := info_parts infoI
  have HI := Lib.hid hi; have HZ0 := Lib.hid hz0; have HZ1 := Lib.hid hz1; have HZ2 := Lib.hid hz2
  clear hi hz0 hz1 hz2
  by_cases ht : twoV W H xs a b = true
  · have hg := two_gK ht
    have hl := two_lp ht
    have HT := Lib.hid hT; have HG := Lib.hid hg; have HLp := Lib.hid hl; have HTw := Lib.hid ht
    clear hT hg hl
    gi_wp2
    refine ⟨trivial, (callsIn_wide.2 (isOnE_any W H A n c xs a b _ ((ha.alloc _).alloc _))).mono ?_⟩
    rw [ht]
    clear ht
    rintro e wv ⟨rfl, hb⟩
    have hbx0 := below_box hb
    have a0 : wv.cell? ⟨w.heap.size, 0, none⟩ = some (.int .i64 W) := by simpa using newbox hbx0 0
    have a1 : wv.cell? ⟨w.heap.size, 1, none⟩ = some (.int .i64 H) := by simpa using newbox hbx0 1
    have a2 : wv.cell? ⟨w.heap.size, 2, none⟩ = some (.slice A n c) := by simpa using newbox hbx0 2
    have l0 : wv.cell? ⟨w.heap.size + 1, 0, none⟩ = some (.int .i64 a) := by simpa using newbox hb 0
    have l1 : wv.cell? ⟨w.heap.size + 1, 1, none⟩ = some (.int .i64 b) := by simpa using newbox hb 1
    have B := below_box hbx0
    clear hb hbx0
    have hG := groundOf_any W H A n c xs a b wv (ha.keep B) HG.out HLp.out (HT.out.keep hgb B) (Nat.lt_of_lt_of_le hgb B.size)
    gi_wp2
    refine ⟨trivial, (callsIn_wide.2 hG).mono ?_⟩
    rintro e w2 ⟨rfl, hB2⟩
    clear hG a0 a1 a2 l0 l1
    have hst : (Instr.storeAt 58 (.pointer (some ⟨w2.heap.size, 0, none⟩)) (.agg (words (gl W H xs a b (cellsL W H xs))).toArray)).run Tryd.prog (w2.alloc (.cells Tryd.zeroCells58 58)) = .ok () (w2.alloc (.cells (words (gl W H xs a b (cellsL W H xs))).toArray 58)) :=
      run_storeAt_new _ _ _ _ (by rw [info_ground]; simp [words, gl]) (by rw [zero_ground]; simp [words, gl]) (all_oneCell_toArray (words_one _))
    obtain ⟨Wa, hWa⟩ : ∃ Wa, Wa = w2.alloc (.cells (words (gl W H xs a b (cellsL W H xs))).toArray 58) := ⟨_, rfl⟩
    have hha : Wa.heap[w2.heap.size]? = some (.cells (words (gl W H xs a b (cellsL W H xs))).toArray 58 (0, 0)) := by rw [hWa]; exact World.alloc_heap_new _ _
    have hca : Wa.cell? ⟨w2.heap.size, 0, none⟩ = some (.int .u64 ((allS W H xs : Nat) : Int)) := by
      rw [cell_of_row _ _ 0 _ _ _ hha]; simp [words, gl, allS]
    have hsa : Wa.heap.size = w2.heap.size + 1 := by rw [hWa]; simp
    have hba : Below w.heap.size w Wa := by
      rw [hWa]; exact (B.trans (hB2.mono B.size)).alloc (Nat.le_trans B.size hB2.size) _
    rw [← hWa] at hst
    have hle : w.heap.size ≤ w2.heap.size := Nat.le_trans B.size hB2.size
    clear hWa hB2 B
    have HHA := Lib.hid hha
    clear hha
    gi_wp2_with (refine wpIn_store_run 58 _ _ _ _ rfl rfl rfl hst ?_)
    have hcl : ∀ x ∈ cellsL W H xs, 0 ≤ x ∧ x < 64 := fun x hx => by
      have h1 := (hasB_iff.1 (cellsL_mem.1 hx)).1
      obtain ⟨hW, hH, _, _⟩ := goodB_iff.1 HG.out
      have := cells_le hW hH
      omega
    have hlt : allS W H xs < 18446744073709551616 := set_lt hcl
    have hit := each_hands (9 - 1) _ hlt
    rw [show bitsL (allS W H xs) = cellsL W H xs from set_bits (cellsL_rise W H xs) hcl] at hit
    obtain ⟨Wb, hWb⟩ : ∃ Wb, Wb = Wa.alloc (.cells #[.slice none 0 0] 22) := ⟨_, rfl⟩
    have hsb : Wb.heap.size = w2.heap.size + 2 := by rw [hWb]; simp; omega
    have hbb : Below w.heap.size w Wb := by rw [hWb]; exact hba.alloc (by omega) _
    have hgb2 : Wb.heap[w2.heap.size]? = some (.cells (words (gl W H xs a b (cellsL W H xs))).toArray 58 (0, 0)) := by rw [hWb, Below.heap_alloc _ _ _ (by omega)]; exact HHA.out
    have hqb : Wb.heap[w2.heap.size + 1]? = some (.cells #[.slice none 0 0] 22 (0, 0)) := by rw [hWb, ← hsa]; exact World.alloc_heap_new _ _
    rw [← hWb]
    clear hWb hst hca
    have h0 : EndsG w Wb w2.heap.size (w2.heap.size + 1) (words (gl W H xs a b (cellsL W H xs))).toArray (deadB W H xs a b) [] Wb := ⟨hbb, Nat.le_refl _, hgb2, none, 0, 0, hqb, OwnI.none_ _ _ _⟩
    refine wpIn_handsQ (q := 8) rfl (fun args w => by simp [go_sem]) hit (EndsG w Wb w2.heap.size (w2.heap.size + 1) (words (gl W H xs a b (cellsL W H xs))).toArray (deadB W H xs a b)) (fun pre w' h => HT.out.keep hgb h.1) (endsG_own (by omega) (by omega) (by omega)) h0 ?_ ?_ ?_
    · intro l x W' K hK
      gi_wp2
      exact hK
    · rintro l pre x rest W' hl hsp ⟨hb1, hs1, hc1, A1, n1, c1, hq1, ho1⟩
      have hx : x ∈ cellsL W H xs := by rw [hsp]; simp
      have h0x : 0 ≤ x := (hcl x hx).1
      have h1x : x < 64 := (hcl x hx).2
      have hcell : W'.cell? ⟨w2.heap.size, 1 + x.toNat, none⟩ = some (.int .u64 ((nearS W H xs a b x : Nat) : Int)) := by rw [cell_of_row _ _ _ _ _ _ hc1, gl_get h0x h1x hx]
      have hqc : W'.cell? ⟨w2.heap.size + 1, 0, none⟩ = some (.slice A1 n1 c1) := by rw [cell_of_row _ _ _ _ _ _ hq1]; rfl
      have hlb : ∀ y ∈ leapsL W H xs a b x, 0 ≤ y ∧ y < 64 := fun y hy => hcl y (List.mem_filter.1 hy).1
      have hpop := leaps_pop hlb
      have hS := size_any (nearS W H xs a b x) (set_lt hlb) W'
      rw [hpop] at hS
      have hn1 : n1 ≤ 64 := by
        have h1 := ho1.len
        have h2 := List.length_filter_le (deadB W H xs a b) pre
        have h3 : (cellsL W H xs).length ≤ (W * H).toNat := cellsTo_len _
        rw [hsp, List.length_append] at h3
        obtain ⟨hW, hH, _, _⟩ := goodB_iff.1 HG.out
        have := cells_le hW hH
        omega
      have HO := Lib.hid ho1; have HC1 := Lib.hid hc1; have HQ1 := Lib.hid hq1; have HSP := Lib.hid hsp; have HB1 := Lib.hid hb1
      clear ho1 hc1 hq1 hsp hb1 hit h0 hgb2 hqb hba hbb hpop hcl hlb
      gi_wp2
      refine ⟨trivial, (callsIn_wide.2 hS).mono ?_⟩
      rintro e w3 ⟨rfl, hB3⟩
      clear hS hcell
      have hqc3 : w3.cell? ⟨w2.heap.size + 1, 0, none⟩ = some (.slice A1 n1 c1) := cell_keep hqc (by omega) hB3
      have HO3 := Lib.hid (HO.out.keep hB3)
      have HC3 := Lib.hid ((hB3.block w2.heap.size (by omega)).trans HC1.out)
      have HQ3 := Lib.hid ((hB3.block (w2.heap.size + 1) (by omega)).trans HQ1.out)
      have hs3 : Wb.heap.size ≤ w3.heap.size := Nat.le_trans hs1 hB3.size
      have HW3 := Lib.hid (HB1.out.trans (hB3.mono HB1.out.size))
      have HK3 := Lib.hid (show KeepsFrom Wb.heap.size W' w3 from ⟨hB3.size, fun k o _ ho _ => (hB3.block k (Array.getElem?_eq_some_iff.1 ho).1).trans ho⟩)
      clear hqc hB3 HO HC1 HQ1
      by_cases hd : (leapsL W H xs a b x).length ≤ 1
      · have hdz : ((leapsL W H xs a b x).length : Int) ≤ 1 := by omega
        have HD := Lib.hid (show deadB W H xs a b x = true by simp [deadB, hd])
        clear hd
        gi_wp2_with (refine wpListIn_app1 rfl (.tmp 26) (.tmp 28) 22 3 rfl i0 Tryd.underlying22 HI.out HZ0.out HZ1.out HZ2.out Wb.heap.size A1 n1 c1 _ x rfl HO3.out rfl (by omega) (by omega) ?_; intro A4 c4 w4 hown4 hb4 hk4; have hq4 := (hb4.block (w2.heap.size + 1) (by omega)).trans HQ3.out; have hqc4 : w4.cell? ⟨w2.heap.size + 1, 0, none⟩ = some (.slice A1 n1 c1) := (by rw [cell_of_row _ _ _ _ _ _ hq4]; rfl); have hqf4 : w4.frozen? ⟨w2.heap.size + 1, 0, none⟩ = false := frozen_of_row _ _ _ _ _ hq4; have HQ4 := Lib.hid hq4; have HO4 := Lib.hid hown4; have HB4 := Lib.hid hb4; have HK4 := Lib.hid hk4; clear hq4 hown4 hb4 hk4)
        have hgs := grown_set w4 (w2.heap.size + 1) 0 (.slice A4 (n1 + 1) c4)
        refine ⟨(HK3.out.trans HK4.out).trans (KeepsFrom.of_grownBy hgs (fun j e => by cases e; omega)), trivial, ?_, ?_, ?_, A4, n1 + 1, c4, ?_, ?_⟩
        · exact (HW3.out.trans ((HB4.out.mono (by omega)))).grown hgs (by have := HW3.out.size; have := HB4.out.size; omega) (fun k e => by cases e; omega)
        · exact Nat.le_trans hs3 (Nat.le_trans HB4.out.size hgs.size)
        · exact (hgs.block w2.heap.size (by have := HB4.out.size; omega) (by simp)).trans ((HB4.out.block w2.heap.size (by omega)).trans HC3.out)
        · rw [heap_set _ HQ4.out]; rfl
        · rw [List.filter_append, List.filter_cons, if_pos HD.out, List.filter_nil]
          exact HO4.out.set_ (p := ⟨w2.heap.size + 1, 0, none⟩) (by show w2.heap.size + 1 < _; omega) _
      · have hdz : ¬ ((leapsL W H xs a b x).length : Int) ≤ 1 := by omega
        have HD := Lib.hid (show deadB W H xs a b x = false by simp [deadB, hd])
        clear hd
        gi_wp2
        refine ⟨HK3.out, trivial, HW3.out, hs3, HC3.out, A1, n1, c1, HQ3.out, ?_⟩
        rw [List.filter_append, List.filter_cons, if_neg (by rw [HD.out]; simp), List.filter_nil, List.append_nil]
        exact HO3.out
    · rintro D W' hD ⟨hb1, hs1, hc1, A1, n1, c1, hq1, ho1⟩ hd
      have hqc : W'.cell? ⟨w2.heap.size + 1, 0, none⟩ = some (.slice A1 n1 c1) := by rw [cell_of_row _ _ _ _ _ _ hq1]; rfl
      have HO := Lib.hid ho1; have HB1 := Lib.hid hb1
      clear ho1 hc1 hq1 hb1 hit h0 hgb2 hqb hba hbb hcl
      gi_wp2
      refine ⟨by simp, .inl ⟨_, _, rfl, run_takeDeferred hd, ?_⟩⟩
      refine ⟨_, results_tmp2 rfl _ _ _, A1, n1, c1, by rw [HTw.out]; rfl, ?_, ?_⟩
      · have hv : deadV W H xs a b = (cellsL W H xs).filter (deadB W H xs a b) := by rw [deadV, if_pos HTw.out, deadL]
        rw [hv]
        exact (HO.out.other (grownBy_putObj' W' D _) (own_ne HO.out hd rfl)).lower (by omega)
      · exact HB1.out.grown (grownBy_putObj' W' D _) (by omega) (fun k e => by cases e; omega)
  · have hv : twoV W H xs a b = false := by simpa using ht
    clear ht
    gi_wp2
    refine ⟨trivial, (callsIn_wide.2 (isOnE_any W H A n c xs a b _ ((ha.alloc _).alloc _))).mono ?_⟩
    rw [hv]
    rintro e wv ⟨rfl, hb⟩
    have B := Lib.hid (below_box (below_box hb))
    clear hb
    gi_wp2
    refine ⟨_, results_tmp2 rfl _ _ _, none, 0, 0, by rw [hv]; rfl, ?_, B.out⟩
    have hz : deadV W H xs a b = [] := by rw [deadV, hv]; rfl
    rw [hz]
    exact OwnI.none_ _ _ _
end Go.Proofs.YtmmfjmgjkbplpaaDoor
