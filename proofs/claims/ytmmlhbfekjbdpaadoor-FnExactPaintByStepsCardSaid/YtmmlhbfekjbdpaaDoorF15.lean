/-
  Contracts: the colours of a painting as a list.
-/
import Derived.Test.YtmmlhbfekjbdpaaDoorE15
import Derived.Test.YtmmlhbfekjbdpaaDoorF6
import Derived.Test.YtmmlhbfekjbdpaaDoorF14
import Derived.ControlIn
namespace Go.Proofs.YtmmlhbfekjbdpaaDoor
open Go.RowKit Go.Shelf
attribute [local go_sem] Oper.semAt_some

/-- The list when the cells ys get the colour c. -/
def putC (c : Nat) (L : List Int) (ys : List Int) : List Int := ys.foldl (fun L y => L.set y.toNat (c : Int)) L
def colsK (P : List Nat) (N : Nat) : Nat → List Int
  | 0 => List.replicate N (-1)
  | k + 1 => putC k (colsK P N k) (bitsL (P.getD k 0))
theorem putC_snoc (c : Nat) (L ys : List Int) (y : Int) : putC c L (ys ++ [y]) = (putC c L ys).set y.toNat (c : Int) := by simp [putC, List.foldl_append]
theorem putC_len (c : Nat) : ∀ (ys L : List Int), (putC c L ys).length = L.length
  | [], _ => rfl
  | y :: t, L => by rw [putC, List.foldl_cons]; exact (putC_len c t _).trans (by simp)
theorem colsK_len (P : List Nat) (N : Nat) : ∀ k, (colsK P N k).length = N
  | 0 => by simp [colsK]
  | k + 1 => by rw [colsK, putC_len, colsK_len P N k]

/-- The deferred calls that ranges over an iterator leave behind. -/
def dl (ds : List Nat) : List Deferred := ds.map fun D => { target := .collected D, args := #[] }
theorem leaves_dl {F : Fence} {n : Nat} {P : Program} {fn : Func} {tmps : Array Value} {R : Ending → World → Prop} (B : Nat) (w : World) : ∀ (ds : List Nat) (W : World), (∀ D ∈ ds, B ≤ D ∧ W.heap[D]? = some (.deferred (some []))) → ds.Pairwise (· ≠ ·) → Below B w W →
    (∀ W', Below B w W' → (∀ k, k ∉ ds → W'.heap[k]? = W.heap[k]?) → LeavesInM F n P fn tmps R [] .returning W') → LeavesInM F n P fn tmps R (dl ds) .returning W
  | [], W, _, _, hb, h => h W hb (fun _ _ => rfl)
  | D :: ds, W, hds, hp, hb, h => by
    obtain ⟨hD1, hD2⟩ := hds D List.mem_cons_self
    rw [List.pairwise_cons] at hp
    refine ⟨by simp, .inl ⟨D, W.putObj D (.deferred none), rfl, run_takeDeferred hD2, ?_⟩⟩
    have hbW : B ≤ W.heap.size := by have := (Array.getElem?_eq_some_iff.1 hD2).1; omega
    refine leaves_dl B w ds _ (fun E hE => ?_) hp.2 (hb.grown (grownBy_putObj' W D _) hbW (fun k e => by cases e; exact hD1)) (fun W' hb' hk => h W' hb' (fun k hk' => ?_))
    · obtain ⟨h1, h2⟩ := hds E (List.mem_cons_of_mem _ hE)
      exact ⟨h1, (World.putObj_heap_other (hp.1 E hE).symm).trans h2⟩
    · rw [List.mem_cons, not_or] at hk'
      exact (hk k hk'.2).trans (World.putObj_heap_other hk'.1)
theorem row_of_own {E : TypeId} {w : World} {lo g N : Nat} {L : List Int} (h : OwnI E w lo (some ⟨g, 0, none⟩) N N L) : w.heap[g]? = some (.cells (L.map (Value.int .i64)).toArray E (0, 0)) := by
  rcases h.2 with ⟨hv, _⟩ | ⟨g', cap, cur, hv, _, hg, _, _, hs, ht⟩
  · cases hv
  · injection hv with h1 h2 h3
    injection h1 with h1
    injection h1 with h1
    subst h1; subst h3
    rw [List.take_of_length_le (by simp [hs])] at ht
    rw [hg]
    congr 2
    rw [← Array.toList_inj, ht]

set_option maxRecDepth 100000 in
set_option maxHeartbeats 2000000 in
theorem coloursOf_any (W H : Int) (A : Option Addr) (n c : Nat) (P : List Nat) (hP : P.length = 9) (N : Nat) (hWH : W * H = (N : Int)) (hW1 : 1 ≤ W) (hW2 : W ≤ 8) (hH1 : 1 ≤ H) (hH2 : H ≤ 8) (hPb : ∀ x ∈ P, x < 18446744073709551616) (hPN : ∀ x ∈ P, ∀ y ∈ bitsL x, y < (N : Int)) (w : World) (hT : Tab64 w) (hgb : 0 < w.heap.size) :
    Calls Tryd.prog 41 #[brd W H A n c, .agg (words P).toArray] w fun e w' => ∃ g, e = .returned (.slice (some ⟨g, 0, none⟩) N N) ∧ OwnI 3 w' w.heap.size (some ⟨g, 0, none⟩) N N (colsK P N 9) ∧ Below w.heap.size w w' := by
  refine (callsIn_wide (n := 9)).1 ?_
  refine callsIn_of_wp_marks Tryd.func41 rfl trivial ?_ rfl
  simp only [Tryd.ntmps41, List.size_toArray, List.length_cons, List.length_nil, Nat.reduceAdd, Nat.reduceSub, Array.replicate_succ, Array.replicate_zero, List.push_toArray, List.append_toArray, List.nil_append, List.cons_append]
  have HT := Lib.hid hT
  have HPB := Lib.hid hPb; have HPN := Lib.hid hPN
  have hN := cells_le ⟨hW1, hW2⟩ ⟨hH1, hH2⟩
  rw [hWH] at hN
  obtain ⟨hN1', hN2'⟩ := hN
  have hN1 : 1 ≤ N := by omega
  have hN2 : N ≤ 64 := by omega
  clear hN1' hN2'
  clear hT hPb hPN
  obtain ⟨W3, hW3⟩ : ∃ W3, W3 = ((w.alloc (.cells #[.int .i64 W, .int .i64 H, .slice A n c] 30)).alloc (.cells (words P).toArray 63)).alloc (.cells #[.int .i64 (-1)] 3) := ⟨_, rfl⟩
  have hs3 : W3.heap.size = w.heap.size + 3 := by rw [hW3]; simp
  have hb3 : Below w.heap.size w W3 := by rw [hW3]; exact ((below_new (Below.refl _ _) _).alloc (by simp) _).alloc (by simp; omega) _
  have hp3 : W3.heap[w.heap.size + 1]? = some (.cells (words P).toArray 63 (0, 0)) := by
    have h := World.alloc_heap_new (w.alloc (.cells #[.int .i64 W, .int .i64 H, .slice A n c] 30)) (.cells (words P).toArray 63)
    rw [hW3, Below.heap_alloc _ _ _ (by simp)]; rw [World.size_alloc] at h; exact h
  have hc3 : W3.cell? ⟨w.heap.size + 1 + 1, 0, none⟩ = some (.int .i64 (-1)) := by rw [hW3]; go_simp
  have hrd : Rd W3 (some ⟨w.heap.size + 1 + 1, 0, none⟩) 1 [-1] := ⟨rfl, by omega, fun j hj => by
    obtain rfl : j = 0 := by omega
    exact ⟨_, _, -1, rfl, by omega, rfl, hc3⟩⟩
  have hRp := repeat_any (some ⟨w.heap.size + 1 + 1, 0, none⟩) (-1) N W3 hrd hN1 hN2
  clear hrd hc3
  gi_wp2
  rw [← hW3]
  clear hW3
  refine ⟨trivial, (callsIn_wide.2 hRp).mono ?_⟩
  rintro e w4 ⟨g, rfl, hown, hb4⟩
  have hp4 := (hb4.block (w.heap.size + 1) (by omega)).trans hp3
  have hs4 := hb4.size
  replace hb3 := below_next hb3 hb4
  clear hRp hp3 hb4
  have hld := paint_load (W := w4.alloc (.cells #[.slice (some ⟨g, 0, none⟩) N N] 22)) ((Below.heap_alloc w4 (.cells #[.slice (some ⟨g, 0, none⟩) N N] 22) (w.heap.size + 1) (by omega)).trans hp4) hP
  gi_wp2_with (refine wpIn_load_run 63 _ _ _ rfl rfl hld ?_)
  have hrow4 := row_of_own hown
  have hg4 : W3.heap.size ≤ g ∧ g < w4.heap.size := by rcases hown.some_ (k := 0) (by omega) with ⟨g9, h9, h7, h8⟩; injection h9 with h9; injection h9 with h9; omega
  obtain ⟨W0, hW0⟩ : ∃ W0, W0 = w4.alloc (.cells #[.slice (some ⟨g, 0, none⟩) N N] 22) := ⟨_, rfl⟩
  have hs0 : W0.heap.size = w4.heap.size + 1 := by rw [hW0]; simp
  have hb0 : Below w.heap.size w W0 := by rw [hW0]; exact hb3.alloc hb3.size _
  have hr0 : W0.heap[g]? = some (.cells ((colsK P N 0).map (Value.int .i64)).toArray 3 (0, 0)) := by rw [hW0, Below.heap_alloc _ _ _ hg4.2]; exact hrow4
  have hx0 : W0.heap[w4.heap.size]? = some (.cells #[.slice (some ⟨g, 0, none⟩) N N] 22 (0, 0)) := by rw [hW0]; exact World.alloc_heap_new _ _
  obtain ⟨hg5, hg6⟩ := hg4
  rw [← hW0]
  have HR0 := Lib.hid hr0; have HX0 := Lib.hid hx0
  clear hW0 hown hrow4 hld hp4 hr0 hx0
  obtain ⟨I, hI⟩ : ∃ I : Act → World → Prop, I = fun a V => ∃ (k : Nat) (v6 v7 v18 v19 v20 v21 v22 v28 : Value) (ds : List Nat), k ≤ 9 ∧ a = { tmps := #[brd W H A n c, .agg (words P).toArray, .pointer (some ⟨w.heap.size, 0, none⟩), .pointer (some ⟨w.heap.size + 1, 0, none⟩), .slice none 0 0, .pointer (some ⟨w4.heap.size, 0, none⟩), v6, v7, undef, .slice (some ⟨w.heap.size + 1 + 1, 0, none⟩) 1 1, .pointer (some ⟨w.heap.size, 0, none⟩), .int .i64 W, .pointer (some ⟨w.heap.size, 1, none⟩), .int .i64 H, .int .i64 (N : Int), .slice (some ⟨g, 0, none⟩) N N, .agg (words P).toArray, .int .i64 (k : Int), v18, v19, v20, v21, v22, undef, undef, undef, undef, undef, v28, undef], defers := dl ds } ∧
    (W0.grownBy V (some g) ∧ V.heap[g]? = some (.cells ((colsK P N k).map (Value.int .i64)).toArray 3 (0, 0))) ∧ (∀ D ∈ ds, W0.heap.size ≤ D ∧ V.heap[D]? = some (.deferred (some []))) ∧ ds.Pairwise (· ≠ ·) := ⟨_, rfl⟩
  have HI := Lib.hid hI
  clear hI
  refine wpIn_loop I (fun a _ => 9 - (intOf (a.tmps.getD 17 undef)).toNat) ?_ ?_
  · rw [HI.out]
    exact ⟨0, undef, undef, undef, undef, undef, undef, undef, undef, [], by omega, rfl, ⟨World.grownBy.refl _ _, HR0.out⟩, by simp, List.Pairwise.nil⟩
  · intro a V hIa
    obtain ⟨K, hK⟩ : ∃ K : Act → World → Prop, K = fun a' w' => I a' w' ∧ 9 - (intOf (a'.tmps.getD 17 undef)).toNat < 9 - (intOf (a.tmps.getD 17 undef)).toNat := ⟨_, rfl⟩
    rw [← hK]
    rw [HI.out] at hIa
    obtain ⟨k, v6, v7, v18, v19, v20, v21, v22, v28, ds, hk, rfl, ⟨hgv, hrv⟩, hds, hpw⟩ := hIa
    have HK := Lib.hid hK
    have hbv : Below w.heap.size w V := hb0.grown hgv hb0.size (fun k e => by cases e; omega)
    have HDS := Lib.hid hds; have HRV := Lib.hid hrv; have HGV := Lib.hid hgv; have HBV := Lib.hid hbv; have HPW := Lib.hid hpw
    have hsv := hgv.size
    have hxv := Lib.hid ((hgv.block w4.heap.size (by omega) (by simp; omega)).trans HX0.out)
    clear hds hrv hgv hbv hK hpw
    by_cases hlt : k < 9
    · obtain ⟨s, hPk⟩ : ∃ s, P[k]? = some s := ⟨_, List.getElem?_eq_getElem (by omega)⟩
      have hrun := run_paint P k s hlt hPk
      have hPm := List.mem_of_getElem? hPk
      have HSK := Lib.hid (show P.getD k 0 = s by rw [List.getD_eq_getElem?_getD, hPk]; rfl)
      have HSN := Lib.hid (HPN.out s hPm)
      have hit := each_hands (9 - 1) s (HPB.out _ hPm)
      clear hPk hPm
      obtain ⟨W1, hW1⟩ : ∃ W1, W1 = V.alloc (.cells #[.int .i64 (k : Int)] 3) := ⟨_, rfl⟩
      have hs1 : W1.heap.size = V.heap.size + 1 := by rw [hW1]; simp
      have hb1 : Below w.heap.size w W1 := by rw [hW1]; exact HBV.out.alloc HBV.out.size _
      have hgV : g < V.heap.size := (Array.getElem?_eq_some_iff.1 HRV.out).1
      have hr1 : W1.heap[g]? = some (.cells ((colsK P N k).map (Value.int .i64)).toArray 3 (0, 0)) := by rw [hW1, Below.heap_alloc _ _ _ hgV]; exact HRV.out
      have hx1 := Lib.hid (show W1.heap[w4.heap.size]? = some (.cells #[.slice (some ⟨g, 0, none⟩) N N] 22 (0, 0)) by rw [hW1, Below.heap_alloc _ _ _ (by omega)]; exact hxv.out)
      have hc1 := Lib.hid (show W1.heap[V.heap.size]? = some (.cells #[.int .i64 (k : Int)] 3 (0, 0)) by rw [hW1]; exact World.alloc_heap_new _ _)
      have hds1 := Lib.hid (show ∀ D ∈ ds, W0.heap.size ≤ D ∧ D < V.heap.size ∧ W1.heap[D]? = some (.deferred (some [])) from fun D hD => by
        obtain ⟨h1, h2⟩ := HDS.out D hD
        have h3 := (Array.getElem?_eq_some_iff.1 h2).1
        exact ⟨h1, h3, by rw [hW1, Below.heap_alloc _ _ _ h3]; exact h2⟩)
      have hgr1 := Lib.hid (show W0.grownBy W1 (some g) by rw [hW1]; exact grown_next HGV.out (World.grownBy_alloc V _ _))
      have HR1 := Lib.hid hr1
      clear hr1
      gi_wp2
      rw [← hW1]
      clear hW1 hrun
      have hgW1 : g < W1.heap.size := by omega
      refine wpIn_handsQ (q := 8) rfl (fun args w => by simp [go_sem]) hit (MidC W1 g 3 (fun pre => ((putC k (colsK P N k) pre).map (Value.int .i64)).toArray) (fun _ => True)) (fun pre w' h => HT.out.keep hgb (hb1.grown h.1 hb1.size (fun k e => by cases e; omega)))
        (midC_own hgW1) ⟨World.grownBy.refl _ _, HR1.out, trivial⟩ ?_ ?_ ?_
      · intro l x W' K' hK'
        gi_wp2
        exact hK'
      · rintro l pre y rest W' hl hsp ⟨hgw, hrw, -⟩
        have hy : y ∈ bitsL s := by rw [hsp]; simp
        obtain ⟨hy0, hy1, -⟩ := bitsL_mem.1 hy
        have hyN := HSN.out y hy
        obtain ⟨j, rfl⟩ : ∃ j : Nat, y = (j : Int) := ⟨y.toNat, by omega⟩
        have hjN : j < N := by omega
        have hxc : W'.cell? ⟨w4.heap.size, 0, none⟩ = some (.slice (some ⟨g, 0, none⟩) N N) := by
          rw [cell_of_row _ _ _ _ _ _ ((hgw.block w4.heap.size (by omega) (by simp; omega)).trans hx1.out)]; rfl
        have hcc : W'.cell? ⟨V.heap.size, 0, none⟩ = some (.int .i64 (k : Int)) := by
          rw [cell_of_row _ _ _ _ _ _ ((hgw.block V.heap.size (by omega) (by simp; omega)).trans hc1.out)]; rfl
        have hlen : (putC k (colsK P N k) pre).length = N := by rw [putC_len, colsK_len]
        obtain ⟨u, hrc⟩ : ∃ u : Int, W'.cell? ⟨g, j, none⟩ = some (.int .i64 u) := by
          refine ⟨(putC k (colsK P N k) pre)[j]'(by omega), ?_⟩
          rw [cell_of_row _ _ _ _ _ _ hrw, List.getElem?_toArray, List.getElem?_map, List.getElem?_eq_getElem (by omega)]; rfl
        have hrf : W'.frozen? ⟨g, j, none⟩ = false := frozen_of_row _ _ _ _ _ hrw
        have HGW := Lib.hid hgw; have HRW := Lib.hid hrw
        clear hgw hrw hsp hy hit hyN
        gi_wp2
        have hgs := grown_set W' g j (.int .i64 (k : Int))
        refine ⟨KeepsFrom.of_grownBy hgs (fun i e => by cases e; omega), trivial, grown_next HGW.out hgs, ?_, trivial⟩
        refine Eq.trans (heap_set _ HRW.out) ?_
        show _ = some (Obj.cells ((putC k (colsK P N k) (pre ++ [(j : Int)])).map (Value.int .i64)).toArray 3 (0, 0))
        rw [putC_snoc]
        simp [List.map_set]
      · rintro D V' hD ⟨hgw, hrw, -⟩ hd
        have HGW := Lib.hid hgw; have HRW := Lib.hid hrw; have HD := Lib.hid hd
        clear hgw hrw hd hit
        gi_wp2
        rw [HK.out, HI.out]
        refine ⟨⟨k + 1, _, _, _, _, _, _, _, _, D :: ds, by omega, by rw [show ((k + 1 : Nat) : Int) = (k : Int) + 1 by omega]; rfl, ⟨grown_next hgr1.out HGW.out, ?_⟩, ?_, ?_⟩, ?_⟩
        · rw [colsK, HSK.out]; exact HRW.out
        · intro E hE
          rcases List.mem_cons.1 hE with rfl | hE
          · exact ⟨by omega, HD.out⟩
          · obtain ⟨h1, h2, h3⟩ := hds1.out E hE
            exact ⟨h1, (HGW.out.block E (by omega) (by simp; omega)).trans h3⟩
        · refine List.pairwise_cons.2 ⟨fun E hE => ?_, HPW.out⟩
          obtain ⟨h1, h2, h3⟩ := hds1.out E hE
          omega
        · simp [intOf]; omega
    · have hk9 : k = 9 := by omega
      subst hk9
      have hxc : V.cell? ⟨w4.heap.size, 0, none⟩ = some (.slice (some ⟨g, 0, none⟩) N N) := by rw [cell_of_row _ _ _ _ _ _ hxv.out]; rfl
      gi_wp2
      refine leaves_dl w.heap.size w ds V (fun D hD => ?_) HPW.out HBV.out (fun V' hbV' hkV' => ?_)
      · obtain ⟨h1, h2⟩ := HDS.out D hD
        exact ⟨by have := hb0.size; omega, h2⟩
      · refine ⟨_, results_tmp rfl _ _ _, g, rfl, own_of_row (colsK_len _ _ _) (by omega) (by unfold maxLen; omega) ((hkV' g (fun hg => ?_)).trans HRV.out), hbV'⟩
        have h := (HDS.out g hg).2
        rw [HRV.out] at h
        cases h
end Go.Proofs.YtmmlhbfekjbdpaaDoor
