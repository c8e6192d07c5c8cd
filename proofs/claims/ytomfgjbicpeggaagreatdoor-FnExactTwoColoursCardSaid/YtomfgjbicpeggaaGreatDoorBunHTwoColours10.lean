/-
  Contracts: the colours of a painting as a list.
  Contracts: colours by steps.
  Contracts: PaintBySteps, in the program.
  Contracts: TwoColours, in the program and in the model.
  The walk of the exact law on TwoColours: it answers true, and what was there stays.
-/
import Derived.Test.YtomfgjbicpeggaaGreatDoorBunHTwoColours9
import Derived.Test.YtomfgjbicpeggaaGreatDoorBunHTwoColours8
import Derived.ControlIn
import Derived.Test.YtomfgjbicpeggaaGreatDoorBunHTwoColours1
import Derived.Test.YtomfgjbicpeggaaGreatDoorBunHTwoColours2
import Derived.Deep.RegionWith
import Derived.Test.YtomfgjbicpeggaaGreatDoorBunHTwoColours5
namespace Go.Proofs.YtomfgjbicpeggaaGreatDoor
open Go.RowKit Go.Shelf
attribute [local go_sem] Oper.semAt_some

/-- The list when the cells ys get the colour c. -/
def putC (c : Nat) (L : List Int) (ys : List Int) : List Int := ys.foldl (fun L y => L.set y.toNat (c : Int)) L
def colsK (P : List Nat) (N : Nat) : Nat → List Int
  | 0 => List.replicate N (-1)
  | k + 1 => putC k (colsK P N k) (bitsL (P.getD k 0))
theorem putC_snoc (c : Nat) (L ys : List Int) (y : Int) : putC c L (ys ++ [y]) = (putC c L ys).set y.toNat (c : Int) := by simp [putC, List.foldl_append]
theorem putC_len (c : Nat) : ∀ (ys L : List Int), (putC c L ys).length = L.length
  | [], _ => rfl
  | y :: t, L => by rw [putC, List.foldl_cons]; exact (putC_len c t _).trans (by simp)
theorem colsK_len (P : List Nat) (N : Nat) : ∀ k, (colsK P N k).length = N
  | 0 => by simp [colsK]
  | k + 1 => by rw [colsK, putC_len, colsK_len P N k]

/-- The deferred calls that ranges over an iterator leave behind. -/
def dl (ds : List Nat) : List Deferred := ds.map fun D => { target := .collected D, args := #[] }
theorem leaves_dl {F : Fence} {n : Nat} {P : Program} {fn : Func} {tmps : Array Value} {R : Ending → World → Prop} (B : Nat) (w : World) : ∀ (ds : List Nat) (W : World), (∀ D ∈ ds, B ≤ D ∧ W.heap[D]? = some (.deferred (some []))) → ds.Pairwise (· ≠ ·) → Below B w W →
    (∀ W', Below B w W' → (∀ k, k ∉ ds → W'.heap[k]? = W.heap[k]?) → LeavesInM F n P fn tmps R [] .returning W') → LeavesInM F n P fn tmps R (dl ds) .returning W
  | [], W, _, _, hb, h => h W hb (fun _ _ => rfl)
  | D :: ds, W, hds, hp, hb, h => by
    obtain ⟨hD1, hD2⟩ := hds D List.mem_cons_self
    rw [List.pairwise_cons] at hp
    refine ⟨by simp, .inl ⟨D, W.putObj D (.deferred none), rfl, run_takeDeferred hD2, ?_⟩⟩
    have hbW : B ≤ W.heap.size := by have := (Array.getElem?_eq_some_iff.1 hD2).1; omega
    refine leaves_dl B w ds _ (fun E hE => ?_) hp.2 (hb.grown (grownBy_putObj' W D _) hbW (fun k e => by cases e; exact hD1)) (fun W' hb' hk => h W' hb' (fun k hk' => ?_))
    · obtain ⟨h1, h2⟩ := hds E (List.mem_cons_of_mem _ hE)
      exact ⟨h1, (World.putObj_heap_other (hp.1 E hE).symm).trans h2⟩
    · rw [List.mem_cons, not_or] at hk'
      exact (hk k hk'.2).trans (World.putObj_heap_other hk'.1)
theorem row_of_own {E : TypeId} {w : World} {lo g N : Nat} {L : List Int} (h : OwnI E w lo (some ⟨g, 0, none⟩) N N L) : w.heap[g]? = some (.cells (L.map (Value.int .i64)).toArray E (0, 0)) := by
  rcases h.2 with ⟨hv, _⟩ | ⟨g', cap, cur, hv, _, hg, _, _, hs, ht⟩
  · cases hv
  · injection hv with h1 h2 h3
    injection h1 with h1
    injection h1 with h1
    subst h1; subst h3
    rw [List.take_of_length_le (by simp [hs])] at ht
    rw [hg]
    congr 2
    rw [← Array.toList_inj, ht]

set_option maxRecDepth 100000 in
set_option maxHeartbeats 2000000 in
theorem coloursOf_any (W H : Int) (A : Option Addr) (n c : Nat) (P : List Nat) (hP : P.length = 9) (N : Nat) (hWH : W * H = (N : Int)) (hW1 : 1 ≤ W) (hW2 : W ≤ 8) (hH1 : 1 ≤ H) (hH2 : H ≤ 8) (hPb : ∀ x ∈ P, x < 18446744073709551616) (hPN : ∀ x ∈ P, ∀ y ∈ bitsL x, y < (N : Int)) (w : World) (hT : Tab64 w) (hgb : 0 < w.heap.size) :
    Calls Tryz.prog 19 #[brd W H A n c, .agg (words P).toArray] w fun e w' => ∃ g, e = .returned (.slice (some ⟨g, 0, none⟩) N N) ∧ OwnI 3 w' w.heap.size (some ⟨g, 0, none⟩) N N (colsK P N 9) ∧ Below w.heap.size w w' := by
  refine (callsIn_wide (n := 9)).1 ?_
  refine callsIn_of_wp_marks Tryz.func19 rfl trivial ?_ rfl
  simp only [Tryz.ntmps19, List.size_toArray, List.length_cons, List.length_nil, Nat.reduceAdd, Nat.reduceSub, Array.replicate_succ, Array.replicate_zero, List.push_toArray, List.append_toArray, List.nil_append, List.cons_append]
  have HT := Lib.hid hT
  have HPB := Lib.hid hPb; have HPN := Lib.hid hPN
  have hN := cells_le ⟨hW1, hW2⟩ ⟨hH1, hH2⟩
  rw [hWH] at hN
  obtain ⟨hN1', hN2'⟩ := hN
  have hN1 : 1 ≤ N := by omega
  have hN2 : N ≤ 64 := by omega
  clear hN1' hN2'
  clear hT hPb hPN
  obtain ⟨W3, hW3⟩ : ∃ W3, W3 = ((w.alloc (.cells #[.int .i64 W, .int .i64 H, .slice A n c] 30)).alloc (.cells (words P).toArray 46)).alloc (.cells #[.int .i64 (-1)] 3) := ⟨_, rfl⟩
  have hs3 : W3.heap.size = w.heap.size + 3 := by rw [hW3]; simp
  have hb3 : Below w.heap.size w W3 := by rw [hW3]; exact ((below_new (Below.refl _ _) _).alloc (by simp) _).alloc (by simp; omega) _
  have hp3 : W3.heap[w.heap.size + 1]? = some (.cells (words P).toArray 46 (0, 0)) := by
    have h := World.alloc_heap_new (w.alloc (.cells #[.int .i64 W, .int .i64 H, .slice A n c] 30)) (.cells (words P).toArray 46)
    rw [hW3, Below.heap_alloc _ _ _ (by simp)]; rw [World.size_alloc] at h; exact h
  have hc3 : W3.cell? ⟨w.heap.size + 1 + 1, 0, none⟩ = some (.int .i64 (-1)) := by rw [hW3]; go_simp
  have hrd : Rd W3 (some ⟨w.heap.size + 1 + 1, 0, none⟩) 1 [-1] := ⟨rfl, by omega, fun j hj => by
    obtain rfl : j = 0 := by omega
    exact ⟨_, _, -1, rfl, by omega, rfl, hc3⟩⟩
  have hRp := repeat_any (some ⟨w.heap.size + 1 + 1, 0, none⟩) (-1) N W3 hrd hN1 hN2
  clear hrd hc3
  gi_wp2
  rw [← hW3]
  clear hW3
  refine ⟨trivial, (callsIn_wide.2 hRp).mono ?_⟩
  rintro e w4 ⟨g, rfl, hown, hb4⟩
  have hp4 := (hb4.block (w.heap.size + 1) (by omega)).trans hp3
  have hs4 := hb4.size
  replace hb3 := below_next hb3 hb4
  clear hRp hp3 hb4
  have hld := paint_load (W := w4.alloc (.cells #[.slice (some ⟨g, 0, none⟩) N N] 22)) ((Below.heap_alloc w4 (.cells #[.slice (some ⟨g, 0, none⟩) N N] 22) (w.heap.size + 1) (by omega)).trans hp4) hP
  gi_wp2_with (refine wpIn_load_run 46 _ _ _ rfl rfl hld ?_)
  have hrow4 := row_of_own hown
  have hg4 : W3.heap.size ≤ g ∧ g < w4.heap.size := by rcases hown.some_ (k := 0) (by omega) with ⟨g9, h9, h7, h8⟩; injection h9 with h9; injection h9 with h9; omega
  obtain ⟨W0, hW0⟩ : ∃ W0, W0 = w4.alloc (.cells #[.slice (some ⟨g, 0, none⟩) N N] 22) := ⟨_, rfl⟩
  have hs0 : W0.heap.size = w4.heap.size + 1 := by rw [hW0]; simp
  have hb0 : Below w.heap.size w W0 := by rw [hW0]; exact hb3.alloc hb3.size _
  have hr0 : W0.heap[g]? = some (.cells ((colsK P N 0).map (Value.int .i64)).toArray 3 (0, 0)) := by rw [hW0, Below.heap_alloc _ _ _ hg4.2]; exact hrow4
  have hx0 : W0.heap[w4.heap.size]? = some (.cells #[.slice (some ⟨g, 0, none⟩) N N] 22 (0, 0)) := by rw [hW0]; exact World.alloc_heap_new _ _
  obtain ⟨hg5, hg6⟩ := hg4
  rw [← hW0]
  have HR0 := Lib.hid hr0; have HX0 := Lib.hid hx0
  clear hW0 hown hrow4 hld hp4 hr0 hx0
  obtain ⟨I, hI⟩ : ∃ I : Act → World → Prop, I = fun a V => ∃ (k : Nat) (v6 v7 v18 v19 v20 v21 v22 v28 : Value) (ds : List Nat), k ≤ 9 ∧ a = { tmps := #[brd W H A n c, .agg (words P).toArray, .pointer (some ⟨w.heap.size, 0, none⟩), .pointer (some ⟨w.heap.size + 1, 0, none⟩), .slice none 0 0, .pointer (some ⟨w4.heap.size, 0, none⟩), v6, v7, undef, .slice (some ⟨w.heap.size + 1 + 1, 0, none⟩) 1 1, .pointer (some ⟨w.heap.size, 0, none⟩), .int .i64 W, .pointer (some ⟨w.heap.size, 1, none⟩), .int .i64 H, .int .i64 (N : Int), .slice (some ⟨g, 0, none⟩) N N, .agg (words P).toArray, .int .i64 (k : Int), v18, v19, v20, v21, v22, undef, undef, undef, undef, undef, v28, undef], defers := dl ds } ∧
    (W0.grownBy V (some g) ∧ V.heap[g]? = some (.cells ((colsK P N k).map (Value.int .i64)).toArray 3 (0, 0))) ∧ (∀ D ∈ ds, W0.heap.size ≤ D ∧ V.heap[D]? = some (.deferred (some []))) ∧ ds.Pairwise (· ≠ ·) := ⟨_, rfl⟩
  have HI := Lib.hid hI
  clear hI
  refine wpIn_loop I (fun a _ => 9 - (intOf (a.tmps.getD 17 undef)).toNat) ?_ ?_
  · rw [HI.out]
    exact ⟨0, undef, undef, undef, undef, undef, undef, undef, undef, [], by omega, rfl, ⟨World.grownBy.refl _ _, HR0.out⟩, by simp, List.Pairwise.nil⟩
  · intro a V hIa
    obtain ⟨K, hK⟩ : ∃ K : Act → World → Prop, K = fun a' w' => I a' w' ∧ 9 - (intOf (a'.tmps.getD 17 undef)).toNat < 9 - (intOf (a.tmps.getD 17 undef)).toNat := ⟨_, rfl⟩
    rw [← hK]
    rw [HI.out] at hIa
    obtain ⟨k, v6, v7, v18, v19, v20, v21, v22, v28, ds, hk, rfl, ⟨hgv, hrv⟩, hds, hpw⟩ := hIa
    have HK := Lib.hid hK
    have hbv : Below w.heap.size w V := hb0.grown hgv hb0.size (fun k e => by cases e; omega)
    have HDS := Lib.hid hds; have HRV := Lib.hid hrv; have HGV := Lib.hid hgv; have HBV := Lib.hid hbv; have HPW := Lib.hid hpw
    have hsv := hgv.size
    have hxv := Lib.hid ((hgv.block w4.heap.size (by omega) (by simp; omega)).trans HX0.out)
    clear hds hrv hgv hbv hK hpw
    by_cases hlt : k < 9
    · obtain ⟨s, hPk⟩ : ∃ s, P[k]? = some s := ⟨_, List.getElem?_eq_getElem (by omega)⟩
      have hrun := run_paint P k s hlt hPk
      have hPm := List.mem_of_getElem? hPk
      have HSK := Lib.hid (show P.getD k 0 = s by rw [List.getD_eq_getElem?_getD, hPk]; rfl)
      have HSN := Lib.hid (HPN.out s hPm)
      have hit := each_hands (9 - 1) s (HPB.out _ hPm)
      clear hPk hPm
      obtain ⟨W1, hW1⟩ : ∃ W1, W1 = V.alloc (.cells #[.int .i64 (k : Int)] 3) := ⟨_, rfl⟩
      have hs1 : W1.heap.size = V.heap.size + 1 := by rw [hW1]; simp
      have hb1 : Below w.heap.size w W1 := by rw [hW1]; exact HBV.out.alloc HBV.out.size _
      have hgV : g < V.heap.size := (Array.getElem?_eq_some_iff.1 HRV.out).1
      have hr1 : W1.heap[g]? = some (.cells ((colsK P N k).map (Value.int .i64)).toArray 3 (0, 0)) := by rw [hW1, Below.heap_alloc _ _ _ hgV]; exact HRV.out
      have hx1 := Lib.hid (show W1.heap[w4.heap.size]? = some (.cells #[.slice (some ⟨g, 0, none⟩) N N] 22 (0, 0)) by rw [hW1, Below.heap_alloc _ _ _ (by omega)]; exact hxv.out)
      have hc1 := Lib.hid (show W1.heap[V.heap.size]? = some (.cells #[.int .i64 (k : Int)] 3 (0, 0)) by rw [hW1]; exact World.alloc_heap_new _ _)
      have hds1 := Lib.hid (show ∀ D ∈ ds, W0.heap.size ≤ D ∧ D < V.heap.size ∧ W1.heap[D]? = some (.deferred (some [])) from fun D hD => by
        obtain ⟨h1, h2⟩ := HDS.out D hD
        have h3 := (Array.getElem?_eq_some_iff.1 h2).1
        exact ⟨h1, h3, by rw [hW1, Below.heap_alloc _ _ _ h3]; exact h2⟩)
      have hgr1 := Lib.hid (show W0.grownBy W1 (some g) by rw [hW1]; exact grown_next HGV.out (World.grownBy_alloc V _ _))
      have HR1 := Lib.hid hr1
      clear hr1
      gi_wp2
      rw [← hW1]
      clear hW1 hrun
      have hgW1 : g < W1.heap.size := by omega
      refine wpIn_handsQ (q := 8) rfl (fun args w => by simp [go_sem]) hit (MidC W1 g 3 (fun pre => ((putC k (colsK P N k) pre).map (Value.int .i64)).toArray) (fun _ => True)) (fun pre w' h => HT.out.keep hgb (hb1.grown h.1 hb1.size (fun k e => by cases e; omega)))
        (midC_own hgW1) ⟨World.grownBy.refl _ _, HR1.out, trivial⟩ ?_ ?_ ?_
      · intro l x W' K' hK'
        gi_wp2
        exact hK'
      · rintro l pre y rest W' hl hsp ⟨hgw, hrw, -⟩
        have hy : y ∈ bitsL s := by rw [hsp]; simp
        obtain ⟨hy0, hy1, -⟩ := bitsL_mem.1 hy
        have hyN := HSN.out y hy
        obtain ⟨j, rfl⟩ : ∃ j : Nat, y = (j : Int) := ⟨y.toNat, by omega⟩
        have hjN : j < N := by omega
        have hxc : W'.cell? ⟨w4.heap.size, 0, none⟩ = some (.slice (some ⟨g, 0, none⟩) N N) := by
          rw [cell_of_row _ _ _ _ _ _ ((hgw.block w4.heap.size (by omega) (by simp; omega)).trans hx1.out)]; rfl
        have hcc : W'.cell? ⟨V.heap.size, 0, none⟩ = some (.int .i64 (k : Int)) := by
          rw [cell_of_row _ _ _ _ _ _ ((hgw.block V.heap.size (by omega) (by simp; omega)).trans hc1.out)]; rfl
        have hlen : (putC k (colsK P N k) pre).length = N := by rw [putC_len, colsK_len]
        obtain ⟨u, hrc⟩ : ∃ u : Int, W'.cell? ⟨g, j, none⟩ = some (.int .i64 u) := by
          refine ⟨(putC k (colsK P N k) pre)[j]'(by omega), ?_⟩
          rw [cell_of_row _ _ _ _ _ _ hrw, List.getElem?_toArray, List.getElem?_map, List.getElem?_eq_getElem (by omega)]; rfl
        have hrf : W'.frozen? ⟨g, j, none⟩ = false := frozen_of_row _ _ _ _ _ hrw
        have HGW := Lib.hid hgw; have HRW := Lib.hid hrw
        clear hgw hrw hsp hy hit hyN
        gi_wp2
        have hgs := grown_set W' g j (.int .i64 (k : Int))
        refine ⟨KeepsFrom.of_grownBy hgs (fun i e => by cases e; omega), trivial, grown_next HGW.out hgs, ?_, trivial⟩
        refine Eq.trans (heap_set _ HRW.out) ?_
        show _ = some (Obj.cells ((putC k (colsK P N k) (pre ++ [(j : Int)])).map (Value.int .i64)).toArray 3 (0, 0))
        rw [putC_snoc]
        simp [List.map_set]
      · rintro D V' hD ⟨hgw, hrw, -⟩ hd
        have HGW := Lib.hid hgw; have HRW := Lib.hid hrw; have HD := Lib.hid hd
        clear hgw hrw hd hit
        gi_wp2
        rw [HK.out, HI.out]
        refine ⟨⟨k + 1, _, _, _, _, _, _, _, _, D :: ds, by omega, by rw [show ((k + 1 : Nat) : Int) = (k : Int) + 1 by omega]; rfl, ⟨grown_next hgr1.out HGW.out, ?_⟩, ?_, ?_⟩, ?_⟩
        · rw [colsK, HSK.out]; exact HRW.out
        · intro E hE
          rcases List.mem_cons.1 hE with rfl | hE
          · exact ⟨by omega, HD.out⟩
          · obtain ⟨h1, h2, h3⟩ := hds1.out E hE
            exact ⟨h1, (HGW.out.block E (by omega) (by simp; omega)).trans h3⟩
        · refine List.pairwise_cons.2 ⟨fun E hE => ?_, HPW.out⟩
          obtain ⟨h1, h2, h3⟩ := hds1.out E hE
          omega
        · simp [intOf]; omega
    · have hk9 : k = 9 := by omega
      subst hk9
      have hxc : V.cell? ⟨w4.heap.size, 0, none⟩ = some (.slice (some ⟨g, 0, none⟩) N N) := by rw [cell_of_row _ _ _ _ _ _ hxv.out]; rfl
      gi_wp2
      refine leaves_dl w.heap.size w ds V (fun D hD => ?_) HPW.out HBV.out (fun V' hbV' hkV' => ?_)
      · obtain ⟨h1, h2⟩ := HDS.out D hD
        exact ⟨by have := hb0.size; omega, h2⟩
      · refine ⟨_, results_tmp rfl _ _ _, g, rfl, own_of_row (colsK_len _ _ _) (by omega) (by unfold maxLen; omega) ((hkV' g (fun hg => ?_)).trans HRV.out), hbV'⟩
        have h := (HDS.out g hg).2
        rw [HRV.out] at h
        cases h
end Go.Proofs.YtomfgjbicpeggaaGreatDoor

namespace Go.Proofs.YtomfgjbicpeggaaGreatDoor
open Go.RowKit

def stepsOk (p q m : Int) : Bool := decide (1 ≤ m ∧ m ≤ 9 ∧ 0 ≤ p ∧ p < m ∧ 0 ≤ q ∧ q < m)
/-- Where the three numbers of a colouring by steps lie. -/
def ByAt (w : World) (gp gq gm : Nat) (p q m : Int) : Prop := w.cell? ⟨gp, 0, none⟩ = some (.int .i64 p) ∧ w.cell? ⟨gq, 0, none⟩ = some (.int .i64 q) ∧ w.cell? ⟨gm, 0, none⟩ = some (.int .i64 m) ∧ gp < w.heap.size ∧ gq < w.heap.size ∧ gm < w.heap.size
theorem ByAt.keep {w w' : World} {gp gq gm : Nat} {p q m : Int} (h : ByAt w gp gq gm p q m) (hb : Below w.heap.size w w') : ByAt w' gp gq gm p q m :=
  ⟨cell_keep h.1 h.2.2.2.1 hb, cell_keep h.2.1 h.2.2.2.2.1 hb, cell_keep h.2.2.1 h.2.2.2.2.2 hb, lt_keep h.2.2.2.1 hb, lt_keep h.2.2.2.2.1 hb, lt_keep h.2.2.2.2.2 hb⟩
theorem steps_split (p q m : Int) : stepsOk p q m = (inB m 1 9 && (inB p 0 (m - 1) && inB q 0 (m - 1))) := by
  rw [Bool.eq_iff_iff]; simp [stepsOk, inB]; omega

end Go.Proofs.YtomfgjbicpeggaaGreatDoor

namespace Go.Proofs.YtomfgjbicpeggaaGreatDoor
open Go.RowKit Go.Shelf
attribute [local go_sem] Oper.semAt_some

/-- The colour of a cell by steps. -/
def byV (W p q m x : Int) : Int := (p * (x % W) + q * (x / W)) % m
def byOk (W H : Int) (xs : List Int) (p q m : Int) : Bool := goodB W H xs && stepsOk p q m
def byL (W H : Int) (xs : List Int) (p q m : Int) : List Int := (upTo (W * H).toNat).map fun x => if hasB W H xs x then byV W p q m x else -1
def byLV (W H : Int) (xs : List Int) (p q m : Int) : List Int := if byOk W H xs p q m then byL W H xs p q m else []
theorem paintF_bit {f : Int → Nat} {ys : List Int} (h : ∀ y ∈ ys, 0 ≤ y ∧ y < 64) {c : Nat} {z : Int} : z ∈ bitsL (setBits ((ys.filter fun y => f y == c).map Int.toNat)) ↔ z ∈ ys ∧ f z = c := by
  rw [bitsL_mem, setBits_test _ _ _ rfl]
  constructor
  · rintro ⟨h0, h1, hm⟩
    obtain ⟨y, hy, e⟩ := List.mem_map.1 hm
    obtain ⟨hy1, hy2⟩ := List.mem_filter.1 hy
    have := h y hy1
    obtain rfl : y = z := by omega
    exact ⟨hy1, by simpa using hy2⟩
  · rintro ⟨h1, h2⟩
    have := h z h1
    exact ⟨this.1, this.2, List.mem_map.2 ⟨z, List.mem_filter.2 ⟨h1, by simpa using h2⟩, rfl⟩⟩
theorem putC_at (c : Nat) : ∀ (ys L : List Int) (i : Nat), (∀ y ∈ ys, 0 ≤ y) → i < L.length → (putC c L ys)[i]? = if (i : Int) ∈ ys then some (c : Int) else L[i]?
  | [], L, i, _, _ => by simp [putC]
  | y :: t, L, i, h, hi => by
    have ht := putC_at c t (L.set y.toNat (c : Int)) i (fun z hz => h z (List.mem_cons_of_mem _ hz)) (by simpa using hi)
    rw [show putC c L (y :: t) = putC c (L.set y.toNat (c : Int)) t from rfl, ht, List.getElem?_set]
    have hy := h y List.mem_cons_self
    by_cases h1 : (i : Int) ∈ t
    · simp [h1]
    · by_cases h2 : (i : Int) = y
      · simp [h2]; rw [show y.toNat = i by omega]; simp [hi]
      · have : ¬ y.toNat = i := by omega
        simp [h1, h2, this]
theorem colsK_at {f : Int → Nat} {ys : List Int} {N : Nat} (h : ∀ y ∈ ys, 0 ≤ y ∧ y < 64) {i : Nat} (hi : i < N) : ∀ k, k ≤ 9 → (colsK (paintF f ys) N k)[i]? = some (if (i : Int) ∈ ys ∧ f i < k then (f i : Int) else -1)
  | 0, _ => by simp [colsK, hi]
  | k + 1, hk => by
    have ih := colsK_at (f := f) h hi k (by omega)
    have hg : (paintF f ys).getD k 0 = setBits ((ys.filter fun y => f y == k).map Int.toNat) := by rw [List.getD_eq_getElem?_getD, paintF_at (by omega)]; rfl
    rw [colsK, putC_at k _ _ i (fun y hy => (bitsL_mem.1 hy).1) (by rw [colsK_len]; exact hi), ih, hg]
    by_cases hm : (i : Int) ∈ ys
    · by_cases hf : f i = k
      · rw [if_pos ((paintF_bit h).2 ⟨hm, hf⟩), if_pos ⟨hm, by omega⟩, hf]
      · rw [if_neg (fun h9 => hf ((paintF_bit h).1 h9).2)]
        by_cases hl : f i < k
        · rw [if_pos ⟨hm, hl⟩, if_pos ⟨hm, by omega⟩]
        · rw [if_neg (fun h9 => hl h9.2), if_neg (fun h9 => by have := h9.2; omega)]
    · rw [if_neg (fun h9 => hm ((paintF_bit h).1 h9).1), if_neg (fun h9 => hm h9.1), if_neg (fun h9 => hm h9.1)]

theorem ByAt.keepG {w w' : World} {gp gq gm g : Nat} {p q m : Int} (h : ByAt w gp gq gm p q m) (hg : w.grownBy w' (some g)) (h1 : gp ≠ g) (h2 : gq ≠ g) (h3 : gm ≠ g) : ByAt w' gp gq gm p q m :=
  ⟨hg.cell h.1 (by simpa using h1), hg.cell h.2.1 (by simpa using h2), hg.cell h.2.2.1 (by simpa using h3), Nat.lt_of_lt_of_le h.2.2.2.1 hg.size, Nat.lt_of_lt_of_le h.2.2.2.2.1 hg.size, Nat.lt_of_lt_of_le h.2.2.2.2.2 hg.size⟩
theorem byV_rng {W p q m x : Int} (hs : stepsOk p q m = true) : 0 ≤ byV W p q m x ∧ byV W p q m x < m ∧ m ≤ 9 := by
  obtain ⟨m1, m2, _⟩ := of_decide_eq_true hs
  exact ⟨Int.emod_nonneg _ (by omega), Int.emod_lt_of_pos _ (by omega), m2⟩
theorem byV_tmod {W p q m x : Int} (hW : 1 ≤ W ∧ W ≤ 8) (hs : stepsOk p q m = true) (hx : 0 ≤ x) : (p * (x % W) + q * (x / W)).tmod m = byV W p q m x := by
  obtain ⟨m1, m2, p1, p2, q1, q2⟩ := of_decide_eq_true hs
  have h1 := Int.emod_nonneg x (show W ≠ 0 by omega)
  have h2 := Int.ediv_nonneg hx (show 0 ≤ W by omega)
  exact Int.tmod_eq_emod_of_nonneg (Int.add_nonneg (Int.mul_nonneg p1 h1) (Int.mul_nonneg q1 h2))

theorem cols_by {W H : Int} {xs : List Int} {p q m : Int} {f : Int → Nat} {N : Nat} (hWH : W * H = (N : Int)) (hg : goodB W H xs = true) (hs : stepsOk p q m = true) (hf : f = fun y => (byV W p q m y).toNat) :
    colsK (paintF f (cellsL W H xs)) N 9 = byL W H xs p q m := by
  have hcl : ∀ y ∈ cellsL W H xs, 0 ≤ y ∧ y < 64 := fun y hy => by
    have h1 := (hasB_iff.1 (cellsL_mem.1 hy)).1
    obtain ⟨hW, hH, _, _⟩ := goodB_iff.1 hg
    have := cells_le hW hH
    omega
  have hn : (W * H).toNat = N := by omega
  apply List.ext_getElem?
  intro i
  rw [byL, hn, List.getElem?_map]
  by_cases hi : i < N
  · rw [colsK_at hcl hi 9 (Nat.le_refl _), upTo, List.getElem?_map, List.getElem?_range hi]
    have hr := byV_rng (W := W) (x := (i : Int)) hs
    have hfi : f (i : Int) < 9 := by rw [hf]; show (byV W p q m (i : Int)).toNat < 9; omega
    have hfv : ((f (i : Int) : Nat) : Int) = byV W p q m (i : Int) := by rw [hf]; show (((byV W p q m (i : Int)).toNat : Nat) : Int) = _; omega
    simp only [Option.map_some]
    congr 1
    by_cases hm : (i : Int) ∈ cellsL W H xs
    · rw [if_pos ⟨hm, hfi⟩, if_pos (cellsL_mem.1 hm), hfv]
    · rw [if_neg (fun h => hm h.1), if_neg (fun h => hm (cellsL_mem.2 h))]
  · rw [List.getElem?_eq_none (by rw [colsK_len]; omega), upTo, List.getElem?_map, List.getElem?_eq_none (by simp; omega)]; rfl

end Go.Proofs.YtomfgjbicpeggaaGreatDoor

namespace Go.Proofs.YtomfgjbicpeggaaGreatDoor
open Go.RowKit

theorem onB_nil7 {W H : Int} {xs : List Int} {a b : Int} : onB W H xs a b [] = okTwo W H xs a b := by simp [onB]
def twoV2 (W H : Int) (xs : List Int) (a b : Int) : List Int := if okTwo W H xs a b = true then twoL W H xs a b else []
theorem len_TwoColours (W H : Int) (xs : List Int) (a b : Int) : (twoV2 W H xs a b).length ≤ 1000000 := by
  unfold twoV2
  split
  · rename_i h
    have hF := on_facts h
    have := (two_parts hF).1
    have := hF.n
    omega
  · simp
theorem flat_rng {W H a b : Int} {xs : List Int} {N : Nat} (h : OnFacts W H xs a b N) : ∀ y ∈ (partsL W H xs a b).flatten, 0 ≤ y ∧ y < (N : Int) := fun y hy => by
  obtain ⟨q, hq, hyq⟩ := List.mem_flatten.1 hy
  obtain ⟨_, _, _, _, h9⟩ := (two_parts h).2 q hq
  exact (h9 y hyq).1
theorem cols_two {W H a b : Int} {xs : List Int} {N : Nat} (h : OnFacts W H xs a b N) : colsK (paintF (fTwo W H xs a b) (partsL W H xs a b).flatten) N 9 = twoL W H xs a b := by
  have K := two_ok h (cellsL W H xs).length
  have e1 : twoTo W H xs a b (cellsL W H xs).length = twoL W H xs a b := by rw [twoTo, List.take_length]; rfl
  have e2 : partsTo W H xs a b (cellsL W H xs).length = partsL W H xs a b := by rw [partsTo, List.take_length]; rfl
  have hcl : ∀ y ∈ (partsL W H xs a b).flatten, 0 ≤ y ∧ y < 64 := fun y hy => by
    have := flat_rng h y hy; have := h.n; omega
  apply List.ext_getElem?
  intro i
  by_cases hi : i < N
  · rw [colsK_at hcl hi 9 (Nat.le_refl _)]
    have h3 := K.iff i hi
    have h4 := K.rng i hi
    have hl := K.len
    rw [e1, e2] at h3
    rw [e1] at h4 hl
    have hg : (twoL W H xs a b)[i]? = some ((twoL W H xs a b).getD i (-1)) := by
      rw [List.getD_eq_getElem?_getD, List.getElem?_eq_getElem (by omega)]; rfl
    rw [hg]
    congr 1
    have hf : fTwo W H xs a b (i : Int) = ((twoL W H xs a b).getD i (-1)).toNat := by rw [fTwo, Int.toNat_natCast]
    by_cases hm : (i : Int) ∈ (partsL W H xs a b).flatten
    · obtain ⟨q, hq, hyq⟩ := List.mem_flatten.1 hm
      have h0 := h3.2 (by rw [inParts, List.any_eq_true]; exact ⟨q, hq, List.contains_iff_mem.2 hyq⟩)
      rw [if_pos ⟨hm, by rw [hf]; omega⟩, hf]; omega
    · rw [if_neg (fun h => hm h.1)]
      rcases h4 with h4 | h4
      · exact h4.symm
      · exfalso
        have h5 := h3.1 (by omega)
        rw [inParts, List.any_eq_true] at h5
        obtain ⟨q, hq, hx⟩ := h5
        exact hm (List.mem_flatten.2 ⟨q, hq, List.contains_iff_mem.1 hx⟩)
  · rw [List.getElem?_eq_none (by rw [colsK_len]; omega), List.getElem?_eq_none (by have := (two_parts h).1; omega)]

set_option maxRecDepth 100000 in
set_option maxHeartbeats 4000000 in
theorem impl_TwoColours (W H : Int) (A : Option Addr) (n c : Nat) (xs : List Int) (a b : Int) (w : World) (ha : Rd w A n xs) (hTG : Tab64 w ∧ 0 < w.heap.size) :
    Calls Tryz.prog 8 #[brd W H A n c, lpr a b] w fun e w' => ∃ A' n' c', e = .returned (.tuple #[.slice A' n' c', .bool (okTwo W H xs a b)]) ∧ OwnI 3 w' w.heap.size A' n' c' (twoV2 W H xs a b) ∧ Below w.heap.size w w' := by
  obtain ⟨hT, hgb⟩ := hTG
  have HT := Lib.hid hT
  clear hT
  by_cases ho : onB W H xs a b [] = true
  · have hok : okTwo W H xs a b = true := by rw [← onB_nil7, ho]
    have FO := on_facts hok
    obtain ⟨N, hN⟩ : ∃ N, N = (W * H).toNat := ⟨_, rfl⟩
    rw [← hN] at FO
    have HF := Lib.hid FO
    have HOK := Lib.hid hok
    have n64 := FO.n.2
    clear FO hN
    go_enter Tryz.func8, Tryz.ntmps8
    go_wp2_with fail
    refine (isLeaperOn_any _ _ _ _ _ _ _ _ _ _ _ [] _ ((ha.alloc _).alloc _) (Rd.nil _ _)).mono ?_
    rw [ho]
    rintro e wv ⟨rfl, hb⟩
    have hbx0 := below_box hb
    have a0 : wv.cell? ⟨w.heap.size, 0, none⟩ = some (.int .i64 W) := by simpa using newbox hbx0 0
    have a1 : wv.cell? ⟨w.heap.size, 1, none⟩ = some (.int .i64 H) := by simpa using newbox hbx0 1
    have a2 : wv.cell? ⟨w.heap.size, 2, none⟩ = some (.slice A n c) := by simpa using newbox hbx0 2
    have al : w.heap.size < wv.heap.size := by simpa using newbox_lt hbx0
    have l0 : wv.cell? ⟨w.heap.size + 1, 0, none⟩ = some (.int .i64 a) := by simpa using newbox hb 0
    have l1 : wv.cell? ⟨w.heap.size + 1, 1, none⟩ = some (.int .i64 b) := by simpa using newbox hb 1
    have ll : w.heap.size + 1 < wv.heap.size := by simpa using newbox_lt hb
    have B := Lib.hid (below_box hbx0)
    clear hb hbx0
    obtain ⟨P, hP⟩ : ∃ P, P = paintF (fTwo W H xs a b) (partsL W H xs a b).flatten := ⟨_, rfl⟩
    have hPl : P.length = 9 := by rw [hP]; exact paintF_len _ _
    have HTC := Lib.hid (fun lo mo w (ha : Rd w A n xs) (hom : OnMap w lo mo (cellsL W H xs) (leapsL W H xs a b)) => twoColours_any W H A n c xs a b N lo mo w ha HF.out hom)
    rw [← hP] at HTC
    have hcl : ∀ y ∈ (partsL W H xs a b).flatten, 0 ≤ y ∧ y < 64 := fun y hy => by
      have := flat_rng HF.out y hy; omega
    have HPB := Lib.hid (show ∀ x ∈ P, x < 18446744073709551616 by rw [hP]; exact paintF_lt hcl)
    have HPN := Lib.hid (show ∀ x ∈ P, ∀ y ∈ bitsL x, y < (N : Int) from fun s hs y hy => by
      rw [hP] at hs
      obtain ⟨c', _, rfl⟩ := List.mem_map.1 hs
      exact (flat_rng HF.out y ((paintF_bit hcl).1 hy).1).2)
    have HPP := Lib.hid hP
    obtain ⟨hW, hH, -, -⟩ := goodB_iff.1 HF.out.g
    have HWr := Lib.hid hW; have HHr := Lib.hid hH
    clear hP hcl hW hH
    go_wp2_with fail
    refine wp_region_held_drew (S := fun w' => w'.cell? ⟨w.heap.size, 0, none⟩ = some (.int .i64 W) ∧ w'.cell? ⟨w.heap.size, 1, none⟩ = some (.int .i64 H) ∧ w'.cell? ⟨w.heap.size, 2, none⟩ = some (.slice A n c) ∧ w'.cell? ⟨w.heap.size + 1, 0, none⟩ = some (.int .i64 a) ∧ w'.cell? ⟨w.heap.size + 1, 1, none⟩ = some (.int .i64 b)) (by kernel_rfl) ?_ (fun hHeld => ?_)
    · (try dsimp only)
      exact ⟨a0, a1, a2, l0, l1⟩
    refine wpAnyH_take (i := 0) (oi := ⟨_, _, _, _, _, _⟩) (v := ?_) rfl (by kernel_rfl) (by kernel_rfl) (by kernel_rfl) (fun _ _ _ h => h) (Or.inl ⟨by rfl, ?_⟩) (by assumption) ?_
    rotate_left
    · intro w hSw
      (try dsimp only at hSw)
      go_simp
      (try with_reducible rfl)
    (try simp only [Act.put, List.setIfInBounds_toArray, List.set_cons_zero, List.set_cons_succ])
    refine wpAnyH_take (i := 1) (oi := ⟨_, _, _, _, _, _⟩) (v := ?_) rfl (by kernel_rfl) (by kernel_rfl) (by kernel_rfl) (fun _ _ _ h => h) (Or.inl ⟨by rfl, ?_⟩) (by assumption) ?_
    rotate_left
    · intro w hSw
      (try dsimp only at hSw)
      go_simp
      (try with_reducible rfl)
    (try simp only [Act.put, List.setIfInBounds_toArray, List.set_cons_zero, List.set_cons_succ])
    refine wpAnyH_take (i := 2) (oi := ⟨_, _, _, _, _, _⟩) (v := ?_) rfl (by kernel_rfl) (by kernel_rfl) (by kernel_rfl) (fun _ _ _ h => h) (Or.inl ⟨by rfl, ?_⟩) (by assumption) ?_
    rotate_left
    · intro w hSw
      (try dsimp only at hSw)
      go_simp
      (try with_reducible rfl)
    (try simp only [Act.put, List.setIfInBounds_toArray, List.set_cons_zero, List.set_cons_succ])
    refine wpAnyH_take (i := 3) (oi := ⟨_, _, _, _, _, _⟩) (v := ?_) rfl (by kernel_rfl) (by kernel_rfl) (by kernel_rfl) (fun _ _ _ h => h) (Or.inl ⟨by rfl, ?_⟩) (by assumption) ?_
    rotate_left
    · intro w hSw
      (try dsimp only at hSw)
      go_simp
      (try with_reducible rfl)
    (try simp only [Act.put, List.setIfInBounds_toArray, List.set_cons_zero, List.set_cons_succ])
    refine wpAnyH_ready (rs := [4]) (by kernel_rfl) (by simp) ?_
    refine AllReadyH.cons (o := ⟨_, _, _, _, _, _⟩) rfl (fun K hK => ?_) AllReadyH.nil
    go_simp
    (go_at_call 21; refine (onwardOf_any W H A n c xs a b _ ?_ HF.out.g HF.out.l).mono ?_; (first | exact ha.keep B.out | exact (ha.keep B.out).drew1 | exact (ha.keep B.out).drewN _); rintro e wx ⟨mb, rfl, hom, hb⟩; (repeat (first | replace hb := below_undrew hb | replace hb := below_undrewN hb)); have HOM := Lib.hid hom; replace a0 := cell_keep a0 al hb; replace a1 := cell_keep a1 al hb; replace a2 := cell_keep a2 al hb; replace l0 := cell_keep l0 ll hb; replace l1 := cell_keep l1 ll hb; replace al := lt_keep al hb; replace ll := lt_keep ll hb; replace B := Lib.hid (below_next B.out hb); clear hb hom)
    (try go_wp2_with fail)
    refine hK.out _ _ ?_ (fun hHeld => ?_)
    · (try dsimp only)
      exact ⟨a0, a1, a2, l0, l1⟩
    clear hK K
    (try simp only [Act.put, List.setIfInBounds_toArray, List.set_cons_zero, List.set_cons_succ])
    refine wpAnyH_ready (rs := [5]) (by kernel_rfl) (by simp) ?_
    refine AllReadyH.cons (o := ⟨_, _, _, _, _, _⟩) rfl (fun K hK => ?_) AllReadyH.nil
    go_simp
    (go_at_call 20; refine (HTC.out _ mb _ (ha.keep B.out) HOM.out).mono ?_; rintro e wy ⟨rfl, hb⟩; (repeat (first | replace hb := below_undrew hb | replace hb := below_undrewN hb)); replace a0 := cell_keep a0 al hb; replace a1 := cell_keep a1 al hb; replace a2 := cell_keep a2 al hb; replace l0 := cell_keep l0 ll hb; replace l1 := cell_keep l1 ll hb; replace al := lt_keep al hb; replace ll := lt_keep ll hb; replace B := Lib.hid (below_next B.out hb); clear hb)
    (try go_wp2_with fail)
    refine hK.out _ _ ?_ (fun hHeld => ?_)
    · (try dsimp only)
      exact ⟨a0, a1, a2, l0, l1⟩
    clear hK K
    (try simp only [Act.put, List.setIfInBounds_toArray, List.set_cons_zero, List.set_cons_succ])
    refine wpAnyH_ready (rs := [6]) (by kernel_rfl) (by simp) ?_
    refine AllReadyH.cons (o := ⟨_, _, _, _, _, _⟩) rfl (fun K hK => ?_) AllReadyH.nil
    go_simp
    (go_at_call 19; refine (coloursOf_any W H A n c P hPl N HF.out.wh HWr.out.1 HWr.out.2 HHr.out.1 HHr.out.2 HPB.out HPN.out _ (HT.out.keep hgb B.out) (Nat.lt_of_lt_of_le hgb B.out.size)).mono ?_; rintro e ws ⟨g, rfl, hown, hb⟩; (repeat (first | replace hb := below_undrew hb | replace hb := below_undrewN hb)); have HO := Lib.hid hown; have hBs := B.out.size; replace a0 := cell_keep a0 al hb; replace a1 := cell_keep a1 al hb; replace a2 := cell_keep a2 al hb; replace l0 := cell_keep l0 ll hb; replace l1 := cell_keep l1 ll hb; replace al := lt_keep al hb; replace ll := lt_keep ll hb; replace B := Lib.hid (below_next B.out hb); clear hb hown)
    (try go_wp2_with fail)
    refine hK.out _ _ ?_ (fun hHeld => ?_)
    · (try dsimp only)
      exact ⟨a0, a1, a2, l0, l1⟩
    clear hK K
    (try simp only [Act.put, List.setIfInBounds_toArray, List.set_cons_zero, List.set_cons_succ])
    refine wpAnyH_take (i := 7) (oi := ⟨_, _, _, _, _, _⟩) (v := ?_) rfl (by kernel_rfl) (by kernel_rfl) (by kernel_rfl) (fun _ _ _ h => h) (Or.inl ⟨by rfl, ?_⟩) (by assumption) ?_
    rotate_left
    · intro w hSw
      (try dsimp only at hSw)
      go_simp
      (try with_reducible rfl)
    (try simp only [Act.put, List.setIfInBounds_toArray, List.set_cons_zero, List.set_cons_succ])
    refine wpAnyH_take (i := 8) (oi := ⟨_, _, _, _, _, _⟩) (v := ?_) rfl (by kernel_rfl) (by kernel_rfl) (by kernel_rfl) (fun _ _ _ h => h) (Or.inl ⟨by rfl, ?_⟩) (by assumption) ?_
    rotate_left
    · intro w hSw
      (try dsimp only at hSw)
      go_simp
      (try with_reducible rfl)
    (try simp only [Act.put, List.setIfInBounds_toArray, List.set_cons_zero, List.set_cons_succ])
    refine wpAnyH_done (by kernel_rfl) ?_ _
    all_goals go_wp2
    all_goals go_ret2
    all_goals exact ⟨_, _, _, by rw [HOK.out]; rfl, by
      rw [twoV2, HOK.out, if_pos rfl, ← cols_two HF.out, ← HPP.out]
      exact HO.out.lower hBs, B.out⟩
  · have ho' : onB W H xs a b [] = false := by simpa using ho
    go_enter Tryz.func8, Tryz.ntmps8
    go_wp2_with fail
    refine (isLeaperOn_any _ _ _ _ _ _ _ _ _ _ _ [] _ ((ha.alloc _).alloc _) (Rd.nil _ _)).mono ?_
    rw [ho']
    rintro e wv ⟨rfl, hb⟩
    have B := Lib.hid (below_box (below_box hb))
    clear hb
    go_wp2
    go_ret2
    have hok : okTwo W H xs a b = false := by rw [← onB_nil7, ho']
    exact ⟨none, 0, 0, by rw [hok]; rfl, by rw [twoV2, hok]; exact OwnI.none_ _ _ _, B.out⟩

set_option maxRecDepth 100000 in
set_option maxHeartbeats 4000000 in
theorem spec_TwoColours (W H : Int) (A : Option Addr) (n c : Nat) (xs : List Int) (a b : Int) (w : World) (ha : Rd w A n xs) :
    Calls Tryz.prog 5 #[brd W H A n c, lpr a b] w fun e w' => ∃ A' n' c', e = .returned (.tuple #[.slice A' n' c', .bool (okTwo W H xs a b)]) ∧ OwnI 3 w' w.heap.size A' n' c' (twoV2 W H xs a b) ∧ Below w.heap.size w w' := by
  by_cases ht : (goodB W H xs && leaperB a b) = true
  · have hok : okTwo W H xs a b = true := by rw [okTwo, two_l ht, two_g ht]; rfl
    have FO := on_facts hok
    obtain ⟨N, hN⟩ : ∃ N, N = (W * H).toNat := ⟨_, rfl⟩
    rw [← hN] at FO
    have HF := Lib.hid FO
    have HOK := Lib.hid hok
    have n64 := FO.n.2
    clear FO hN
    go_enter Tryz.func5, Tryz.ntmps5
    go_wp2_with fail
    refine (boTwo_any _ _ _ _ _ _ _ _ _ ((ha.alloc _).alloc _)).mono ?_
    rw [ht]
    rintro e wv ⟨rfl, hb⟩
    have hbx0 := below_box hb
    have a0 : wv.cell? ⟨w.heap.size, 0, none⟩ = some (.int .i64 W) := by simpa using newbox hbx0 0
    have a1 : wv.cell? ⟨w.heap.size, 1, none⟩ = some (.int .i64 H) := by simpa using newbox hbx0 1
    have a2 : wv.cell? ⟨w.heap.size, 2, none⟩ = some (.slice A n c) := by simpa using newbox hbx0 2
    have l0 : wv.cell? ⟨w.heap.size + 1, 0, none⟩ = some (.int .i64 a) := by simpa using newbox hb 0
    have l1 : wv.cell? ⟨w.heap.size + 1, 1, none⟩ = some (.int .i64 b) := by simpa using newbox hb 1
    have B := Lib.hid (below_box hbx0)
    clear hb hbx0
    have n64 := HF.out.n.2
    go_wp2_with fail
    refine (paTwo_any W H A n c xs a b N _ (ha.keep B.out) HF.out).mono ?_
    rw [two_paints HF.out]
    rintro e w1 ⟨gc, rfl, hown, hb⟩
    have hBs := B.out.size
    have HBW := Lib.hid (below_next B.out hb)
    have OC := Lib.hid hown
    clear hb hown
    go_wp2
    go_ret2
    exact ⟨_, _, _, by rw [HOK.out]; rfl, by rw [twoV2, HOK.out, if_pos rfl]; exact OC.out.lower hBs, HBW.out⟩
  · have ht' : (goodB W H xs && leaperB a b) = false := by simpa using ht
    have hok : okTwo W H xs a b = false := by rw [okTwo, Bool.and_comm, ht']
    go_enter Tryz.func5, Tryz.ntmps5
    go_wp2_with fail
    refine (boTwo_any _ _ _ _ _ _ _ _ _ ((ha.alloc _).alloc _)).mono ?_
    rw [ht']
    rintro e wv ⟨rfl, hb⟩
    have B := Lib.hid (below_box (below_box hb))
    clear hb
    go_wp2
    go_ret2
    exact ⟨none, 0, 0, by rw [hok]; rfl, by rw [twoV2, hok]; exact OwnI.none_ _ _ _, B.out⟩
end Go.Proofs.YtomfgjbicpeggaaGreatDoor

namespace Go.Proofs.YtomfgjbicpeggaaGreatDoor
open Go.RowKit

set_option maxHeartbeats 4000000 in
set_option maxRecDepth 100000 in
theorem law_TwoColours (w : World) (V0 G0 : Int) (A0 : Option Addr) (n0 c0 : Nat) (xs0 : List Int) (ha0 : Rd w A0 n0 xs0) (la1 lb1 : Int) (hT : Tab64 w ∧ 0 < w.heap.size) :
    Calls Tryz.prog 3 #[brd V0 G0 A0 n0 c0, lpr la1 lb1] w fun e w' => e = .returned (.bool true) ∧ Below w.heap.size w w' := by
  have hn9 := ha0.2.1
  by_cases hnB : (n0 : Int) ≤ 1048576
  rotate_left
  · go_enter Tryz.func3, Tryz.ntmps3
    go_wp2_with fail
    refine (szBoard_any _ _ _ _ _ _ _ hn9 (by omega) (by omega)).mono ?_
    rintro e wv ⟨rfl, hb⟩
    have B := Lib.hid (below_box (below_box hb))
    clear hb
    go_wp2
    go_ret
    exact ⟨rfl, B.out⟩
  · go_enter Tryz.func3, Tryz.ntmps3
    go_wp2_with fail
    refine (szBoard_any _ _ _ _ _ _ _ hn9 (by omega) (by omega)).mono ?_
    rintro e wv ⟨rfl, hb⟩
    have hbx0 := below_box hb
    have a0 : wv.cell? ⟨w.heap.size, 0, none⟩ = some (.int .i64 V0) := by simpa using newbox hbx0 0
    have a1 : wv.cell? ⟨w.heap.size, 1, none⟩ = some (.int .i64 G0) := by simpa using newbox hbx0 1
    have a2 : wv.cell? ⟨w.heap.size, 2, none⟩ = some (.slice A0 n0 c0) := by simpa using newbox hbx0 2
    have al : w.heap.size < wv.heap.size := by simpa using newbox_lt hbx0
    have l0 : wv.cell? ⟨w.heap.size + 1, 0, none⟩ = some (.int .i64 la1) := by simpa using newbox hb 0
    have l1 : wv.cell? ⟨w.heap.size + 1, 1, none⟩ = some (.int .i64 lb1) := by simpa using newbox hb 1
    have ll : w.heap.size + 1 < wv.heap.size := by simpa using newbox_lt hb
    have B := Lib.hid (below_box hbx0)
    have hs1 := Lib.hid (below_box hbx0).size
    have hz := Lib.hid ll
    clear hb hbx0
    go_wp2_with fail
    go_region_held3 (fun w' => w'.cell? ⟨w.heap.size, 0, none⟩ = some (.int .i64 V0) ∧ w'.cell? ⟨w.heap.size, 1, none⟩ = some (.int .i64 G0) ∧ w'.cell? ⟨w.heap.size, 2, none⟩ = some (.slice A0 n0 c0) ∧ w'.cell? ⟨w.heap.size + 1, 0, none⟩ = some (.int .i64 la1) ∧ w'.cell? ⟨w.heap.size + 1, 1, none⟩ = some (.int .i64 lb1)) (first | exact ⟨a0, a1, a2, l0, l1⟩)
      (first
        | (go_at_call 6; refine (toBoard_any _ _ _ _ _ _ _ (by exact (ha0.keep B.out).drew1) (by omega)).mono ?_; rintro e wv ⟨gs, rfl, owns, hb⟩; (try replace hb := below_undrew hb); replace a0 := cell_keep a0 al hb; replace a1 := cell_keep a1 al hb; replace a2 := cell_keep a2 al hb; replace al := lt_keep al hb; replace l0 := cell_keep l0 ll hb; replace l1 := cell_keep l1 ll hb; replace ll := lt_keep ll hb; (try replace Os := Lib.hid (Os.out.keep hb)); have hs2 := Lib.hid hb.size; replace B := Lib.hid (below_next B.out hb); have Os := Lib.hid owns; have SPs := Lib.hid owns.span; clear owns; clear hb)
        | (go_at_call 7; refine (toLeaper_any _ _ _).mono ?_; rintro e wv ⟨rfl, hb⟩; (try replace hb := below_undrew hb); replace a0 := cell_keep a0 al hb; replace a1 := cell_keep a1 al hb; replace a2 := cell_keep a2 al hb; replace al := lt_keep al hb; replace l0 := cell_keep l0 ll hb; replace l1 := cell_keep l1 ll hb; replace ll := lt_keep ll hb; (try replace Os := Lib.hid (Os.out.keep hb)); have hs3 := Lib.hid hb.size; replace B := Lib.hid (below_next B.out hb); clear hb)
        | (go_at_call 5; refine (spec_TwoColours _ _ _ _ _ _ _ _ _ (by exact Os.out.rd)).mono ?_; rintro e wv ⟨AW, nW, cW, rfl, ownW, hb⟩; (try replace hb := below_undrew hb); replace a0 := cell_keep a0 al hb; replace a1 := cell_keep a1 al hb; replace a2 := cell_keep a2 al hb; replace al := lt_keep al hb; replace l0 := cell_keep l0 ll hb; replace l1 := cell_keep l1 ll hb; replace ll := lt_keep ll hb; have hs4 := Lib.hid hb.size; replace B := Lib.hid (below_next B.out hb); have OW := Lib.hid ownW; have SPW := Lib.hid ownW.span; clear ownW; clear hb))
    all_goals
      clear Os SPs
      go_wp2_with fail
      refine (toBoard_any _ _ _ _ _ _ _ (ha0.keep B.out) (by omega)).mono ?_
      rintro e wv ⟨gx, rfl, ownx, hb⟩
      replace a0 := cell_keep a0 al hb
      replace a1 := cell_keep a1 al hb
      replace a2 := cell_keep a2 al hb
      replace al := lt_keep al hb
      replace l0 := cell_keep l0 ll hb
      replace l1 := cell_keep l1 ll hb
      replace ll := lt_keep ll hb
      replace OW := Lib.hid (OW.out.keep hb)
      have hs5 := Lib.hid hb.size
      replace B := Lib.hid (below_next B.out hb)
      have Ox := Lib.hid ownx; have SPx := Lib.hid ownx.span; clear ownx; clear hb
      obtain ⟨wx, hwx⟩ : ∃ wx, wx = wv := ⟨_, rfl⟩
      subst hwx
      go_wp2_with fail
      have hb := Below.refl (wx.alloc (.cells #[.int .i64 V0, .int .i64 G0, .slice (some ⟨gx, 0, none⟩) n0 n0] 30)).heap.size (wx.alloc (.cells #[.int .i64 V0, .int .i64 G0, .slice (some ⟨gx, 0, none⟩) n0 n0] 30))
      have x0 : (wx.alloc (.cells #[.int .i64 V0, .int .i64 G0, .slice (some ⟨gx, 0, none⟩) n0 n0] 30)).cell? ⟨wx.heap.size, 0, none⟩ = some (.int .i64 V0) := by simp
      have x1 : (wx.alloc (.cells #[.int .i64 V0, .int .i64 G0, .slice (some ⟨gx, 0, none⟩) n0 n0] 30)).cell? ⟨wx.heap.size, 1, none⟩ = some (.int .i64 G0) := by simp
      have x2 : (wx.alloc (.cells #[.int .i64 V0, .int .i64 G0, .slice (some ⟨gx, 0, none⟩) n0 n0] 30)).cell? ⟨wx.heap.size, 2, none⟩ = some (.slice (some ⟨gx, 0, none⟩) n0 n0) := by simp
      have xl := newbox_lt hb
      have hzx := Lib.hid xl
      replace hb := below_box hb
      replace a0 := cell_keep a0 al hb
      replace a1 := cell_keep a1 al hb
      replace a2 := cell_keep a2 al hb
      replace al := lt_keep al hb
      replace l0 := cell_keep l0 ll hb
      replace l1 := cell_keep l1 ll hb
      replace ll := lt_keep ll hb
      replace OW := Lib.hid (OW.out.keep hb)
      replace Ox := Lib.hid (Ox.out.keep hb)
      have hs6 := Lib.hid hb.size
      replace B := Lib.hid (below_next B.out hb)
      clear hb
      have hx0 : gx < wx.heap.size := (SPx.out _ rfl).2
      generalize wx.alloc (.cells #[.int .i64 V0, .int .i64 G0, .slice (some ⟨gx, 0, none⟩) n0 n0] 30) = wv at *
      generalize hx : wx.heap.size = x at *
      go_wp2_with fail
      go_region_held3 (fun w' => w'.cell? ⟨w.heap.size, 0, none⟩ = some (.int .i64 V0) ∧ w'.cell? ⟨w.heap.size, 1, none⟩ = some (.int .i64 G0) ∧ w'.cell? ⟨w.heap.size, 2, none⟩ = some (.slice A0 n0 c0) ∧ w'.cell? ⟨w.heap.size + 1, 0, none⟩ = some (.int .i64 la1) ∧ w'.cell? ⟨w.heap.size + 1, 1, none⟩ = some (.int .i64 lb1) ∧ w'.cell? ⟨x, 0, none⟩ = some (.int .i64 V0) ∧ w'.cell? ⟨x, 1, none⟩ = some (.int .i64 G0) ∧ w'.cell? ⟨x, 2, none⟩ = some (.slice (some ⟨gx, 0, none⟩) n0 n0)) (first | exact ⟨a0, a1, a2, l0, l1, x0, x1, x2⟩)
        (first
          | (go_at_call 7; refine (toLeaper_any _ _ _).mono ?_; rintro e wv ⟨rfl, hb⟩; (try replace hb := below_undrew hb); replace a0 := cell_keep a0 al hb; replace a1 := cell_keep a1 al hb; replace a2 := cell_keep a2 al hb; replace al := lt_keep al hb; replace l0 := cell_keep l0 ll hb; replace l1 := cell_keep l1 ll hb; replace ll := lt_keep ll hb; replace x0 := cell_keep x0 xl hb; replace x1 := cell_keep x1 xl hb; replace x2 := cell_keep x2 xl hb; replace xl := lt_keep xl hb; replace OW := Lib.hid (OW.out.keep hb); replace Ox := Lib.hid (Ox.out.keep hb); have hs7 := Lib.hid hb.size; replace B := Lib.hid (below_next B.out hb); clear hb)
          | (go_at_call 8; refine (impl_TwoColours _ _ _ _ _ _ _ _ _ (by exact Ox.out.rd) (by exact tab_keep hT B.out)).mono ?_; rintro e wv ⟨AG, nG, cG, rfl, ownG, hb⟩; (try replace hb := below_undrew hb); replace a0 := cell_keep a0 al hb; replace a1 := cell_keep a1 al hb; replace a2 := cell_keep a2 al hb; replace al := lt_keep al hb; replace l0 := cell_keep l0 ll hb; replace l1 := cell_keep l1 ll hb; replace ll := lt_keep ll hb; replace x0 := cell_keep x0 xl hb; replace x1 := cell_keep x1 xl hb; replace x2 := cell_keep x2 xl hb; replace xl := lt_keep xl hb; replace OW := Lib.hid (OW.out.keep hb); replace Ox := Lib.hid (Ox.out.keep hb); have hs8 := Lib.hid hb.size; replace B := Lib.hid (below_next B.out hb); have OG := Lib.hid ownG; have SPG := Lib.hid ownG.span; clear ownG; clear hb))
      have SZ := Lib.hid (show nG ≤ 1000000 by rw [← OG.out.len]; exact len_TwoColours _ _ _ _ _)
      go_wp2_with fail
      refine (eqIntS_any _ _ _ _ _ _ _ _ _ OG.out.rd OW.out.rd).mono ?_
      simp only [decide_true]
      rintro e wv ⟨rfl, hb⟩
      replace a0 := cell_keep a0 al hb
      replace a1 := cell_keep a1 al hb
      replace a2 := cell_keep a2 al hb
      replace al := lt_keep al hb
      replace l0 := cell_keep l0 ll hb
      replace l1 := cell_keep l1 ll hb
      replace ll := lt_keep ll hb
      replace x0 := cell_keep x0 xl hb
      replace x1 := cell_keep x1 xl hb
      replace x2 := cell_keep x2 xl hb
      replace xl := lt_keep xl hb
      replace OW := Lib.hid (OW.out.keep hb)
      replace Ox := Lib.hid (Ox.out.keep hb)
      replace OG := Lib.hid (OG.out.keep hb)
      have hs9 := Lib.hid hb.size
      replace B := Lib.hid (below_next B.out hb)
      clear hb
      go_wp2_with fail
      go_region_held3 (fun w' => w'.cell? ⟨w.heap.size, 0, none⟩ = some (.int .i64 V0) ∧ w'.cell? ⟨w.heap.size, 1, none⟩ = some (.int .i64 G0) ∧ w'.cell? ⟨w.heap.size, 2, none⟩ = some (.slice A0 n0 c0) ∧ w'.cell? ⟨w.heap.size + 1, 0, none⟩ = some (.int .i64 la1) ∧ w'.cell? ⟨w.heap.size + 1, 1, none⟩ = some (.int .i64 lb1) ∧ w'.cell? ⟨x, 0, none⟩ = some (.int .i64 V0) ∧ w'.cell? ⟨x, 1, none⟩ = some (.int .i64 G0) ∧ w'.cell? ⟨x, 2, none⟩ = some (.slice (some ⟨gx, 0, none⟩) n0 n0)) (first | exact ⟨a0, a1, a2, l0, l1, x0, x1, x2⟩)
        (first
          | (go_at_call 6; refine (toBoard_any _ _ _ _ _ _ _ (by exact (ha0.keep B.out).drew1) (by omega)).mono ?_; rintro e wv ⟨gy, rfl, owny, hb⟩; (try replace hb := below_undrew hb); replace a0 := cell_keep a0 al hb; replace a1 := cell_keep a1 al hb; replace a2 := cell_keep a2 al hb; replace al := lt_keep al hb; replace l0 := cell_keep l0 ll hb; replace l1 := cell_keep l1 ll hb; replace ll := lt_keep ll hb; replace x0 := cell_keep x0 xl hb; replace x1 := cell_keep x1 xl hb; replace x2 := cell_keep x2 xl hb; replace xl := lt_keep xl hb; replace OW := Lib.hid (OW.out.keep hb); replace Ox := Lib.hid (Ox.out.keep hb); replace OG := Lib.hid (OG.out.keep hb); have hs10 := Lib.hid hb.size; replace B := Lib.hid (below_next B.out hb); have Oy := Lib.hid owny; have SPy := Lib.hid owny.span; clear owny; clear hb)
          | (go_at_call 10; refine (eqBoard_any _ _ _ _ _ _ _ _ _ _ _ Ox.out.rd Oy.out.rd).mono ?_; simp only [decide_true]; rintro e wv ⟨rfl, hb⟩; (try replace hb := below_undrew hb); replace a0 := cell_keep a0 al hb; replace a1 := cell_keep a1 al hb; replace a2 := cell_keep a2 al hb; replace al := lt_keep al hb; replace l0 := cell_keep l0 ll hb; replace l1 := cell_keep l1 ll hb; replace ll := lt_keep ll hb; replace x0 := cell_keep x0 xl hb; replace x1 := cell_keep x1 xl hb; replace x2 := cell_keep x2 xl hb; replace xl := lt_keep xl hb; replace OW := Lib.hid (OW.out.keep hb); replace Ox := Lib.hid (Ox.out.keep hb); replace OG := Lib.hid (OG.out.keep hb); have hs11 := Lib.hid hb.size; replace B := Lib.hid (below_next B.out hb); clear hb Oy SPy))
      go_wp2_with fail
      refine (markBoard_any _ _ _ _ _ _ 1 _ _ Ox.out (by omega) (by omega)).mono ?_
      rintro e wv ⟨rfl, Ox', hg⟩
      replace a0 := cell_mark a0 hg (row_ne fun b hb => by have := SPx.out b hb; have := hz.out; have := hzx.out; have := hs1.out; have := hs2.out; have := hs3.out; have := hs4.out; have := hs5.out; have := hs6.out; have := hs7.out; have := hs8.out; have := hs9.out; have := hs10.out; have := hs11.out; omega)
      replace a1 := cell_mark a1 hg (row_ne fun b hb => by have := SPx.out b hb; have := hz.out; have := hzx.out; have := hs1.out; have := hs2.out; have := hs3.out; have := hs4.out; have := hs5.out; have := hs6.out; have := hs7.out; have := hs8.out; have := hs9.out; have := hs10.out; have := hs11.out; omega)
      replace a2 := cell_mark a2 hg (row_ne fun b hb => by have := SPx.out b hb; have := hz.out; have := hzx.out; have := hs1.out; have := hs2.out; have := hs3.out; have := hs4.out; have := hs5.out; have := hs6.out; have := hs7.out; have := hs8.out; have := hs9.out; have := hs10.out; have := hs11.out; omega)
      replace al := Nat.lt_of_lt_of_le al hg.size
      replace l0 := cell_mark l0 hg (row_ne fun b hb => by have := SPx.out b hb; have := hz.out; have := hzx.out; have := hs1.out; have := hs2.out; have := hs3.out; have := hs4.out; have := hs5.out; have := hs6.out; have := hs7.out; have := hs8.out; have := hs9.out; have := hs10.out; have := hs11.out; omega)
      replace l1 := cell_mark l1 hg (row_ne fun b hb => by have := SPx.out b hb; have := hz.out; have := hzx.out; have := hs1.out; have := hs2.out; have := hs3.out; have := hs4.out; have := hs5.out; have := hs6.out; have := hs7.out; have := hs8.out; have := hs9.out; have := hs10.out; have := hs11.out; omega)
      replace ll := Nat.lt_of_lt_of_le ll hg.size
      replace x0 := cell_mark x0 hg (row_ne fun b hb => by have := SPx.out b hb; have := hz.out; have := hzx.out; have := hs1.out; have := hs2.out; have := hs3.out; have := hs4.out; have := hs5.out; have := hs6.out; have := hs7.out; have := hs8.out; have := hs9.out; have := hs10.out; have := hs11.out; omega)
      replace x1 := cell_mark x1 hg (row_ne fun b hb => by have := SPx.out b hb; have := hz.out; have := hzx.out; have := hs1.out; have := hs2.out; have := hs3.out; have := hs4.out; have := hs5.out; have := hs6.out; have := hs7.out; have := hs8.out; have := hs9.out; have := hs10.out; have := hs11.out; omega)
      replace x2 := cell_mark x2 hg (row_ne fun b hb => by have := SPx.out b hb; have := hz.out; have := hzx.out; have := hs1.out; have := hs2.out; have := hs3.out; have := hs4.out; have := hs5.out; have := hs6.out; have := hs7.out; have := hs8.out; have := hs9.out; have := hs10.out; have := hs11.out; omega)
      replace xl := Nat.lt_of_lt_of_le xl hg.size
      replace OW := Lib.hid (OW.out.other hg fun a ha => row_ne fun b hb => by have := SPW.out a ha; have := SPx.out b hb; have := hz.out; have := hzx.out; have := hs1.out; have := hs2.out; have := hs3.out; have := hs4.out; have := hs5.out; have := hs6.out; have := hs7.out; have := hs8.out; have := hs9.out; have := hs10.out; have := hs11.out; omega)
      replace OG := Lib.hid (OG.out.other hg fun a ha => row_ne fun b hb => by have := SPG.out a ha; have := SPx.out b hb; have := hz.out; have := hzx.out; have := hs1.out; have := hs2.out; have := hs3.out; have := hs4.out; have := hs5.out; have := hs6.out; have := hs7.out; have := hs8.out; have := hs9.out; have := hs10.out; have := hs11.out; omega)
      replace B := Lib.hid (B.out.grown hg B.out.size (row_ge fun b hb => by have := SPx.out b hb; have := hz.out; have := hzx.out; have := hs1.out; have := hs2.out; have := hs3.out; have := hs4.out; have := hs5.out; have := hs6.out; have := hs7.out; have := hs8.out; have := hs9.out; have := hs10.out; have := hs11.out; omega))
      have hs12 := Lib.hid hg.size
      replace Ox := Lib.hid Ox'; clear Ox' hg
      go_wp2_with fail
      refine (eqIntS_any _ _ _ _ _ _ _ _ _ OG.out.rd OW.out.rd).mono ?_
      simp only [decide_true]
      rintro e wv ⟨rfl, hb⟩
      replace a0 := cell_keep a0 al hb
      replace a1 := cell_keep a1 al hb
      replace a2 := cell_keep a2 al hb
      replace al := lt_keep al hb
      replace l0 := cell_keep l0 ll hb
      replace l1 := cell_keep l1 ll hb
      replace ll := lt_keep ll hb
      replace x0 := cell_keep x0 xl hb
      replace x1 := cell_keep x1 xl hb
      replace x2 := cell_keep x2 xl hb
      replace xl := lt_keep xl hb
      replace OW := Lib.hid (OW.out.keep hb)
      replace Ox := Lib.hid (Ox.out.keep hb)
      replace OG := Lib.hid (OG.out.keep hb)
      have hs13 := Lib.hid hb.size
      replace B := Lib.hid (below_next B.out hb)
      clear hb
      go_wp2_with fail
      refine (markIntS_any _ _ _ _ 1 _ _ OG.out (by omega) (by have := SZ.out; omega)).mono ?_
      rintro e wv ⟨rfl, OG', hg⟩
      replace a0 := cell_mark a0 hg (row_ne fun b hb => by have := SPG.out b hb; have := hz.out; have := hzx.out; have := hs1.out; have := hs2.out; have := hs3.out; have := hs4.out; have := hs5.out; have := hs6.out; have := hs7.out; have := hs8.out; have := hs9.out; have := hs10.out; have := hs11.out; have := hs12.out; have := hs13.out; omega)
      replace a1 := cell_mark a1 hg (row_ne fun b hb => by have := SPG.out b hb; have := hz.out; have := hzx.out; have := hs1.out; have := hs2.out; have := hs3.out; have := hs4.out; have := hs5.out; have := hs6.out; have := hs7.out; have := hs8.out; have := hs9.out; have := hs10.out; have := hs11.out; have := hs12.out; have := hs13.out; omega)
      replace a2 := cell_mark a2 hg (row_ne fun b hb => by have := SPG.out b hb; have := hz.out; have := hzx.out; have := hs1.out; have := hs2.out; have := hs3.out; have := hs4.out; have := hs5.out; have := hs6.out; have := hs7.out; have := hs8.out; have := hs9.out; have := hs10.out; have := hs11.out; have := hs12.out; have := hs13.out; omega)
      replace al := Nat.lt_of_lt_of_le al hg.size
      replace l0 := cell_mark l0 hg (row_ne fun b hb => by have := SPG.out b hb; have := hz.out; have := hzx.out; have := hs1.out; have := hs2.out; have := hs3.out; have := hs4.out; have := hs5.out; have := hs6.out; have := hs7.out; have := hs8.out; have := hs9.out; have := hs10.out; have := hs11.out; have := hs12.out; have := hs13.out; omega)
      replace l1 := cell_mark l1 hg (row_ne fun b hb => by have := SPG.out b hb; have := hz.out; have := hzx.out; have := hs1.out; have := hs2.out; have := hs3.out; have := hs4.out; have := hs5.out; have := hs6.out; have := hs7.out; have := hs8.out; have := hs9.out; have := hs10.out; have := hs11.out; have := hs12.out; have := hs13.out; omega)
      replace ll := Nat.lt_of_lt_of_le ll hg.size
      replace x0 := cell_mark x0 hg (row_ne fun b hb => by have := SPG.out b hb; have := hz.out; have := hzx.out; have := hs1.out; have := hs2.out; have := hs3.out; have := hs4.out; have := hs5.out; have := hs6.out; have := hs7.out; have := hs8.out; have := hs9.out; have := hs10.out; have := hs11.out; have := hs12.out; have := hs13.out; omega)
      replace x1 := cell_mark x1 hg (row_ne fun b hb => by have := SPG.out b hb; have := hz.out; have := hzx.out; have := hs1.out; have := hs2.out; have := hs3.out; have := hs4.out; have := hs5.out; have := hs6.out; have := hs7.out; have := hs8.out; have := hs9.out; have := hs10.out; have := hs11.out; have := hs12.out; have := hs13.out; omega)
      replace x2 := cell_mark x2 hg (row_ne fun b hb => by have := SPG.out b hb; have := hz.out; have := hzx.out; have := hs1.out; have := hs2.out; have := hs3.out; have := hs4.out; have := hs5.out; have := hs6.out; have := hs7.out; have := hs8.out; have := hs9.out; have := hs10.out; have := hs11.out; have := hs12.out; have := hs13.out; omega)
      replace xl := Nat.lt_of_lt_of_le xl hg.size
      replace OW := Lib.hid (OW.out.other hg fun a ha => row_ne fun b hb => by have := SPW.out a ha; have := SPG.out b hb; have := hz.out; have := hzx.out; have := hs1.out; have := hs2.out; have := hs3.out; have := hs4.out; have := hs5.out; have := hs6.out; have := hs7.out; have := hs8.out; have := hs9.out; have := hs10.out; have := hs11.out; have := hs12.out; have := hs13.out; omega)
      replace Ox := Lib.hid (Ox.out.other hg fun a ha => row_ne fun b hb => by have := SPx.out a ha; have := SPG.out b hb; have := hz.out; have := hzx.out; have := hs1.out; have := hs2.out; have := hs3.out; have := hs4.out; have := hs5.out; have := hs6.out; have := hs7.out; have := hs8.out; have := hs9.out; have := hs10.out; have := hs11.out; have := hs12.out; have := hs13.out; omega)
      replace B := Lib.hid (B.out.grown hg B.out.size (row_ge fun b hb => by have := SPG.out b hb; have := hz.out; have := hzx.out; have := hs1.out; have := hs2.out; have := hs3.out; have := hs4.out; have := hs5.out; have := hs6.out; have := hs7.out; have := hs8.out; have := hs9.out; have := hs10.out; have := hs11.out; have := hs12.out; have := hs13.out; omega))
      have hs14 := Lib.hid hg.size
      replace OG := Lib.hid OG'; clear OG' hg
      go_wp2_with fail
      refine (heldIntS_any _ _ _ 1 _ OG.out.rd (by omega) (by have := SZ.out; omega)).mono ?_
      rintro e wv ⟨rfl, hb⟩
      replace a0 := cell_keep a0 al hb
      replace a1 := cell_keep a1 al hb
      replace a2 := cell_keep a2 al hb
      replace al := lt_keep al hb
      replace l0 := cell_keep l0 ll hb
      replace l1 := cell_keep l1 ll hb
      replace ll := lt_keep ll hb
      replace x0 := cell_keep x0 xl hb
      replace x1 := cell_keep x1 xl hb
      replace x2 := cell_keep x2 xl hb
      replace xl := lt_keep xl hb
      replace OW := Lib.hid (OW.out.keep hb)
      replace Ox := Lib.hid (Ox.out.keep hb)
      replace OG := Lib.hid (OG.out.keep hb)
      have hs15 := Lib.hid hb.size
      replace B := Lib.hid (below_next B.out hb)
      clear hb
      go_wp2_with fail
      go_region_held3 (fun w' => w'.cell? ⟨w.heap.size, 0, none⟩ = some (.int .i64 V0) ∧ w'.cell? ⟨w.heap.size, 1, none⟩ = some (.int .i64 G0) ∧ w'.cell? ⟨w.heap.size, 2, none⟩ = some (.slice A0 n0 c0) ∧ w'.cell? ⟨w.heap.size + 1, 0, none⟩ = some (.int .i64 la1) ∧ w'.cell? ⟨w.heap.size + 1, 1, none⟩ = some (.int .i64 lb1) ∧ w'.cell? ⟨x, 0, none⟩ = some (.int .i64 V0) ∧ w'.cell? ⟨x, 1, none⟩ = some (.int .i64 G0) ∧ w'.cell? ⟨x, 2, none⟩ = some (.slice (some ⟨gx, 0, none⟩) n0 n0)) (first | exact ⟨a0, a1, a2, l0, l1, x0, x1, x2⟩)
        (first
          | (go_at_call 6; refine (toBoard_any _ _ _ _ _ _ _ (by exact (ha0.keep B.out).drew1) (by omega)).mono ?_; rintro e wv ⟨gz, rfl, ownz, hb⟩; (try replace hb := below_undrew hb); replace a0 := cell_keep a0 al hb; replace a1 := cell_keep a1 al hb; replace a2 := cell_keep a2 al hb; replace al := lt_keep al hb; replace l0 := cell_keep l0 ll hb; replace l1 := cell_keep l1 ll hb; replace ll := lt_keep ll hb; replace x0 := cell_keep x0 xl hb; replace x1 := cell_keep x1 xl hb; replace x2 := cell_keep x2 xl hb; replace xl := lt_keep xl hb; replace OW := Lib.hid (OW.out.keep hb); replace Ox := Lib.hid (Ox.out.keep hb); replace OG := Lib.hid (OG.out.keep hb); (try replace Oz := Lib.hid (Oz.out.keep hb)); have hs16 := Lib.hid hb.size; replace B := Lib.hid (below_next B.out hb); have Oz := Lib.hid ownz; have SPz := Lib.hid ownz.span; clear ownz; clear hb)
          | (go_at_call 7; refine (toLeaper_any _ _ _).mono ?_; rintro e wv ⟨rfl, hb⟩; (try replace hb := below_undrew hb); replace a0 := cell_keep a0 al hb; replace a1 := cell_keep a1 al hb; replace a2 := cell_keep a2 al hb; replace al := lt_keep al hb; replace l0 := cell_keep l0 ll hb; replace l1 := cell_keep l1 ll hb; replace ll := lt_keep ll hb; replace x0 := cell_keep x0 xl hb; replace x1 := cell_keep x1 xl hb; replace x2 := cell_keep x2 xl hb; replace xl := lt_keep xl hb; replace OW := Lib.hid (OW.out.keep hb); replace Ox := Lib.hid (Ox.out.keep hb); replace OG := Lib.hid (OG.out.keep hb); (try replace Oz := Lib.hid (Oz.out.keep hb)); have hs17 := Lib.hid hb.size; replace B := Lib.hid (below_next B.out hb); clear hb)
          | (go_at_call 8; refine (impl_TwoColours _ _ _ _ _ _ _ _ _ (by exact Oz.out.rd) (by exact tab_keep hT B.out)).mono ?_; rintro e wv ⟨AH, nH, cH, rfl, ownH, hb⟩; (try replace hb := below_undrew hb); replace a0 := cell_keep a0 al hb; replace a1 := cell_keep a1 al hb; replace a2 := cell_keep a2 al hb; replace al := lt_keep al hb; replace l0 := cell_keep l0 ll hb; replace l1 := cell_keep l1 ll hb; replace ll := lt_keep ll hb; replace x0 := cell_keep x0 xl hb; replace x1 := cell_keep x1 xl hb; replace x2 := cell_keep x2 xl hb; replace xl := lt_keep xl hb; replace OW := Lib.hid (OW.out.keep hb); replace Ox := Lib.hid (Ox.out.keep hb); replace OG := Lib.hid (OG.out.keep hb); have hs18 := Lib.hid hb.size; replace B := Lib.hid (below_next B.out hb); have OH := Lib.hid ownH; have SPH := Lib.hid ownH.span; clear ownH; clear hb))
      all_goals
        clear Oz SPz SPH
        go_wp2_with fail
        refine (eqIntS_any _ _ _ _ _ _ _ _ _ OH.out.rd OW.out.rd).mono ?_
        simp only [decide_true]
        rintro e wv ⟨rfl, hb⟩
        replace a0 := cell_keep a0 al hb
        replace a1 := cell_keep a1 al hb
        replace a2 := cell_keep a2 al hb
        replace al := lt_keep al hb
        replace l0 := cell_keep l0 ll hb
        replace l1 := cell_keep l1 ll hb
        replace ll := lt_keep ll hb
        replace x0 := cell_keep x0 xl hb
        replace x1 := cell_keep x1 xl hb
        replace x2 := cell_keep x2 xl hb
        replace xl := lt_keep xl hb
        replace OW := Lib.hid (OW.out.keep hb)
        replace Ox := Lib.hid (Ox.out.keep hb)
        replace OG := Lib.hid (OG.out.keep hb)
        have hs19 := Lib.hid hb.size
        replace B := Lib.hid (below_next B.out hb)
        clear hb OH
        go_wp2_with fail
        refine (heldIntS_any _ _ _ 1 _ OG.out.rd (by omega) (by have := SZ.out; omega)).mono ?_
        rintro e wv ⟨rfl, hb⟩
        replace a0 := cell_keep a0 al hb
        replace a1 := cell_keep a1 al hb
        replace a2 := cell_keep a2 al hb
        replace al := lt_keep al hb
        replace l0 := cell_keep l0 ll hb
        replace l1 := cell_keep l1 ll hb
        replace ll := lt_keep ll hb
        replace x0 := cell_keep x0 xl hb
        replace x1 := cell_keep x1 xl hb
        replace x2 := cell_keep x2 xl hb
        replace xl := lt_keep xl hb
        replace OW := Lib.hid (OW.out.keep hb)
        replace Ox := Lib.hid (Ox.out.keep hb)
        replace OG := Lib.hid (OG.out.keep hb)
        have hs20 := Lib.hid hb.size
        replace B := Lib.hid (below_next B.out hb)
        clear hb
        go_wp2
        go_ret
        exact ⟨rfl, B.out⟩

end Go.Proofs.YtomfgjbicpeggaaGreatDoor
