/-
  Contracts: the painting of a list of colours.
-/
import Derived.Test.YtbpgkigoboobeaaF18
import Derived.Test.YtbpgkigoboobeaaApp
namespace Go.Proofs.Ytbpgkigoboobeaa
open Go.RowKit Go.Shelf
attribute [local go_sem] Oper.semAt_some

def paintA (W H : Int) (xs cs : List Int) : List Nat := if goodCols W H xs cs then paintL cs cs.length else none9

theorem results_row_tmp {P : Program} {fn : Func} {p t : Tmp} {ty : TypeId} (h : fn.results = #[.cell p ty, .tmp t]) (tmps : Array Value) (w : World) (g : Nat) (T : TypeId) (cs : Array Value) (fr : Nat × Nat) (d : TypeDesc) (v : Value)
    (hp : tmps.getD p undef = .pointer (some ⟨g, 0, none⟩)) (hv : tmps.getD t undef = v) (hg : w.heap[g]? = some (.cells cs T fr))
    (hu : P.underlying ty = some d) (hd : (match d with | .struct _ | .array _ _ => true | _ => false) = true) (hi : (P.info? ty).map (·.size) = some cs.size) :
    (results fn tmps).run P w = .ok (.tuple #[.agg cs, v]) w := by
  have hp' : tmps[p]?.getD undef = .pointer (some ⟨g, 0, none⟩) := by simpa using hp
  have hv' : tmps[t]?.getD undef = v := by simpa using hv
  simp [results, h, hp', hv', asAddr, run_loadVar_row w g T ty cs fr d hg hu hd hi]

set_option maxRecDepth 100000 in
set_option maxHeartbeats 2000000 in
theorem paintingOf_any (W H : Int) (A : Option Addr) (n c : Nat) (xs : List Int) (A2 : Option Addr) (m c2 : Nat) (cs : List Int) (w : World) (ha : Rd w A n xs) (hc : Rd w A2 m cs) (hg : goodB W H xs = true) :
    Calls Try.prog 31 #[brd W H A n c, .slice A2 m c2] w fun e w' => e = .returned (.tuple #[.agg (words (paintA W H xs cs)).toArray, .bool (goodCols W H xs cs)]) ∧ Below w.heap.size w w' := by
  refine (callsIn_wide (n := 5)).1 ?_
  refine callsIn_of_wp_marks Try.func31 rfl trivial ?_ rfl
  simp only [Try.ntmps31, List.size_toArray, List.length_cons, List.length_nil, Nat.reduceAdd, Nat.reduceSub, Array.replicate_succ, Array.replicate_zero, List.push_toArray, List.append_toArray, List.nil_append, List.cons_append]
  have m9 := hc.2.1
  have HML := Lib.hid hc.1
  have HG := Lib.hid hg
  obtain ⟨hW, hH, _, _⟩ := goodB_iff.1 hg
  obtain ⟨hN1, hN2⟩ := cells_le hW hH
  obtain ⟨hW1, hW2⟩ := hW
  obtain ⟨hH1, hH2⟩ := hH
  clear hg
  obtain ⟨W4, hW4⟩ : ∃ W4, W4 = ((w.alloc (.cells #[.int .i64 W, .int .i64 H, .slice A n c] 28)).alloc (.cells nine0 55)).alloc (.cells nine0 55) := ⟨_, rfl⟩
  have hs4 : W4.heap.size = w.heap.size + 3 := by rw [hW4]; simp
  have B := Lib.hid (show Below w.heap.size w W4 by rw [hW4]; exact ((below_new (Below.refl _ _) _).alloc (by simp) _).alloc (by simp; omega) _)
  have hbd : W4.heap[w.heap.size]? = some (.cells #[.int .i64 W, .int .i64 H, .slice A n c] 28 (0, 0)) := by
    rw [hW4, Below.heap_alloc _ _ _ (by simp; omega), Below.heap_alloc _ _ _ (by simp)]; exact World.alloc_heap_new _ _
  have hr4 : W4.heap[w.heap.size + 1]? = some (.cells nine0 55 (0, 0)) := by
    have h := World.alloc_heap_new (w.alloc (.cells #[.int .i64 W, .int .i64 H, .slice A n c] 28)) (.cells nine0 55)
    rw [hW4, Below.heap_alloc _ _ _ (by simp)]; rw [World.size_alloc] at h; exact h
  have hp4 : W4.heap[w.heap.size + 1 + 1]? = some (.cells nine0 55 (0, 0)) := by
    have h := World.alloc_heap_new ((w.alloc (.cells #[.int .i64 W, .int .i64 H, .slice A n c] 28)).alloc (.cells nine0 55)) (.cells nine0 55)
    rw [hW4]; rw [World.size_alloc, World.size_alloc] at h; exact h
  have hz : (nine0).size = 9 := by rfl
  unfold nine0 at hW4
  by_cases hlen : (m : Int) = W * H
  rotate_left
  · have hne : ((m : Int) != W * H) = true := by simpa using hlen
    have hbad : goodCols W H xs cs = false := by rw [goodCols, show decide ((cs.length : Int) = W * H) = false by have := HML.out; rw [this]; simpa using hlen]; rfl
    have hld := paint_load (W := W4) (g := w.heap.size + 1 + 1) (P := none9) (by rw [← nine_words]; exact hp4) none9_len
    have hst := paint_store (W := W4) (P := none9) hr4 hz none9_len
    have hh5 := heap_setRow (W := W4) (c' := (words none9).toArray) hr4
    have hb5 := B.out.grown (grown_setRow W4 (w.heap.size + 1) (words none9).toArray) B.out.size (fun k e => by cases e; omega)
    clear hbd hr4 hp4 hs4
    subst hW4
    gi_wp2_with (first | (refine wpIn_load_run 55 _ _ _ rfl rfl hld ?_) | refine wpIn_store_run 55 _ _ _ _ rfl rfl rfl hst ?_)
    refine ⟨_, results_row_tmp rfl _ _ _ _ (words none9).toArray _ _ (.bool false) rfl rfl hh5 rfl rfl (by rw [info_painting]; simp [words, none9_len]), ?_, hb5⟩
    rw [paintA, hbad]; rfl
  have hne : ((m : Int) != W * H) = false := by simpa using hlen
  have hm8 : m ≤ 64 := by omega
  have HLEN := Lib.hid hlen
  have hmid : MidP W4 (w.heap.size + 1 + 1) (paintL cs 0) W4 := ⟨grown_refl _ _, by rw [paintL_zero, ← nine_words]; exact hp4⟩
  have HA := Lib.hid ha; have HC := Lib.hid hc
  have HB4 := Lib.hid hbd; have HR4 := Lib.hid hr4; have HM4 := Lib.hid hmid
  clear hbd hr4 hp4 hmid ha hc hlen
  gi_wp2
  rw [← hW4]
  clear hW4
  gi_loopw [20] (fun i wr => ∃ k : Nat, k ≤ m ∧ i = .int .i64 k ∧ goodFrom W H xs 0 cs = goodFrom W H xs k (cs.drop k) ∧ MidP W4 (w.heap.size + 1 + 1) (paintL cs k) wr) (fun i _ => m - (intOf i).toNat)
  case atStart => exact ⟨0, Nat.zero_le _, rfl, rfl, HM4.out⟩
  case round =>
    obtain ⟨k, hk, rfl, hgf, hmp⟩ := hrel
    have HGF := Lib.hid hgf
    have HMP := Lib.hid hmp
    have hwr : Below w.heap.size w wr := B.out.grown hmp.1 B.out.size (fun k e => by cases e; omega)
    have HWR := Lib.hid hwr
    have hszr : w.heap.size + 3 ≤ wr.heap.size := by have := hmp.1.size; omega
    have hb0 := (hmp.1.block w.heap.size (by omega) (by simp; omega)).trans HB4.out
    have b0 : wr.cell? ⟨w.heap.size, 0, none⟩ = some (.int .i64 W) := by rw [cell_of_row _ _ _ _ _ _ hb0]; rfl
    have b1 : wr.cell? ⟨w.heap.size, 1, none⟩ = some (.int .i64 H) := by rw [cell_of_row _ _ _ _ _ _ hb0]; rfl
    have b2 : wr.cell? ⟨w.heap.size, 2, none⟩ = some (.slice A n c) := by rw [cell_of_row _ _ _ _ _ _ hb0]; rfl
    have hrr := Lib.hid ((hmp.1.block (w.heap.size + 1) (by omega) (by simp)).trans HR4.out)
    clear hgf hmp hwr hb0
    by_cases hlt : k < m
    · obtain ⟨b1', o1, x, rfl, hl1, hx, hc1⟩ := HC.out.at_ hlt
      have HX := Lib.hid hx
      have x0 := cell_keep hc1 hl1 HWR.out
      have hI := isThere_any W H A n c k xs wr (HA.out.keep HWR.out) HG.out
      have hk8 : k < 64 := by omega
      clear hx hc1 hl1
      cases hs : hasB W H xs k with
      | true =>
        by_cases hx8 : 0 ≤ x ∧ x ≤ 8
        · obtain ⟨j, rfl⟩ : ∃ j : Nat, x = (j : Int) := ⟨x.toNat, by omega⟩
          have hj : j < 9 := by omega
          have hj9 : ((j : Int) == -1) = false := by simp
          have hj1 : ((j : Int) != -1) = true := by simp
          clear hx8
          gi_wp2
          refine ⟨trivial, (callsIn_wide.2 hI).mono ?_⟩
          rw [hs]
          rintro e w2 ⟨rfl, hb2⟩
          have hmp2 := midP_below HMP.out hb2
          have hrr2 := Lib.hid ((hb2.block (w.heap.size + 1) (by omega)).trans hrr.out)
          have HW2 := Lib.hid (HWR.out.trans (hb2.mono HWR.out.size))
          have hsz2 := Nat.le_trans hszr hb2.size
          clear hb2 hI b0 b1 b2 x0
          have hld := paint_load hmp2.2 (paintL_len cs k)
          gi_wp2_with (refine wpIn_load_run 55 _ _ _ rfl rfl hld ?_)
          have hwi := with_any (paintL cs k) (paintL_len cs k) k j (paintN cs k j) hk8 hj (paintL_at hj) (paintN_lt (by omega)) w2
          rw [paintL_set HX.out] at hwi
          refine ⟨trivial, (callsIn_wide.2 hwi).mono ?_⟩
          rintro e w3 ⟨rfl, hb3⟩
          have hmp3 := midP_below hmp2 hb3
          have hst := paint_store (W := w3) hmp3.2 (by simp [words, paintL_len]) (paintL_len cs (k + 1))
          clear hmp2 hld hwi
          gi_wp2_with (refine wpIn_store_run 55 _ _ _ _ rfl rfl rfl hst ?_)
          go_roundw
          case rel => exact ⟨k + 1, by omega, by go_num, by rw [HGF.out, goodFrom_drop HX.out, show cellOk W H xs k (j : Int) = true by rw [cellOk, hs]; simp [inB]; omega]; rfl, midP_set _ hmp3⟩
          case measure => simp [intOf]; omega
        · have HX8 := Lib.hid hx8
          clear hx8
          rcases (show x = -1 ∨ x < -1 ∨ 8 < x by have := HX8.out; omega) with rfl | h9 | h9
          · skip
            gi_wp2
            refine ⟨trivial, (callsIn_wide.2 hI).mono ?_⟩
            rw [hs]
            rintro e w2 ⟨rfl, hb2⟩
            have hmp2 := midP_below HMP.out hb2
            have hrr2 := Lib.hid ((hb2.block (w.heap.size + 1) (by omega)).trans hrr.out)
            have HW2 := Lib.hid (HWR.out.trans (hb2.mono HWR.out.size))
            have hsz2 := Nat.le_trans hszr hb2.size
            clear hb2 hI b0 b1 b2 x0
            have hbad : goodCols W H xs cs = false := by rw [goodCols, HGF.out, goodFrom_drop HX.out, show cellOk W H xs k (-1) = false by rw [cellOk, hs]; simp [inB]]; simp
            have hst := paint_store (W := w2) (P := none9) hrr2.out nine0_size none9_len
            have hh5 := heap_setRow (W := w2) (c' := (words none9).toArray) hrr2.out
            have hb5 := HW2.out.grown (grown_setRow w2 (w.heap.size + 1) (words none9).toArray) HW2.out.size (fun k e => by cases e; omega)
            clear hmp2
            gi_wp2_with (refine wpIn_store_run 55 _ _ _ _ rfl rfl rfl hst ?_)
            refine ⟨_, results_row_tmp rfl _ _ _ _ (words none9).toArray _ _ (.bool false) rfl rfl hh5 rfl rfl (by rw [info_painting]; simp [words, none9_len]), ?_, hb5⟩
            rw [paintA, hbad]; rfl
          · have hj9 : (x == -1) = false := by simp; omega
            gi_wp2
            refine ⟨trivial, (callsIn_wide.2 hI).mono ?_⟩
            rw [hs]
            rintro e w2 ⟨rfl, hb2⟩
            have hmp2 := midP_below HMP.out hb2
            have hrr2 := Lib.hid ((hb2.block (w.heap.size + 1) (by omega)).trans hrr.out)
            have HW2 := Lib.hid (HWR.out.trans (hb2.mono HWR.out.size))
            have hsz2 := Nat.le_trans hszr hb2.size
            clear hb2 hI b0 b1 b2 x0
            have hbad : goodCols W H xs cs = false := by rw [goodCols, HGF.out, goodFrom_drop HX.out, show cellOk W H xs k x = false by rw [cellOk, hs]; simp [inB]; omega]; simp
            have hst := paint_store (W := w2) (P := none9) hrr2.out nine0_size none9_len
            have hh5 := heap_setRow (W := w2) (c' := (words none9).toArray) hrr2.out
            have hb5 := HW2.out.grown (grown_setRow w2 (w.heap.size + 1) (words none9).toArray) HW2.out.size (fun k e => by cases e; omega)
            clear hmp2
            gi_wp2_with (refine wpIn_store_run 55 _ _ _ _ rfl rfl rfl hst ?_)
            refine ⟨_, results_row_tmp rfl _ _ _ _ (words none9).toArray _ _ (.bool false) rfl rfl hh5 rfl rfl (by rw [info_painting]; simp [words, none9_len]), ?_, hb5⟩
            rw [paintA, hbad]; rfl
          · have hj9 : (x == -1) = false := by simp; omega
            gi_wp2
            refine ⟨trivial, (callsIn_wide.2 hI).mono ?_⟩
            rw [hs]
            rintro e w2 ⟨rfl, hb2⟩
            have hmp2 := midP_below HMP.out hb2
            have hrr2 := Lib.hid ((hb2.block (w.heap.size + 1) (by omega)).trans hrr.out)
            have HW2 := Lib.hid (HWR.out.trans (hb2.mono HWR.out.size))
            have hsz2 := Nat.le_trans hszr hb2.size
            clear hb2 hI b0 b1 b2 x0
            have hbad : goodCols W H xs cs = false := by rw [goodCols, HGF.out, goodFrom_drop HX.out, show cellOk W H xs k x = false by rw [cellOk, hs]; simp [inB]; omega]; simp
            have hst := paint_store (W := w2) (P := none9) hrr2.out nine0_size none9_len
            have hh5 := heap_setRow (W := w2) (c' := (words none9).toArray) hrr2.out
            have hb5 := HW2.out.grown (grown_setRow w2 (w.heap.size + 1) (words none9).toArray) HW2.out.size (fun k e => by cases e; omega)
            clear hmp2
            gi_wp2_with (refine wpIn_store_run 55 _ _ _ _ rfl rfl rfl hst ?_)
            refine ⟨_, results_row_tmp rfl _ _ _ _ (words none9).toArray _ _ (.bool false) rfl rfl hh5 rfl rfl (by rw [info_painting]; simp [words, none9_len]), ?_, hb5⟩
            rw [paintA, hbad]; rfl
      | false =>
        by_cases hx1 : x = -1
        · subst hx1
          gi_wp2
          refine ⟨trivial, (callsIn_wide.2 hI).mono ?_⟩
          rw [hs]
          rintro e w2 ⟨rfl, hb2⟩
          have hmp2 := midP_below HMP.out hb2
          have hrr2 := Lib.hid ((hb2.block (w.heap.size + 1) (by omega)).trans hrr.out)
          have HW2 := Lib.hid (HWR.out.trans (hb2.mono HWR.out.size))
          have hsz2 := Nat.le_trans hszr hb2.size
          clear hb2 hI b0 b1 b2 x0
          gi_wp2
          go_roundw
          case rel => exact ⟨k + 1, by omega, by go_num, by rw [HGF.out, goodFrom_drop HX.out, show cellOk W H xs k (-1) = true by rw [cellOk, hs]; rfl]; rfl, by rw [paintL_skip HX.out (by omega)]; exact hmp2⟩
          case measure => simp [intOf]; omega
        · have hj9 : (x == -1) = false := by simpa using hx1
          gi_wp2
          refine ⟨trivial, (callsIn_wide.2 hI).mono ?_⟩
          rw [hs]
          rintro e w2 ⟨rfl, hb2⟩
          have hmp2 := midP_below HMP.out hb2
          have hrr2 := Lib.hid ((hb2.block (w.heap.size + 1) (by omega)).trans hrr.out)
          have HW2 := Lib.hid (HWR.out.trans (hb2.mono HWR.out.size))
          have hsz2 := Nat.le_trans hszr hb2.size
          clear hb2 hI b0 b1 b2 x0
          have hbad : goodCols W H xs cs = false := by rw [goodCols, HGF.out, goodFrom_drop HX.out, show cellOk W H xs k x = false by rw [cellOk, hs]; simpa using hx1]; simp
          have hst := paint_store (W := w2) (P := none9) hrr2.out nine0_size none9_len
          have hh5 := heap_setRow (W := w2) (c' := (words none9).toArray) hrr2.out
          have hb5 := HW2.out.grown (grown_setRow w2 (w.heap.size + 1) (words none9).toArray) HW2.out.size (fun k e => by cases e; omega)
          clear hmp2
          gi_wp2_with (refine wpIn_store_run 55 _ _ _ _ rfl rfl rfl hst ?_)
          refine ⟨_, results_row_tmp rfl _ _ _ _ (words none9).toArray _ _ (.bool false) rfl rfl hh5 rfl rfl (by rw [info_painting]; simp [words, none9_len]), ?_, hb5⟩
          rw [paintA, hbad]; rfl
    · have hkm : k = m := by omega
      subst hkm
      have hgood : goodCols W H xs cs = true := by rw [goodCols, HGF.out, List.drop_of_length_le (by have := HML.out; omega)]; have := HLEN.out; have := HML.out; simp [goodFrom]; omega
      have hld := paint_load HMP.out.2 (paintL_len cs k)
      have hst := paint_store (W := wr) hrr.out nine0_size (paintL_len cs k)
      have hh5 := heap_setRow (W := wr) (c' := (words (paintL cs k)).toArray) hrr.out
      have hb5 := HWR.out.grown (grown_setRow wr (w.heap.size + 1) (words (paintL cs k)).toArray) HWR.out.size (fun k e => by cases e; omega)
      clear b0 b1 b2
      gi_wp2_with (first | refine wpIn_load_run 55 _ _ _ rfl rfl hld ?_ | refine wpIn_store_run 55 _ _ _ _ rfl rfl rfl hst ?_)
      refine ⟨_, results_row_tmp rfl _ _ _ _ (words (paintL cs k)).toArray _ _ (.bool true) rfl rfl hh5 rfl rfl (by rw [info_painting]; simp [words, paintL_len]), ?_, hb5⟩
      rw [paintA, hgood, HML.out]; rfl

end Go.Proofs.Ytbpgkigoboobeaa
