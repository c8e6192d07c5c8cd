/-
  An array of 144 ints, read at an index; distances of both sides.
  Pure: how many routes there are, on a board.
  Contracts: CountRoutes, the model.
-/
import Derived.Test.YtmmfjmgjkbplpaaT4
import Derived.Test.YtmmfjmgjkbplpaaT1
import Derived.Test.YtmmfjmgjkbplpaaT2
import Derived.Test.YtmmfjmgjkbplpaaCR0
import Derived.Test.YtmmfjmgjkbplpaaCRM
namespace Go.Proofs.Ytmmfjmgjkbplpaa
open Go.RowKit

theorem run_far (L : List Int) (_hl : L.length = 144) (q : Nat) (hq : q < 144) (v : Int) (hv : L[q]? = some v) (w : World) :
    (Instr.index 64 (.agg (L.map (Value.int .i64)).toArray) (.int .i64 (q : Int))).run Try.prog w = .ok (.int .i64 v) w := by
  have hu := Try.underlying64
  have hz := Try.sizeOf3
  have ha := Try.isAgg3
  simp [Instr.index, run_underlying hu, asIntOf, go_sem]
  rw [if_pos hq, hv]
  rfl

def distL (W H : Int) (xs : List Int) (a b p : Int) : List Int := farL (leapsL W H xs a b) (W * H).toNat p
def distV (W H : Int) (xs : List Int) (a b p q : Int) : Int := (distL W H xs a b p).getD q.toNat (-1)
/-- What holds where there are a leaper, a board and two cells. -/
structure OnFacts (W H : Int) (xs : List Int) (a b : Int) (N : Nat) : Prop where
  g : goodB W H xs = true
  l : leaperB a b = true
  wh : W * H = (N : Int)
  n : 1 ≤ N ∧ N ≤ 64
theorem on_facts {W H a b : Int} {xs : List Int} (h : okTwo W H xs a b = true) : OnFacts W H xs a b (W * H).toNat := by
  simp only [okTwo, Bool.and_eq_true] at h
  obtain ⟨h1, h2, _, _⟩ := goodB_iff.1 h.2
  have := cells_le h1 h2
  exact ⟨h.2, h.1, by omega, by omega⟩
theorem cells_in {W H a b : Int} {xs : List Int} {N : Nat} (h : OnFacts W H xs a b N) : ∀ x ∈ cellsL W H xs, 0 ≤ x ∧ x < 144 := fun x hx => by
  have := (hasB_iff.1 (cellsL_mem.1 hx)).1; have := h.wh; have := h.n; omega
theorem adj_in {W H a b : Int} {xs : List Int} : ∀ x, ∀ y ∈ leapsL W H xs a b x, y ∈ cellsL W H xs := fun _ _ hy => (List.mem_filter.1 hy).1
theorem dist_len {W H a b p : Int} {xs : List Int} {N : Nat} (h : OnFacts W H xs a b N) (hp : hasB W H xs p = true) : (distL W H xs a b p).length = N := by
  have hr := (hasB_iff.1 hp).1
  have e : (W * H).toNat = N := by have := h.wh; omega
  rw [distL, e]
  exact (bfs_ok (adj := leapsL W H xs a b) (N := N) (start := p) (by have := h.wh; omega) (fun c _ x hx => leaps_in h.wh hx) N).len
theorem far64 {W H a b p : Int} {xs : List Int} {N : Nat} (h : OnFacts W H xs a b N) (hp : hasB W H xs p = true) : farL (leapsL W H xs a b) 144 p = distL W H xs a b p ++ List.replicate (144 - N) (-1) := by
  have hr := (hasB_iff.1 hp).1
  have e : (W * H).toNat = N := by have := h.wh; omega
  rw [distL, e, ← far_pad (M := 144 - N) (by have := h.wh; omega) (fun c _ x hx => leaps_in h.wh hx), show N + (144 - N) = 144 by have := h.n; omega]
theorem dist_at {W H a b p : Int} {xs : List Int} {N : Nat} (h : OnFacts W H xs a b N) (hp : hasB W H xs p = true) {qn : Nat} (hq : qn < N) :
    (distL W H xs a b p)[qn]? = some (distV W H xs a b p (qn : Int)) ∧ -1 ≤ distV W H xs a b p (qn : Int) ∧ distV W H xs a b p (qn : Int) ≤ 64 := by
  have hr := (hasB_iff.1 hp).1
  have hlen := dist_len h hp
  have hx : (distL W H xs a b p)[qn]? = some (distL W H xs a b p)[qn] := List.getElem?_eq_getElem (by omega)
  have hv : distV W H xs a b p (qn : Int) = (distL W H xs a b p)[qn] := by rw [distV, Int.toNat_natCast, List.getD_eq_getElem?_getD, hx]; rfl
  rw [hv]
  refine ⟨hx, ?_⟩
  have e : (W * H).toNat = N := by have := h.wh; omega
  have hb := (bfs_ok (adj := leapsL W H xs a b) (N := N) (start := p) (by have := h.wh; omega) (fun c _ x hx => leaps_in h.wh hx) N).lo qn (distL W H xs a b p)[qn] (by rw [← hx, distL, e]; rfl)
  have := h.n; omega

theorem dist_in64 {W H a b p : Int} {xs : List Int} {N : Nat} (h : OnFacts W H xs a b N) (hp : hasB W H xs p = true) : ∀ x ∈ distL W H xs a b p, -1 ≤ x ∧ x ≤ 64 := fun x hx => by
  obtain ⟨i, hi, rfl⟩ := List.getElem_of_mem hx
  have hl := dist_len h hp
  have h9 := dist_at h hp (qn := i) (by omega)
  rw [List.getElem?_eq_getElem hi] at h9
  rw [Option.some.inj h9.1]
  exact h9.2
theorem far_bd {W H a b p : Int} {xs : List Int} {N : Nat} (h : OnFacts W H xs a b N) (hp : hasB W H xs p = true) : ∀ x ∈ farL (leapsL W H xs a b) 144 p, -1 ≤ x ∧ x ≤ 64 := fun x hx => by
  rw [far64 h hp] at hx
  rcases List.mem_append.1 hx with hx | hx
  · exact dist_in64 h hp x hx
  · have := (List.mem_replicate.1 hx).2; omega

def okDist (W H : Int) (xs : List Int) (a b p q : Int) : Bool := onB W H xs a b [p, q] && decide (0 ≤ distV W H xs a b p q)
def distBV (W H : Int) (xs : List Int) (a b p q : Int) : Int := if okDist W H xs a b p q then distV W H xs a b p q else 0
theorem onB_two {W H a b p q : Int} {xs : List Int} (h : onB W H xs a b [p, q] = true) : okTwo W H xs a b = true ∧ hasB W H xs p = true ∧ hasB W H xs q = true := by
  simp only [onB, Bool.and_eq_true, List.all_cons, List.all_nil, and_true] at h
  exact ⟨h.1, h.2.1, h.2.2⟩

end Go.Proofs.Ytmmfjmgjkbplpaa

namespace Go.Proofs.Ytmmfjmgjkbplpaa
open Go.RowKit

def crV (W H : Int) (xs : List Int) (a b p q : Int) : Int := if onB W H xs a b [p, q] = true then (if 0 ≤ distV W H xs a b p q then wrap64 (waysK (cellsL W H xs) (leapsL W H xs a b) p (distV W H xs a b p q).toNat q) else 0) else 0
theorem leaps_back {W H a b : Int} {hs : List Int} : ∀ x ∈ cellsL W H hs, ∀ y ∈ leapsL W H hs a b x, x ∈ leapsL W H hs a b y := by
  intro x hx y hy
  rw [leapsL, List.mem_filter] at hy ⊢
  exact ⟨hx, by rw [leapB_comm]; exact hy.2⟩
theorem grN {W H a b : Int} {xs : List Int} {N : Nat} (h : OnFacts W H xs a b N) : Gr (cellsL W H xs) (leapsL W H xs a b) N :=
  ⟨fun x hx => by have := (hasB_iff.1 (cellsL_mem.1 hx)).1; rw [h.wh] at this; exact this, fun x y hy => adj_in x y hy, leaps_back⟩
theorem gr144 {W H a b : Int} {xs : List Int} {N : Nat} (h : OnFacts W H xs a b N) : Gr (cellsL W H xs) (leapsL W H xs a b) 144 :=
  ⟨cells_in h, fun x y hy => adj_in x y hy, leaps_back⟩
theorem fv_N {W H a b p : Int} {xs : List Int} {N : Nat} (h : OnFacts W H xs a b N) (q : Int) : fv (farL (leapsL W H xs a b) N p) q = distV W H xs a b p q := by
  have hN : (W * H).toNat = N := by have := h.wh; omega
  rw [fv, distV, distL, hN]
theorem fv_144 {W H a b p : Int} {xs : List Int} {N : Nat} (h : OnFacts W H xs a b N) (hp : hasB W H xs p = true) {q : Nat} (hq : q < N) : fv (farL (leapsL W H xs a b) 144 p) (q : Int) = distV W H xs a b p (q : Int) := by
  rw [fv, far64 h hp, distV, List.getD_eq_getElem?_getD, List.getD_eq_getElem?_getD, List.getElem?_append_left (by rw [dist_len h hp, Int.toNat_natCast]; exact hq)]
theorem near_nodup (W H : Int) (xs : List Int) (a b : Int) (D : List Int) (c : Int) : (nearA (leapsL W H xs a b) D c).Nodup := (leapsL_nodup W H xs a b c).filter _
theorem near_in {W H a b : Int} {xs D : List Int} : ∀ x, ∀ y ∈ nearA (leapsL W H xs a b) D x, y ∈ cellsL W H xs := fun x y hy => adj_in x y (List.mem_filter.1 hy).1

end Go.Proofs.Ytmmfjmgjkbplpaa

namespace Go.Proofs.Ytmmfjmgjkbplpaa
open Go.RowKit

theorem span_K {E : TypeId} {w : World} {lo : Nat} {A : Option Addr} {n c : Nat} {xs : List Int} (h : OwnI E w lo A n c xs) : ∀ a, A = some a → lo ≤ a.block ∧ a.block < w.heap.size := by
  intro a ha
  rcases h.form with ⟨h0, _⟩ | ⟨g, h1, h2, h3, _⟩
  · rw [h0] at ha; cases ha
  · rw [h1] at ha; injection ha with ha; subst ha; exact ⟨h2, h3⟩

set_option maxRecDepth 100000 in
set_option maxHeartbeats 4000000 in
theorem spec_CountRoutes (W H : Int) (A : Option Addr) (n c : Nat) (xs : List Int) (a b : Int) (p : Int) (q : Int) (w : World) (ha : Rd w A n xs) :
    Calls Try.prog 18 #[brd W H A n c, lpr a b, .int .i64 p, .int .i64 q] w fun e w' => e = .returned (.tuple #[.int .i64 (crV W H xs a b p q), .bool (onB W H xs a b [p, q])]) ∧ Below w.heap.size w w' := by
  by_cases ho : onB W H xs a b [p, q] = true
  · have FO := on_facts (onB_two ho).1
    have HP := Lib.hid (onB_two ho).2.1
    have HQH := Lib.hid (onB_two ho).2.2
    obtain ⟨N, hN⟩ : ∃ N, N = (W * H).toNat := ⟨_, rfl⟩
    rw [← hN] at FO
    have hp0 := (hasB_iff.1 HP.out).1
    have hq0 := (hasB_iff.1 HQH.out).1
    rw [FO.wh] at hp0 hq0
    obtain ⟨s, rfl⟩ : ∃ s : Nat, p = (s : Int) := ⟨p.toNat, by omega⟩
    obtain ⟨t, rfl⟩ : ∃ t : Nat, q = (t : Int) := ⟨q.toNat, by omega⟩
    have hs : s < N := by omega
    have ht : t < N := by omega
    have HF := Lib.hid FO
    have n64 := FO.n.2
    have HWHN := Lib.hid FO.wh
    have HNN := Lib.hid (show 1 ≤ W * H ∧ W * H ≤ 64 by have := FO.wh; have := FO.n; omega)
    have HO := Lib.hid ho
    have HPC := cellsL_mem.2 HP.out
    have HFV := Lib.hid (fv_N (p := (s : Int)) FO (t : Int))
    have HLEN := Lib.hid (show (farL (leapsL W H xs a b) N (s : Int)).length = N from far_len ((grN FO).bd _ HPC) (grN FO).ha)
    have HNEXT := Lib.hid (fun d y => (grN FO).lv_next HPC d y)
    have HZ := Lib.hid (fun y => (grN FO).lv_zero HPC y)
    have HREACH := Lib.hid (show ∀ i : Nat, 0 ≤ (farL (leapsL W H xs a b) N (s : Int)).getD i (-1) → (i : Int) ∈ cellsL W H xs from fun i h => far_from (S := fun z => z ∈ cellsL W H xs) ((grN FO).bd _ HPC) (grN FO).ha HPC (fun z _ w hw => (grN FO).cl z w hw) h)
    have HLO := Lib.hid ((grN FO).lo HPC (t : Int))
    clear FO hp0 hq0 hN HPC
    obtain ⟨i0, hi, hy0, hy1, hy2⟩ := info_parts infoI
    have HI := Lib.hid hi; have HZ0 := Lib.hid hy0; have HZ1 := Lib.hid hy1; have HZ2 := Lib.hid hy2
    clear hi hy0 hy1 hy2
    go_enter Try.func18, Try.ntmps18
    go_wp2_with fail
    refine (faAsked_any _ _ _ _ _ _ _ _ _ _ _ ((ha.alloc _).alloc _)).mono ?_
    rw [ho]
    rintro e wv ⟨rfl, hb⟩
    have hbx0 := below_box hb
    have a0 : wv.cell? ⟨w.heap.size, 0, none⟩ = some (.int .i64 W) := by simpa using newbox hbx0 0
    have a1 : wv.cell? ⟨w.heap.size, 1, none⟩ = some (.int .i64 H) := by simpa using newbox hbx0 1
    have a2 : wv.cell? ⟨w.heap.size, 2, none⟩ = some (.slice A n c) := by simpa using newbox hbx0 2
    have al : w.heap.size < wv.heap.size := by simpa using newbox_lt hbx0
    have l0 : wv.cell? ⟨w.heap.size + 1, 0, none⟩ = some (.int .i64 a) := by simpa using newbox hb 0
    have l1 : wv.cell? ⟨w.heap.size + 1, 1, none⟩ = some (.int .i64 b) := by simpa using newbox hb 1
    have ll : w.heap.size + 1 < wv.heap.size := by simpa using newbox_lt hb
    have B := Lib.hid (below_box hbx0)
    clear hb hbx0
    clear ho
    go_wp2_with fail
    refine (faFrom_any W H A n c xs a b s N _ (ha.keep B.out) HF.out.g HF.out.wh hs).mono ?_
    rintro e wx ⟨g, rfl, own, hb⟩
    replace a0 := cell_keep a0 al hb; replace a1 := cell_keep a1 al hb; replace a2 := cell_keep a2 al hb; replace l0 := cell_keep l0 ll hb; replace l1 := cell_keep l1 ll hb; replace al := lt_keep al hb; replace ll := lt_keep ll hb; replace B := Lib.hid (below_next B.out hb)
    obtain ⟨D, hD⟩ : ∃ D, D = farL (leapsL W H xs a b) N (s : Int) := ⟨_, rfl⟩
    rw [← hD] at own HFV HLEN HREACH HNEXT HZ HLO
    have HDG := Lib.hid (show ∀ j : Nat, j < N → D[j]? = some (fv D (j : Int)) from fun j hj => by
      rw [fv, Int.toNat_natCast, List.getD_eq_getElem?_getD, List.getElem?_eq_getElem (by rw [HLEN.out]; exact hj)]; rfl)
    have HFX := Lib.hid own
    have hgx : g < wx.heap.size := (span_K own _ rfl).2
    have ct := own.cell (HDG.out t ht)
    obtain ⟨dv, hdv⟩ : ∃ dv, dv = fv D (t : Int) := ⟨_, rfl⟩
    rw [← hdv] at ct
    have HDV := Lib.hid (show dv = distV W H xs a b (s : Int) (t : Int) by rw [hdv]; exact HFV.out)
    have HDT := Lib.hid hdv
    have hdl := HLO.out
    rw [← hdv] at hdl
    have t0 : (0 : Int) ≤ (t : Int) := by omega
    have tN : (t : Int) < (N : Int) := by omega
    clear own hb hD hdv
    by_cases hn : dv < 0
    · go_wp2
      go_ret2
      exact ⟨by rw [crV, if_pos HO.out, ← HDV.out, if_neg (by omega), HO.out]; rfl, B.out⟩
    · obtain ⟨L, rfl⟩ : ∃ L : Nat, dv = (L : Int) := ⟨dv.toNat, by omega⟩
      have hL64 : L ≤ 64 := by omega
      have hWHr := HWHN.out
      have s0 : (0 : Int) ≤ (s : Int) := by omega
      have sN : (s : Int) < (N : Int) := by omega
      have hn' : ¬ (L : Int) < 0 := by omega
      go_wp2_with (at_make; refine wpList_make_full _ rfl _ _ 22 rfl wx.heap.size 3 i0 (.int .i64 0) 1 Try.underlying22 HI.out HZ0.out HZ1.out .i64 .i64 _ _ N rfl rfl rfl rfl (by rw [HZ2.out]; omega) (by unfold maxLen; omega) (by exact Nat.le_refl _) ?_; intro w1 hownw1 hgmw1; have hO_w1 : OwnI 3 w1 wx.heap.size (some ⟨wx.heap.size, 0, none⟩) N N (listOf N (fun _ => 0)) := (by unfold OwnI; rw [show N * 1 = N from by omega] at hownw1; rw [show (madeCells (Value.cells (.int .i64 0)) N).toList = List.replicate N (.int .i64 0) from toList_madeCells_one (.int .i64 0) N] at hownw1; rw [← listOf_zero]; simpa using hownw1); have c1 := hO_w1.cell (listOf_get (fun _ => (0 : Int)) hs); have f1 := hO_w1.frozen s)
      have hB_w1 : Below wx.heap.size wx w1 := below_of_grown hgmw1 (Nat.le_refl _) (fun g h => by cases h)
      clear hownw1 hgmw1 hWHr hn hn'
      obtain ⟨g2, hg2e⟩ : ∃ g2, g2 = wx.heap.size := ⟨_, rfl⟩
      have HG2 := Lib.hid hg2e
      rw [← hg2e] at hO_w1 hB_w1 ⊢
      obtain ⟨o2, g2s⟩ := hO_w1.stored s 1
      have HO2 := Lib.hid (show OwnI 3 (w1.setCell ⟨g2, s, none⟩ (.int .i64 1)) g2 (some ⟨g2, 0, none⟩) N N (listOf N fun y => wrap64 (lvW (cellsL W H xs) (leapsL W H xs a b) D (s : Int) 0 y)) by
        have e : listOf N (fun y => wrap64 (lvW (cellsL W H xs) (leapsL W H xs a b) D (s : Int) 0 y)) = (listOf N (fun _ => (0 : Int))).set s 1 := by
          rw [listOf_set _ _ hs]
          refine listOf_congr fun y _ => ?_
          rw [HZ.out]; split
          · rw [wrap_1]
          · rw [wrap_0]
        rw [e]; exact o2)
      have HB2 := Lib.hid (show Below g2 wx (w1.setCell ⟨g2, s, none⟩ (.int .i64 1)) from hB_w1.grown g2s (by have := hB_w1.size; omega) (fun g h => by injection h with h; omega))
      have HFG := Lib.hid (show ∀ a : Addr, some (⟨g, 0, none⟩ : Addr) = some a → some a.block ≠ some g2 from fun a h e => by injection h with h; subst h; injection e with e; exact absurd (show g = g2 from e) (by omega))
      clear hO_w1 hB_w1 hg2e o2 g2s c1 f1
      generalize w1.setCell ⟨g2, s, none⟩ (.int .i64 1) = W3 at *
      go_loopw [12] (fun i wr => ∃ d : Nat, d ≤ L ∧ i = .int .i64 d ∧ OwnI 3 wr g2 (some ⟨g2, 0, none⟩) N N (listOf N fun y => wrap64 (lvW (cellsL W H xs) (leapsL W H xs a b) D (s : Int) d y)) ∧ Below g2 wx wr) (fun i _ => L - (intOf i).toNat)
      case atStart => exact ⟨0, Nat.zero_le _, rfl, HO2.out, HB2.out⟩
      case round =>
        clear HO2 HB2
        obtain ⟨d, hd, rfl, hown, hbw⟩ := hrel
        have HOW := Lib.hid hown; have HBW := Lib.hid hbw
        have hbx := hbw
        rw [HG2.out] at hbx
        have ct' := cell_keep ct hgx hbx
        by_cases hlt : d < L
        · have d0 : (0 : Int) ≤ (d : Int) := by omega
          have dL : (d : Int) < (L : Int) := by omega
          have HN0 := Lib.hid (show OwnI 3 wr g2 (some ⟨g2, 0, none⟩) N N (listOf N fun y => wrap64 (rdW (cellsL W H xs) (leapsL W H xs a b) D (s : Int) d (fun c => decide (c < ((0 : Nat) : Int)) && decide (fv D c = d)) y)) by
            have e : listOf N (fun y => wrap64 (rdW (cellsL W H xs) (leapsL W H xs a b) D (s : Int) d (fun c => decide (c < ((0 : Nat) : Int)) && decide (fv D c = d)) y)) = listOf N (fun y => wrap64 (lvW (cellsL W H xs) (leapsL W H xs a b) D (s : Int) d y)) := listOf_congr fun y _ => by
              rw [rdW_none (fun c hc => by
                have := (hasB_iff.1 (cellsL_mem.1 hc)).1
                rw [decide_eq_false (show ¬ c < ((0 : Nat) : Int) by omega), Bool.false_and])]
            rw [e]; exact hown)
          clear hown hbw hbx HOW hlt
          go_wp2
          go_loopw [13, 14, 48] (fun _ _ i w5 => ∃ j : Nat, j ≤ N ∧ i = .int .i64 j ∧ OwnI 3 w5 g2 (some ⟨g2, 0, none⟩) N N (listOf N fun y => wrap64 (rdW (cellsL W H xs) (leapsL W H xs a b) D (s : Int) d (fun c => decide (c < (j : Int)) && decide (fv D c = d)) y)) ∧ Below g2 wx w5) (fun _ _ i _ => N - (intOf i).toNat)
          case atStart => exact ⟨0, Nat.zero_le _, rfl, HN0.out, HBW.out⟩
          case round =>
            clear HN0 HBW
            obtain ⟨j, hj, rfl, hown5, hb5⟩ := hrel
            have HN5 := Lib.hid hown5; have HB5 := Lib.hid hb5
            have hb5x := hb5
            rw [HG2.out] at hb5x
            have HFA := Lib.hid (HFX.out.keep hb5x)
            by_cases hjl : j < N
            · have c5 := HFA.out.cell (HDG.out j hjl)
              obtain ⟨dj, hdj⟩ : ∃ dj, dj = fv D (j : Int) := ⟨_, rfl⟩
              rw [← hdj] at c5
              have HDE := Lib.hid hdj
              have j0 : (0 : Int) ≤ (j : Int) := by omega
              have jN : (j : Int) < (N : Int) := by omega
              have HJN := Lib.hid hjl
              replace a0 := cell_keep a0 al hb5x; replace a1 := cell_keep a1 al hb5x; replace a2 := cell_keep a2 al hb5x; replace l0 := cell_keep l0 ll hb5x; replace l1 := cell_keep l1 ll hb5x; replace al := lt_keep al hb5x; replace ll := lt_keep ll hb5x
              have HRW := Lib.hid ((ha.keep B.out).keep hb5x)
              clear hown5 hb5 hb5x hdj
              by_cases hxd : dj = (d : Int)
              · have hxd' : (dj == (d : Int)) = true := by simpa using hxd
                have hxd'' : (dj != (d : Int)) = false := by simp [bne, hxd']
                have HDJ := Lib.hid (show fv D (j : Int) = (d : Int) by rw [← HDE.out]; exact hxd)
                have HJC := Lib.hid (show (j : Int) ∈ cellsL W H xs from by
                  have h9 := HREACH.out j (by have := HDJ.out; unfold fv at this; rw [Int.toNat_natCast] at this; omega)
                  exact h9)
                have HJ64 := Lib.hid (show 0 ≤ (j : Int) ∧ (j : Int) ≤ 64 by omega)
                clear hxd
                go_wp2_with fail
                refine (boLeaps_any W H A n c xs a b (j : Int) _ HRW.out HF.out.g HJ64.out).mono ?_
                rintro e w6 ⟨A3, n3, c3, rfl, own3, hb⟩
                have HRD := Lib.hid own3.rd
                have HL3 := Lib.hid own3.len
                have hn3 : n3 ≤ 64 := by have := leapsL_len64 (W := W) (H := H) (xs := xs) (a := a) (b := b) (q := (j : Int)) HNN.out; have := own3.len; omega
                have hsz5 : g2 < wr.heap.size := by rcases HN5.out.some_ (k := 0) (by omega) with ⟨g9, h9, _, h8⟩; injection h9 with h9; injection h9 with h9; omega
                have HAB := Lib.hid (show ∀ y, A3 = some y → some y.block ≠ some g2 from fun y hy e => by have := (span_K own3 y hy).1; injection e with e; omega)
                have HN6 := Lib.hid (HN5.out.keep hb)
                have HFA6 := Lib.hid (HFA.out.keep hb)
                have HB6 := Lib.hid (HB5.out.trans (hb.mono (show g2 ≤ wr.heap.size by omega)))
                obtain ⟨Bf, hB⟩ : ∃ Bf, Bf = rdW (cellsL W H xs) (leapsL W H xs a b) D (s : Int) d (fun c => decide (c < (j : Int)) && decide (fv D c = d)) := ⟨_, rfl⟩
                have HBE := Lib.hid hB
                obtain ⟨x, hx⟩ : ∃ x, x = lvW (cellsL W H xs) (leapsL W H xs a b) D (s : Int) d (j : Int) := ⟨_, rfl⟩
                have HXE := Lib.hid hx
                obtain ⟨xw, hxw⟩ : ∃ xw, xw = wrap64 x := ⟨_, rfl⟩
                have HXW := Lib.hid hxw
                have HBX := Lib.hid (show Bf (j : Int) = x by rw [hB, hx, rdW, if_neg (by rw [HDJ.out]; omega), Int.add_zero])
                rw [← hB] at HN6
                clear own3 hb hB hx hxw c5 a0 a1 a2 l0 l1 al ll HN5 HB5 HFA
                go_wp2
                go_loopw [61] (fun i w7 => ∃ i3 : Nat, i3 ≤ n3 ∧ i = .int .i64 i3 ∧ OwnI 3 w7 g2 (some ⟨g2, 0, none⟩) N N (listOf N fun y => wrap64 (addP Bf (fun z => decide (fv D z = (d : Int) + 1)) (leapsL W H xs a b (j : Int)) x i3 y)) ∧ w6.grownBy w7 (some g2)) (fun i _ => n3 - (intOf i).toNat)
                case atStart => exact ⟨0, Nat.zero_le _, rfl, by rw [addP_zero]; exact HN6.out, grown_refl _ _⟩
                case round =>
                  obtain ⟨i3, hi3, rfl, hown7, hg7⟩ := hrel
                  have HO7 := Lib.hid hown7; have HG7 := Lib.hid hg7
                  by_cases hil : i3 < n3
                  · obtain ⟨b3, o3, y, he3, hg3, hy, y0⟩ := (HRD.out.other hg7 HAB.out).at_ hil
                    have HY := Lib.hid hy
                    have hyr := leaps_in HWHN.out (List.mem_of_getElem? hy)
                    obtain ⟨yn, rfl⟩ : ∃ yn : Nat, y = (yn : Int) := ⟨y.toNat, by omega⟩
                    have hyN : yn < N := by omega
                    have cfy := (HFA6.out.other hg7 (fun a h e => HFG.out a h e)).cell (HDG.out yn hyN)
                    obtain ⟨dy, hdy⟩ : ∃ dy, dy = fv D (yn : Int) := ⟨_, rfl⟩
                    rw [← hdy] at cfy
                    have HDY := Lib.hid hdy
                    subst he3
                    have y0' : (0 : Int) ≤ (yn : Int) := by omega
                    have yN' : (yn : Int) < (N : Int) := by omega
                    have i30 : (0 : Int) ≤ (i3 : Int) := by omega
                    have i3n : (i3 : Int) < (n3 : Int) := by omega
                    by_cases hd1 : dy = (d : Int) + 1
                    · have hd1' : (dy == (d : Int) + 1) = true := by simpa using hd1
                      have HR := Lib.hid (show decide (fv D (yn : Int) = (d : Int) + 1) = true by rw [← HDY.out]; exact decide_eq_true hd1)
                      have hyg := listOf_get (fun y => wrap64 (addP Bf (fun z => decide (fv D z = (d : Int) + 1)) (leapsL W H xs a b (j : Int)) x i3 y)) hyN
                      have hjg := listOf_get (fun y => wrap64 (addP Bf (fun z => decide (fv D z = (d : Int) + 1)) (leapsL W H xs a b (j : Int)) x i3 y)) HJN.out
                      obtain ⟨q, hq⟩ : ∃ q, q = wrap64 (addP Bf (fun z => decide (fv D z = (d : Int) + 1)) (leapsL W H xs a b (j : Int)) x i3 (yn : Int)) := ⟨_, rfl⟩
                      have hjx : wrap64 (addP Bf (fun z => decide (fv D z = (d : Int) + 1)) (leapsL W H xs a b (j : Int)) x i3 (j : Int)) = xw := by
                        rw [HXW.out, addP, show decide (fv D (j : Int) = (d : Int) + 1) = false by (rw [HDJ.out]; exact decide_eq_false (by omega)), Bool.false_and, if_neg (by simp), Int.add_zero, HBX.out]
                      rw [← hq] at hyg
                      rw [hjx] at hjg
                      have HQ := Lib.hid hq
                      have c7 := hown7.cell hyg
                      have cj7 := hown7.cell hjg
                      have f7 := hown7.frozen yn
                      obtain ⟨o8, g8⟩ := hown7.stored yn (wrap64 (q + xw))
                      have HO8 := Lib.hid o8; have HG8 := Lib.hid g8
                      clear hq hy hyr hg7 hown7 o8 g8 hyg hjg hjx hdy hd1
                      go_wp2
                      go_region
                      all_goals go_wp2
                      go_roundw
                      case rel =>
                        refine ⟨i3 + 1, by omega, by go_num, ?_, grown_next HG7.out (grown_drewN HG8.out 1)⟩
                        have e : listOf N (fun y => wrap64 (addP Bf (fun z => decide (fv D z = (d : Int) + 1)) (leapsL W H xs a b (j : Int)) x (i3 + 1) y)) = (listOf N (fun y => wrap64 (addP Bf (fun z => decide (fv D z = (d : Int) + 1)) (leapsL W H xs a b (j : Int)) x i3 y))).set yn (wrap64 (q + xw)) := by
                          rw [listOf_set _ _ hyN, addP_yes (leapsL_nodup W H xs a b (j : Int)) HY.out HR.out, HQ.out, HXW.out, wrap_add]
                          refine listOf_congr fun z _ => ?_
                          show wrap64 (if (z : Int) = (yn : Int) then _ else _) = (if (z : Int) = (yn : Int) then _ else _)
                          by_cases ez : (z : Int) = (yn : Int)
                          · rw [if_pos ez, if_pos ez]
                          · rw [if_neg ez, if_neg ez]
                        rw [e]; exact HO8.out.drewN 1
                      case measure => simp [intOf]; omega
                    · have hd1' : (dy == (d : Int) + 1) = false := by simpa using hd1
                      have HR := Lib.hid (show decide (fv D (yn : Int) = (d : Int) + 1) = false by rw [← HDY.out]; exact decide_eq_false hd1)
                      clear hy hyr hg7 hown7 hdy hd1
                      go_wp2
                      go_roundw
                      case rel => exact ⟨i3 + 1, by omega, by go_num, by rw [addP_no HY.out HR.out]; exact HO7.out, HG7.out⟩
                      case measure => simp [intOf]; omega
                  · have HI3 := Lib.hid (show i3 = n3 by omega)
                    have i3n : ¬ (i3 : Int) < (n3 : Int) := by omega
                    have HB7 := Lib.hid (HB6.out.grown hg7 (by have := HB6.out.size; have := HG2.out; omega) (fun g h => by injection h with h; omega))
                    clear hg7 hown7
                    go_wp2
                    go_roundw
                    case rel =>
                      refine ⟨j + 1, by omega, by go_num, ?_, HB7.out⟩
                      have e : listOf N (fun y => wrap64 (rdW (cellsL W H xs) (leapsL W H xs a b) D (s : Int) d (fun c => decide (c < ((j + 1 : Nat) : Int)) && decide (fv D c = d)) y)) = listOf N (fun y => wrap64 (addP Bf (fun z => decide (fv D z = (d : Int) + 1)) (leapsL W H xs a b (j : Int)) x i3 y)) := by
                        refine listOf_congr fun y _ => ?_
                        rw [HBE.out, HXE.out, addP_all (adj := leapsL W H xs a b) (R := fun c => decide (c < ((j + 1 : Nat) : Int)) && decide (fv D c = d)) rfl (by have := HL3.out; have := HI3.out; omega) (cellsL_nodup W H xs) HJC.out (by simp) (by rw [HDJ.out]; simp; omega) (fun c _ hne => by
                          have : decide (c < ((j + 1 : Nat) : Int)) = decide (c < (j : Int)) := by rw [decide_eq_decide]; omega
                          rw [this])]
                      rw [e]; exact HO7.out
                    case measure => simp [intOf]; omega
              · have hxd' : (dj == (d : Int)) = false := by simpa using hxd
                have hxd'' : (dj != (d : Int)) = true := by simp [bne, hxd']
                have HNE := Lib.hid (show fv D (j : Int) ≠ (d : Int) by rw [← HDE.out]; exact hxd)
                clear hxd
                go_wp2
                go_roundw
                case rel =>
                  refine ⟨j + 1, by omega, by go_num, ?_, HB5.out⟩
                  have e : listOf N (fun y => wrap64 (rdW (cellsL W H xs) (leapsL W H xs a b) D (s : Int) d (fun c => decide (c < ((j + 1 : Nat) : Int)) && decide (fv D c = d)) y)) = listOf N (fun y => wrap64 (rdW (cellsL W H xs) (leapsL W H xs a b) D (s : Int) d (fun c => decide (c < (j : Int)) && decide (fv D c = d)) y)) := by
                    refine listOf_congr fun y _ => ?_
                    rw [rdW_congr (R := fun c => decide (c < (j : Int)) && decide (fv D c = d)) (fun c _ => by
                      by_cases e : c = (j : Int)
                      · rw [e, decide_eq_false HNE.out, Bool.and_false, Bool.and_false]
                      · have : decide (c < ((j + 1 : Nat) : Int)) = decide (c < (j : Int)) := by rw [decide_eq_decide]; omega
                        rw [this])]
                  rw [e]; exact HN5.out
                case measure => simp [intOf]; omega
            · have HJ := Lib.hid (show j = N by omega)
              have jN : ¬ (j : Int) < (N : Int) := by omega
              have HNX := Lib.hid (show OwnI 3 wr g2 (some ⟨g2, 0, none⟩) N N (listOf N fun y => wrap64 (lvW (cellsL W H xs) (leapsL W H xs a b) D (s : Int) (d + 1) y)) by
                have e : listOf N (fun y => wrap64 (lvW (cellsL W H xs) (leapsL W H xs a b) D (s : Int) (d + 1) y)) = listOf N (fun y => wrap64 (rdW (cellsL W H xs) (leapsL W H xs a b) D (s : Int) d (fun c => decide (c < (j : Int)) && decide (fv D c = d)) y)) := by
                  refine listOf_congr fun y _ => ?_
                  rw [← HNEXT.out d, rdW_congr (R := fun c => decide (c < (j : Int)) && decide (fv D c = d)) (fun c hc => by
                    have h8 := (hasB_iff.1 (cellsL_mem.1 hc)).1
                    have h9 := HWHN.out
                    rw [decide_eq_true (show c < (j : Int) by have := HJ.out; omega), Bool.true_and])]
                rw [e]; exact hown5)
              clear hown5 hb5 hb5x
              go_wp2
              go_roundw
              case rel => exact ⟨d + 1, by omega, by go_num, HNX.out, HB5.out⟩
              case measure => simp [intOf]; try omega
        · have HDL := Lib.hid (show d = L by omega)
          have dL : ¬ (d : Int) < (L : Int) := by omega
          have c9 := hown.cell (listOf_get (fun y => wrap64 (lvW (cellsL W H xs) (leapsL W H xs a b) D (s : Int) d y)) ht)
          obtain ⟨v, hv⟩ : ∃ v, v = wrap64 (lvW (cellsL W H xs) (leapsL W H xs a b) D (s : Int) d (t : Int)) := ⟨_, rfl⟩
          rw [← hv] at c9
          have HV := Lib.hid hv
          have HBF := Lib.hid hbx
          clear hv hown hbw hbx
          go_wp2
          go_ret2
          exact ⟨by rw [crV, if_pos HO.out, ← HDV.out, if_pos (by omega), HV.out, HDL.out, lvW, ← HDT.out, if_pos (by omega), HO.out]; rfl, below_next B.out HBF.out⟩
  · have ho' : onB W H xs a b [p, q] = false := by simpa using ho
    go_enter Try.func18, Try.ntmps18
    go_wp2_with fail
    refine (faAsked_any _ _ _ _ _ _ _ _ _ _ _ ((ha.alloc _).alloc _)).mono ?_
    rw [ho']
    rintro e wv ⟨rfl, hb⟩
    have hbx0 := below_box hb
    have a0 : wv.cell? ⟨w.heap.size, 0, none⟩ = some (.int .i64 W) := by simpa using newbox hbx0 0
    have a1 : wv.cell? ⟨w.heap.size, 1, none⟩ = some (.int .i64 H) := by simpa using newbox hbx0 1
    have a2 : wv.cell? ⟨w.heap.size, 2, none⟩ = some (.slice A n c) := by simpa using newbox hbx0 2
    have al : w.heap.size < wv.heap.size := by simpa using newbox_lt hbx0
    have l0 : wv.cell? ⟨w.heap.size + 1, 0, none⟩ = some (.int .i64 a) := by simpa using newbox hb 0
    have l1 : wv.cell? ⟨w.heap.size + 1, 1, none⟩ = some (.int .i64 b) := by simpa using newbox hb 1
    have ll : w.heap.size + 1 < wv.heap.size := by simpa using newbox_lt hb
    have B := Lib.hid (below_box hbx0)
    clear hb hbx0
    go_wp2
    go_ret2
    exact ⟨by rw [crV, if_neg ho, ho']; rfl, B.out⟩

end Go.Proofs.Ytmmfjmgjkbplpaa
