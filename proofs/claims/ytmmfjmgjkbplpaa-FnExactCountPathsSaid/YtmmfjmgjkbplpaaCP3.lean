/-
  Contracts: CountPaths, the model.
-/
import Derived.Test.YtmmfjmgjkbplpaaCP0
import Derived.Test.YtmmfjmgjkbplpaaT5a
import Derived.Test.YtmmfjmgjkbplpaaNL
namespace Go.Proofs.Ytmmfjmgjkbplpaa
open Go.RowKit

theorem span_I {E : TypeId} {w : World} {lo : Nat} {A : Option Addr} {n c : Nat} {xs : List Int} (h : OwnI E w lo A n c xs) : ∀ a, A = some a → lo ≤ a.block ∧ a.block < w.heap.size := by
  intro a ha
  rcases h.form with ⟨h0, _⟩ | ⟨g, h1, h2, h3, _⟩
  · rw [h0] at ha; cases ha
  · rw [h1] at ha; injection ha with ha; subst ha; exact ⟨h2, h3⟩
def okCP (W H : Int) (xs : List Int) (a b p q l : Int) : Bool := onB W H xs a b [p, q] && inB l 0 12
def cpV (W H : Int) (xs : List Int) (a b p q l : Int) : Int := if okCP W H xs a b p q l = true then waysK (cellsL W H xs) (leapsL W H xs a b) p l.toNat q else 0
theorem partW_zero {cells : List Int} {adj : Int → List Int} {F : Int → Int} {j : Nat} (h : F (j : Int) = 0) (y : Int) : partW cells adj (fun c => decide (c < ((j + 1 : Nat) : Int))) F y = partW cells adj (fun c => decide (c < (j : Int))) F y := by
  induction cells with
  | nil => rfl
  | cons c t ih =>
    rw [partW_cons, partW_cons, ih]
    by_cases e : c = (j : Int)
    · subst e
      rw [h]; split <;> split <;> rfl
    · rw [show decide (c < ((j + 1 : Nat) : Int)) = decide (c < (j : Int)) by rw [decide_eq_decide]; omega]

set_option maxRecDepth 100000 in
set_option maxHeartbeats 4000000 in
theorem spec_CountPaths (W H : Int) (A : Option Addr) (n c : Nat) (xs : List Int) (a b : Int) (p : Int) (q : Int) (lp : Int) (w : World) (ha : Rd w A n xs) :
    Calls Try.prog 7 #[brd W H A n c, lpr a b, .int .i64 p, .int .i64 q, .int .i64 lp] w fun e w' => e = .returned (.tuple #[.int .i64 (cpV W H xs a b p q lp), .bool (okCP W H xs a b p q lp)]) ∧ Below w.heap.size w w' := by
  by_cases ho : onB W H xs a b [p, q] = true
  · by_cases hin : inB lp 0 12 = true
    · have FO := on_facts (onB_two ho).1
      have HP := Lib.hid (onB_two ho).2.1
      have HQH := Lib.hid (onB_two ho).2.2
      obtain ⟨N, hN⟩ : ∃ N, N = (W * H).toNat := ⟨_, rfl⟩
      rw [← hN] at FO
      have hp0 := (hasB_iff.1 HP.out).1
      have hq0 := (hasB_iff.1 HQH.out).1
      rw [FO.wh] at hp0 hq0
      obtain ⟨s, rfl⟩ : ∃ s : Nat, p = (s : Int) := ⟨p.toNat, by omega⟩
      obtain ⟨t, rfl⟩ : ∃ t : Nat, q = (t : Int) := ⟨q.toNat, by omega⟩
      have hs : s < N := by omega
      have ht : t < N := by omega
      have HF := Lib.hid FO
      have n64 := FO.n.2
      have HWHN := Lib.hid FO.wh
      have HNN := Lib.hid (show 1 ≤ W * H ∧ W * H ≤ 64 by have := FO.wh; have := FO.n; omega)
      have hi12 := hin
      rw [inB] at hi12
      have hl12 : 0 ≤ lp ∧ lp ≤ 12 := by simpa using hi12
      obtain ⟨L, rfl⟩ : ∃ L : Nat, lp = (L : Int) := ⟨lp.toNat, by omega⟩
      have hL12 : L ≤ 12 := by omega
      have OKC := Lib.hid (show okCP W H xs a b (s : Int) (t : Int) (L : Int) = true by rw [okCP, ho, hin]; rfl)
      obtain ⟨i0, hi, hy0, hy1, hy2⟩ := info_parts infoI
      have HI := Lib.hid hi; have HZ0 := Lib.hid hy0; have HZ1 := Lib.hid hy1; have HZ2 := Lib.hid hy2
      clear hi hy0 hy1 hy2 hi12 hl12 FO hp0 hq0 hN
      go_enter Try.func7, Try.ntmps7
      go_wp2_with fail
      refine (faAsked_any _ _ _ _ _ _ _ _ _ _ _ ((ha.alloc _).alloc _)).mono ?_
      rw [ho]
      rintro e wv ⟨rfl, hb⟩
      have hbx0 := below_box hb
      have a0 : wv.cell? ⟨w.heap.size, 0, none⟩ = some (.int .i64 W) := by simpa using newbox hbx0 0
      have a1 : wv.cell? ⟨w.heap.size, 1, none⟩ = some (.int .i64 H) := by simpa using newbox hbx0 1
      have a2 : wv.cell? ⟨w.heap.size, 2, none⟩ = some (.slice A n c) := by simpa using newbox hbx0 2
      have al : w.heap.size < wv.heap.size := by simpa using newbox_lt hbx0
      have l0 : wv.cell? ⟨w.heap.size + 1, 0, none⟩ = some (.int .i64 a) := by simpa using newbox hb 0
      have l1 : wv.cell? ⟨w.heap.size + 1, 1, none⟩ = some (.int .i64 b) := by simpa using newbox hb 1
      have ll : w.heap.size + 1 < wv.heap.size := by simpa using newbox_lt hb
      have B := Lib.hid (below_box hbx0)
      clear hb hbx0
      clear ho
      go_wp2_with fail
      refine (l1In_b _ _ _ _).mono ?_
      rw [hin]
      rintro e wv ⟨rfl, hb⟩
      replace a0 := cell_keep a0 al hb; replace a1 := cell_keep a1 al hb; replace a2 := cell_keep a2 al hb; replace l0 := cell_keep l0 ll hb; replace l1 := cell_keep l1 ll hb; replace al := lt_keep al hb; replace ll := lt_keep ll hb; replace B := Lib.hid (below_next B.out hb)
      clear hb hin
      have hWHr := HWHN.out
      have s0 : (0 : Int) ≤ (s : Int) := by omega
      have sN : (s : Int) < (N : Int) := by omega
      go_wp2_with (at_make; refine wpList_make_full _ rfl _ _ 22 rfl wv.heap.size 3 i0 (.int .i64 0) 1 Try.underlying22 HI.out HZ0.out HZ1.out .i64 .i64 _ _ N rfl rfl rfl rfl (by rw [HZ2.out]; omega) (by unfold maxLen; omega) (by exact Nat.le_refl _) ?_; intro w1 hownw1 hgmw1; have hO_w1 : OwnI 3 w1 wv.heap.size (some ⟨wv.heap.size, 0, none⟩) N N (listOf N (fun _ => 0)) := (by unfold OwnI; rw [show N * 1 = N from by omega] at hownw1; rw [show (madeCells (Value.cells (.int .i64 0)) N).toList = List.replicate N (.int .i64 0) from toList_madeCells_one (.int .i64 0) N] at hownw1; rw [← listOf_zero]; simpa using hownw1); have c1 := hO_w1.cell (listOf_get (fun _ => (0 : Int)) hs); have f1 := hO_w1.frozen s)
      have hB_w1 : Below wv.heap.size wv w1 := below_of_grown hgmw1 (Nat.le_refl _) (fun g h => by cases h)
      clear hownw1 hgmw1 hWHr
      obtain ⟨g1, hg1e⟩ : ∃ g1, g1 = wv.heap.size := ⟨_, rfl⟩
      have HG1 := Lib.hid hg1e
      rw [← hg1e] at hO_w1 ⊢
      obtain ⟨o2, g2s⟩ := hO_w1.stored s 1
      have HO2 := Lib.hid (show OwnI 3 (w1.setCell ⟨g1, s, none⟩ (.int .i64 1)) g1 (some ⟨g1, 0, none⟩) N N (listOf N (waysK (cellsL W H xs) (leapsL W H xs a b) (s : Int) 0)) by
        have e : listOf N (waysK (cellsL W H xs) (leapsL W H xs a b) (s : Int) 0) = (listOf N (fun _ => (0 : Int))).set s 1 := by rw [listOf_set _ _ hs]; rfl
        rw [e]; exact o2)
      have HB2 := Lib.hid (show Below wv.heap.size wv (w1.setCell ⟨g1, s, none⟩ (.int .i64 1)) from hB_w1.grown g2s hB_w1.size (fun g h => by injection h with h; omega))
      clear hO_w1 hB_w1 hg1e o2 g2s c1 f1
      generalize w1.setCell ⟨g1, s, none⟩ (.int .i64 1) = W3 at *
      go_loopw [4, 12] (fun s4 s12 wr => ∃ (k m gw : Nat), k + m = L ∧ s4 = .int .i64 m ∧ s12 = .slice (some ⟨gw, 0, none⟩) N N ∧ OwnI 3 wr wv.heap.size (some ⟨gw, 0, none⟩) N N (listOf N (waysK (cellsL W H xs) (leapsL W H xs a b) (s : Int) k)) ∧ Below wv.heap.size wv wr) (fun s4 _ _ => (intOf s4).toNat)
      case atStart => exact ⟨0, L, g1, by omega, rfl, rfl, by rw [← HG1.out]; exact HO2.out, HB2.out⟩
      case round =>
        clear HO2 HB2
        obtain ⟨k, m0, gw, hkm, rfl, rfl, hown, hbw⟩ := hrel
        have HO := Lib.hid hown; have HBW := Lib.hid hbw
        by_cases hm : 0 < m0
        · obtain ⟨m, rfl⟩ : ∃ m, m0 = m + 1 := ⟨m0 - 1, by omega⟩
          obtain ⟨F, hF⟩ : ∃ F, F = waysK (cellsL W H xs) (leapsL W H xs a b) (s : Int) k := ⟨_, rfl⟩
          have HFE := Lib.hid hF
          have HFB := Lib.hid (show ∀ y, 0 ≤ F y ∧ F y ≤ 68719476736 from fun y => by
            rw [hF]
            have h1 := waysK_bd (leaps_in8 W H xs a b) (s : Int) k y
            have h2 : 8 ^ k ≤ 8 ^ 12 := Nat.pow_le_pow_right (by decide) (by omega)
            have h3 : (8 : Nat) ^ 12 = 68719476736 := by decide
            omega)
          rw [← hF] at HO
          have HRR := Lib.hid ((ha.keep B.out).keep hbw)
          replace a0 := cell_keep a0 al hbw; replace a1 := cell_keep a1 al hbw; replace a2 := cell_keep a2 al hbw; replace l0 := cell_keep l0 ll hbw; replace l1 := cell_keep l1 ll hbw; replace al := lt_keep al hbw; replace ll := lt_keep ll hbw
          have m00 : (0 : Int) < ((m + 1 : Nat) : Int) := by omega
          clear hF hown hbw hm
          go_wp2_with (at_make; refine wpList_make_full _ rfl _ _ 22 rfl wr.heap.size 3 i0 (.int .i64 0) 1 Try.underlying22 HI.out HZ0.out HZ1.out .i64 .i64 _ _ N rfl rfl rfl rfl (by rw [HZ2.out]; omega) (by unfold maxLen; omega) (by exact Nat.le_refl _) ?_; intro w4 hownw4 hgmw4)
          have hO_w4 : OwnI 3 w4 wr.heap.size (some ⟨wr.heap.size, 0, none⟩) N N (listOf N (fun _ => 0)) := by
            unfold OwnI
            rw [show N * 1 = N from by omega] at hownw4
            have e : (madeCells (Value.cells (.int .i64 0)) N).toList = List.replicate N (.int .i64 0) := toList_madeCells_one (.int .i64 0) N
            rw [e] at hownw4
            rw [← listOf_zero]
            simpa using hownw4
          have hB_w4 : Below wr.heap.size wr w4 := below_of_grown hgmw4 (Nat.le_refl _) (fun g h => by cases h)
          clear hownw4 hgmw4
          obtain ⟨g2, hg2e⟩ : ∃ g2, g2 = wr.heap.size := ⟨_, rfl⟩
          have HG2 := Lib.hid hg2e
          rw [← hg2e] at hO_w4 hB_w4 ⊢
          have HN0 := Lib.hid (show OwnI 3 w4 g2 (some ⟨g2, 0, none⟩) N N (listOf N (partW (cellsL W H xs) (leapsL W H xs a b) (fun c => decide (c < ((0 : Nat) : Int))) F)) by
            have e : listOf N (partW (cellsL W H xs) (leapsL W H xs a b) (fun c => decide (c < ((0 : Nat) : Int))) F) = listOf N (fun _ => 0) := listOf_congr fun y _ => partW_none _ _ _ _ (fun c hc => by
              have := (hasB_iff.1 (cellsL_mem.1 hc)).1
              rw [decide_eq_false_iff_not]; omega)
            rw [e]; exact hO_w4)
          have HB0 := Lib.hid hB_w4
          clear hO_w4 hB_w4 hg2e
          go_wp2
          go_loopw [14, 15, 47] (fun _ _ i w5 => ∃ j : Nat, j ≤ N ∧ i = .int .i64 j ∧ OwnI 3 w5 g2 (some ⟨g2, 0, none⟩) N N (listOf N (partW (cellsL W H xs) (leapsL W H xs a b) (fun c => decide (c < (j : Int))) F)) ∧ Below g2 wr w5) (fun _ _ i _ => N - (intOf i).toNat)
          case atStart => exact ⟨0, Nat.zero_le _, rfl, HN0.out, HB0.out⟩
          case round =>
            clear HN0 HB0
            obtain ⟨j, hj, rfl, hown5, hb5⟩ := hrel
            have HN5 := Lib.hid hown5; have HB5 := Lib.hid hb5
            by_cases hjl : j < N
            · have hb5' := hb5
              rw [HG2.out] at hb5'
              have hxg := listOf_get F hjl
              obtain ⟨x, hx⟩ : ∃ x, x = F (j : Int) := ⟨_, rfl⟩
              rw [← hx] at hxg
              have HXE := Lib.hid hx
              have HXB := Lib.hid (show 0 ≤ x ∧ x ≤ 68719476736 by rw [hx]; exact HFB.out _)
              have c5 := (HO.out.keep hb5').cell hxg
              have j0 : (0 : Int) ≤ (j : Int) := by omega
              have jN : (j : Int) < (N : Int) := by omega
              replace a0 := cell_keep a0 al hb5'; replace a1 := cell_keep a1 al hb5'; replace a2 := cell_keep a2 al hb5'; replace l0 := cell_keep l0 ll hb5'; replace l1 := cell_keep l1 ll hb5'; replace al := lt_keep al hb5'; replace ll := lt_keep ll hb5'
              have HRW := Lib.hid ((HRR.out).keep hb5')
              clear hxg hx hown5 hb5 hb5'
              by_cases hx0 : x = 0
              · have hx0' : (x == 0) = true := by simpa using hx0
                have HX0 := Lib.hid hx0
                clear hx0
                go_wp2
                go_roundw
                case rel =>
                  refine ⟨j + 1, by omega, by go_num, ?_, HB5.out⟩
                  have e : listOf N (partW (cellsL W H xs) (leapsL W H xs a b) (fun c => decide (c < ((j + 1 : Nat) : Int))) F) = listOf N (partW (cellsL W H xs) (leapsL W H xs a b) (fun c => decide (c < (j : Int))) F) :=
                    listOf_congr fun y _ => partW_zero (by rw [← HXE.out]; exact HX0.out) y
                  rw [e]; exact HN5.out
                case measure => simp [intOf]; omega
              · have hx0' : (x == 0) = false := by simpa using hx0
                have HJC := Lib.hid (show (j : Int) ∈ cellsL W H xs from Classical.byContradiction fun h => hx0 (by rw [HXE.out, HFE.out]; exact waysK_out (cellsL_mem.2 HP.out) (fun c y hy => (List.mem_filter.1 hy).1) k _ h))
                have HJ64 := Lib.hid (show 0 ≤ (j : Int) ∧ (j : Int) ≤ 64 by omega)
                clear hx0
                go_wp2_with fail
                refine (boLeaps_any W H A n c xs a b (j : Int) _ HRW.out HF.out.g HJ64.out).mono ?_
                rintro e w6 ⟨A3, n3, c3, rfl, own3, hb⟩
                have HRD := Lib.hid own3.rd
                have HL3 := Lib.hid own3.len
                have hn3 : n3 ≤ 64 := by have := leapsL_len64 (W := W) (H := H) (xs := xs) (a := a) (b := b) (q := (j : Int)) HNN.out; have := own3.len; omega
                have hsz5 : g2 < wr.heap.size := by rcases HN5.out.some_ (k := 0) (by omega) with ⟨g9, h9, _, h8⟩; injection h9 with h9; injection h9 with h9; omega
                have HAB := Lib.hid (show ∀ y, A3 = some y → some y.block ≠ some g2 from fun y hy e => by have := (span_I own3 y hy).1; injection e with e; omega)
                have HN6 := Lib.hid (HN5.out.keep hb)
                have HB6 := Lib.hid (HB5.out.trans (hb.mono (show g2 ≤ wr.heap.size by omega)))
                obtain ⟨B, hB⟩ : ∃ B, B = partW (cellsL W H xs) (leapsL W H xs a b) (fun c => decide (c < (j : Int))) F := ⟨_, rfl⟩
                have HBE := Lib.hid hB
                have HBB := Lib.hid (show ∀ y, 0 ≤ B y ∧ B y ≤ 8 * 68719476736 from fun y => by rw [hB]; exact partW_bd (leaps_in8 W H xs a b) HFB.out _ y)
                rw [← hB] at HN6
                clear own3 hb hB c5 a0 a1 a2 l0 l1 al ll HN5 HB5
                go_wp2
                go_loopw [59] (fun i w7 => ∃ i3 : Nat, i3 ≤ n3 ∧ i = .int .i64 i3 ∧ OwnI 3 w7 g2 (some ⟨g2, 0, none⟩) N N (listOf N (addRow B (leapsL W H xs a b (j : Int)) x i3)) ∧ w6.grownBy w7 (some g2)) (fun i _ => n3 - (intOf i).toNat)
                case atStart => exact ⟨0, Nat.zero_le _, rfl, by rw [addRow_zero]; exact HN6.out, grown_refl _ _⟩
                case round =>
                  obtain ⟨i3, hi3, rfl, hown7, hg7⟩ := hrel
                  have HO7 := Lib.hid hown7; have HG7 := Lib.hid hg7
                  by_cases hil : i3 < n3
                  · obtain ⟨b3, o3, y, he3, hg3, hy, y0⟩ := (HRD.out.other hg7 HAB.out).at_ hil
                    have HY := Lib.hid hy
                    have hyr := leaps_in HWHN.out (List.mem_of_getElem? hy)
                    obtain ⟨yn, rfl⟩ : ∃ yn : Nat, y = (yn : Int) := ⟨y.toNat, by omega⟩
                    have hyN : yn < N := by omega
                    have hyg := listOf_get (addRow B (leapsL W H xs a b (j : Int)) x i3) hyN
                    have hbd : 0 ≤ addRow B (leapsL W H xs a b (j : Int)) x i3 (yn : Int) ∧ addRow B (leapsL W H xs a b (j : Int)) x i3 (yn : Int) ≤ 8 * 68719476736 + 68719476736 := by
                      have h1 := HBB.out (yn : Int); have h2 := HXB.out
                      unfold addRow; split <;> omega
                    obtain ⟨q, hq⟩ : ∃ q, q = addRow B (leapsL W H xs a b (j : Int)) x i3 (yn : Int) := ⟨_, rfl⟩
                    rw [← hq] at hyg hbd
                    have HQ := Lib.hid hq
                    have c7 := hown7.cell hyg
                    have f7 := hown7.frozen yn
                    obtain ⟨o8, g8⟩ := hown7.stored yn (q + x)
                    have HO8 := Lib.hid o8; have HG8 := Lib.hid g8
                    have hxb := HXB.out
                    subst he3
                    have y0' : (0 : Int) ≤ (yn : Int) := by omega
                    have yN' : (yn : Int) < (N : Int) := by omega
                    have i30 : (0 : Int) ≤ (i3 : Int) := by omega
                    have i3n : (i3 : Int) < (n3 : Int) := by omega
                    clear hq hy hyr hg7 hown7 o8 g8 hyg
                    go_wp2
                    go_roundw
                    case rel =>
                      refine ⟨i3 + 1, by omega, by go_num, ?_, grown_next HG7.out HG8.out⟩
                      have e : listOf N (addRow B (leapsL W H xs a b (j : Int)) x (i3 + 1)) = (listOf N (addRow B (leapsL W H xs a b (j : Int)) x i3)).set yn (q + x) := by
                        rw [listOf_set _ _ hyN, addRow_next (leapsL_nodup W H xs a b (j : Int)) HY.out, HQ.out]
                      rw [e]; exact HO8.out
                    case measure => simp [intOf]; omega
                  · have HJ := Lib.hid (show i3 = n3 by omega)
                    have i3n : ¬ (i3 : Int) < (n3 : Int) := by omega
                    have HB7 := Lib.hid (HB6.out.grown hg7 (by have := HB6.out.size; have := HG2.out; omega) (fun g h => by injection h with h; have := HG2.out; omega))
                    clear hg7 hown7
                    go_wp2
                    go_roundw
                    case rel =>
                      refine ⟨j + 1, by omega, by go_num, ?_, HB7.out⟩
                      have e : listOf N (partW (cellsL W H xs) (leapsL W H xs a b) (fun c => decide (c < ((j + 1 : Nat) : Int))) F) = listOf N (addRow B (leapsL W H xs a b (j : Int)) x i3) := by
                        refine listOf_congr fun y hy => ?_
                        rw [addRow_all B _ x (by have := HL3.out; have := HJ.out; omega), HBE.out, HXE.out, partW_more (P := fun c => decide (c < (j : Int))) (cellsL_nodup W H xs) HJC.out (by simp) (by simp; omega) (fun c _ hne => by rw [decide_eq_decide]; omega)]
                      rw [e]; exact HO7.out
                    case measure => simp [intOf]; omega
            · have HJ := Lib.hid (show j = N by omega)
              have jN : ¬ (j : Int) < (N : Int) := by omega
              have hb9 : Below wv.heap.size wv wr := HBW.out.trans (hb5.mono (by have := HG2.out; have := HBW.out.size; omega))
              have HB9 := Lib.hid hb9
              have HNX := Lib.hid (show OwnI 3 wr wv.heap.size (some ⟨g2, 0, none⟩) N N (listOf N (waysK (cellsL W H xs) (leapsL W H xs a b) (s : Int) (k + 1))) by
                have e : listOf N (waysK (cellsL W H xs) (leapsL W H xs a b) (s : Int) (k + 1)) = listOf N (partW (cellsL W H xs) (leapsL W H xs a b) (fun c => decide (c < (j : Int))) F) := by
                  refine listOf_congr fun y hy => ?_
                  rw [waysK, ← HFE.out, stepW]
                  refine partW_congr fun c hc => ?_
                  have := (hasB_iff.1 (cellsL_mem.1 hc)).1
                  have h9 := HWHN.out
                  symm; rw [decide_eq_true_eq]; have := HJ.out; omega
                rw [e]; exact hown5.lower (by have := HG2.out; have := HBW.out.size; omega))
              clear hown5 hb5 hb9
              go_wp2
              go_roundw
              case rel => exact ⟨k + 1, m, g2, by omega, by go_num, rfl, HNX.out, HB9.out⟩
              case measure => simp [intOf]; try omega
        · obtain rfl : m0 = 0 := by omega
          have HKL := Lib.hid (show k = L by omega)
          have hxt := listOf_get (waysK (cellsL W H xs) (leapsL W H xs a b) (s : Int) k) ht
          have c9 := hown.cell hxt
          obtain ⟨v, hv⟩ : ∃ v, v = waysK (cellsL W H xs) (leapsL W H xs a b) (s : Int) k (t : Int) := ⟨_, rfl⟩
          rw [← hv] at c9
          have HV := Lib.hid hv
          have t0 : (0 : Int) ≤ (t : Int) := by omega
          have tN : (t : Int) < (N : Int) := by omega
          clear hxt hv hown hbw
          go_wp2
          go_ret2
          exact ⟨by rw [OKC.out, cpV, OKC.out, if_pos rfl, Int.toNat_natCast, HV.out, HKL.out]; rfl, below_next B.out HBW.out⟩
    · have hin' : inB lp 0 12 = false := by simpa using hin
      go_enter Try.func7, Try.ntmps7
      go_wp2_with fail
      refine (faAsked_any _ _ _ _ _ _ _ _ _ _ _ ((ha.alloc _).alloc _)).mono ?_
      rw [ho]
      rintro e wv ⟨rfl, hb⟩
      have hbx0 := below_box hb
      have a0 : wv.cell? ⟨w.heap.size, 0, none⟩ = some (.int .i64 W) := by simpa using newbox hbx0 0
      have a1 : wv.cell? ⟨w.heap.size, 1, none⟩ = some (.int .i64 H) := by simpa using newbox hbx0 1
      have a2 : wv.cell? ⟨w.heap.size, 2, none⟩ = some (.slice A n c) := by simpa using newbox hbx0 2
      have al : w.heap.size < wv.heap.size := by simpa using newbox_lt hbx0
      have l0 : wv.cell? ⟨w.heap.size + 1, 0, none⟩ = some (.int .i64 a) := by simpa using newbox hb 0
      have l1 : wv.cell? ⟨w.heap.size + 1, 1, none⟩ = some (.int .i64 b) := by simpa using newbox hb 1
      have ll : w.heap.size + 1 < wv.heap.size := by simpa using newbox_lt hb
      have B := Lib.hid (below_box hbx0)
      clear hb hbx0
      go_wp2_with fail
      refine (l1In_b _ _ _ _).mono ?_
      rw [hin']
      rintro e wv ⟨rfl, hb⟩
      replace B := Lib.hid (below_next B.out hb)
      clear hb
      go_wp2
      go_ret2
      exact ⟨by rw [show okCP W H xs a b p q lp = false by rw [okCP, hin']; simp, cpV, if_neg (by rw [okCP, hin']; simp)]; rfl, B.out⟩
  · have ho' : onB W H xs a b [p, q] = false := by simpa using ho
    go_enter Try.func7, Try.ntmps7
    go_wp2_with fail
    refine (faAsked_any _ _ _ _ _ _ _ _ _ _ _ ((ha.alloc _).alloc _)).mono ?_
    rw [ho']
    rintro e wv ⟨rfl, hb⟩
    have hbx0 := below_box hb
    have a0 : wv.cell? ⟨w.heap.size, 0, none⟩ = some (.int .i64 W) := by simpa using newbox hbx0 0
    have a1 : wv.cell? ⟨w.heap.size, 1, none⟩ = some (.int .i64 H) := by simpa using newbox hbx0 1
    have a2 : wv.cell? ⟨w.heap.size, 2, none⟩ = some (.slice A n c) := by simpa using newbox hbx0 2
    have al : w.heap.size < wv.heap.size := by simpa using newbox_lt hbx0
    have l0 : wv.cell? ⟨w.heap.size + 1, 0, none⟩ = some (.int .i64 a) := by simpa using newbox hb 0
    have l1 : wv.cell? ⟨w.heap.size + 1, 1, none⟩ = some (.int .i64 b) := by simpa using newbox hb 1
    have ll : w.heap.size + 1 < wv.heap.size := by simpa using newbox_lt hb
    have B := Lib.hid (below_box hbx0)
    clear hb hbx0
    go_wp2
    go_ret2
    exact ⟨by rw [show okCP W H xs a b p q lp = false by rw [okCP, ho']; rfl, cpV, if_neg (by rw [okCP, ho']; simp)]; rfl, B.out⟩

end Go.Proofs.Ytmmfjmgjkbplpaa
