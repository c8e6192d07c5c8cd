/-
  Contracts: the parts of a board, in the model.
-/
import Derived.Test.YtholjdllbhnldaaP1
namespace Go.Proofs.Ytholjdllbhnldaa
open Go.RowKit

theorem part_bd {W H a b c : Int} {xs : List Int} {N : Nat} (h : OnFacts W H xs a b N) (hp : hasB W H xs c = true) {x : Int} {i : Nat} (hx : (distL W H xs a b c)[i]? = some x) : nearB (distL W H xs a b c) 64 i = decide (0 ≤ x) := by
  have := dist_bd h hp x (List.mem_of_getElem? hx)
  rw [near_in hx, inB]
  by_cases h0 : 0 ≤ x
  · simp [h0]; omega
  · simp [h0]

set_option maxRecDepth 100000 in
set_option maxHeartbeats 4000000 in
theorem faParts_any (W H : Int) (A : Option Addr) (n c : Nat) (xs : List Int) (a b : Int) (N : Nat) (w : World) (ha : Rd w A n xs) (hF : OnFacts W H xs a b N) :
    Calls Try.prog 26 #[brd W H A n c, lpr a b] w fun e w' => ∃ A' n' c' top, e = .returned (.slice A' n' c') ∧ PartsAt w' w.heap.size top A' n' c' (partsL W H xs a b) ∧ Below w.heap.size w w' := by
  have hWH := hF.wh
  have HF := Lib.hid hF
  have n64 := hF.n.2
  have hN0 : (0 : Int) ≤ (N : Int) := by omega
  obtain ⟨hW, hH, _, _⟩ := goodB_iff.1 hF.g
  have HN := Lib.hid (cells_le hW hH)
  obtain ⟨i0, hi, hz0, hz1, hz2⟩ := info_parts infoI
  have HI := Lib.hid hi; have HZ0 := Lib.hid hz0; have HZ1 := Lib.hid hz1; have HZ2 := Lib.hid hz2
  obtain ⟨ib, hib, hy0, hy1, hy2⟩ := info_parts infoBl
  have HIB := Lib.hid hib; have HY0 := Lib.hid hy0; have HY1 := Lib.hid hy1; have HY2 := Lib.hid hy2
  clear hW hH hF hi hz0 hz1 hz2 hib hy0 hy1 hy2
  obtain ⟨W2, hW2⟩ : ∃ W2, W2 = (w.alloc (.cells #[.int .i64 W, .int .i64 H, .slice A n c] 38)).alloc (.cells #[.int .i64 a, .int .i64 b] 27) := ⟨_, rfl⟩
  have a0 : W2.cell? ⟨w.heap.size, 0, none⟩ = some (.int .i64 W) := by rw [hW2]; go_simp
  have a1 : W2.cell? ⟨w.heap.size, 1, none⟩ = some (.int .i64 H) := by rw [hW2]; go_simp
  have a2 : W2.cell? ⟨w.heap.size, 2, none⟩ = some (.slice A n c) := by rw [hW2]; go_simp
  have l0 : W2.cell? ⟨w.heap.size + 1, 0, none⟩ = some (.int .i64 a) := by rw [hW2]; go_simp
  have l1 : W2.cell? ⟨w.heap.size + 1, 1, none⟩ = some (.int .i64 b) := by rw [hW2]; go_simp
  have hsz : W2.heap.size = w.heap.size + 2 := by rw [hW2]; simp
  have B := Lib.hid (show Below w.heap.size w W2 by rw [hW2]; exact below_new (below_new (Below.refl _ _) _) _)
  have ga : w.heap.size < W2.heap.size := by omega
  have gl : w.heap.size + 1 < W2.heap.size := by omega
  go_enter Try.func26, Try.ntmps26
  go_wp2_with (at_make; refine wpList_make_full _ rfl _ _ 75 rfl w.heap.size 4 ib (.bool false) 1 Try.underlying75 HIB.out HY0.out HY1.out .i64 .i64 _ _ N rfl rfl rfl rfl (by rw [HY2.out]; omega) (by unfold maxLen; omega) (by simp; omega) ?_; intro w1 hown1 hg1; rw [← hW2] at hown1 hg1; have hb1 : Below W2.heap.size W2 w1 := below_of_grown hg1 (Nat.le_refl _) (by simp); replace a0 := cell_keep a0 ga hb1; replace a1 := cell_keep a1 ga hb1; replace a2 := cell_keep a2 ga hb1; replace l0 := cell_keep l0 gl hb1; replace l1 := cell_keep l1 gl hb1; replace ga := lt_keep ga hb1; replace gl := lt_keep gl hb1)
  have hO1 : OwnB 4 w1 w.heap.size (some ⟨w.heap.size + 1 + 1, 0, none⟩) N N (boolRow (fun _ => false) N) := by
    unfold OwnB
    rw [show N * 1 = N from by omega, hsz] at hown1
    have e : (madeCells (Value.cells (.bool false)) N).toList = List.replicate N (.bool false) := toList_madeCells_one (.bool false) N
    rw [e] at hown1
    have e2 : (boolRow (fun _ => false) N).map Value.bool = List.replicate N (.bool false) := by
      rw [boolRow, List.map_map, List.eq_replicate_iff]
      exact ⟨by simp, fun v hv => by obtain ⟨i, _, rfl⟩ := List.mem_map.1 hv; rfl⟩
    rw [e2]
    exact hown1
  obtain ⟨fb, hfb⟩ : ∃ fb, fb = w.heap.size + 1 + 1 := ⟨_, rfl⟩
  rw [← hfb] at hO1 ⊢
  replace B := Lib.hid (below_next B.out hb1)
  have SEEN := Lib.hid hO1
  have hfw : w.heap.size + 2 = fb := by omega
  have hfb2 : fb < w1.heap.size := by
    obtain ⟨cur, h⟩ := row_block hO1
    exact (Array.getElem?_eq_some_iff.1 h).1
  clear hfb hW2 hown1 hg1 hO1 hb1 hsz hWH
  refine (boCells_any W H A n c xs _ (ha.keep B.out) HN.out).mono ?_
  rintro e ws ⟨A1, n1, c1, rfl, hst, hb⟩
  replace a0 := cell_keep a0 ga hb; replace a1 := cell_keep a1 ga hb; replace a2 := cell_keep a2 ga hb; replace l0 := cell_keep l0 gl hb; replace l1 := cell_keep l1 gl hb; replace ga := lt_keep ga hb; replace gl := lt_keep gl hb
  replace SEEN := Lib.hid (SEEN.out.keep hb)
  have hs1 := hb.size
  have hfs : fb < ws.heap.size := lt_keep hfb2 hb
  replace B := Lib.hid (below_next B.out hb)
  have hBs := B.out.size
  have ST := Lib.hid hst.rd
  have SL := Lib.hid hst.len
  have n8 : n1 ≤ 64 := by have := cellsTo_len (W := W) (H := H) (hs := xs) (W * H).toNat; have := hst.len; have := HN.out; unfold cellsL at *; omega
  have hA1 : Hid (∀ y, A1 = some y → y.block ≠ fb) := Lib.hid (fun y hy => by
    subst hy
    exact rows_apart (by decide : 3 ≠ 4) hst SEEN.out)
  have n9 := hst.rd.2.1
  clear hst hb hfb2
  go_wp2
  go_loopw [6, 21] (fun v i wr => ∃ (k n' c' top : Nat) (A' : Option Addr), k ≤ n1 ∧ i = .int .i64 k ∧ v = .slice A' n' c' ∧ PartsAt wr ws.heap.size top A' n' c' (partsTo W H xs a b k) ∧ top ≤ wr.heap.size ∧ OwnB 4 wr w.heap.size (some ⟨fb, 0, none⟩) N N (boolRow (fun i => inParts (partsTo W H xs a b k) (i : Int)) N) ∧ ws.grownBy wr (some fb)) (fun _ i _ => n1 - (intOf i).toNat)
  case atStart => exact ⟨0, 0, 0, 0, none, by omega, rfl, rfl, PartsAt.none_ _ _ _, by omega, SEEN.out, grown_refl _ _⟩
  case round =>
    clear SEEN
    obtain ⟨k, n', c', top, A', hk, rfl, rfl, hpa, htop, hseen, hgw⟩ := hrel
    have hBw : Below w.heap.size w wr := B.out.trans (below_of_grown hgw hBs (fun g h => by injection h with h; omega))
    have hsw := hgw.size
    have hnp : n' ≤ 64 := by have := partsTo_len W H xs a b k; have := hpa.len; omega
    have PA := Lib.hid hpa; have SE := Lib.hid hseen
    by_cases hlt : k < n1
    · obtain ⟨bb, oo, x, rfl, hg1, hx, x0⟩ := ST.out.at_ hlt
      have hbm := hA1.out _ rfl
      simp only at hbm
      have hin := cellsL_mem.1 (List.mem_of_getElem? hx)
      have hxr := (hasB_iff.1 hin).1
      rw [HF.out.wh] at hxr
      obtain ⟨xn, rfl⟩ : ∃ xn : Nat, x = (xn : Int) := ⟨x.toNat, by omega⟩
      have hxn : xn < N := by omega
      have hx0 : (0 : Int) ≤ (xn : Int) := by omega
      have hx1 : (xn : Int) < (N : Int) := by omega
      have HX := Lib.hid hx; have HXI := Lib.hid hin
      replace x0 := hgw.cell x0 (by simp; omega)
      have b0 := hgw.cell a0 (by simp; omega); have b1 := hgw.cell a1 (by simp; omega); have b2 := hgw.cell a2 (by simp; omega); have m0 := hgw.cell l0 (by simp; omega); have m1 := hgw.cell l1 (by simp; omega)
      have HBW := Lib.hid hBw; have HGW := Lib.hid hgw
      have s0 : wr.cell? ⟨fb, xn, none⟩ = some (.bool (inParts (partsTo W H xs a b k) (xn : Int))) := hseen.cell (boolRow_at (f := fun i => inParts (partsTo W H xs a b k) (i : Int)) hxn)
      clear hx hin hxr hgw hBw hpa hseen
      cases hip : inParts (partsTo W H xs a b k) (xn : Int) with
      | true =>
        rw [hip] at s0
        have HIP := Lib.hid hip
        clear hip
        go_wp2
        go_roundw
        case rel =>
          have e := partsTo_yes HX.out HIP.out
          exact ⟨k + 1, n', c', top, A', by omega, by go_num, rfl, by rw [e]; exact PA.out, htop, by rw [e]; exact SE.out, HGW.out⟩
        case measure => simp [intOf]; omega
      | false =>
        rw [hip] at s0
        have HIP := Lib.hid hip
        clear hip
        go_wp2_with fail
        refine (faFrom_any W H A n c xs a b xn N _ (ha.keep HBW.out) HF.out.g HF.out.wh hxn).mono ?_
        rintro e wv ⟨g, rfl, own, hb⟩
        have eD : farL (leapsL W H xs a b) N (xn : Int) = distL W H xs a b (xn : Int) := by rw [distL, show (W * H).toNat = N by have := HF.out.wh; omega]
        rw [eD] at own
        have hbd : ∀ (i : Nat) (y : Int), (distL W H xs a b (xn : Int))[i]? = some y → nearB (distL W H xs a b (xn : Int)) 64 i = decide (0 ≤ y) := fun i y hy => part_bd HF.out HXI.out hy
        have hpl : selTo (nearB (distL W H xs a b (xn : Int)) 64) N = partL W H xs a b (xn : Int) := by rw [partL, show (W * H).toNat = N by have := HF.out.wh; omega]
        obtain ⟨D, hD⟩ : ∃ D, D = distL W H xs a b (xn : Int) := ⟨_, rfl⟩
        rw [← hD] at own hbd hpl
        have DLEN := Lib.hid own.len
        have hgf : g ≠ fb := rows_apart (by decide : 3 ≠ 4) own (SE.out.keep hb)
        have hgv : g < wv.heap.size := by obtain ⟨g9, h1, _, h2⟩ := own.some_ (k := 0) (by omega); injection h1 with h1; injection h1 with h1; omega
        have FAR := Lib.hid own; have HBD := Lib.hid hbd; have HPL := Lib.hid hpl
        replace PA := Lib.hid (PA.out.keep hb); replace SE := Lib.hid (SE.out.keep hb)
        have hvs := hb.size
        have hAv : Hid (∀ y, A' = some y → y.block < wv.heap.size) := Lib.hid PA.out.lt
        have htv : top ≤ wv.heap.size := by omega
        replace b0 := cell_keep b0 (by omega) hb; replace b1 := cell_keep b1 (by omega) hb; replace b2 := cell_keep b2 (by omega) hb; replace m0 := cell_keep m0 (by omega) hb; replace m1 := cell_keep m1 (by omega) hb
        have HGV := Lib.hid (grown_next HGW.out (grown_of_below hb (some fb)))
        clear hb own eD hbd hpl hD HGW x0 s0
        go_wp2
        go_loopw [9, 34] (fun v i wr => ∃ (j n9 c9 : Nat) (A9 : Option Addr), j ≤ N ∧ i = .int .i64 j ∧ v = .slice A9 n9 c9 ∧ OwnI 3 wr wv.heap.size A9 n9 c9 (selTo (nearB D 64) j) ∧ PartsAt wr ws.heap.size top A' n' c' (partsTo W H xs a b k) ∧ OwnB 4 wr w.heap.size (some ⟨fb, 0, none⟩) N N (boolRow (fun i => inParts (partsTo W H xs a b k) (i : Int) || (decide (i < j) && nearB D 64 i)) N) ∧ wv.grownBy wr (some fb)) (fun _ i _ => N - (intOf i).toNat)
        case atStart => exact ⟨0, 0, 0, none, by omega, rfl, rfl, OwnI.none_ _ _ _, PA.out, by rw [boolRow_congr (g := fun i => inParts (partsTo W H xs a b k) (i : Int)) (fun i _ => by simp)]; exact SE.out, grown_refl _ _⟩
        case round =>
          clear PA SE
          obtain ⟨j, n9, c9, A9, hj, rfl, rfl, hpt, hpa, hse, hgx⟩ := hrel
          have hsx := hgx.size
          by_cases hjl : j < N
          · obtain ⟨y, hy⟩ : ∃ y, D[j]? = some y := ⟨_, List.getElem?_eq_getElem (show j < D.length by have := DLEN.out; omega)⟩
            have y0 := hgx.cell (FAR.out.cell hy) (by simp; omega)
            have hnb := HBD.out j y hy
            have hn9 : n9 ≤ 64 := by have := selTo_len (nearB D 64) j; have := hpt.len; omega
            have hj0 : (0 : Int) ≤ (j : Int) := by omega
            have hj1 : (j : Int) < (N : Int) := by omega
            have PT := Lib.hid hpt; have HPA := Lib.hid hpa; have HSE := Lib.hid hse; have HGX := Lib.hid hgx
            clear hy hpt hpa hse hgx
            by_cases hy0 : 0 ≤ y
            · have hnb' : nearB D 64 j = true := by rw [hnb]; simpa using hy0
              have HNB := Lib.hid hnb'
              clear hnb hnb'
              have hlo : wv.heap.size ≤ wr.heap.size := hsx
              have hfw2 : fb < wv.heap.size := by omega
              obtain ⟨sv, hsv⟩ : ∃ sv, (boolRow (fun i : Nat => inParts (partsTo W H xs a b k) (i : Int) || (decide (i < j) && nearB D 64 i)) N)[j]? = some sv := ⟨_, boolRow_at hjl⟩
              have SV := Lib.hid hsv
              clear hsv
              go_wp2_with (at_builtin; refine wpList_app1 rfl (.tmp 41) (.tmp 43) 32 3 rfl i0 Try.underlying32 HI.out HZ0.out HZ1.out HZ2.out wv.heap.size A9 n9 c9 (selTo (nearB D 64) j) (j : Int) rfl PT.out rfl (by omega) hlo ?_; intro A5 c5 w5 hown5 hb5; have hse5 := HSE.out.keepLo hb5 hfw2; have s5 := hse5.cell SV.out; have f5 := hse5.frozen j)
              obtain ⟨o1, g1⟩ := hse5.stored j true
              rw [boolRow_set, boolRow_congr (g := fun i : Nat => inParts (partsTo W H xs a b k) (i : Int) || (decide (i < j + 1) && nearB D 64 i)) (fun i _ => by
                by_cases e : i = j
                · subst e; rw [if_pos rfl, HNB.out]; simp
                · rw [if_neg e, show decide (i < j + 1) = decide (i < j) by rw [decide_eq_decide]; omega])] at o1
              have SE6 := Lib.hid o1
              have PA6 := Lib.hid ((HPA.out.keepLo hb5 hAv.out htv).bools hse5 g1)
              have PT6 := Lib.hid (hown5.other g1 (fun a ha => by
                subst ha
                have := rows_apart (by decide : 3 ≠ 4) hown5 hse5
                simpa using this))
              have HG6 := Lib.hid (grown_next (grown_below HGX.out hb5) g1)
              clear hse5 o1 g1 hown5 hb5
              go_wp2
              go_roundw
              case rel => exact ⟨j + 1, n9 + 1, c5, A5, by omega, by go_num, rfl, by rw [selTo_yes HNB.out]; exact PT6.out, PA6.out, SE6.out, HG6.out⟩
              case measure => simp [intOf]; omega
            · have hnb' : nearB D 64 j = false := by rw [hnb]; simpa using hy0
              have HNB := Lib.hid hnb'
              clear hnb hnb'
              go_wp2
              go_roundw
              case rel => exact ⟨j + 1, n9, c9, A9, by omega, by go_num, rfl, by rw [selTo_no HNB.out]; exact PT.out, HPA.out, by
                rw [boolRow_congr (g := fun i => inParts (partsTo W H xs a b k) (i : Int) || (decide (i < j) && nearB D 64 i)) (fun i _ => by
                  by_cases e : i = j
                  · subst e; rw [HNB.out]; simp
                  · rw [show decide (i < j + 1) = decide (i < j) by rw [decide_eq_decide]; omega])]
                exact HSE.out, HGX.out⟩
              case measure => simp [intOf]; omega
          · obtain rfl : j = N := by omega
            have PT := Lib.hid (hpt.lower (show ws.heap.size ≤ wv.heap.size by omega)); have HPA := Lib.hid hpa; have HSE := Lib.hid hse; have HGX := Lib.hid hgx
            have hpn : Hid (∀ y, A9 = some y → top ≤ y.block) := Lib.hid (fun y hy => by
              rcases hpt.form with ⟨h, _⟩ | ⟨g9, h, h2, _⟩
              · rw [h] at hy; cases hy
              · rw [h] at hy; injection hy with hy; rw [← hy]; show top ≤ g9; omega)
            have htx : top ≤ wr.heap.size := by omega
            have hlo : ws.heap.size ≤ wr.heap.size := by omega
            clear hpt hpa hse hgx
            go_wp2_with (at_builtin; refine wpList_appS rfl (.tmp 49) (.tmp 51) rfl ws.heap.size top A' n' c' (partsTo W H xs a b k) A9 n9 c9 (selTo (nearB D 64) j) rfl HPA.out PT.out hpn.out htx rfl (by omega) hlo ?_; intro A7 c7 w7 hpa7 hb7 kB kM kI)
            have PA7 := Lib.hid hpa7
            have SE7 := Lib.hid (kB _ _ _ _ _ HSE.out)
            have HG7 := Lib.hid (grown_below (grown_next HGV.out HGX.out) hb7)
            have hs7 := hb7.size
            clear hpa7 hb7 kB kM kI
            go_wp2
            go_roundw
            case rel =>
              have e := partsTo_no HX.out HIP.out
              rw [HPL.out] at PA7
              refine ⟨k + 1, n' + 1, c7, wr.heap.size, A7, by omega, by go_num, rfl, by rw [e]; exact PA7.out, hs7, ?_, HG7.out⟩
              rw [e, boolRow_congr (g := fun i : Nat => inParts (partsTo W H xs a b k) (i : Int) || (decide (i < j) && nearB D 64 i)) (fun i hi => by rw [inParts_app, ← HPL.out, sel_contains hi, show decide (i < j) = true by simpa using hi]; simp)]
              exact SE7.out
            case measure => simp [intOf]; omega
    · obtain rfl : k = n1 := by omega
      have eP : partsTo W H xs a b k = partsL W H xs a b := by rw [partsTo, List.take_of_length_le (by have := SL.out; omega)]; rfl
      rw [eP] at PA
      have HBW := Lib.hid hBw
      clear hgw hBw hpa hseen SE
      go_wp2
      go_ret
      exact ⟨_, _, _, _, rfl, PA.out.lower (by omega), HBW.out⟩

end Go.Proofs.Ytholjdllbhnldaa
