/-
  Contracts: WalkOfNumbers, the program.
-/
import Derived.Test.YtmghjohpmlhdlaaW2
namespace Go.Proofs.Ytmghjohpmlhdlaa
open Go.RowKit

theorem rd_cells {w : World} {bb oo m : Nat} {ps : List Int} (h : Rd w (some ⟨bb, oo, none⟩) m ps) : ∀ j, j < ps.length → w.cell? ⟨bb, oo + j, none⟩ = some (.int .i64 (ps.getD j 0)) := fun j hj => by
  obtain ⟨b', o', x, hA, _, hx, hc⟩ := h.2.2 j (by rw [← h.1]; exact hj)
  injection hA with hA
  injection hA with e1 e2 _
  subst e1 e2
  rw [hc, List.getD_eq_getElem?_getD, hx]; rfl

set_option maxRecDepth 100000 in
set_option maxHeartbeats 8000000 in
theorem impl_WalkOfNumbers (W H : Int) (A : Option Addr) (n c : Nat) (xs : List Int) (a b : Int) (A2 : Option Addr) (m c2 : Nat) (ps : List Int) (w : World) (ha : Rd w A n xs) (hp : Rd w A2 m ps) (_ : m ≤ c2) :
    Calls Try.prog 52 #[brd W H A n c, lpr a b, .slice A2 m c2] w fun e w' => ∃ A' n' c', e = .returned (.tuple #[.slice A' n' c', .bool (okWom W H xs a b ps)]) ∧ OwnI 3 w' w.heap.size A' n' c' (womV W H xs a b ps) ∧ Below w.heap.size w w' := by
  have HPL := Lib.hid hp.1
  have m9 := hp.2.1
  by_cases ht : twoV W H xs a b = true
  · go_enter Try.func52, Try.ntmps52
    go_wp2_with fail
    refine (isOn0_any _ _ _ _ _ _ _ _ _ ((ha.alloc _).alloc _)).mono ?_
    rw [ht]
    rintro e wv ⟨rfl, hb⟩
    have hbx0 := below_box hb
    have a0 : wv.cell? ⟨w.heap.size, 0, none⟩ = some (.int .i64 W) := by simpa using newbox hbx0 0
    have a1 : wv.cell? ⟨w.heap.size, 1, none⟩ = some (.int .i64 H) := by simpa using newbox hbx0 1
    have a2 : wv.cell? ⟨w.heap.size, 2, none⟩ = some (.slice A n c) := by simpa using newbox hbx0 2
    have al : w.heap.size < wv.heap.size := by simpa using newbox_lt hbx0
    have l0 : wv.cell? ⟨w.heap.size + 1, 0, none⟩ = some (.int .i64 a) := by simpa using newbox hb 0
    have l1 : wv.cell? ⟨w.heap.size + 1, 1, none⟩ = some (.int .i64 b) := by simpa using newbox hb 1
    have ll : w.heap.size + 1 < wv.heap.size := by simpa using newbox_lt hb
    have B := Lib.hid (below_box hbx0)
    clear hb hbx0
    have HT := Lib.hid ht
    have HG := Lib.hid (two_gK ht)
    have HNN := Lib.hid (good_N (two_gK ht))
    obtain ⟨N, hWH⟩ : ∃ N : Nat, W * H = (N : Int) := ⟨(W * H).toNat, by have := good_N (two_gK ht); omega⟩
    have hN := good_N (two_gK ht)
    rw [hWH] at hN
    obtain ⟨hN1, hN2⟩ := hN
    have HWH := Lib.hid (show (W * H).toNat = N by omega)
    clear ht
    by_cases hlen : m = N
    rotate_left
    · have NK := Lib.hid (show ∀ p, ¬ IsWom W H xs a b ps p from fun p h => absurd h.2.2.len (by rw [HPL.out, HWH.out]; exact hlen))
      have hqe : ((m : Int) == (N : Int)) = false := by simp; omega
      have hqn : ¬ ((m : Int) = (N : Int)) := by omega
      clear hlen
      go_wp2
      go_ret2
      exact ⟨none, 0, 0, by rw [(wom_no NK.out).1]; rfl, by rw [(wom_no NK.out).2]; exact OwnI.none_ _ _ _, B.out⟩
    subst hlen
    have hqe : ((m : Int) == (m : Int)) = true := by simp
    have RP := Lib.hid (hp.keep B.out)
    have HA := Lib.hid (⟨a0, a1, a2, l0, l1, al, ll⟩ : wv.cell? ⟨w.heap.size, 0, none⟩ = some (.int .i64 W) ∧ wv.cell? ⟨w.heap.size, 1, none⟩ = some (.int .i64 H) ∧ wv.cell? ⟨w.heap.size, 2, none⟩ = some (.slice A n c) ∧ wv.cell? ⟨w.heap.size + 1, 0, none⟩ = some (.int .i64 a) ∧ wv.cell? ⟨w.heap.size + 1, 1, none⟩ = some (.int .i64 b) ∧ w.heap.size < wv.heap.size ∧ w.heap.size + 1 < wv.heap.size)
    obtain ⟨bb, oo, x9, rfl, -, -, -⟩ := RP.out.at_ (k := 0) (by omega)
    obtain ⟨i0, hi, hz0, hz1, hz2⟩ := info_parts infoI
    have HI := Lib.hid hi; have HZ0 := Lib.hid hz0; have HZ1 := Lib.hid hz1; have HZ2 := Lib.hid hz2
    clear hi hz0 hz1 hz2 hp
    go_wp2
    clear hqe hWH a0 a1 a2 l0 l1 al ll
    go_loopw [8, 27] (fun s i wr => ∃ (k c' : Nat) (A' : Option Addr), k ≤ m ∧ i = .int .i64 k ∧ s = .slice A' k c' ∧ OwnI 3 wr wv.heap.size A' k c' (idxs ps k) ∧ (∀ i : Nat, i < k → 0 ≤ Lib.idxOf ps ((i : Int) + 1)) ∧ Below wv.heap.size wv wr) (fun _ i _ => m - (intOf i).toNat)
    case atStart => exact ⟨0, 0, none, Nat.zero_le _, rfl, rfl, OwnI.none_ _ _ _, (fun i h => by omega), Below.refl _ _⟩
    case round =>
      obtain ⟨k, c', A', hk, rfl, rfl, hown, hix, hbw⟩ := hrel
      have OWN := Lib.hid hown; have HIX := Lib.hid hix; have HB := Lib.hid hbw
      have hsw := hbw.size
      clear hown hix hbw
      by_cases hlt : k < m
      · have RK := Lib.hid (RP.out.keep HB.out)
        obtain ⟨q, hq⟩ : ∃ q, q = Lib.idxOf ps ((k : Int) + 1) := ⟨_, rfl⟩
        have HQ := Lib.hid hq
        by_cases hq0 : q < 0
        · have HEND := Lib.hid (show k = m ∨ Lib.idxOf ps ((k : Int) + 1) < 0 from .inr (by rw [← hq]; exact hq0))
          go_wp2_with fail
          refine (Try.slices_Index_int bb oo m c2 ps ((k : Int) + 1) _ (by rw [HPL.out]; exact Nat.le_refl _) (by omega) (rd_cells RK.out)).mono ?_
          rw [List.take_of_length_le (by rw [HPL.out]; exact Nat.le_refl _), ← hq]
          rintro e wz ⟨rfl, rfl⟩
          clear hq RK
          obtain ⟨z0, z1, z2, z3, z4, zl, zm⟩ := HA.out
          have a0 := cell_keep z0 zl HB.out; have a1 := cell_keep z1 zl HB.out; have a2 := cell_keep z2 zl HB.out
          have l0 := cell_keep z3 zm HB.out; have l1 := cell_keep z4 zm HB.out
          have al := lt_keep zl HB.out; have ll := lt_keep zm HB.out
          have RA := Lib.hid ((ha.keep B.out).keep HB.out)
          have RPQ := Lib.hid (RP.out.keep HB.out)
          have BALL := Lib.hid (B.out.trans (HB.out.mono B.out.size))
          clear z0 z1 z2 z3 z4 zl zm
          by_cases hwk : walkB W H xs a b (idxs ps k) = true
          · have HWK := Lib.hid hwk
            go_wp2_with fail
            refine (isWalk_any W H A n c xs a b A' k c' (idxs ps k) _ RA.out OWN.out.rd HG.out).mono ?_
            rw [hwk]
            rintro e wy ⟨rfl, hb⟩
            replace a0 := cell_keep a0 al hb; replace a1 := cell_keep a1 al hb; replace a2 := cell_keep a2 al hb
            replace OWN := Lib.hid (OWN.out.keep hb)
            replace RPQ := Lib.hid (RPQ.out.keep hb)
            replace BALL := Lib.hid (below_next BALL.out hb)
            clear hb hwk l0 l1 ll
            go_wp2_with fail
            refine (numbersOf_any W H A n c A' k c' (idxs ps k) _ OWN.out.rd HNN.out (good_in (walk_path HWK.out))).mono ?_
            rw [HWH.out]
            rintro e wu ⟨g, rfl, own, hb⟩
            replace OWN := Lib.hid (OWN.out.keep hb)
            replace RPQ := Lib.hid (RPQ.out.keep hb)
            replace BALL := Lib.hid (below_next BALL.out hb)
            have OG := Lib.hid own
            clear own hb a0 a1 a2 al
            go_wp2_with fail
            refine (Try.slices_Equal_int g 0 m m bb oo m c2 (numsL W H (idxs ps k)) ps _ (by rw [OG.out.len]; exact Nat.le_refl _) (by rw [HPL.out]; exact Nat.le_refl _) (by omega) (by omega) (rd_cells OG.out.rd) (rd_cells RPQ.out)).mono ?_
            rw [List.take_of_length_le (by rw [OG.out.len]; exact Nat.le_refl _), List.take_of_length_le (by rw [HPL.out]; exact Nat.le_refl _)]
            rintro e wt ⟨rfl, qq, rfl⟩
            by_cases heq : numsL W H (idxs ps k) = ps
            · have hbe : (numsL W H (idxs ps k) == ps) = true := by simpa using heq
              have WM := Lib.hid (wom_yes ⟨HT.out, HWK.out, by
                rw [HWH.out]
                refine tells_of (by have h := HWK.out; simp only [walkB, Bool.and_eq_true, decide_eq_true_eq] at h; exact h.2) (fun x hx => by have h := good_in (walk_path HWK.out) x hx; have h2 := HNN.out; have h3 := HWH.out; omega) ?_
                have h := heq; rw [numsL, HWH.out] at h; exact h⟩ : okWom W H xs a b ps = true ∧ womV W H xs a b ps = idxs ps k)
              rw [hbe]
              clear heq hbe
              go_wp2
              go_ret2
              exact ⟨A', k, c', by rw [WM.out.1]; rfl, by rw [WM.out.2]; exact (OWN.out.lower B.out.size).drewN qq, below_drewN BALL.out qq⟩
            · have hbe : (numsL W H (idxs ps k) == ps) = false := by simpa using heq
              have NK := Lib.hid (show ∀ p, ¬ IsWom W H xs a b ps p from fun p h => heq (by
                have h1 := h.2.2
                have h2 := h1.numL
                rw [HWH.out] at h1 h2
                rw [h1.idxs HIX.out HEND.out, numsL, HWH.out]; exact h2))
              rw [hbe]
              clear heq hbe
              go_wp2
              go_ret2
              exact ⟨none, 0, 0, by rw [(wom_no NK.out).1]; rfl, by rw [(wom_no NK.out).2]; exact OwnI.none_ _ _ _, below_drewN BALL.out qq⟩
          · have hwk' : walkB W H xs a b (idxs ps k) = false := by simpa using hwk
            have NK := Lib.hid (show ∀ p, ¬ IsWom W H xs a b ps p from fun p h => hwk (by
              have h1 := h.2.2
              rw [HWH.out] at h1
              rw [h1.idxs HIX.out HEND.out]; exact h.2.1))
            clear hwk
            go_wp2_with fail
            refine (isWalk_any W H A n c xs a b A' k c' (idxs ps k) _ RA.out OWN.out.rd HG.out).mono ?_
            rw [hwk']
            rintro e wy ⟨rfl, hb⟩
            replace BALL := Lib.hid (below_next BALL.out hb)
            clear hb
            go_wp2
            go_ret2
            exact ⟨none, 0, 0, by rw [(wom_no NK.out).1]; rfl, by rw [(wom_no NK.out).2]; exact OwnI.none_ _ _ _, BALL.out⟩
        · have hq1 : 0 ≤ q := by omega
          go_wp2_with fail
          refine (Try.slices_Index_int bb oo m c2 ps ((k : Int) + 1) _ (by rw [HPL.out]; exact Nat.le_refl _) (by omega) (rd_cells RK.out)).mono ?_
          rw [List.take_of_length_le (by rw [HPL.out]; exact Nat.le_refl _), ← hq]
          rintro e wz ⟨rfl, rfl⟩
          clear hq RK
          go_wp2_with (at_builtin; refine wpList_app1 rfl (.tmp 36) (.tmp 38) 22 3 rfl i0 Try.underlying22 HI.out HZ0.out HZ1.out HZ2.out wv.heap.size A' k c' (idxs ps k) q rfl OWN.out rfl (by omega) hsw ?_; intro A9 c9 w9 hown9 hb9)
          go_roundw
          case rel => exact ⟨k + 1, c9, A9, by omega, by go_num, rfl, by rw [idxs_succ, ← HQ.out]; exact hown9, (fun i hi => by
            rcases Nat.lt_or_eq_of_le (Nat.le_of_lt_succ hi) with h | h
            · exact HIX.out i h
            · rw [h, ← HQ.out]; exact hq1), HB.out.trans hb9⟩
          case measure => simp [intOf]; omega
      · have HEND := Lib.hid (show k = m ∨ Lib.idxOf ps ((k : Int) + 1) < 0 from .inl (by omega))
        obtain ⟨z0, z1, z2, z3, z4, zl, zm⟩ := HA.out
        have a0 := cell_keep z0 zl HB.out; have a1 := cell_keep z1 zl HB.out; have a2 := cell_keep z2 zl HB.out
        have l0 := cell_keep z3 zm HB.out; have l1 := cell_keep z4 zm HB.out
        have al := lt_keep zl HB.out; have ll := lt_keep zm HB.out
        have RA := Lib.hid ((ha.keep B.out).keep HB.out)
        have RPQ := Lib.hid (RP.out.keep HB.out)
        have BALL := Lib.hid (B.out.trans (HB.out.mono B.out.size))
        clear z0 z1 z2 z3 z4 zl zm
        by_cases hwk : walkB W H xs a b (idxs ps k) = true
        · have HWK := Lib.hid hwk
          go_wp2_with fail
          refine (isWalk_any W H A n c xs a b A' k c' (idxs ps k) _ RA.out OWN.out.rd HG.out).mono ?_
          rw [hwk]
          rintro e wy ⟨rfl, hb⟩
          replace a0 := cell_keep a0 al hb; replace a1 := cell_keep a1 al hb; replace a2 := cell_keep a2 al hb
          replace OWN := Lib.hid (OWN.out.keep hb)
          replace RPQ := Lib.hid (RPQ.out.keep hb)
          replace BALL := Lib.hid (below_next BALL.out hb)
          clear hb hwk l0 l1 ll
          go_wp2_with fail
          refine (numbersOf_any W H A n c A' k c' (idxs ps k) _ OWN.out.rd HNN.out (good_in (walk_path HWK.out))).mono ?_
          rw [HWH.out]
          rintro e wu ⟨g, rfl, own, hb⟩
          replace OWN := Lib.hid (OWN.out.keep hb)
          replace RPQ := Lib.hid (RPQ.out.keep hb)
          replace BALL := Lib.hid (below_next BALL.out hb)
          have OG := Lib.hid own
          clear own hb a0 a1 a2 al
          go_wp2_with fail
          refine (Try.slices_Equal_int g 0 m m bb oo m c2 (numsL W H (idxs ps k)) ps _ (by rw [OG.out.len]; exact Nat.le_refl _) (by rw [HPL.out]; exact Nat.le_refl _) (by omega) (by omega) (rd_cells OG.out.rd) (rd_cells RPQ.out)).mono ?_
          rw [List.take_of_length_le (by rw [OG.out.len]; exact Nat.le_refl _), List.take_of_length_le (by rw [HPL.out]; exact Nat.le_refl _)]
          rintro e wt ⟨rfl, qq, rfl⟩
          by_cases heq : numsL W H (idxs ps k) = ps
          · have hbe : (numsL W H (idxs ps k) == ps) = true := by simpa using heq
            have WM := Lib.hid (wom_yes ⟨HT.out, HWK.out, by
              rw [HWH.out]
              refine tells_of (by have h := HWK.out; simp only [walkB, Bool.and_eq_true, decide_eq_true_eq] at h; exact h.2) (fun x hx => by have h := good_in (walk_path HWK.out) x hx; have h2 := HNN.out; have h3 := HWH.out; omega) ?_
              have h := heq; rw [numsL, HWH.out] at h; exact h⟩ : okWom W H xs a b ps = true ∧ womV W H xs a b ps = idxs ps k)
            rw [hbe]
            clear heq hbe
            go_wp2
            go_ret2
            exact ⟨A', k, c', by rw [WM.out.1]; rfl, by rw [WM.out.2]; exact (OWN.out.lower B.out.size).drewN qq, below_drewN BALL.out qq⟩
          · have hbe : (numsL W H (idxs ps k) == ps) = false := by simpa using heq
            have NK := Lib.hid (show ∀ p, ¬ IsWom W H xs a b ps p from fun p h => heq (by
              have h1 := h.2.2
              have h2 := h1.numL
              rw [HWH.out] at h1 h2
              rw [h1.idxs HIX.out HEND.out, numsL, HWH.out]; exact h2))
            rw [hbe]
            clear heq hbe
            go_wp2
            go_ret2
            exact ⟨none, 0, 0, by rw [(wom_no NK.out).1]; rfl, by rw [(wom_no NK.out).2]; exact OwnI.none_ _ _ _, below_drewN BALL.out qq⟩
        · have hwk' : walkB W H xs a b (idxs ps k) = false := by simpa using hwk
          have NK := Lib.hid (show ∀ p, ¬ IsWom W H xs a b ps p from fun p h => hwk (by
            have h1 := h.2.2
            rw [HWH.out] at h1
            rw [h1.idxs HIX.out HEND.out]; exact h.2.1))
          clear hwk
          go_wp2_with fail
          refine (isWalk_any W H A n c xs a b A' k c' (idxs ps k) _ RA.out OWN.out.rd HG.out).mono ?_
          rw [hwk']
          rintro e wy ⟨rfl, hb⟩
          replace BALL := Lib.hid (below_next BALL.out hb)
          clear hb
          go_wp2
          go_ret2
          exact ⟨none, 0, 0, by rw [(wom_no NK.out).1]; rfl, by rw [(wom_no NK.out).2]; exact OwnI.none_ _ _ _, BALL.out⟩
  · have ht' : twoV W H xs a b = false := by simpa using ht
    go_enter Try.func52, Try.ntmps52
    go_wp2_with fail
    refine (isOn0_any _ _ _ _ _ _ _ _ _ ((ha.alloc _).alloc _)).mono ?_
    rw [ht']
    rintro e wv ⟨rfl, hb⟩
    have hbx0 := below_box hb
    have a0 : wv.cell? ⟨w.heap.size, 0, none⟩ = some (.int .i64 W) := by simpa using newbox hbx0 0
    have a1 : wv.cell? ⟨w.heap.size, 1, none⟩ = some (.int .i64 H) := by simpa using newbox hbx0 1
    have a2 : wv.cell? ⟨w.heap.size, 2, none⟩ = some (.slice A n c) := by simpa using newbox hbx0 2
    have al : w.heap.size < wv.heap.size := by simpa using newbox_lt hbx0
    have l0 : wv.cell? ⟨w.heap.size + 1, 0, none⟩ = some (.int .i64 a) := by simpa using newbox hb 0
    have l1 : wv.cell? ⟨w.heap.size + 1, 1, none⟩ = some (.int .i64 b) := by simpa using newbox hb 1
    have ll : w.heap.size + 1 < wv.heap.size := by simpa using newbox_lt hb
    have B := Lib.hid (below_box hbx0)
    clear hb hbx0
    have NK : ∀ p, ¬ IsWom W H xs a b ps p := fun p h => absurd h.1 (by rw [ht']; simp)
    go_wp2
    go_ret2
    exact ⟨none, 0, 0, by rw [(wom_no NK).1]; rfl, by rw [(wom_no NK).2]; exact OwnI.none_ _ _ _, B.out⟩

end Go.Proofs.Ytmghjohpmlhdlaa
