/-
  Contracts: leaps onward, as a map from cells.
-/
import Derived.Test.YtmmfjmgjkbplpaaT2a
import Derived.Test.YtmmfjmgjkbplpaaS10
namespace Go.Proofs.Ytmmfjmgjkbplpaa
open Go.RowKit

set_option maxRecDepth 100000 in
set_option maxHeartbeats 2000000 in
theorem onwardOf_any (W H : Int) (A : Option Addr) (n c : Nat) (xs : List Int) (a b : Int) (w : World) (ha : Rd w A n xs) (hg : goodB W H xs = true) (hl : leaperB a b = true) :
    Calls Try.prog 27 #[brd W H A n c, lpr a b] w fun e w' => ∃ mb, e = .returned (.map (some mb)) ∧ OnMap w' w.heap.size mb (cellsL W H xs) (leapsL W H xs a b) ∧ Below w.heap.size w w' := by
  have HL := Lib.hid hl
  clear hl
  obtain ⟨hW, hH, _, _⟩ := goodB_iff.1 hg
  have HW := Lib.hid hW; have HN := Lib.hid (cells_le hW hH)
  have HG := Lib.hid hg
  obtain ⟨i0, hi, hz0, hz1, hz2⟩ := info_parts infoI
  have HI := Lib.hid hi; have HZ0 := Lib.hid hz0; have HZ1 := Lib.hid hz1; have HZ2 := Lib.hid hz2
  clear hW hH hg hi hz0 hz1 hz2
  obtain ⟨W2, hW2⟩ : ∃ W2, W2 = ((w.alloc (.cells #[.int .i64 W, .int .i64 H, .slice A n c] 30)).alloc (.cells #[.int .i64 a, .int .i64 b] 32)).alloc (.map #[] 0) := ⟨_, rfl⟩
  have a0 : W2.cell? ⟨w.heap.size, 0, none⟩ = some (.int .i64 W) := by rw [hW2]; go_simp
  have a1 : W2.cell? ⟨w.heap.size, 1, none⟩ = some (.int .i64 H) := by rw [hW2]; go_simp
  have a2 : W2.cell? ⟨w.heap.size, 2, none⟩ = some (.slice A n c) := by rw [hW2]; go_simp
  have l0 : W2.cell? ⟨w.heap.size + 1, 0, none⟩ = some (.int .i64 a) := by rw [hW2]; go_simp
  have l1 : W2.cell? ⟨w.heap.size + 1, 1, none⟩ = some (.int .i64 b) := by rw [hW2]; go_simp
  have hsz : w.heap.size + 3 ≤ W2.heap.size := by rw [hW2]; simp
  have B := Lib.hid (show Below w.heap.size w W2 by rw [hW2]; exact below_new (below_new (below_new (Below.refl _ _) _) _) _)
  have R := Lib.hid (ha.keep B.out)
  have ga : w.heap.size < W2.heap.size := by omega
  have gl : w.heap.size + 1 < W2.heap.size := by omega
  have hmp : MapI Try.prog 3 W2 (w.heap.size + 2) 0 (.slice none 0 0) (fun _ => .slice none 0 0) := by
    rw [hW2]
    have := MapI.made Try.prog 3 ((w.alloc (.cells #[.int .i64 W, .int .i64 H, .slice A n c] 30)).alloc (.cells #[.int .i64 a, .int .i64 b] 32)) (.slice none 0 0)
    simpa using this
  have MP := Lib.hid hmp
  clear hmp
  have hmm := @run_makeMap Try.prog
  go_enter Try.func27, Try.ntmps27
  go_wp2_with fail
  rw [← hW2]
  obtain ⟨mb, hmb⟩ : ∃ mb, mb = w.heap.size + 1 + 1 := ⟨_, rfl⟩
  rw [show w.heap.size + 2 = mb by omega] at MP
  rw [← hmb]
  have hmb1 : w.heap.size + 2 ≤ mb := by omega
  have hmb2 : mb < W2.heap.size := by omega
  clear hW2 hmm hmb
  refine (cellsThere_any W H A n c xs _ R.out HG.out).mono ?_
  rintro e ws ⟨A1, n1, c1, rfl, hst, hb⟩
  replace a0 := cell_keep a0 ga hb; replace a1 := cell_keep a1 ga hb; replace a2 := cell_keep a2 ga hb; replace l0 := cell_keep l0 gl hb; replace l1 := cell_keep l1 gl hb; replace ga := lt_keep ga hb; replace gl := lt_keep gl hb; replace R := Lib.hid (R.out.keep hb)
  have hB0 := B.out.size
  replace B := Lib.hid (below_next B.out hb)
  have hs1 := hb.size
  have ST := Lib.hid hst.rd
  have SL := Lib.hid hst.len
  have n8 : n1 ≤ 64 := by have := cellsTo_len (W := W) (H := H) (hs := xs) (W * H).toNat; have := hst.len; have := HN.out; unfold cellsL at *; omega
  have hA1 : Hid (∀ y, A1 = some y → mb < y.block) := Lib.hid (fun y hy => by
    rcases hst.form with ⟨h, _⟩ | ⟨g, h, h2, _⟩
    · rw [h] at hy; cases hy
    · rw [h] at hy; injection hy with hy; rw [← hy]; show mb < g; omega)
  have hmlt : mb < ws.heap.size := by omega
  have n9 := hst.rd.2.1
  replace MP := Lib.hid (MP.out.keep hb)
  clear hst hb
  go_wp2
  go_loopw [12] (fun i wr => ∃ (k : Nat) (f : Int → Value), k ≤ n1 ∧ i = .int .i64 k ∧ MapI Try.prog 3 wr mb k (.slice none 0 0) f ∧ (∀ x ∈ (cellsL W H xs).take k, RowAt wr w.heap.size mb (f x) (leapsL W H xs a b x)) ∧ ws.grownBy wr (some mb)) (fun i _ => n1 - (intOf i).toNat)
  case atStart => exact ⟨0, _, by omega, rfl, MP.out, by simp, grown_refl _ _⟩
  case round =>
    obtain ⟨k, f, hk, rfl, hm, hrows, hgw⟩ := hrel
    have hBw : Below w.heap.size w wr := B.out.trans (below_of_grown hgw (by omega) (fun g h => by injection h with h; omega))
    have HM := Lib.hid hm; have HR := Lib.hid hrows
    have HGW := Lib.hid hgw
    have hsw := hgw.size
    clear hm hrows
    by_cases hlt : k < n1
    · obtain ⟨bb, oo, x, rfl, hg1, hx, x0⟩ := ST.out.at_ hlt
      have hbm := hA1.out _ rfl
      simp only at hbm
      have HX := Lib.hid hx
      have hin := cellsL_mem.1 (List.mem_of_getElem? hx)
      have HXQ := Lib.hid (hasB_iff.1 hin).1
      have HXR := Lib.hid (range_of HN.out hin)
      replace x0 := hgw.cell x0 (by simp; omega)
      have b0 := hgw.cell a0 (by simp; omega); have b1 := hgw.cell a1 (by simp; omega); have b2 := hgw.cell a2 (by simp; omega); have m0 := hgw.cell l0 (by simp; omega); have m1 := hgw.cell l1 (by simp; omega)
      have RR := Lib.hid (ha.keep hBw)
      have HBW := Lib.hid hBw
      clear hx hin hgw hBw
      go_wp2_with fail
      refine (leapCells_any W H A n c xs a b x _ RR.out HG.out HL.out HXQ.out).mono ?_
      rintro e wv ⟨A3, n3, c3, rfl, hl3, hb⟩
      have hn3 : n3 ≤ 64 := by have := leapsL_len64 (W := W) (H := H) (xs := xs) (a := a) (b := b) (q := x) HN.out; have := hl3.len; omega
      have HL3 := Lib.hid hl3
      replace HM := Lib.hid (HM.out.keep hb)
      replace HR := Lib.hid (fun y hy => (HR.out y hy).keep hb)
      replace HGW := Lib.hid (grown_next HGW.out (grown_of_below hb (some mb)))
      have hsv := hb.size
      clear hl3 hb
      go_wp2_with (at_mapUpdate; refine wpList_update rfl (.tmp 16) (.tmp 17) (.tmp 21) rfl Try.underlying3 Try.underlying50 rfl HM.out (by omega) x (.slice A3 n3 c3) rfl rfl (wf_small ⟨HXR.out.1, by have := HXR.out.2; omega⟩) ?_; intro w2 hm2 hg2)
      have HM2 := Lib.hid hm2; have HG2 := Lib.hid hg2
      clear hm2 hg2
      go_wp2
      go_roundw
      case rel =>
        refine ⟨k + 1, _, by omega, by go_num, HM2.out, fun y hy => ?_, grown_next HGW.out HG2.out⟩
        rw [List.take_add_one, HX.out] at hy
        rcases List.mem_append.1 hy with hy | hy
        · have hne : y ≠ x := by
            have hp := cellsL_pairwise W H xs
            have hlen : k < (cellsL W H xs).length := by have := SL.out; omega
            rw [← List.take_append_drop k (cellsL W H xs), List.pairwise_append] at hp
            have hxd : x ∈ (cellsL W H xs).drop k := by
              rw [drop_cons_of HX.out]; exact List.mem_cons_self
            have := hp.2.2 y hy x hxd
            omega
          rw [if_neg hne]
          exact (HR.out y hy).other HG2.out
        · simp at hy
          subst hy
          rw [if_pos rfl]
          have hrow : RowAt _ w.heap.size mb (.slice A3 n3 c3) (leapsL W H xs a b y) := ⟨A3, n3, c3, rfl, HL3.out.rd, hn3, fun z hz => by
            rcases HL3.out.form with ⟨h, _⟩ | ⟨g, h, h2, h3, _⟩
            · rw [h] at hz; cases hz
            · rw [h] at hz; injection hz with hz; rw [← hz]; exact ⟨by show w.heap.size ≤ g; omega, h3, by show g ≠ mb; omega⟩⟩
          exact hrow.other HG2.out
      case measure => simp [intOf]; omega
    · have e2 : (cellsL W H xs).take k = cellsL W H xs := List.take_of_length_le (by have := SL.out; omega)
      have HBW := Lib.hid hBw
      have hk64 : k ≤ 64 := by omega
      have HRR := Lib.hid (show OnMap wr w.heap.size mb (cellsL W H xs) (leapsL W H xs a b) from ⟨by omega, k, f, by omega, HM.out, by rw [← e2]; exact HR.out⟩)
      clear e2 hBw hgw
      go_wp2
      go_ret
      exact ⟨mb, rfl, HRR.out, HBW.out⟩


end Go.Proofs.Ytmmfjmgjkbplpaa
