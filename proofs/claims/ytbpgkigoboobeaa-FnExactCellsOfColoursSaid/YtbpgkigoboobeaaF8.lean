/-
  Contracts: whether a list are colours of a board, in the model.
-/
import Derived.Test.YtbpgkigoboobeaaF7
namespace Go.Proofs.Ytbpgkigoboobeaa
open Go.RowKit Go.Shelf
attribute [local go_sem] Oper.semAt_some

theorem undef_boolF {b : Bool} {R : Prop} (h : some undef = some (Value.bool b)) : R := by simp [undef] at h

set_option maxRecDepth 100000 in
set_option maxHeartbeats 8000000 in
theorem paGood_any (W H : Int) (A : Option Addr) (n c : Nat) (xs : List Int) (A2 : Option Addr) (m c2 : Nat) (cs : List Int) (w : World) (ha : Rd w A n xs) (hc : Rd w A2 m cs) (hg : goodB W H xs = true) :
    Calls Try.prog 29 #[brd W H A n c, .slice A2 m c2] w fun e w' => e = .returned (.bool (goodCols W H xs cs)) ∧ Below w.heap.size w w' := by
  refine (callsIn_wide (n := 5)).1 ?_
  refine callsIn_of_wp_marks Try.func29 rfl trivial ?_ rfl
  simp only [Try.ntmps29, List.size_toArray, List.length_cons, List.length_nil, Nat.reduceAdd, Nat.reduceSub, Array.replicate_succ, Array.replicate_zero, List.push_toArray, List.append_toArray, List.nil_append, List.cons_append]
  have m9 := hc.2.1
  have HML := Lib.hid hc.1
  obtain ⟨hW, hH, -, -⟩ := goodB_iff.1 hg
  have HN := Lib.hid (cells_le hW hH)
  obtain ⟨hN1, hN2⟩ := HN.out
  obtain ⟨hW1, hW2⟩ := hW
  obtain ⟨hH1, hH2⟩ := hH
  clear hg
  by_cases hlen : (m : Int) = W * H
  rotate_left
  · have hne : ((m : Int) != W * H) = true := by simpa using hlen
    have hbad : goodCols W H xs cs = false := by rw [goodCols, show decide ((cs.length : Int) = W * H) = false by have := HML.out; rw [this]; simpa using hlen]; rfl
    gi_wp2
    exact ⟨_, results_tmp rfl _ _ _, by rw [hbad]; rfl, below_new (Below.refl _ _) _⟩
  have hne : ((m : Int) != W * H) = false := by simpa using hlen
  have hm8 : m ≤ 64 := by omega
  have HLEN := Lib.hid hlen
  obtain ⟨W2, hW2⟩ : ∃ W2, W2 = w.alloc (.cells #[.int .i64 W, .int .i64 H, .slice A n c] 28) := ⟨_, rfl⟩
  have a0 : W2.cell? ⟨w.heap.size, 0, none⟩ = some (.int .i64 W) := by rw [hW2]; go_simp
  have a1 : W2.cell? ⟨w.heap.size, 1, none⟩ = some (.int .i64 H) := by rw [hW2]; go_simp
  have a2 : W2.cell? ⟨w.heap.size, 2, none⟩ = some (.slice A n c) := by rw [hW2]; go_simp
  have al : w.heap.size < W2.heap.size := by rw [hW2]; simp
  have B := Lib.hid (show Below w.heap.size w W2 by rw [hW2]; exact below_new (Below.refl _ _) _)
  have HA := Lib.hid ha; have HC := Lib.hid hc
  clear ha hc hlen
  gi_wp2
  rw [← hW2]
  clear hW2
  gi_loopw [17] (fun i wr => ∃ k : Nat, k ≤ m ∧ i = .int .i64 k ∧ goodFrom W H xs 0 cs = goodFrom W H xs k (cs.drop k) ∧ Below W2.heap.size W2 wr) (fun i _ => m - (intOf i).toNat)
  case atStart => exact ⟨0, Nat.zero_le _, rfl, rfl, Below.refl _ _⟩
  case round =>
    obtain ⟨k, hk, rfl, hgf, hbw⟩ := hrel
    have HGF := Lib.hid hgf
    have b0 := cell_keep a0 al hbw; have b1 := cell_keep a1 al hbw; have b2 := cell_keep a2 al hbw
    have bl := lt_keep al hbw
    have HB := Lib.hid hbw
    have HW := Lib.hid (B.out.trans (hbw.mono B.out.size))
    clear hgf hbw
    by_cases hlt : k < m
    · obtain ⟨b1', o1, x, rfl, hl1, hx, hc1⟩ := HC.out.at_ hlt
      have HX := Lib.hid hx
      have x0 := cell_keep hc1 hl1 HW.out
      have hI := boHas_any W H A n c k xs wr (HA.out.keep HW.out) HN.out
      clear hx hc1 hl1
      obtain ⟨p, hp⟩ : ∃ p, p = hasB W H xs k := ⟨_, rfl⟩
      obtain ⟨q, hq⟩ : ∃ q, q = inB x 0 8 := ⟨_, rfl⟩
      rw [← hp] at hI
      have HP := Lib.hid hp; have HQ := Lib.hid hq
      clear hp
      gi_wp2
      refine ⟨trivial, (callsIn_wide.2 hI).mono ?_⟩
      rintro e w2 ⟨rfl, hb⟩
      replace b0 := cell_keep b0 bl hb; replace b1 := cell_keep b1 bl hb; replace b2 := cell_keep b2 bl hb
      replace bl := lt_keep bl hb
      replace HB := Lib.hid (HB.out.trans (hb.mono HB.out.size))
      replace HW := Lib.hid (HW.out.trans (hb.mono HW.out.size))
      clear hb hI x0
      gi_wp2
      refine ⟨trivial, (callsIn_wide.2 (l1In_any x 0 8 w2)).mono ?_⟩
      rw [← hq]
      rintro e w3 ⟨rfl, rfl⟩
      clear hq
      cases p with
      | true =>
        cases q with
        | true =>
          gi_wp2
          refine ⟨trivial, (callsIn_wide.2 (boHas_any W H A n c k xs _ (HA.out.keep HW.out) HN.out)).mono ?_⟩
          rw [← HP.out]
          rintro e w4 ⟨rfl, hb⟩
          replace HB := Lib.hid (HB.out.trans (hb.mono HB.out.size))
          replace HW := Lib.hid (HW.out.trans (hb.mono HW.out.size))
          clear hb
          gi_wp2
          go_roundw
          case rel => exact ⟨k + 1, by omega, by go_num, by rw [HGF.out, goodFrom_drop HX.out, show cellOk W H xs k x = true by rw [cellOk, ← HP.out]; exact HQ.out.symm]; rfl, HB.out⟩
          case measure => simp [intOf]; omega
        | false =>
          gi_wp2
          refine ⟨trivial, ?_⟩
          gi_wp2_with (rename_i h8 h9; exact undef_boolF h8)
          exact ⟨_, results_tmp rfl _ _ _, by rw [goodCols, HGF.out, goodFrom_drop HX.out, show cellOk W H xs k x = false by rw [cellOk, ← HP.out]; exact HQ.out.symm]; simp, HW.out⟩
      | false =>
        cases q with
        | true =>
          gi_wp2
          refine ⟨trivial, ?_⟩
          gi_wp2_with (rename_i h8 h9; exact undef_boolF h8)
          exact ⟨_, results_tmp rfl _ _ _, by rw [goodCols, HGF.out, goodFrom_drop HX.out, show cellOk W H xs k x = false by rw [cellOk, ← HP.out]; have := inB_iff.1 HQ.out.symm; simp; omega]; simp, HW.out⟩
        | false =>
          by_cases hx1 : x = -1
          · have hj : (x != -1) = false := by simpa using hx1
            gi_wp2
            refine ⟨trivial, (callsIn_wide.2 (boHas_any W H A n c k xs _ (HA.out.keep HW.out) HN.out)).mono ?_⟩
            rw [← HP.out]
            rintro e w4 ⟨rfl, hb⟩
            replace HB := Lib.hid (HB.out.trans (hb.mono HB.out.size))
            replace HW := Lib.hid (HW.out.trans (hb.mono HW.out.size))
            clear hb
            gi_wp2
            go_roundw
            case rel => exact ⟨k + 1, by omega, by go_num, by rw [HGF.out, goodFrom_drop HX.out, show cellOk W H xs k x = true by rw [cellOk, ← HP.out]; simpa using hx1]; rfl, HB.out⟩
            case measure => simp [intOf]; omega
          · have hj : (x != -1) = true := by simpa using hx1
            gi_wp2
            refine ⟨trivial, (callsIn_wide.2 (boHas_any W H A n c k xs _ (HA.out.keep HW.out) HN.out)).mono ?_⟩
            rw [← HP.out]
            rintro e w4 ⟨rfl, hb⟩
            replace HB := Lib.hid (HB.out.trans (hb.mono HB.out.size))
            replace HW := Lib.hid (HW.out.trans (hb.mono HW.out.size))
            clear hb
            gi_wp2
            exact ⟨_, results_tmp rfl _ _ _, by rw [goodCols, HGF.out, goodFrom_drop HX.out, show cellOk W H xs k x = false by rw [cellOk, ← HP.out]; simpa using hx1]; simp, HW.out⟩
    · have hkm : k = m := by omega
      subst hkm
      have hgood : goodCols W H xs cs = true := by rw [goodCols, HGF.out, List.drop_of_length_le (by have := HML.out; omega)]; have := HLEN.out; have := HML.out; simp [goodFrom]; omega
      gi_wp2
      exact ⟨_, results_tmp rfl _ _ _, by rw [hgood]; rfl, HW.out⟩

end Go.Proofs.Ytbpgkigoboobeaa
