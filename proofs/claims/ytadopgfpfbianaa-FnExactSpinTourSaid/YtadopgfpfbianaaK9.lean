/-
  Contracts: SpinTour.
-/
import Derived.Test.YtadopgfpfbianaaK5
import Derived.Test.YtadopgfpfbianaaK8
import Derived.Test.YtadopgfpfbianaaK9a
namespace Go.Proofs.Ytadopgfpfbianaa
open Go.RowKit

/-- append of a part of a list as one step of a region that draws. -/
def okSpin (W H : Int) (xs : List Int) (a b : Int) (ps : List Int) (k : Int) : Bool := twoV W H xs a b && closedB W H xs a b ps && inB k 0 ((ps.length : Int) - 1)
def spinV (W H : Int) (xs : List Int) (a b : Int) (ps : List Int) (k : Int) : List Int := if okSpin W H xs a b ps k then ps.drop k.toNat ++ ps.take k.toNat else []
theorem len_SpinTour (W H : Int) (xs : List Int) (a b : Int) (ps : List Int) (k : Int) : (spinV W H xs a b ps k).length ≤ 1000000 := by
  unfold spinV
  split
  · rename_i h
    simp only [okSpin, Bool.and_eq_true, closedB] at h
    have := path_len (walk_path (tour_walk h.1.2.1.2))
    simp; omega
  · simp
theorem closed_path {W H a b : Int} {hs ps : List Int} (h : closedB W H hs a b ps = true) : pathB W H hs a b ps = true ∧ 3 ≤ ps.length := by
  simp only [closedB, Bool.and_eq_true, decide_eq_true_eq] at h
  exact ⟨walk_path (tour_walk h.1.2), h.1.1⟩

set_option maxRecDepth 100000 in
set_option maxHeartbeats 4000000 in
theorem spec_SpinTour (W H : Int) (A : Option Addr) (n c : Nat) (xs : List Int) (a b : Int) (A2 : Option Addr) (m c2 : Nat) (ps : List Int) (q : Int) (w : World) (ha : Rd w A n xs) (hp : Rd w A2 m ps) (hcap : m ≤ c2) :
    Calls Try.prog 37 #[brd W H A n c, lpr a b, .slice A2 m c2, .int .i64 q] w fun e w' => ∃ A' n' c', e = .returned (.tuple #[.slice A' n' c', .bool (okSpin W H xs a b ps q)]) ∧ OwnI 3 w' w.heap.size A' n' c' (spinV W H xs a b ps q) ∧ Below w.heap.size w w' := by
  have HPL := Lib.hid hp.1
  have m9 := hp.2.1
  by_cases ht : twoV W H xs a b = true
  · by_cases hq : closedB W H xs a b ps = true
    · by_cases hk : inB q 0 ((m : Int) - 1) = true
      · go_enter Try.func37, Try.ntmps37
        go_wp2_with fail
        refine (boTwoV_any _ _ _ _ _ _ _ _ _ ((ha.alloc _).alloc _)).mono ?_
        rw [ht]
        rintro e wv ⟨rfl, hb⟩
        have hbx0 := below_box hb
        have a0 : wv.cell? ⟨w.heap.size, 0, none⟩ = some (.int .i64 W) := by simpa using newbox hbx0 0
        have a1 : wv.cell? ⟨w.heap.size, 1, none⟩ = some (.int .i64 H) := by simpa using newbox hbx0 1
        have a2 : wv.cell? ⟨w.heap.size, 2, none⟩ = some (.slice A n c) := by simpa using newbox hbx0 2
        have al : w.heap.size < wv.heap.size := by simpa using newbox_lt hbx0
        have l0 : wv.cell? ⟨w.heap.size + 1, 0, none⟩ = some (.int .i64 a) := by simpa using newbox hb 0
        have l1 : wv.cell? ⟨w.heap.size + 1, 1, none⟩ = some (.int .i64 b) := by simpa using newbox hb 1
        have ll : w.heap.size + 1 < wv.heap.size := by simpa using newbox_lt hb
        have B := Lib.hid (below_box hbx0)
        clear hb hbx0
        go_wp2_with fail
        refine (toClosed_any W H A n c xs a b A2 m c2 ps _ (ha.keep B.out) (hp.keep B.out) hcap (two_gK ht)).mono ?_
        rw [hq]
        rintro e wv ⟨rfl, hb⟩
        replace a0 := cell_keep a0 al hb
        replace a1 := cell_keep a1 al hb
        replace a2 := cell_keep a2 al hb
        replace al := lt_keep al hb
        replace l0 := cell_keep l0 ll hb
        replace l1 := cell_keep l1 ll hb
        replace ll := lt_keep ll hb
        replace B := Lib.hid (below_next B.out hb)
        clear hb
        go_wp2_with fail
        refine (l1In_any q 0 ((m : Int) - 1) _).mono ?_
        rw [hk]
        rintro e wv ⟨rfl, rfl⟩
        have OK := Lib.hid (show okSpin W H xs a b ps q = true by rw [okSpin, ht, hq, HPL.out, hk]; rfl)
        have HC := closed_path hq
        have hpl := path_len HC.1
        have hm3 := HC.2
        rw [HPL.out] at hpl hm3
        simp only [inB, decide_eq_true_eq] at hk
        obtain ⟨hk1, hk2⟩ := hk
        obtain ⟨k, rfl⟩ : ∃ k : Nat, q = (k : Int) := ⟨q.toNat, by omega⟩
        have RP := Lib.hid (hp.keep B.out)
        obtain ⟨bb, oo, x, rfl, lz, -, -⟩ := RP.out.at_ (k := 0) (by omega)
        have hkm : k ≤ m := by omega
        have RD := Lib.hid (RP.out.drop hkm)
        have RT := Lib.hid (RP.out.take hkm)
        clear hq ht HC a0 a1 a2 l0 l1 al ll lz
        have hkc : (k : Int) ≤ (c2 : Int) := by omega
        have hkm2 : (k : Int) ≤ (m : Int) := by omega
        have hmc : (m : Int) ≤ (c2 : Int) := by omega
        have hck : ¬ c2 = k := by omega
        have hO1 := RT.out.1
        have hdm : (ps.drop k).length = m - k := RD.out.1
        obtain ⟨i0, hi, hz0, hz1, hz2⟩ := info_parts infoI
        have HI := Lib.hid hi; have HZ0 := Lib.hid hz0; have HZ1 := Lib.hid hz1; have HZ2 := Lib.hid hz2
        have HTL := Lib.hid hO1
        clear hi hz0 hz1 hz2 hO1 hdm
        go_wp2_with fail
        refine wp_region_held_drew (S := fun w' => True) (by kernel_rfl) ?_ (fun hHeld => ?_)
        · exact trivial
        refine wpAnyH_take (i := 0) (oi := ⟨_, _, _, _, _, _⟩) (v := ?_) rfl (by kernel_rfl) (by kernel_rfl) (by kernel_rfl) (fun _ _ _ h => h) (Or.inl ⟨by rfl, ?_⟩) (by assumption) ?_
        rotate_left
        · intro w hSw
          (try dsimp only at hSw)
          go_simp
          (try with_reducible rfl)
        (try simp only [Act.put, List.setIfInBounds_toArray, List.set_cons_zero, List.set_cons_succ])
        refine wpAnyH_take (i := 1) (oi := ⟨_, _, _, _, _, _⟩) (v := ?_) rfl (by kernel_rfl) (by kernel_rfl) (by kernel_rfl) (fun _ _ _ h => h) (Or.inl ⟨by rfl, ?_⟩) (by assumption) ?_
        rotate_left
        · intro w hSw
          (try dsimp only at hSw)
          go_simp
          (try with_reducible rfl)
        (try simp only [Act.put, List.setIfInBounds_toArray, List.set_cons_zero, List.set_cons_succ])
        refine wpAnyH_take (i := 2) (oi := ⟨_, _, _, _, _, _⟩) (v := ?_) rfl (by kernel_rfl) (by kernel_rfl) (by kernel_rfl) (fun _ _ _ h => h) (Or.inl ⟨by rfl, ?_⟩) (by assumption) ?_
        rotate_left
        · intro w hSw
          (try dsimp only at hSw)
          go_simp
          (try with_reducible rfl)
        (try simp only [Act.put, List.setIfInBounds_toArray, List.set_cons_zero, List.set_cons_succ])
        refine wpAnyH_take (i := 4) (oi := ⟨_, _, _, _, _, _⟩) (v := ?_) rfl (by kernel_rfl) (by kernel_rfl) (by kernel_rfl) (fun _ _ _ h => h) (Or.inl ⟨by rfl, ?_⟩) (by assumption) ?_
        rotate_left
        · intro w hSw
          (try dsimp only at hSw)
          go_simp
          (try with_reducible rfl)
        (try simp only [Act.put, List.setIfInBounds_toArray, List.set_cons_zero, List.set_cons_succ])
        refine wpAnyH_take (i := 5) (oi := ⟨_, _, _, _, _, _⟩) (v := ?_) rfl (by kernel_rfl) (by kernel_rfl) (by kernel_rfl) (fun _ _ _ h => h) (Or.inl ⟨by rfl, ?_⟩) (by assumption) ?_
        rotate_left
        · intro w hSw
          (try dsimp only at hSw)
          go_simp
          (try with_reducible rfl)
        (try simp only [Act.put, List.setIfInBounds_toArray, List.set_cons_zero, List.set_cons_succ])
        refine wpAnyH_take (i := 6) (oi := ⟨_, _, _, _, _, _⟩) (v := ?_) rfl (by kernel_rfl) (by kernel_rfl) (by kernel_rfl) (fun _ _ _ h => h) (Or.inl ⟨by rfl, ?_⟩) (by assumption) ?_
        rotate_left
        · intro w hSw
          (try dsimp only at hSw)
          go_simp
          (try with_reducible rfl)
        (try simp only [Act.put, List.setIfInBounds_toArray, List.set_cons_zero, List.set_cons_succ])
        refine wpAnyH_ready (rs := [3]) (by kernel_rfl) (by simp) ?_
        refine AllReadyH.cons (o := ⟨_, _, _, _, _, _⟩) rfl (fun K hK => ?_) AllReadyH.nil
        go_simp
        (go_at_call 77; refine (l1Own_any _ _ _ (ps.drop k) _ ?_ ?_).mono ?_; (first | exact RD.out | exact RD.out.drew1 | exact RD.out.drewN _); (omega); rintro e wx ⟨A9, c9, rfl, own, hb⟩; (repeat (first | replace hb := below_undrew hb | replace hb := below_undrewN hb)); have O9 := Lib.hid (own.lower (show wv.heap.size ≤ _ by simp)); have RT2 := Lib.hid (RT.out.keep hb); have HB := Lib.hid hb; have hsz := hb.size; clear own hb RT)
        (try go_wp2_with fail)
        refine hK.out _ _ ?_ (fun hHeld => ?_)
        · exact trivial
        clear hK K
        (try simp only [Act.put, List.setIfInBounds_toArray, List.set_cons_zero, List.set_cons_succ])
        refine wpAnyH_ready (rs := [7]) (by kernel_rfl) (by simp) ?_
        refine AllReadyH.cons (o := ⟨_, _, _, _, _, _⟩) rfl (fun K hK => ?_) AllReadyH.nil
        (refine step_appN rfl (.tmp 32) (.tmp 35) 22 3 rfl i0 Try.underlying22 HI.out HZ0.out HZ1.out HZ2.out wv.heap.size A9 (m - k) c9 (ps.drop k) ⟨bb, oo, none⟩ k c2 (ps.take k) rfl O9.out rfl HTL.out (fun j y hj => RT2.out.cell_ hj) (by omega) hsz ?_; intro A7 c7 w7 hown7 hb7; have O7 := Lib.hid hown7; have HB7 := Lib.hid (HB.out.trans hb7); clear hown7 hb7)
        refine hK.out _ _ ?_ (fun hHeld => ?_)
        · exact trivial
        clear hK K
        (try simp only [Act.put, List.setIfInBounds_toArray, List.set_cons_zero, List.set_cons_succ])
        refine wpAnyH_take (i := 8) (oi := ⟨_, _, _, _, _, _⟩) (v := ?_) rfl (by kernel_rfl) (by kernel_rfl) (by kernel_rfl) (fun _ _ _ h => h) (Or.inl ⟨by rfl, ?_⟩) (by assumption) ?_
        rotate_left
        · intro w hSw
          (try dsimp only at hSw)
          go_simp
          (try with_reducible rfl)
        (try simp only [Act.put, List.setIfInBounds_toArray, List.set_cons_zero, List.set_cons_succ])
        refine wpAnyH_take (i := 9) (oi := ⟨_, _, _, _, _, _⟩) (v := ?_) rfl (by kernel_rfl) (by kernel_rfl) (by kernel_rfl) (fun _ _ _ h => h) (Or.inl ⟨by rfl, ?_⟩) (by assumption) ?_
        rotate_left
        · intro w hSw
          (try dsimp only at hSw)
          go_simp
          (try with_reducible rfl)
        (try simp only [Act.put, List.setIfInBounds_toArray, List.set_cons_zero, List.set_cons_succ])
        refine wpAnyH_done (by kernel_rfl) ?_ _
        all_goals go_wp2
        all_goals go_ret2
        all_goals exact ⟨A7, m, c7, by rw [OK.out]; rfl, by rw [spinV, if_pos OK.out, Int.toNat_natCast]; have h := O7.out; rw [Nat.sub_add_cancel hkm] at h; exact h.lower B.out.size, B.out.trans (HB7.out.mono B.out.size)⟩
      · have hk' : inB q 0 ((m : Int) - 1) = false := by simpa using hk
        go_enter Try.func37, Try.ntmps37
        go_wp2_with fail
        refine (boTwoV_any _ _ _ _ _ _ _ _ _ ((ha.alloc _).alloc _)).mono ?_
        rw [ht]
        rintro e wv ⟨rfl, hb⟩
        have hbx0 := below_box hb
        have a0 : wv.cell? ⟨w.heap.size, 0, none⟩ = some (.int .i64 W) := by simpa using newbox hbx0 0
        have a1 : wv.cell? ⟨w.heap.size, 1, none⟩ = some (.int .i64 H) := by simpa using newbox hbx0 1
        have a2 : wv.cell? ⟨w.heap.size, 2, none⟩ = some (.slice A n c) := by simpa using newbox hbx0 2
        have al : w.heap.size < wv.heap.size := by simpa using newbox_lt hbx0
        have l0 : wv.cell? ⟨w.heap.size + 1, 0, none⟩ = some (.int .i64 a) := by simpa using newbox hb 0
        have l1 : wv.cell? ⟨w.heap.size + 1, 1, none⟩ = some (.int .i64 b) := by simpa using newbox hb 1
        have ll : w.heap.size + 1 < wv.heap.size := by simpa using newbox_lt hb
        have B := Lib.hid (below_box hbx0)
        clear hb hbx0
        go_wp2_with fail
        refine (toClosed_any W H A n c xs a b A2 m c2 ps _ (ha.keep B.out) (hp.keep B.out) hcap (two_gK ht)).mono ?_
        rw [hq]
        rintro e wv ⟨rfl, hb⟩
        replace a0 := cell_keep a0 al hb
        replace a1 := cell_keep a1 al hb
        replace a2 := cell_keep a2 al hb
        replace al := lt_keep al hb
        replace l0 := cell_keep l0 ll hb
        replace l1 := cell_keep l1 ll hb
        replace ll := lt_keep ll hb
        replace B := Lib.hid (below_next B.out hb)
        clear hb
        go_wp2_with fail
        refine (l1In_any q 0 ((m : Int) - 1) _).mono ?_
        rw [hk']
        rintro e wv ⟨rfl, rfl⟩
        go_wp2
        go_ret2
        exact ⟨none, 0, 0, by rw [show okSpin W H xs a b ps q = false by (rw [okSpin, HPL.out, hk', Bool.and_false])]; rfl, by rw [spinV, if_neg (by rw [show okSpin W H xs a b ps q = false by (rw [okSpin, HPL.out, hk', Bool.and_false])]; simp)]; exact OwnI.none_ _ _ _, B.out⟩
    · have hq' : closedB W H xs a b ps = false := by simpa using hq
      go_enter Try.func37, Try.ntmps37
      go_wp2_with fail
      refine (boTwoV_any _ _ _ _ _ _ _ _ _ ((ha.alloc _).alloc _)).mono ?_
      rw [ht]
      rintro e wv ⟨rfl, hb⟩
      have hbx0 := below_box hb
      have a0 : wv.cell? ⟨w.heap.size, 0, none⟩ = some (.int .i64 W) := by simpa using newbox hbx0 0
      have a1 : wv.cell? ⟨w.heap.size, 1, none⟩ = some (.int .i64 H) := by simpa using newbox hbx0 1
      have a2 : wv.cell? ⟨w.heap.size, 2, none⟩ = some (.slice A n c) := by simpa using newbox hbx0 2
      have al : w.heap.size < wv.heap.size := by simpa using newbox_lt hbx0
      have l0 : wv.cell? ⟨w.heap.size + 1, 0, none⟩ = some (.int .i64 a) := by simpa using newbox hb 0
      have l1 : wv.cell? ⟨w.heap.size + 1, 1, none⟩ = some (.int .i64 b) := by simpa using newbox hb 1
      have ll : w.heap.size + 1 < wv.heap.size := by simpa using newbox_lt hb
      have B := Lib.hid (below_box hbx0)
      clear hb hbx0
      go_wp2_with fail
      refine (toClosed_any W H A n c xs a b A2 m c2 ps _ (ha.keep B.out) (hp.keep B.out) hcap (two_gK ht)).mono ?_
      rw [hq']
      rintro e wv ⟨rfl, hb⟩
      replace a0 := cell_keep a0 al hb
      replace a1 := cell_keep a1 al hb
      replace a2 := cell_keep a2 al hb
      replace al := lt_keep al hb
      replace l0 := cell_keep l0 ll hb
      replace l1 := cell_keep l1 ll hb
      replace ll := lt_keep ll hb
      replace B := Lib.hid (below_next B.out hb)
      clear hb
      go_wp2
      go_ret2
      exact ⟨none, 0, 0, by rw [show okSpin W H xs a b ps q = false by (rw [okSpin, hq', Bool.and_false]; rfl)]; rfl, by rw [spinV, if_neg (by rw [show okSpin W H xs a b ps q = false by (rw [okSpin, hq', Bool.and_false]; rfl)]; simp)]; exact OwnI.none_ _ _ _, B.out⟩
  · have ht' : twoV W H xs a b = false := by simpa using ht
    go_enter Try.func37, Try.ntmps37
    go_wp2_with fail
    refine (boTwoV_any _ _ _ _ _ _ _ _ _ ((ha.alloc _).alloc _)).mono ?_
    rw [ht']
    rintro e wv ⟨rfl, hb⟩
    have hbx0 := below_box hb
    have a0 : wv.cell? ⟨w.heap.size, 0, none⟩ = some (.int .i64 W) := by simpa using newbox hbx0 0
    have a1 : wv.cell? ⟨w.heap.size, 1, none⟩ = some (.int .i64 H) := by simpa using newbox hbx0 1
    have a2 : wv.cell? ⟨w.heap.size, 2, none⟩ = some (.slice A n c) := by simpa using newbox hbx0 2
    have al : w.heap.size < wv.heap.size := by simpa using newbox_lt hbx0
    have l0 : wv.cell? ⟨w.heap.size + 1, 0, none⟩ = some (.int .i64 a) := by simpa using newbox hb 0
    have l1 : wv.cell? ⟨w.heap.size + 1, 1, none⟩ = some (.int .i64 b) := by simpa using newbox hb 1
    have ll : w.heap.size + 1 < wv.heap.size := by simpa using newbox_lt hb
    have B := Lib.hid (below_box hbx0)
    clear hb hbx0
    go_wp2
    go_ret2
    exact ⟨none, 0, 0, by rw [show okSpin W H xs a b ps q = false by (rw [okSpin, ht']; rfl)]; rfl, by rw [spinV, if_neg (by rw [show okSpin W H xs a b ps q = false by (rw [okSpin, ht']; rfl)]; simp)]; exact OwnI.none_ _ _ _, B.out⟩

end Go.Proofs.Ytadopgfpfbianaa
