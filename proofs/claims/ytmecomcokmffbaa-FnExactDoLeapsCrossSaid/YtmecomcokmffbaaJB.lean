/-
  Contracts: DoLeapsCross, in the model.
-/
import Derived.Test.YtmecomcokmffbaaJA
namespace Go.Proofs.Ytmecomcokmffbaa
open Go.RowKit

set_option maxRecDepth 100000 in
set_option maxHeartbeats 2000000 in
theorem spec_DoLeapsCross (W H : Int) (A : Option Addr) (n c : Nat) (xs : List Int) (a b : Int) (A2 : Option Addr) (m c2 : Nat) (ps : List Int) (A3 : Option Addr) (m3 c3 : Nat) (qs : List Int) (w : World) (ha : Rd w A n xs) (hp : Rd w A2 m ps) (hq : Rd w A3 m3 qs) :
    Calls Try.prog 12 #[brd W H A n c, lpr a b, .slice A2 m c2, .slice A3 m3 c3] w fun e w' => e = .returned (.tuple #[.bool (doV W H xs a b ps qs), .bool (okDo W H xs a b ps qs)]) ∧ Below w.heap.size w w' := by
  by_cases ht : twoV W H xs a b = true
  · by_cases hk1 : (lenB2 ps && pathB W H xs a b ps) = true
    · by_cases hk2 : (lenB2 qs && pathB W H xs a b qs) = true
      · go_enter Try.func12, Try.ntmps12
        go_wp2_with fail
        refine (boTwoV_any _ _ _ _ _ _ _ _ _ ((ha.alloc _).alloc _)).mono ?_
        rw [ht]
        rintro e wv ⟨rfl, hb⟩
        have hbx0 := below_box hb
        have a0 : wv.cell? ⟨w.heap.size, 0, none⟩ = some (.int .i64 W) := by simpa using newbox hbx0 0
        have a1 : wv.cell? ⟨w.heap.size, 1, none⟩ = some (.int .i64 H) := by simpa using newbox hbx0 1
        have a2 : wv.cell? ⟨w.heap.size, 2, none⟩ = some (.slice A n c) := by simpa using newbox hbx0 2
        have al : w.heap.size < wv.heap.size := by simpa using newbox_lt hbx0
        have l0 : wv.cell? ⟨w.heap.size + 1, 0, none⟩ = some (.int .i64 a) := by simpa using newbox hb 0
        have l1 : wv.cell? ⟨w.heap.size + 1, 1, none⟩ = some (.int .i64 b) := by simpa using newbox hb 1
        have ll : w.heap.size + 1 < wv.heap.size := by simpa using newbox_lt hb
        have B := Lib.hid (below_box hbx0)
        clear hb hbx0
        go_wp2_with fail
        refine (crLeap_any W H A n c xs a b A2 m c2 ps _ (ha.keep B.out) (hp.keep B.out) (two_gK ht)).mono ?_
        rw [hk1]
        rintro e wv ⟨rfl, hb⟩
        replace a0 := cell_keep a0 al hb
        replace a1 := cell_keep a1 al hb
        replace a2 := cell_keep a2 al hb
        replace al := lt_keep al hb
        replace l0 := cell_keep l0 ll hb
        replace l1 := cell_keep l1 ll hb
        replace ll := lt_keep ll hb
        replace B := Lib.hid (below_next B.out hb)
        clear hb
        go_wp2_with fail
        refine (crLeap_any W H A n c xs a b A3 m3 c3 qs _ (ha.keep B.out) (hq.keep B.out) (two_gK ht)).mono ?_
        rw [hk2]
        rintro e wv ⟨rfl, hb⟩
        replace a0 := cell_keep a0 al hb
        replace a1 := cell_keep a1 al hb
        replace a2 := cell_keep a2 al hb
        replace al := lt_keep al hb
        replace l0 := cell_keep l0 ll hb
        replace l1 := cell_keep l1 ll hb
        replace ll := lt_keep ll hb
        replace B := Lib.hid (below_next B.out hb)
        clear hb
        have K1 := hk1; have K2 := hk2
        have HT := Lib.hid ht
        have HPP := Lib.hid (show pathB W H xs a b ps = true by simp only [Bool.and_eq_true] at hk1; exact hk1.2)
        have HQQ := Lib.hid (show pathB W H xs a b qs = true by simp only [Bool.and_eq_true] at hk2; exact hk2.2)
        have HP64 := Lib.hid (path_64 (two_gK HT.out) HPP.out); have HQ64 := Lib.hid (path_64 (two_gK HT.out) HQQ.out)
        have HW := Lib.hid (goodB_iff.1 (two_gK HT.out)).1
        have HOK := Lib.hid (show okDo W H xs a b ps qs = true by rw [okDo, ht, hk1, hk2]; rfl)
        have RP := hp.keep B.out; have RQ := hq.keep B.out
        have hm : m = 2 := by rw [← hp.1]; exact lenB2_of (by simp only [Bool.and_eq_true] at K1; exact K1.1)
        have hm3 : m3 = 2 := by rw [← hq.1]; exact lenB2_of (by simp only [Bool.and_eq_true] at K2; exact K2.1)
        subst hm hm3
        obtain ⟨b1, o1, x, rfl, g1, hx, x0⟩ := RP.at_ (k := 0) (by omega)
        obtain ⟨b2, o2, y, he2, -, hy, y0⟩ := RP.at_ (k := 1) (by omega)
        obtain ⟨b3, o3, u, rfl, g3, hu, u0⟩ := RQ.at_ (k := 0) (by omega)
        obtain ⟨b4, o4, v, he4, -, hv, v0⟩ := RQ.at_ (k := 1) (by omega)
        injection he2 with he2
        injection he2 with e1 e2 _
        subst e1 e2
        injection he4 with he4
        injection he4 with e1 e2 _
        subst e1 e2
        rw [Nat.add_zero] at x0 u0
        have HX := Lib.hid hx; have HY := Lib.hid hy; have HU := Lib.hid hu; have HV := Lib.hid hv
        have HX64 := Lib.hid (show 0 ≤ x ∧ x ≤ 64 by have := HP64.out x (List.mem_of_getElem? hx); omega); have HY64 := Lib.hid (show 0 ≤ y ∧ y ≤ 64 by have := HP64.out y (List.mem_of_getElem? hy); omega)
        have HU64 := Lib.hid (show 0 ≤ u ∧ u ≤ 64 by have := HQ64.out u (List.mem_of_getElem? hu); omega); have HV64 := Lib.hid (show 0 ≤ v ∧ v ≤ 64 by have := HQ64.out v (List.mem_of_getElem? hv); omega)
        have HDO := Lib.hid (show doV W H xs a b ps qs = doB W x y u v by rw [doV, HOK.out, List.getD_eq_getElem?_getD, List.getD_eq_getElem?_getD, List.getD_eq_getElem?_getD, List.getD_eq_getElem?_getD, hx, hy, hu, hv]; rfl)
        clear ht hk1 hk2 K1 K2 hx hy hu hv ha hp hq RP RQ l0 l1 ll
        go_wp2_with fail
        refine wp_region_held_drew (S := fun w' => w'.cell? ⟨w.heap.size, 0, none⟩ = some (.int .i64 W) ∧ w'.cell? ⟨w.heap.size, 1, none⟩ = some (.int .i64 H) ∧ w'.cell? ⟨w.heap.size, 2, none⟩ = some (.slice A n c) ∧ w'.cell? ⟨b1, o1, none⟩ = some (.int .i64 x) ∧ w'.cell? ⟨b1, o1 + 1, none⟩ = some (.int .i64 y) ∧ w'.cell? ⟨b3, o3, none⟩ = some (.int .i64 u) ∧ w'.cell? ⟨b3, o3 + 1, none⟩ = some (.int .i64 v)) (by kernel_rfl) ?_ (fun hHeld => ?_)
        · (try dsimp only)
          exact ⟨a0, a1, a2, x0, y0, u0, v0⟩
        refine wpAnyH_take (i := 0) (oi := ⟨_, _, _, _, _, _⟩) (v := ?_) rfl (by kernel_rfl) (by kernel_rfl) (by kernel_rfl) (fun _ _ _ h => h) (Or.inl ⟨by rfl, ?_⟩) (by assumption) ?_
        rotate_left
        · intro w hSw
          (try dsimp only at hSw)
          go_simp
          (try with_reducible rfl)
        (try simp only [Act.put, List.setIfInBounds_toArray, List.set_cons_zero, List.set_cons_succ])
        refine wpAnyH_take (i := 1) (oi := ⟨_, _, _, _, _, _⟩) (v := ?_) rfl (by kernel_rfl) (by kernel_rfl) (by kernel_rfl) (fun _ _ _ h => h) (Or.inl ⟨by rfl, ?_⟩) (by assumption) ?_
        rotate_left
        · intro w hSw
          (try dsimp only at hSw)
          go_simp
          (try with_reducible rfl)
        (try simp only [Act.put, List.setIfInBounds_toArray, List.set_cons_zero, List.set_cons_succ])
        refine wpAnyH_take (i := 2) (oi := ⟨_, _, _, _, _, _⟩) (v := ?_) rfl (by kernel_rfl) (by kernel_rfl) (by kernel_rfl) (fun _ _ _ h => h) (Or.inl ⟨by rfl, ?_⟩) (by assumption) ?_
        rotate_left
        · intro w hSw
          (try dsimp only at hSw)
          go_simp
          (try with_reducible rfl)
        (try simp only [Act.put, List.setIfInBounds_toArray, List.set_cons_zero, List.set_cons_succ])
        refine wpAnyH_take (i := 3) (oi := ⟨_, _, _, _, _, _⟩) (v := ?_) rfl (by kernel_rfl) (by kernel_rfl) (by kernel_rfl) (fun _ _ _ h => h) (Or.inl ⟨by rfl, ?_⟩) (by assumption) ?_
        rotate_left
        · intro w hSw
          (try dsimp only at hSw)
          go_simp
          (try with_reducible rfl)
        (try simp only [Act.put, List.setIfInBounds_toArray, List.set_cons_zero, List.set_cons_succ])
        refine wpAnyH_take (i := 4) (oi := ⟨_, _, _, _, _, _⟩) (v := ?_) rfl (by kernel_rfl) (by kernel_rfl) (by kernel_rfl) (fun _ _ _ h => h) (Or.inl ⟨by rfl, ?_⟩) (by assumption) ?_
        rotate_left
        · intro w hSw
          (try dsimp only at hSw)
          go_simp
          (try with_reducible rfl)
        (try simp only [Act.put, List.setIfInBounds_toArray, List.set_cons_zero, List.set_cons_succ])
        refine wpAnyH_take (i := 5) (oi := ⟨_, _, _, _, _, _⟩) (v := ?_) rfl (by kernel_rfl) (by kernel_rfl) (by kernel_rfl) (fun _ _ _ h => h) (Or.inl ⟨by rfl, ?_⟩) (by assumption) ?_
        rotate_left
        · intro w hSw
          (try dsimp only at hSw)
          go_simp
          (try with_reducible rfl)
        (try simp only [Act.put, List.setIfInBounds_toArray, List.set_cons_zero, List.set_cons_succ])
        refine wpAnyH_take (i := 6) (oi := ⟨_, _, _, _, _, _⟩) (v := ?_) rfl (by kernel_rfl) (by kernel_rfl) (by kernel_rfl) (fun _ _ _ h => h) (Or.inl ⟨by rfl, ?_⟩) (by assumption) ?_
        rotate_left
        · intro w hSw
          (try dsimp only at hSw)
          go_simp
          (try with_reducible rfl)
        (try simp only [Act.put, List.setIfInBounds_toArray, List.set_cons_zero, List.set_cons_succ])
        refine wpAnyH_take (i := 7) (oi := ⟨_, _, _, _, _, _⟩) (v := ?_) rfl (by kernel_rfl) (by kernel_rfl) (by kernel_rfl) (fun _ _ _ h => h) (Or.inl ⟨by rfl, ?_⟩) (by assumption) ?_
        rotate_left
        · intro w hSw
          (try dsimp only at hSw)
          go_simp
          (try with_reducible rfl)
        (try simp only [Act.put, List.setIfInBounds_toArray, List.set_cons_zero, List.set_cons_succ])
        refine wpAnyH_take (i := 8) (oi := ⟨_, _, _, _, _, _⟩) (v := ?_) rfl (by kernel_rfl) (by kernel_rfl) (by kernel_rfl) (fun _ _ _ h => h) (Or.inl ⟨by rfl, ?_⟩) (by assumption) ?_
        rotate_left
        · intro w hSw
          (try dsimp only at hSw)
          go_simp
          (try with_reducible rfl)
        (try simp only [Act.put, List.setIfInBounds_toArray, List.set_cons_zero, List.set_cons_succ])
        refine wpAnyH_take (i := 9) (oi := ⟨_, _, _, _, _, _⟩) (v := ?_) rfl (by kernel_rfl) (by kernel_rfl) (by kernel_rfl) (fun _ _ _ h => h) (Or.inl ⟨by rfl, ?_⟩) (by assumption) ?_
        rotate_left
        · intro w hSw
          (try dsimp only at hSw)
          go_simp
          (try with_reducible rfl)
        (try simp only [Act.put, List.setIfInBounds_toArray, List.set_cons_zero, List.set_cons_succ])
        refine wpAnyH_take (i := 10) (oi := ⟨_, _, _, _, _, _⟩) (v := ?_) rfl (by kernel_rfl) (by kernel_rfl) (by kernel_rfl) (fun _ _ _ h => h) (Or.inl ⟨by rfl, ?_⟩) (by assumption) ?_
        rotate_left
        · intro w hSw
          (try dsimp only at hSw)
          go_simp
          (try with_reducible rfl)
        (try simp only [Act.put, List.setIfInBounds_toArray, List.set_cons_zero, List.set_cons_succ])
        refine wpAnyH_take (i := 11) (oi := ⟨_, _, _, _, _, _⟩) (v := ?_) rfl (by kernel_rfl) (by kernel_rfl) (by kernel_rfl) (fun _ _ _ h => h) (Or.inl ⟨by rfl, ?_⟩) (by assumption) ?_
        rotate_left
        · intro w hSw
          (try dsimp only at hSw)
          go_simp
          (try with_reducible rfl)
        (try simp only [Act.put, List.setIfInBounds_toArray, List.set_cons_zero, List.set_cons_succ])
        refine wpAnyH_take (i := 12) (oi := ⟨_, _, _, _, _, _⟩) (v := ?_) rfl (by kernel_rfl) (by kernel_rfl) (by kernel_rfl) (fun _ _ _ h => h) (Or.inl ⟨by rfl, ?_⟩) (by assumption) ?_
        rotate_left
        · intro w hSw
          (try dsimp only at hSw)
          go_simp
          (try with_reducible rfl)
        (try simp only [Act.put, List.setIfInBounds_toArray, List.set_cons_zero, List.set_cons_succ])
        refine wpAnyH_ready (rs := [13]) (by kernel_rfl) (by simp) ?_
        refine AllReadyH.cons (o := ⟨_, _, _, _, _, _⟩) rfl (fun K hK => ?_) AllReadyH.nil
        go_simp
        (go_at_call 39; refine (crDo_any W H A n c x y u v _ HW.out HX64.out HY64.out HU64.out HV64.out).mono ?_; rintro e wx ⟨rfl, hb⟩; (repeat (first | replace hb := below_undrew hb | replace hb := below_undrewN hb)); replace a0 := cell_keep a0 al hb; replace a1 := cell_keep a1 al hb; replace a2 := cell_keep a2 al hb; replace al := lt_keep al hb; replace x0 := cell_keep x0 g1 hb; replace y0 := cell_keep y0 g1 hb; replace g1 := lt_keep g1 hb; replace u0 := cell_keep u0 g3 hb; replace v0 := cell_keep v0 g3 hb; replace g3 := lt_keep g3 hb; replace B := Lib.hid (below_next B.out hb); clear hb)
        (try go_wp2_with fail)
        refine hK.out _ _ ?_ (fun hHeld => ?_)
        · (try dsimp only)
          exact ⟨a0, a1, a2, x0, y0, u0, v0⟩
        clear hK K
        (try simp only [Act.put, List.setIfInBounds_toArray, List.set_cons_zero, List.set_cons_succ])
        refine wpAnyH_take (i := 14) (oi := ⟨_, _, _, _, _, _⟩) (v := ?_) rfl (by kernel_rfl) (by kernel_rfl) (by kernel_rfl) (fun _ _ _ h => h) (Or.inl ⟨by rfl, ?_⟩) (by assumption) ?_
        rotate_left
        · intro w hSw
          (try dsimp only at hSw)
          go_simp
          (try with_reducible rfl)
        (try simp only [Act.put, List.setIfInBounds_toArray, List.set_cons_zero, List.set_cons_succ])
        refine wpAnyH_take (i := 15) (oi := ⟨_, _, _, _, _, _⟩) (v := ?_) rfl (by kernel_rfl) (by kernel_rfl) (by kernel_rfl) (fun _ _ _ h => h) (Or.inl ⟨by rfl, ?_⟩) (by assumption) ?_
        rotate_left
        · intro w hSw
          (try dsimp only at hSw)
          go_simp
          (try with_reducible rfl)
        (try simp only [Act.put, List.setIfInBounds_toArray, List.set_cons_zero, List.set_cons_succ])
        refine wpAnyH_done (by kernel_rfl) ?_ _
        go_wp2
        go_ret2
        exact ⟨by rw [HDO.out, HOK.out]; rfl, B.out⟩
      · have hk2' : (lenB2 qs && pathB W H xs a b qs) = false := by simpa using hk2
        go_enter Try.func12, Try.ntmps12
        go_wp2_with fail
        refine (boTwoV_any _ _ _ _ _ _ _ _ _ ((ha.alloc _).alloc _)).mono ?_
        rw [ht]
        rintro e wv ⟨rfl, hb⟩
        have hbx0 := below_box hb
        have a0 : wv.cell? ⟨w.heap.size, 0, none⟩ = some (.int .i64 W) := by simpa using newbox hbx0 0
        have a1 : wv.cell? ⟨w.heap.size, 1, none⟩ = some (.int .i64 H) := by simpa using newbox hbx0 1
        have a2 : wv.cell? ⟨w.heap.size, 2, none⟩ = some (.slice A n c) := by simpa using newbox hbx0 2
        have al : w.heap.size < wv.heap.size := by simpa using newbox_lt hbx0
        have l0 : wv.cell? ⟨w.heap.size + 1, 0, none⟩ = some (.int .i64 a) := by simpa using newbox hb 0
        have l1 : wv.cell? ⟨w.heap.size + 1, 1, none⟩ = some (.int .i64 b) := by simpa using newbox hb 1
        have ll : w.heap.size + 1 < wv.heap.size := by simpa using newbox_lt hb
        have B := Lib.hid (below_box hbx0)
        clear hb hbx0
        go_wp2_with fail
        refine (crLeap_any W H A n c xs a b A2 m c2 ps _ (ha.keep B.out) (hp.keep B.out) (two_gK ht)).mono ?_
        rw [hk1]
        rintro e wv ⟨rfl, hb⟩
        replace a0 := cell_keep a0 al hb
        replace a1 := cell_keep a1 al hb
        replace a2 := cell_keep a2 al hb
        replace al := lt_keep al hb
        replace l0 := cell_keep l0 ll hb
        replace l1 := cell_keep l1 ll hb
        replace ll := lt_keep ll hb
        replace B := Lib.hid (below_next B.out hb)
        clear hb
        go_wp2_with fail
        refine (crLeap_any W H A n c xs a b A3 m3 c3 qs _ (ha.keep B.out) (hq.keep B.out) (two_gK ht)).mono ?_
        rw [hk2']
        rintro e wv ⟨rfl, hb⟩
        replace a0 := cell_keep a0 al hb
        replace a1 := cell_keep a1 al hb
        replace a2 := cell_keep a2 al hb
        replace al := lt_keep al hb
        replace l0 := cell_keep l0 ll hb
        replace l1 := cell_keep l1 ll hb
        replace ll := lt_keep ll hb
        replace B := Lib.hid (below_next B.out hb)
        clear hb
        go_wp2
        go_ret2
        exact ⟨by rw [doV, show okDo W H xs a b ps qs = false by rw [okDo, ht, hk1, hk2', Bool.and_false, Bool.and_false]]; rfl, B.out⟩
    · have hk1' : (lenB2 ps && pathB W H xs a b ps) = false := by simpa using hk1
      go_enter Try.func12, Try.ntmps12
      go_wp2_with fail
      refine (boTwoV_any _ _ _ _ _ _ _ _ _ ((ha.alloc _).alloc _)).mono ?_
      rw [ht]
      rintro e wv ⟨rfl, hb⟩
      have hbx0 := below_box hb
      have a0 : wv.cell? ⟨w.heap.size, 0, none⟩ = some (.int .i64 W) := by simpa using newbox hbx0 0
      have a1 : wv.cell? ⟨w.heap.size, 1, none⟩ = some (.int .i64 H) := by simpa using newbox hbx0 1
      have a2 : wv.cell? ⟨w.heap.size, 2, none⟩ = some (.slice A n c) := by simpa using newbox hbx0 2
      have al : w.heap.size < wv.heap.size := by simpa using newbox_lt hbx0
      have l0 : wv.cell? ⟨w.heap.size + 1, 0, none⟩ = some (.int .i64 a) := by simpa using newbox hb 0
      have l1 : wv.cell? ⟨w.heap.size + 1, 1, none⟩ = some (.int .i64 b) := by simpa using newbox hb 1
      have ll : w.heap.size + 1 < wv.heap.size := by simpa using newbox_lt hb
      have B := Lib.hid (below_box hbx0)
      clear hb hbx0
      go_wp2_with fail
      refine (crLeap_any W H A n c xs a b A2 m c2 ps _ (ha.keep B.out) (hp.keep B.out) (two_gK ht)).mono ?_
      rw [hk1']
      rintro e wv ⟨rfl, hb⟩
      replace a0 := cell_keep a0 al hb
      replace a1 := cell_keep a1 al hb
      replace a2 := cell_keep a2 al hb
      replace al := lt_keep al hb
      replace l0 := cell_keep l0 ll hb
      replace l1 := cell_keep l1 ll hb
      replace ll := lt_keep ll hb
      replace B := Lib.hid (below_next B.out hb)
      clear hb
      go_wp2
      go_ret2
      exact ⟨by rw [doV, show okDo W H xs a b ps qs = false by rw [okDo, ht, hk1', Bool.false_and, Bool.and_false]]; rfl, B.out⟩
  · have ht' : twoV W H xs a b = false := by simpa using ht
    go_enter Try.func12, Try.ntmps12
    go_wp2_with fail
    refine (boTwoV_any _ _ _ _ _ _ _ _ _ ((ha.alloc _).alloc _)).mono ?_
    rw [ht']
    rintro e wv ⟨rfl, hb⟩
    have hbx0 := below_box hb
    have a0 : wv.cell? ⟨w.heap.size, 0, none⟩ = some (.int .i64 W) := by simpa using newbox hbx0 0
    have a1 : wv.cell? ⟨w.heap.size, 1, none⟩ = some (.int .i64 H) := by simpa using newbox hbx0 1
    have a2 : wv.cell? ⟨w.heap.size, 2, none⟩ = some (.slice A n c) := by simpa using newbox hbx0 2
    have al : w.heap.size < wv.heap.size := by simpa using newbox_lt hbx0
    have l0 : wv.cell? ⟨w.heap.size + 1, 0, none⟩ = some (.int .i64 a) := by simpa using newbox hb 0
    have l1 : wv.cell? ⟨w.heap.size + 1, 1, none⟩ = some (.int .i64 b) := by simpa using newbox hb 1
    have ll : w.heap.size + 1 < wv.heap.size := by simpa using newbox_lt hb
    have B := Lib.hid (below_box hbx0)
    clear hb hbx0
    go_wp2
    go_ret2
    exact ⟨by rw [doV, show okDo W H xs a b ps qs = false by rw [okDo, ht', Bool.false_and]]; rfl, B.out⟩

end Go.Proofs.Ytmecomcokmffbaa
