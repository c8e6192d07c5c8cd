/-
  Contracts: TwoColours, in the program and in the model.
  The walk of the exact law on TwoColours: it answers true, and what was there stays.
-/
import Derived.Test.YtcfibfbenccimaaGreatDoorBunHTwoColours10
import Derived.Test.YtcfibfbenccimaaGreatDoorBunHTwoColours11
import Derived.Test.YtcfibfbenccimaaGreatDoorBunHTwoColours6
namespace Go.Proofs.YtcfibfbenccimaaGreatDoor
open Go.RowKit

theorem onB_nil7 {W H : Int} {xs : List Int} {a b : Int} : onB W H xs a b [] = okTwo W H xs a b := by simp [onB]
def twoV2 (W H : Int) (xs : List Int) (a b : Int) : List Int := if okTwo W H xs a b = true then twoL W H xs a b else []
theorem len_TwoColours (W H : Int) (xs : List Int) (a b : Int) : (twoV2 W H xs a b).length ≤ 1000000 := by
  unfold twoV2
  split
  · rename_i h
    have hF := on_facts h
    have := (two_parts hF).1
    have := hF.n
    omega
  · simp
theorem flat_rng {W H a b : Int} {xs : List Int} {N : Nat} (h : OnFacts W H xs a b N) : ∀ y ∈ (partsL W H xs a b).flatten, 0 ≤ y ∧ y < (N : Int) := fun y hy => by
  obtain ⟨q, hq, hyq⟩ := List.mem_flatten.1 hy
  obtain ⟨_, _, _, _, h9⟩ := (two_parts h).2 q hq
  exact (h9 y hyq).1
theorem cols_two {W H a b : Int} {xs : List Int} {N : Nat} (h : OnFacts W H xs a b N) : colsK (paintF (fTwo W H xs a b) (partsL W H xs a b).flatten) N 9 = twoL W H xs a b := by
  have K := two_ok h (cellsL W H xs).length
  have e1 : twoTo W H xs a b (cellsL W H xs).length = twoL W H xs a b := by rw [twoTo, List.take_length]; rfl
  have e2 : partsTo W H xs a b (cellsL W H xs).length = partsL W H xs a b := by rw [partsTo, List.take_length]; rfl
  have hcl : ∀ y ∈ (partsL W H xs a b).flatten, 0 ≤ y ∧ y < 64 := fun y hy => by
    have := flat_rng h y hy; have := h.n; omega
  apply List.ext_getElem?
  intro i
  by_cases hi : i < N
  · rw [colsK_at hcl hi 9 (Nat.le_refl _)]
    have h3 := K.iff i hi
    have h4 := K.rng i hi
    have hl := K.len
    rw [e1, e2] at h3
    rw [e1] at h4 hl
    have hg : (twoL W H xs a b)[i]? = some ((twoL W H xs a b).getD i (-1)) := by
      rw [List.getD_eq_getElem?_getD, List.getElem?_eq_getElem (by omega)]; rfl
    rw [hg]
    congr 1
    have hf : fTwo W H xs a b (i : Int) = ((twoL W H xs a b).getD i (-1)).toNat := by rw [fTwo, Int.toNat_natCast]
    by_cases hm : (i : Int) ∈ (partsL W H xs a b).flatten
    · obtain ⟨q, hq, hyq⟩ := List.mem_flatten.1 hm
      have h0 := h3.2 (by rw [inParts, List.any_eq_true]; exact ⟨q, hq, List.contains_iff_mem.2 hyq⟩)
      rw [if_pos ⟨hm, by rw [hf]; omega⟩, hf]; omega
    · rw [if_neg (fun h => hm h.1)]
      rcases h4 with h4 | h4
      · exact h4.symm
      · exfalso
        have h5 := h3.1 (by omega)
        rw [inParts, List.any_eq_true] at h5
        obtain ⟨q, hq, hx⟩ := h5
        exact hm (List.mem_flatten.2 ⟨q, hq, List.contains_iff_mem.1 hx⟩)
  · rw [List.getElem?_eq_none (by rw [colsK_len]; omega), List.getElem?_eq_none (by have := (two_parts h).1; omega)]

set_option maxRecDepth 100000 in
set_option maxHeartbeats 4000000 in
theorem impl_TwoColours (W H : Int) (A : Option Addr) (n c : Nat) (xs : List Int) (a b : Int) (w : World) (ha : Rd w A n xs) (hTG : Tab64 w ∧ 0 < w.heap.size) :
    Calls Tryz.prog 26 #[brd W H A n c, lpr a b] w fun e w' => ∃ A' n' c', e = .returned (.tuple #[.slice A' n' c', .bool (okTwo W H xs a b)]) ∧ OwnI 3 w' w.heap.size A' n' c' (twoV2 W H xs a b) ∧ Below w.heap.size w w' := by
  obtain ⟨hT, hgb⟩ := hTG
  have HT := Lib.hid hT
  clear hT
  by_cases ho : onB W H xs a b [] = true
  · have hok : okTwo W H xs a b = true := by rw [← onB_nil7, ho]
    have FO := on_facts hok
    obtain ⟨N, hN⟩ : ∃ N, N = (W * H).toNat := ⟨_, rfl⟩
    rw [← hN] at FO
    have HF := Lib.hid FO
    have HOK := Lib.hid hok
    have n64 := FO.n.2
    clear FO hN
    go_enter Tryz.func26, Tryz.ntmps26
    go_wp2_with fail
    refine (isLeaperOn_any _ _ _ _ _ _ _ _ _ _ _ [] _ ((ha.alloc _).alloc _) (Rd.nil _ _)).mono ?_
    rw [ho]
    rintro e wv ⟨rfl, hb⟩
    have hbx0 := below_box hb
    have a0 : wv.cell? ⟨w.heap.size, 0, none⟩ = some (.int .i64 W) := by simpa using newbox hbx0 0
    have a1 : wv.cell? ⟨w.heap.size, 1, none⟩ = some (.int .i64 H) := by simpa using newbox hbx0 1
    have a2 : wv.cell? ⟨w.heap.size, 2, none⟩ = some (.slice A n c) := by simpa using newbox hbx0 2
    have al : w.heap.size < wv.heap.size := by simpa using newbox_lt hbx0
    have l0 : wv.cell? ⟨w.heap.size + 1, 0, none⟩ = some (.int .i64 a) := by simpa using newbox hb 0
    have l1 : wv.cell? ⟨w.heap.size + 1, 1, none⟩ = some (.int .i64 b) := by simpa using newbox hb 1
    have ll : w.heap.size + 1 < wv.heap.size := by simpa using newbox_lt hb
    have B := Lib.hid (below_box hbx0)
    clear hb hbx0
    obtain ⟨P, hP⟩ : ∃ P, P = paintF (fTwo W H xs a b) (partsL W H xs a b).flatten := ⟨_, rfl⟩
    have hPl : P.length = 9 := by rw [hP]; exact paintF_len _ _
    have HTC := Lib.hid (fun lo mo w (hom : OnMapK w lo mo (cellsL W H xs) (leapsL W H xs a b)) => twoColours_any W H xs a b N lo mo w HF.out hom)
    rw [← hP] at HTC
    have hcl : ∀ y ∈ (partsL W H xs a b).flatten, 0 ≤ y ∧ y < 64 := fun y hy => by
      have := flat_rng HF.out y hy; omega
    have HPB := Lib.hid (show ∀ x ∈ P, x < 18446744073709551616 by rw [hP]; exact paintF_lt hcl)
    have HPN := Lib.hid (show ∀ x ∈ P, ∀ y ∈ bitsL x, y < (N : Int) from fun s hs y hy => by
      rw [hP] at hs
      obtain ⟨c', _, rfl⟩ := List.mem_map.1 hs
      exact (flat_rng HF.out y ((paintF_bit hcl).1 hy).1).2)
    have HPP := Lib.hid hP
    obtain ⟨hW, hH, -, -⟩ := goodB_iff.1 HF.out.g
    have HWr := Lib.hid hW; have HHr := Lib.hid hH
    clear hP hcl hW hH
    go_wp2_with fail
    refine wp_region_held_drew (S := fun w' => w'.cell? ⟨w.heap.size, 0, none⟩ = some (.int .i64 W) ∧ w'.cell? ⟨w.heap.size, 1, none⟩ = some (.int .i64 H) ∧ w'.cell? ⟨w.heap.size, 2, none⟩ = some (.slice A n c) ∧ w'.cell? ⟨w.heap.size + 1, 0, none⟩ = some (.int .i64 a) ∧ w'.cell? ⟨w.heap.size + 1, 1, none⟩ = some (.int .i64 b)) (by kernel_rfl) ?_ (fun hHeld => ?_)
    · (try dsimp only)
      exact ⟨a0, a1, a2, l0, l1⟩
    refine wpAnyH_take (i := 0) (oi := ⟨_, _, _, _, _, _⟩) (v := ?_) rfl (by kernel_rfl) (by kernel_rfl) (by kernel_rfl) (fun _ _ _ h => h) (Or.inl ⟨by rfl, ?_⟩) (by assumption) ?_
    rotate_left
    · intro w hSw
      (try dsimp only at hSw)
      go_simp
      (try with_reducible rfl)
    (try simp only [Act.put, List.setIfInBounds_toArray, List.set_cons_zero, List.set_cons_succ])
    refine wpAnyH_take (i := 1) (oi := ⟨_, _, _, _, _, _⟩) (v := ?_) rfl (by kernel_rfl) (by kernel_rfl) (by kernel_rfl) (fun _ _ _ h => h) (Or.inl ⟨by rfl, ?_⟩) (by assumption) ?_
    rotate_left
    · intro w hSw
      (try dsimp only at hSw)
      go_simp
      (try with_reducible rfl)
    (try simp only [Act.put, List.setIfInBounds_toArray, List.set_cons_zero, List.set_cons_succ])
    refine wpAnyH_take (i := 2) (oi := ⟨_, _, _, _, _, _⟩) (v := ?_) rfl (by kernel_rfl) (by kernel_rfl) (by kernel_rfl) (fun _ _ _ h => h) (Or.inl ⟨by rfl, ?_⟩) (by assumption) ?_
    rotate_left
    · intro w hSw
      (try dsimp only at hSw)
      go_simp
      (try with_reducible rfl)
    (try simp only [Act.put, List.setIfInBounds_toArray, List.set_cons_zero, List.set_cons_succ])
    refine wpAnyH_ready (rs := [3]) (by kernel_rfl) (by simp) ?_
    refine AllReadyH.cons (o := ⟨_, _, _, _, _, _⟩) rfl (fun K hK => ?_) AllReadyH.nil
    go_simp
    (go_at_call 51; refine (onwardOfK_any W H A n c xs a b _ ?_ HF.out.g HF.out.l).mono ?_; (first | exact ha.keep B.out | exact (ha.keep B.out).drew1 | exact (ha.keep B.out).drewN _); rintro e wx ⟨mb, rfl, hom, hb⟩; (repeat (first | replace hb := below_undrew hb | replace hb := below_undrewN hb)); have HOM := Lib.hid hom; replace a0 := cell_keep a0 al hb; replace a1 := cell_keep a1 al hb; replace a2 := cell_keep a2 al hb; replace l0 := cell_keep l0 ll hb; replace l1 := cell_keep l1 ll hb; replace al := lt_keep al hb; replace ll := lt_keep ll hb; replace B := Lib.hid (below_next B.out hb); clear hb hom)
    (try go_wp2_with fail)
    refine hK.out _ _ ?_ (fun hHeld => ?_)
    · (try dsimp only)
      exact ⟨a0, a1, a2, l0, l1⟩
    clear hK K
    (try simp only [Act.put, List.setIfInBounds_toArray, List.set_cons_zero, List.set_cons_succ])
    refine wpAnyH_ready (rs := [4]) (by kernel_rfl) (by simp) ?_
    refine AllReadyH.cons (o := ⟨_, _, _, _, _, _⟩) rfl (fun K hK => ?_) AllReadyH.nil
    go_simp
    (go_at_call 50; refine (HTC.out _ mb _ HOM.out).mono ?_; rintro e wy ⟨rfl, hb⟩; (repeat (first | replace hb := below_undrew hb | replace hb := below_undrewN hb)); replace a0 := cell_keep a0 al hb; replace a1 := cell_keep a1 al hb; replace a2 := cell_keep a2 al hb; replace l0 := cell_keep l0 ll hb; replace l1 := cell_keep l1 ll hb; replace al := lt_keep al hb; replace ll := lt_keep ll hb; replace B := Lib.hid (below_next B.out hb); clear hb)
    (try go_wp2_with fail)
    refine hK.out _ _ ?_ (fun hHeld => ?_)
    · (try dsimp only)
      exact ⟨a0, a1, a2, l0, l1⟩
    clear hK K
    (try simp only [Act.put, List.setIfInBounds_toArray, List.set_cons_zero, List.set_cons_succ])
    refine wpAnyH_ready (rs := [5]) (by kernel_rfl) (by simp) ?_
    refine AllReadyH.cons (o := ⟨_, _, _, _, _, _⟩) rfl (fun K hK => ?_) AllReadyH.nil
    go_simp
    (go_at_call 49; refine (coloursOf_any W H A n c P hPl N HF.out.wh HWr.out.1 HWr.out.2 HHr.out.1 HHr.out.2 HPB.out HPN.out _ (HT.out.keep hgb B.out) (Nat.lt_of_lt_of_le hgb B.out.size)).mono ?_; rintro e ws ⟨g, rfl, hown, hb⟩; (repeat (first | replace hb := below_undrew hb | replace hb := below_undrewN hb)); have HO := Lib.hid hown; have hBs := B.out.size; replace a0 := cell_keep a0 al hb; replace a1 := cell_keep a1 al hb; replace a2 := cell_keep a2 al hb; replace l0 := cell_keep l0 ll hb; replace l1 := cell_keep l1 ll hb; replace al := lt_keep al hb; replace ll := lt_keep ll hb; replace B := Lib.hid (below_next B.out hb); clear hb hown)
    (try go_wp2_with fail)
    refine hK.out _ _ ?_ (fun hHeld => ?_)
    · (try dsimp only)
      exact ⟨a0, a1, a2, l0, l1⟩
    clear hK K
    (try simp only [Act.put, List.setIfInBounds_toArray, List.set_cons_zero, List.set_cons_succ])
    refine wpAnyH_take (i := 6) (oi := ⟨_, _, _, _, _, _⟩) (v := ?_) rfl (by kernel_rfl) (by kernel_rfl) (by kernel_rfl) (fun _ _ _ h => h) (Or.inl ⟨by rfl, ?_⟩) (by assumption) ?_
    rotate_left
    · intro w hSw
      (try dsimp only at hSw)
      go_simp
      (try with_reducible rfl)
    (try simp only [Act.put, List.setIfInBounds_toArray, List.set_cons_zero, List.set_cons_succ])
    refine wpAnyH_take (i := 7) (oi := ⟨_, _, _, _, _, _⟩) (v := ?_) rfl (by kernel_rfl) (by kernel_rfl) (by kernel_rfl) (fun _ _ _ h => h) (Or.inl ⟨by rfl, ?_⟩) (by assumption) ?_
    rotate_left
    · intro w hSw
      (try dsimp only at hSw)
      go_simp
      (try with_reducible rfl)
    (try simp only [Act.put, List.setIfInBounds_toArray, List.set_cons_zero, List.set_cons_succ])
    refine wpAnyH_done (by kernel_rfl) ?_ _
    all_goals go_wp2
    all_goals go_ret2
    all_goals exact ⟨_, _, _, by rw [HOK.out]; rfl, by
      rw [twoV2, HOK.out, if_pos rfl, ← cols_two HF.out, ← HPP.out]
      exact HO.out.lower hBs, B.out⟩
  · have ho' : onB W H xs a b [] = false := by simpa using ho
    go_enter Tryz.func26, Tryz.ntmps26
    go_wp2_with fail
    refine (isLeaperOn_any _ _ _ _ _ _ _ _ _ _ _ [] _ ((ha.alloc _).alloc _) (Rd.nil _ _)).mono ?_
    rw [ho']
    rintro e wv ⟨rfl, hb⟩
    have B := Lib.hid (below_box (below_box hb))
    clear hb
    go_wp2
    go_ret2
    have hok : okTwo W H xs a b = false := by rw [← onB_nil7, ho']
    exact ⟨none, 0, 0, by rw [hok]; rfl, by rw [twoV2, hok]; exact OwnI.none_ _ _ _, B.out⟩

set_option maxRecDepth 100000 in
set_option maxHeartbeats 4000000 in
theorem spec_TwoColours (W H : Int) (A : Option Addr) (n c : Nat) (xs : List Int) (a b : Int) (w : World) (ha : Rd w A n xs) :
    Calls Tryz.prog 25 #[brd W H A n c, lpr a b] w fun e w' => ∃ A' n' c', e = .returned (.tuple #[.slice A' n' c', .bool (okTwo W H xs a b)]) ∧ OwnI 3 w' w.heap.size A' n' c' (twoV2 W H xs a b) ∧ Below w.heap.size w w' := by
  by_cases ht : (goodB W H xs && leaperB a b) = true
  · have hok : okTwo W H xs a b = true := by rw [okTwo, two_l ht, two_g ht]; rfl
    have FO := on_facts hok
    obtain ⟨N, hN⟩ : ∃ N, N = (W * H).toNat := ⟨_, rfl⟩
    rw [← hN] at FO
    have HF := Lib.hid FO
    have HOK := Lib.hid hok
    have n64 := FO.n.2
    clear FO hN
    go_enter Tryz.func25, Tryz.ntmps25
    go_wp2_with fail
    refine (boTwo_any _ _ _ _ _ _ _ _ _ ((ha.alloc _).alloc _)).mono ?_
    rw [ht]
    rintro e wv ⟨rfl, hb⟩
    have hbx0 := below_box hb
    have a0 : wv.cell? ⟨w.heap.size, 0, none⟩ = some (.int .i64 W) := by simpa using newbox hbx0 0
    have a1 : wv.cell? ⟨w.heap.size, 1, none⟩ = some (.int .i64 H) := by simpa using newbox hbx0 1
    have a2 : wv.cell? ⟨w.heap.size, 2, none⟩ = some (.slice A n c) := by simpa using newbox hbx0 2
    have l0 : wv.cell? ⟨w.heap.size + 1, 0, none⟩ = some (.int .i64 a) := by simpa using newbox hb 0
    have l1 : wv.cell? ⟨w.heap.size + 1, 1, none⟩ = some (.int .i64 b) := by simpa using newbox hb 1
    have B := Lib.hid (below_box hbx0)
    clear hb hbx0
    have n64 := HF.out.n.2
    go_wp2_with fail
    refine (paTwo_any W H A n c xs a b N _ (ha.keep B.out) HF.out).mono ?_
    rw [two_paints HF.out]
    rintro e w1 ⟨gc, rfl, hown, hb⟩
    have hBs := B.out.size
    have HBW := Lib.hid (below_next B.out hb)
    have OC := Lib.hid hown
    clear hb hown
    go_wp2
    go_ret2
    exact ⟨_, _, _, by rw [HOK.out]; rfl, by rw [twoV2, HOK.out, if_pos rfl]; exact OC.out.lower hBs, HBW.out⟩
  · have ht' : (goodB W H xs && leaperB a b) = false := by simpa using ht
    have hok : okTwo W H xs a b = false := by rw [okTwo, Bool.and_comm, ht']
    go_enter Tryz.func25, Tryz.ntmps25
    go_wp2_with fail
    refine (boTwo_any _ _ _ _ _ _ _ _ _ ((ha.alloc _).alloc _)).mono ?_
    rw [ht']
    rintro e wv ⟨rfl, hb⟩
    have B := Lib.hid (below_box (below_box hb))
    clear hb
    go_wp2
    go_ret2
    exact ⟨none, 0, 0, by rw [hok]; rfl, by rw [twoV2, hok]; exact OwnI.none_ _ _ _, B.out⟩
end Go.Proofs.YtcfibfbenccimaaGreatDoor

namespace Go.Proofs.YtcfibfbenccimaaGreatDoor
open Go.RowKit

set_option maxHeartbeats 4000000 in
set_option maxRecDepth 100000 in
theorem law_TwoColours (w : World) (V0 G0 : Int) (A0 : Option Addr) (n0 c0 : Nat) (xs0 : List Int) (ha0 : Rd w A0 n0 xs0) (la1 lb1 : Int) (hT : Tab64 w ∧ 0 < w.heap.size) :
    Calls Tryz.prog 7 #[brd V0 G0 A0 n0 c0, lpr la1 lb1] w fun e w' => e = .returned (.bool true) ∧ Below w.heap.size w w' := by
  have hn9 := ha0.2.1
  by_cases hnB : (n0 : Int) ≤ 1048576
  rotate_left
  · go_enter Tryz.func7, Tryz.ntmps7
    go_wp2_with fail
    refine (szBoard_any _ _ _ _ _ _ _ hn9 (by omega) (by omega)).mono ?_
    rintro e wv ⟨rfl, hb⟩
    have B := Lib.hid (below_box (below_box hb))
    clear hb
    go_wp2
    go_ret
    exact ⟨rfl, B.out⟩
  · go_enter Tryz.func7, Tryz.ntmps7
    go_wp2_with fail
    refine (szBoard_any _ _ _ _ _ _ _ hn9 (by omega) (by omega)).mono ?_
    rintro e wv ⟨rfl, hb⟩
    have hbx0 := below_box hb
    have a0 : wv.cell? ⟨w.heap.size, 0, none⟩ = some (.int .i64 V0) := by simpa using newbox hbx0 0
    have a1 : wv.cell? ⟨w.heap.size, 1, none⟩ = some (.int .i64 G0) := by simpa using newbox hbx0 1
    have a2 : wv.cell? ⟨w.heap.size, 2, none⟩ = some (.slice A0 n0 c0) := by simpa using newbox hbx0 2
    have al : w.heap.size < wv.heap.size := by simpa using newbox_lt hbx0
    have l0 : wv.cell? ⟨w.heap.size + 1, 0, none⟩ = some (.int .i64 la1) := by simpa using newbox hb 0
    have l1 : wv.cell? ⟨w.heap.size + 1, 1, none⟩ = some (.int .i64 lb1) := by simpa using newbox hb 1
    have ll : w.heap.size + 1 < wv.heap.size := by simpa using newbox_lt hb
    have B := Lib.hid (below_box hbx0)
    have hs1 := Lib.hid (below_box hbx0).size
    have hz := Lib.hid ll
    clear hb hbx0
    go_wp2_with fail
    go_region_held3 (fun w' => w'.cell? ⟨w.heap.size, 0, none⟩ = some (.int .i64 V0) ∧ w'.cell? ⟨w.heap.size, 1, none⟩ = some (.int .i64 G0) ∧ w'.cell? ⟨w.heap.size, 2, none⟩ = some (.slice A0 n0 c0) ∧ w'.cell? ⟨w.heap.size + 1, 0, none⟩ = some (.int .i64 la1) ∧ w'.cell? ⟨w.heap.size + 1, 1, none⟩ = some (.int .i64 lb1)) (first | exact ⟨a0, a1, a2, l0, l1⟩)
      (first
        | (go_at_call 10; refine (toBoard_any _ _ _ _ _ _ _ (by exact (ha0.keep B.out).drew1) (by omega)).mono ?_; rintro e wv ⟨gs, rfl, owns, hb⟩; (try replace hb := below_undrew hb); replace a0 := cell_keep a0 al hb; replace a1 := cell_keep a1 al hb; replace a2 := cell_keep a2 al hb; replace al := lt_keep al hb; replace l0 := cell_keep l0 ll hb; replace l1 := cell_keep l1 ll hb; replace ll := lt_keep ll hb; (try replace Os := Lib.hid (Os.out.keep hb)); have hs2 := Lib.hid hb.size; replace B := Lib.hid (below_next B.out hb); have Os := Lib.hid owns; have SPs := Lib.hid owns.span; clear owns; clear hb)
        | (go_at_call 11; refine (toLeaper_any _ _ _).mono ?_; rintro e wv ⟨rfl, hb⟩; (try replace hb := below_undrew hb); replace a0 := cell_keep a0 al hb; replace a1 := cell_keep a1 al hb; replace a2 := cell_keep a2 al hb; replace al := lt_keep al hb; replace l0 := cell_keep l0 ll hb; replace l1 := cell_keep l1 ll hb; replace ll := lt_keep ll hb; (try replace Os := Lib.hid (Os.out.keep hb)); have hs3 := Lib.hid hb.size; replace B := Lib.hid (below_next B.out hb); clear hb)
        | (go_at_call 25; refine (spec_TwoColours _ _ _ _ _ _ _ _ _ (by exact Os.out.rd)).mono ?_; rintro e wv ⟨AW, nW, cW, rfl, ownW, hb⟩; (try replace hb := below_undrew hb); replace a0 := cell_keep a0 al hb; replace a1 := cell_keep a1 al hb; replace a2 := cell_keep a2 al hb; replace al := lt_keep al hb; replace l0 := cell_keep l0 ll hb; replace l1 := cell_keep l1 ll hb; replace ll := lt_keep ll hb; have hs4 := Lib.hid hb.size; replace B := Lib.hid (below_next B.out hb); have OW := Lib.hid ownW; have SPW := Lib.hid ownW.span; clear ownW; clear hb))
    all_goals
      clear Os SPs
      go_wp2_with fail
      refine (toBoard_any _ _ _ _ _ _ _ (ha0.keep B.out) (by omega)).mono ?_
      rintro e wv ⟨gx, rfl, ownx, hb⟩
      replace a0 := cell_keep a0 al hb
      replace a1 := cell_keep a1 al hb
      replace a2 := cell_keep a2 al hb
      replace al := lt_keep al hb
      replace l0 := cell_keep l0 ll hb
      replace l1 := cell_keep l1 ll hb
      replace ll := lt_keep ll hb
      replace OW := Lib.hid (OW.out.keep hb)
      have hs5 := Lib.hid hb.size
      replace B := Lib.hid (below_next B.out hb)
      have Ox := Lib.hid ownx; have SPx := Lib.hid ownx.span; clear ownx; clear hb
      obtain ⟨wx, hwx⟩ : ∃ wx, wx = wv := ⟨_, rfl⟩
      subst hwx
      go_wp2_with fail
      have hb := Below.refl (wx.alloc (.cells #[.int .i64 V0, .int .i64 G0, .slice (some ⟨gx, 0, none⟩) n0 n0] 30)).heap.size (wx.alloc (.cells #[.int .i64 V0, .int .i64 G0, .slice (some ⟨gx, 0, none⟩) n0 n0] 30))
      have x0 : (wx.alloc (.cells #[.int .i64 V0, .int .i64 G0, .slice (some ⟨gx, 0, none⟩) n0 n0] 30)).cell? ⟨wx.heap.size, 0, none⟩ = some (.int .i64 V0) := by simp
      have x1 : (wx.alloc (.cells #[.int .i64 V0, .int .i64 G0, .slice (some ⟨gx, 0, none⟩) n0 n0] 30)).cell? ⟨wx.heap.size, 1, none⟩ = some (.int .i64 G0) := by simp
      have x2 : (wx.alloc (.cells #[.int .i64 V0, .int .i64 G0, .slice (some ⟨gx, 0, none⟩) n0 n0] 30)).cell? ⟨wx.heap.size, 2, none⟩ = some (.slice (some ⟨gx, 0, none⟩) n0 n0) := by simp
      have xl := newbox_lt hb
      have hzx := Lib.hid xl
      replace hb := below_box hb
      replace a0 := cell_keep a0 al hb
      replace a1 := cell_keep a1 al hb
      replace a2 := cell_keep a2 al hb
      replace al := lt_keep al hb
      replace l0 := cell_keep l0 ll hb
      replace l1 := cell_keep l1 ll hb
      replace ll := lt_keep ll hb
      replace OW := Lib.hid (OW.out.keep hb)
      replace Ox := Lib.hid (Ox.out.keep hb)
      have hs6 := Lib.hid hb.size
      replace B := Lib.hid (below_next B.out hb)
      clear hb
      have hx0 : gx < wx.heap.size := (SPx.out _ rfl).2
      generalize wx.alloc (.cells #[.int .i64 V0, .int .i64 G0, .slice (some ⟨gx, 0, none⟩) n0 n0] 30) = wv at *
      generalize hx : wx.heap.size = x at *
      go_wp2_with fail
      go_region_held3 (fun w' => w'.cell? ⟨w.heap.size, 0, none⟩ = some (.int .i64 V0) ∧ w'.cell? ⟨w.heap.size, 1, none⟩ = some (.int .i64 G0) ∧ w'.cell? ⟨w.heap.size, 2, none⟩ = some (.slice A0 n0 c0) ∧ w'.cell? ⟨w.heap.size + 1, 0, none⟩ = some (.int .i64 la1) ∧ w'.cell? ⟨w.heap.size + 1, 1, none⟩ = some (.int .i64 lb1) ∧ w'.cell? ⟨x, 0, none⟩ = some (.int .i64 V0) ∧ w'.cell? ⟨x, 1, none⟩ = some (.int .i64 G0) ∧ w'.cell? ⟨x, 2, none⟩ = some (.slice (some ⟨gx, 0, none⟩) n0 n0)) (first | exact ⟨a0, a1, a2, l0, l1, x0, x1, x2⟩)
        (first
          | (go_at_call 11; refine (toLeaper_any _ _ _).mono ?_; rintro e wv ⟨rfl, hb⟩; (try replace hb := below_undrew hb); replace a0 := cell_keep a0 al hb; replace a1 := cell_keep a1 al hb; replace a2 := cell_keep a2 al hb; replace al := lt_keep al hb; replace l0 := cell_keep l0 ll hb; replace l1 := cell_keep l1 ll hb; replace ll := lt_keep ll hb; replace x0 := cell_keep x0 xl hb; replace x1 := cell_keep x1 xl hb; replace x2 := cell_keep x2 xl hb; replace xl := lt_keep xl hb; replace OW := Lib.hid (OW.out.keep hb); replace Ox := Lib.hid (Ox.out.keep hb); have hs7 := Lib.hid hb.size; replace B := Lib.hid (below_next B.out hb); clear hb)
          | (go_at_call 26; refine (impl_TwoColours _ _ _ _ _ _ _ _ _ (by exact Ox.out.rd) (by exact tab_keep hT B.out)).mono ?_; rintro e wv ⟨AG, nG, cG, rfl, ownG, hb⟩; (try replace hb := below_undrew hb); replace a0 := cell_keep a0 al hb; replace a1 := cell_keep a1 al hb; replace a2 := cell_keep a2 al hb; replace al := lt_keep al hb; replace l0 := cell_keep l0 ll hb; replace l1 := cell_keep l1 ll hb; replace ll := lt_keep ll hb; replace x0 := cell_keep x0 xl hb; replace x1 := cell_keep x1 xl hb; replace x2 := cell_keep x2 xl hb; replace xl := lt_keep xl hb; replace OW := Lib.hid (OW.out.keep hb); replace Ox := Lib.hid (Ox.out.keep hb); have hs8 := Lib.hid hb.size; replace B := Lib.hid (below_next B.out hb); have OG := Lib.hid ownG; have SPG := Lib.hid ownG.span; clear ownG; clear hb))
      have SZ := Lib.hid (show nG ≤ 1000000 by rw [← OG.out.len]; exact len_TwoColours _ _ _ _ _)
      go_wp2_with fail
      refine (eqIntS_any _ _ _ _ _ _ _ _ _ OG.out.rd OW.out.rd).mono ?_
      simp only [decide_true]
      rintro e wv ⟨rfl, hb⟩
      replace a0 := cell_keep a0 al hb
      replace a1 := cell_keep a1 al hb
      replace a2 := cell_keep a2 al hb
      replace al := lt_keep al hb
      replace l0 := cell_keep l0 ll hb
      replace l1 := cell_keep l1 ll hb
      replace ll := lt_keep ll hb
      replace x0 := cell_keep x0 xl hb
      replace x1 := cell_keep x1 xl hb
      replace x2 := cell_keep x2 xl hb
      replace xl := lt_keep xl hb
      replace OW := Lib.hid (OW.out.keep hb)
      replace Ox := Lib.hid (Ox.out.keep hb)
      replace OG := Lib.hid (OG.out.keep hb)
      have hs9 := Lib.hid hb.size
      replace B := Lib.hid (below_next B.out hb)
      clear hb
      go_wp2_with fail
      go_region_held3 (fun w' => w'.cell? ⟨w.heap.size, 0, none⟩ = some (.int .i64 V0) ∧ w'.cell? ⟨w.heap.size, 1, none⟩ = some (.int .i64 G0) ∧ w'.cell? ⟨w.heap.size, 2, none⟩ = some (.slice A0 n0 c0) ∧ w'.cell? ⟨w.heap.size + 1, 0, none⟩ = some (.int .i64 la1) ∧ w'.cell? ⟨w.heap.size + 1, 1, none⟩ = some (.int .i64 lb1) ∧ w'.cell? ⟨x, 0, none⟩ = some (.int .i64 V0) ∧ w'.cell? ⟨x, 1, none⟩ = some (.int .i64 G0) ∧ w'.cell? ⟨x, 2, none⟩ = some (.slice (some ⟨gx, 0, none⟩) n0 n0)) (first | exact ⟨a0, a1, a2, l0, l1, x0, x1, x2⟩)
        (first
          | (go_at_call 10; refine (toBoard_any _ _ _ _ _ _ _ (by exact (ha0.keep B.out).drew1) (by omega)).mono ?_; rintro e wv ⟨gy, rfl, owny, hb⟩; (try replace hb := below_undrew hb); replace a0 := cell_keep a0 al hb; replace a1 := cell_keep a1 al hb; replace a2 := cell_keep a2 al hb; replace al := lt_keep al hb; replace l0 := cell_keep l0 ll hb; replace l1 := cell_keep l1 ll hb; replace ll := lt_keep ll hb; replace x0 := cell_keep x0 xl hb; replace x1 := cell_keep x1 xl hb; replace x2 := cell_keep x2 xl hb; replace xl := lt_keep xl hb; replace OW := Lib.hid (OW.out.keep hb); replace Ox := Lib.hid (Ox.out.keep hb); replace OG := Lib.hid (OG.out.keep hb); have hs10 := Lib.hid hb.size; replace B := Lib.hid (below_next B.out hb); have Oy := Lib.hid owny; have SPy := Lib.hid owny.span; clear owny; clear hb)
          | (go_at_call 14; refine (eqBoard_any _ _ _ _ _ _ _ _ _ _ _ Ox.out.rd Oy.out.rd).mono ?_; simp only [decide_true]; rintro e wv ⟨rfl, hb⟩; (try replace hb := below_undrew hb); replace a0 := cell_keep a0 al hb; replace a1 := cell_keep a1 al hb; replace a2 := cell_keep a2 al hb; replace al := lt_keep al hb; replace l0 := cell_keep l0 ll hb; replace l1 := cell_keep l1 ll hb; replace ll := lt_keep ll hb; replace x0 := cell_keep x0 xl hb; replace x1 := cell_keep x1 xl hb; replace x2 := cell_keep x2 xl hb; replace xl := lt_keep xl hb; replace OW := Lib.hid (OW.out.keep hb); replace Ox := Lib.hid (Ox.out.keep hb); replace OG := Lib.hid (OG.out.keep hb); have hs11 := Lib.hid hb.size; replace B := Lib.hid (below_next B.out hb); clear hb Oy SPy))
      go_wp2_with fail
      refine (markBoard_any _ _ _ _ _ _ 1 _ _ Ox.out (by omega) (by omega)).mono ?_
      rintro e wv ⟨rfl, Ox', hg⟩
      replace a0 := cell_mark a0 hg (row_ne fun b hb => by have := SPx.out b hb; have := hz.out; have := hzx.out; have := hs1.out; have := hs2.out; have := hs3.out; have := hs4.out; have := hs5.out; have := hs6.out; have := hs7.out; have := hs8.out; have := hs9.out; have := hs10.out; have := hs11.out; omega)
      replace a1 := cell_mark a1 hg (row_ne fun b hb => by have := SPx.out b hb; have := hz.out; have := hzx.out; have := hs1.out; have := hs2.out; have := hs3.out; have := hs4.out; have := hs5.out; have := hs6.out; have := hs7.out; have := hs8.out; have := hs9.out; have := hs10.out; have := hs11.out; omega)
      replace a2 := cell_mark a2 hg (row_ne fun b hb => by have := SPx.out b hb; have := hz.out; have := hzx.out; have := hs1.out; have := hs2.out; have := hs3.out; have := hs4.out; have := hs5.out; have := hs6.out; have := hs7.out; have := hs8.out; have := hs9.out; have := hs10.out; have := hs11.out; omega)
      replace al := Nat.lt_of_lt_of_le al hg.size
      replace l0 := cell_mark l0 hg (row_ne fun b hb => by have := SPx.out b hb; have := hz.out; have := hzx.out; have := hs1.out; have := hs2.out; have := hs3.out; have := hs4.out; have := hs5.out; have := hs6.out; have := hs7.out; have := hs8.out; have := hs9.out; have := hs10.out; have := hs11.out; omega)
      replace l1 := cell_mark l1 hg (row_ne fun b hb => by have := SPx.out b hb; have := hz.out; have := hzx.out; have := hs1.out; have := hs2.out; have := hs3.out; have := hs4.out; have := hs5.out; have := hs6.out; have := hs7.out; have := hs8.out; have := hs9.out; have := hs10.out; have := hs11.out; omega)
      replace ll := Nat.lt_of_lt_of_le ll hg.size
      replace x0 := cell_mark x0 hg (row_ne fun b hb => by have := SPx.out b hb; have := hz.out; have := hzx.out; have := hs1.out; have := hs2.out; have := hs3.out; have := hs4.out; have := hs5.out; have := hs6.out; have := hs7.out; have := hs8.out; have := hs9.out; have := hs10.out; have := hs11.out; omega)
      replace x1 := cell_mark x1 hg (row_ne fun b hb => by have := SPx.out b hb; have := hz.out; have := hzx.out; have := hs1.out; have := hs2.out; have := hs3.out; have := hs4.out; have := hs5.out; have := hs6.out; have := hs7.out; have := hs8.out; have := hs9.out; have := hs10.out; have := hs11.out; omega)
      replace x2 := cell_mark x2 hg (row_ne fun b hb => by have := SPx.out b hb; have := hz.out; have := hzx.out; have := hs1.out; have := hs2.out; have := hs3.out; have := hs4.out; have := hs5.out; have := hs6.out; have := hs7.out; have := hs8.out; have := hs9.out; have := hs10.out; have := hs11.out; omega)
      replace xl := Nat.lt_of_lt_of_le xl hg.size
      replace OW := Lib.hid (OW.out.other hg fun a ha => row_ne fun b hb => by have := SPW.out a ha; have := SPx.out b hb; have := hz.out; have := hzx.out; have := hs1.out; have := hs2.out; have := hs3.out; have := hs4.out; have := hs5.out; have := hs6.out; have := hs7.out; have := hs8.out; have := hs9.out; have := hs10.out; have := hs11.out; omega)
      replace OG := Lib.hid (OG.out.other hg fun a ha => row_ne fun b hb => by have := SPG.out a ha; have := SPx.out b hb; have := hz.out; have := hzx.out; have := hs1.out; have := hs2.out; have := hs3.out; have := hs4.out; have := hs5.out; have := hs6.out; have := hs7.out; have := hs8.out; have := hs9.out; have := hs10.out; have := hs11.out; omega)
      replace B := Lib.hid (B.out.grown hg B.out.size (row_ge fun b hb => by have := SPx.out b hb; have := hz.out; have := hzx.out; have := hs1.out; have := hs2.out; have := hs3.out; have := hs4.out; have := hs5.out; have := hs6.out; have := hs7.out; have := hs8.out; have := hs9.out; have := hs10.out; have := hs11.out; omega))
      have hs12 := Lib.hid hg.size
      replace Ox := Lib.hid Ox'; clear Ox' hg
      go_wp2_with fail
      refine (eqIntS_any _ _ _ _ _ _ _ _ _ OG.out.rd OW.out.rd).mono ?_
      simp only [decide_true]
      rintro e wv ⟨rfl, hb⟩
      replace a0 := cell_keep a0 al hb
      replace a1 := cell_keep a1 al hb
      replace a2 := cell_keep a2 al hb
      replace al := lt_keep al hb
      replace l0 := cell_keep l0 ll hb
      replace l1 := cell_keep l1 ll hb
      replace ll := lt_keep ll hb
      replace x0 := cell_keep x0 xl hb
      replace x1 := cell_keep x1 xl hb
      replace x2 := cell_keep x2 xl hb
      replace xl := lt_keep xl hb
      replace OW := Lib.hid (OW.out.keep hb)
      replace Ox := Lib.hid (Ox.out.keep hb)
      replace OG := Lib.hid (OG.out.keep hb)
      have hs13 := Lib.hid hb.size
      replace B := Lib.hid (below_next B.out hb)
      clear hb
      go_wp2_with fail
      refine (markIntS_any _ _ _ _ 1 _ _ OG.out (by omega) (by have := SZ.out; omega)).mono ?_
      rintro e wv ⟨rfl, OG', hg⟩
      replace a0 := cell_mark a0 hg (row_ne fun b hb => by have := SPG.out b hb; have := hz.out; have := hzx.out; have := hs1.out; have := hs2.out; have := hs3.out; have := hs4.out; have := hs5.out; have := hs6.out; have := hs7.out; have := hs8.out; have := hs9.out; have := hs10.out; have := hs11.out; have := hs12.out; have := hs13.out; omega)
      replace a1 := cell_mark a1 hg (row_ne fun b hb => by have := SPG.out b hb; have := hz.out; have := hzx.out; have := hs1.out; have := hs2.out; have := hs3.out; have := hs4.out; have := hs5.out; have := hs6.out; have := hs7.out; have := hs8.out; have := hs9.out; have := hs10.out; have := hs11.out; have := hs12.out; have := hs13.out; omega)
      replace a2 := cell_mark a2 hg (row_ne fun b hb => by have := SPG.out b hb; have := hz.out; have := hzx.out; have := hs1.out; have := hs2.out; have := hs3.out; have := hs4.out; have := hs5.out; have := hs6.out; have := hs7.out; have := hs8.out; have := hs9.out; have := hs10.out; have := hs11.out; have := hs12.out; have := hs13.out; omega)
      replace al := Nat.lt_of_lt_of_le al hg.size
      replace l0 := cell_mark l0 hg (row_ne fun b hb => by have := SPG.out b hb; have := hz.out; have := hzx.out; have := hs1.out; have := hs2.out; have := hs3.out; have := hs4.out; have := hs5.out; have := hs6.out; have := hs7.out; have := hs8.out; have := hs9.out; have := hs10.out; have := hs11.out; have := hs12.out; have := hs13.out; omega)
      replace l1 := cell_mark l1 hg (row_ne fun b hb => by have := SPG.out b hb; have := hz.out; have := hzx.out; have := hs1.out; have := hs2.out; have := hs3.out; have := hs4.out; have := hs5.out; have := hs6.out; have := hs7.out; have := hs8.out; have := hs9.out; have := hs10.out; have := hs11.out; have := hs12.out; have := hs13.out; omega)
      replace ll := Nat.lt_of_lt_of_le ll hg.size
      replace x0 := cell_mark x0 hg (row_ne fun b hb => by have := SPG.out b hb; have := hz.out; have := hzx.out; have := hs1.out; have := hs2.out; have := hs3.out; have := hs4.out; have := hs5.out; have := hs6.out; have := hs7.out; have := hs8.out; have := hs9.out; have := hs10.out; have := hs11.out; have := hs12.out; have := hs13.out; omega)
      replace x1 := cell_mark x1 hg (row_ne fun b hb => by have := SPG.out b hb; have := hz.out; have := hzx.out; have := hs1.out; have := hs2.out; have := hs3.out; have := hs4.out; have := hs5.out; have := hs6.out; have := hs7.out; have := hs8.out; have := hs9.out; have := hs10.out; have := hs11.out; have := hs12.out; have := hs13.out; omega)
      replace x2 := cell_mark x2 hg (row_ne fun b hb => by have := SPG.out b hb; have := hz.out; have := hzx.out; have := hs1.out; have := hs2.out; have := hs3.out; have := hs4.out; have := hs5.out; have := hs6.out; have := hs7.out; have := hs8.out; have := hs9.out; have := hs10.out; have := hs11.out; have := hs12.out; have := hs13.out; omega)
      replace xl := Nat.lt_of_lt_of_le xl hg.size
      replace OW := Lib.hid (OW.out.other hg fun a ha => row_ne fun b hb => by have := SPW.out a ha; have := SPG.out b hb; have := hz.out; have := hzx.out; have := hs1.out; have := hs2.out; have := hs3.out; have := hs4.out; have := hs5.out; have := hs6.out; have := hs7.out; have := hs8.out; have := hs9.out; have := hs10.out; have := hs11.out; have := hs12.out; have := hs13.out; omega)
      replace Ox := Lib.hid (Ox.out.other hg fun a ha => row_ne fun b hb => by have := SPx.out a ha; have := SPG.out b hb; have := hz.out; have := hzx.out; have := hs1.out; have := hs2.out; have := hs3.out; have := hs4.out; have := hs5.out; have := hs6.out; have := hs7.out; have := hs8.out; have := hs9.out; have := hs10.out; have := hs11.out; have := hs12.out; have := hs13.out; omega)
      replace B := Lib.hid (B.out.grown hg B.out.size (row_ge fun b hb => by have := SPG.out b hb; have := hz.out; have := hzx.out; have := hs1.out; have := hs2.out; have := hs3.out; have := hs4.out; have := hs5.out; have := hs6.out; have := hs7.out; have := hs8.out; have := hs9.out; have := hs10.out; have := hs11.out; have := hs12.out; have := hs13.out; omega))
      have hs14 := Lib.hid hg.size
      replace OG := Lib.hid OG'; clear OG' hg
      go_wp2_with fail
      refine (heldIntS_any _ _ _ 1 _ OG.out.rd (by omega) (by have := SZ.out; omega)).mono ?_
      rintro e wv ⟨rfl, hb⟩
      replace a0 := cell_keep a0 al hb
      replace a1 := cell_keep a1 al hb
      replace a2 := cell_keep a2 al hb
      replace al := lt_keep al hb
      replace l0 := cell_keep l0 ll hb
      replace l1 := cell_keep l1 ll hb
      replace ll := lt_keep ll hb
      replace x0 := cell_keep x0 xl hb
      replace x1 := cell_keep x1 xl hb
      replace x2 := cell_keep x2 xl hb
      replace xl := lt_keep xl hb
      replace OW := Lib.hid (OW.out.keep hb)
      replace Ox := Lib.hid (Ox.out.keep hb)
      replace OG := Lib.hid (OG.out.keep hb)
      have hs15 := Lib.hid hb.size
      replace B := Lib.hid (below_next B.out hb)
      clear hb
      go_wp2_with fail
      go_region_held3 (fun w' => w'.cell? ⟨w.heap.size, 0, none⟩ = some (.int .i64 V0) ∧ w'.cell? ⟨w.heap.size, 1, none⟩ = some (.int .i64 G0) ∧ w'.cell? ⟨w.heap.size, 2, none⟩ = some (.slice A0 n0 c0) ∧ w'.cell? ⟨w.heap.size + 1, 0, none⟩ = some (.int .i64 la1) ∧ w'.cell? ⟨w.heap.size + 1, 1, none⟩ = some (.int .i64 lb1) ∧ w'.cell? ⟨x, 0, none⟩ = some (.int .i64 V0) ∧ w'.cell? ⟨x, 1, none⟩ = some (.int .i64 G0) ∧ w'.cell? ⟨x, 2, none⟩ = some (.slice (some ⟨gx, 0, none⟩) n0 n0)) (first | exact ⟨a0, a1, a2, l0, l1, x0, x1, x2⟩)
        (first
          | (go_at_call 10; refine (toBoard_any _ _ _ _ _ _ _ (by exact (ha0.keep B.out).drew1) (by omega)).mono ?_; rintro e wv ⟨gz, rfl, ownz, hb⟩; (try replace hb := below_undrew hb); replace a0 := cell_keep a0 al hb; replace a1 := cell_keep a1 al hb; replace a2 := cell_keep a2 al hb; replace al := lt_keep al hb; replace l0 := cell_keep l0 ll hb; replace l1 := cell_keep l1 ll hb; replace ll := lt_keep ll hb; replace x0 := cell_keep x0 xl hb; replace x1 := cell_keep x1 xl hb; replace x2 := cell_keep x2 xl hb; replace xl := lt_keep xl hb; replace OW := Lib.hid (OW.out.keep hb); replace Ox := Lib.hid (Ox.out.keep hb); replace OG := Lib.hid (OG.out.keep hb); (try replace Oz := Lib.hid (Oz.out.keep hb)); have hs16 := Lib.hid hb.size; replace B := Lib.hid (below_next B.out hb); have Oz := Lib.hid ownz; have SPz := Lib.hid ownz.span; clear ownz; clear hb)
          | (go_at_call 11; refine (toLeaper_any _ _ _).mono ?_; rintro e wv ⟨rfl, hb⟩; (try replace hb := below_undrew hb); replace a0 := cell_keep a0 al hb; replace a1 := cell_keep a1 al hb; replace a2 := cell_keep a2 al hb; replace al := lt_keep al hb; replace l0 := cell_keep l0 ll hb; replace l1 := cell_keep l1 ll hb; replace ll := lt_keep ll hb; replace x0 := cell_keep x0 xl hb; replace x1 := cell_keep x1 xl hb; replace x2 := cell_keep x2 xl hb; replace xl := lt_keep xl hb; replace OW := Lib.hid (OW.out.keep hb); replace Ox := Lib.hid (Ox.out.keep hb); replace OG := Lib.hid (OG.out.keep hb); (try replace Oz := Lib.hid (Oz.out.keep hb)); have hs17 := Lib.hid hb.size; replace B := Lib.hid (below_next B.out hb); clear hb)
          | (go_at_call 26; refine (impl_TwoColours _ _ _ _ _ _ _ _ _ (by exact Oz.out.rd) (by exact tab_keep hT B.out)).mono ?_; rintro e wv ⟨AH, nH, cH, rfl, ownH, hb⟩; (try replace hb := below_undrew hb); replace a0 := cell_keep a0 al hb; replace a1 := cell_keep a1 al hb; replace a2 := cell_keep a2 al hb; replace al := lt_keep al hb; replace l0 := cell_keep l0 ll hb; replace l1 := cell_keep l1 ll hb; replace ll := lt_keep ll hb; replace x0 := cell_keep x0 xl hb; replace x1 := cell_keep x1 xl hb; replace x2 := cell_keep x2 xl hb; replace xl := lt_keep xl hb; replace OW := Lib.hid (OW.out.keep hb); replace Ox := Lib.hid (Ox.out.keep hb); replace OG := Lib.hid (OG.out.keep hb); have hs18 := Lib.hid hb.size; replace B := Lib.hid (below_next B.out hb); have OH := Lib.hid ownH; have SPH := Lib.hid ownH.span; clear ownH; clear hb))
      all_goals
        clear Oz SPz SPH
        go_wp2_with fail
        refine (eqIntS_any _ _ _ _ _ _ _ _ _ OH.out.rd OW.out.rd).mono ?_
        simp only [decide_true]
        rintro e wv ⟨rfl, hb⟩
        replace a0 := cell_keep a0 al hb
        replace a1 := cell_keep a1 al hb
        replace a2 := cell_keep a2 al hb
        replace al := lt_keep al hb
        replace l0 := cell_keep l0 ll hb
        replace l1 := cell_keep l1 ll hb
        replace ll := lt_keep ll hb
        replace x0 := cell_keep x0 xl hb
        replace x1 := cell_keep x1 xl hb
        replace x2 := cell_keep x2 xl hb
        replace xl := lt_keep xl hb
        replace OW := Lib.hid (OW.out.keep hb)
        replace Ox := Lib.hid (Ox.out.keep hb)
        replace OG := Lib.hid (OG.out.keep hb)
        have hs19 := Lib.hid hb.size
        replace B := Lib.hid (below_next B.out hb)
        clear hb OH
        go_wp2_with fail
        refine (heldIntS_any _ _ _ 1 _ OG.out.rd (by omega) (by have := SZ.out; omega)).mono ?_
        rintro e wv ⟨rfl, hb⟩
        replace a0 := cell_keep a0 al hb
        replace a1 := cell_keep a1 al hb
        replace a2 := cell_keep a2 al hb
        replace al := lt_keep al hb
        replace l0 := cell_keep l0 ll hb
        replace l1 := cell_keep l1 ll hb
        replace ll := lt_keep ll hb
        replace x0 := cell_keep x0 xl hb
        replace x1 := cell_keep x1 xl hb
        replace x2 := cell_keep x2 xl hb
        replace xl := lt_keep xl hb
        replace OW := Lib.hid (OW.out.keep hb)
        replace Ox := Lib.hid (Ox.out.keep hb)
        replace OG := Lib.hid (OG.out.keep hb)
        have hs20 := Lib.hid hb.size
        replace B := Lib.hid (below_next B.out hb)
        clear hb
        go_wp2
        go_ret
        exact ⟨rfl, B.out⟩

end Go.Proofs.YtcfibfbenccimaaGreatDoor
