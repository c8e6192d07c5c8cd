/-
  Contracts: PartsOfBoard.
-/
import Derived.Test.YtagdmdjofcjilaaP7
namespace Go.Proofs.Ytagdmdjofcjilaa
open Go.RowKit

def partsV (W H : Int) (xs : List Int) (a b : Int) : List (List Int) := if okTwo W H xs a b = true then partsL W H xs a b else []
theorem partsV_small (W H : Int) (xs : List Int) (a b : Int) : (partsV W H xs a b).length ≤ 64 ∧ ∀ p ∈ partsV W H xs a b, p.length ≤ 64 := by
  unfold partsV
  split
  · rename_i h
    have hF := on_facts h
    have h1 := partsTo_len W H xs a b (cellsL W H xs).length
    have h2 := cellsTo_len (W := W) (H := H) (hs := xs) (W * H).toNat
    have h3 := hF.n
    have h4 := hF.wh
    have eP : partsTo W H xs a b (cellsL W H xs).length = partsL W H xs a b := by rw [partsTo, List.take_length]; rfl
    rw [eP] at h1
    refine ⟨by unfold cellsL at h1; omega, ?_⟩
    have key : ∀ (l : List Int) (ps : List (List Int)), (∀ p ∈ ps, p.length ≤ 64) → ∀ p ∈ l.foldl (partStep (partL W H xs a b)) ps, p.length ≤ 64 := by
      intro l
      induction l with
      | nil => intro ps h; exact h
      | cons c t ih =>
        intro ps h
        rw [List.foldl_cons]
        refine ih _ (fun p hp => ?_)
        rw [partStep] at hp
        split at hp
        · exact h p hp
        · rcases List.mem_append.1 hp with hp | hp
          · exact h p hp
          · simp at hp; subst hp
            have := selTo_len (nearB (distL W H xs a b c) 64) (W * H).toNat
            unfold partL; omega
    exact key _ [] (fun p hp => by simp at hp)
  · exact ⟨by simp, fun p hp => by simp at hp⟩

set_option maxRecDepth 100000 in
set_option maxHeartbeats 2000000 in
theorem spec_PartsOfBoard (W H : Int) (A : Option Addr) (n c : Nat) (xs : List Int) (a b : Int) (w : World) (ha : Rd w A n xs) :
    Calls Try.prog 34 #[brd W H A n c, lpr a b] w fun e w' => ∃ A' n' c', e = .returned (.tuple #[.slice A' n' c', .bool (okTwo W H xs a b)]) ∧ OwnSS w' w.heap.size w'.heap.size A' n' c' (partsV W H xs a b) ∧ Below w.heap.size w w' := by
  by_cases ht : (goodB W H xs && leaperB a b) = true
  · have hok : okTwo W H xs a b = true := by rw [okTwo, two_l ht, two_g ht]; rfl
    have FO := on_facts hok
    obtain ⟨N, hN⟩ : ∃ N, N = (W * H).toNat := ⟨_, rfl⟩
    rw [← hN] at FO
    have HF := Lib.hid FO
    have HOK := Lib.hid hok
    have n64 := FO.n.2
    clear FO hN
    go_enter Try.func34, Try.ntmps34
    go_wp2_with fail
    refine (boTwo_any _ _ _ _ _ _ _ _ _ ((ha.alloc _).alloc _)).mono ?_
    rw [ht]
    rintro e wv ⟨rfl, hb⟩
    have hbx0 := below_box hb
    have a0 : wv.cell? ⟨w.heap.size, 0, none⟩ = some (.int .i64 W) := by simpa using newbox hbx0 0
    have a1 : wv.cell? ⟨w.heap.size, 1, none⟩ = some (.int .i64 H) := by simpa using newbox hbx0 1
    have a2 : wv.cell? ⟨w.heap.size, 2, none⟩ = some (.slice A n c) := by simpa using newbox hbx0 2
    have al : w.heap.size < wv.heap.size := by simpa using newbox_lt hbx0
    have l0 : wv.cell? ⟨w.heap.size + 1, 0, none⟩ = some (.int .i64 a) := by simpa using newbox hb 0
    have l1 : wv.cell? ⟨w.heap.size + 1, 1, none⟩ = some (.int .i64 b) := by simpa using newbox hb 1
    have ll : w.heap.size + 1 < wv.heap.size := by simpa using newbox_lt hb
    have B := Lib.hid (below_box hbx0)
    clear hb hbx0
    go_wp2_with fail
    refine (faParts_any W H A n c xs a b N _ (ha.keep B.out) HF.out).mono ?_
    rintro e wx ⟨A', n', c', top, rfl, pa, hb⟩
    have PA := Lib.hid (OwnSS.of (pa.lower B.out.size))
    replace B := Lib.hid (below_next B.out hb)
    clear pa hb
    go_wp2
    go_ret2
    exact ⟨_, _, _, by rw [HOK.out]; rfl, by rw [partsV, if_pos HOK.out]; exact PA.out, B.out⟩
  · have ht' : (goodB W H xs && leaperB a b) = false := by simpa using ht
    go_enter Try.func34, Try.ntmps34
    go_wp2_with fail
    refine (boTwo_any _ _ _ _ _ _ _ _ _ ((ha.alloc _).alloc _)).mono ?_
    rw [ht']
    rintro e wv ⟨rfl, hb⟩
    have hbx0 := below_box hb
    have a0 : wv.cell? ⟨w.heap.size, 0, none⟩ = some (.int .i64 W) := by simpa using newbox hbx0 0
    have a1 : wv.cell? ⟨w.heap.size, 1, none⟩ = some (.int .i64 H) := by simpa using newbox hbx0 1
    have a2 : wv.cell? ⟨w.heap.size, 2, none⟩ = some (.slice A n c) := by simpa using newbox hbx0 2
    have al : w.heap.size < wv.heap.size := by simpa using newbox_lt hbx0
    have l0 : wv.cell? ⟨w.heap.size + 1, 0, none⟩ = some (.int .i64 a) := by simpa using newbox hb 0
    have l1 : wv.cell? ⟨w.heap.size + 1, 1, none⟩ = some (.int .i64 b) := by simpa using newbox hb 1
    have ll : w.heap.size + 1 < wv.heap.size := by simpa using newbox_lt hb
    have B := Lib.hid (below_box hbx0)
    clear hb hbx0
    go_wp2
    go_ret2
    exact ⟨none, 0, 0, by rw [show okTwo W H xs a b = false by (rw [okTwo, Bool.and_comm, ht'])]; rfl, by rw [partsV, if_neg (by rw [show okTwo W H xs a b = false by (rw [okTwo, Bool.and_comm, ht'])]; simp)]; exact OwnSS.of (PartsAt.none_ _ _ 0), B.out⟩

set_option maxRecDepth 100000 in
set_option maxHeartbeats 2000000 in
theorem impl_PartsOfBoard (W H : Int) (A : Option Addr) (n c : Nat) (xs : List Int) (a b : Int) (w : World) (ha : Rd w A n xs) :
    Calls Try.prog 35 #[brd W H A n c, lpr a b] w fun e w' => ∃ A' n' c', e = .returned (.tuple #[.slice A' n' c', .bool (okTwo W H xs a b)]) ∧ OwnSS w' w.heap.size w'.heap.size A' n' c' (partsV W H xs a b) ∧ Below w.heap.size w w' := by
  by_cases ho : onB W H xs a b [] = true
  · have hok : okTwo W H xs a b = true := by rw [← onB_nil2, ho]
    have FO := on_facts hok
    obtain ⟨N, hN⟩ : ∃ N, N = (W * H).toNat := ⟨_, rfl⟩
    rw [← hN] at FO
    have HF := Lib.hid FO
    have HOK := Lib.hid hok
    have n64 := FO.n.2
    clear FO hN
    go_enter Try.func35, Try.ntmps35
    go_wp2_with fail
    refine (isLeaperOn_any _ _ _ _ _ _ _ _ _ _ _ [] _ ((ha.alloc _).alloc _) (Rd.nil _ _)).mono ?_
    rw [ho]
    rintro e wv ⟨rfl, hb⟩
    have hbx0 := below_box hb
    have a0 : wv.cell? ⟨w.heap.size, 0, none⟩ = some (.int .i64 W) := by simpa using newbox hbx0 0
    have a1 : wv.cell? ⟨w.heap.size, 1, none⟩ = some (.int .i64 H) := by simpa using newbox hbx0 1
    have a2 : wv.cell? ⟨w.heap.size, 2, none⟩ = some (.slice A n c) := by simpa using newbox hbx0 2
    have al : w.heap.size < wv.heap.size := by simpa using newbox_lt hbx0
    have l0 : wv.cell? ⟨w.heap.size + 1, 0, none⟩ = some (.int .i64 a) := by simpa using newbox hb 0
    have l1 : wv.cell? ⟨w.heap.size + 1, 1, none⟩ = some (.int .i64 b) := by simpa using newbox hb 1
    have ll : w.heap.size + 1 < wv.heap.size := by simpa using newbox_lt hb
    have B := Lib.hid (below_box hbx0)
    clear hb hbx0
    have RR := Lib.hid (ha.keep B.out)
    go_wp2_with fail
    refine wp_region_held_drew (S := fun w' => w'.cell? ⟨w.heap.size, 0, none⟩ = some (.int .i64 W) ∧ w'.cell? ⟨w.heap.size, 1, none⟩ = some (.int .i64 H) ∧ w'.cell? ⟨w.heap.size, 2, none⟩ = some (.slice A n c) ∧ w'.cell? ⟨w.heap.size + 1, 0, none⟩ = some (.int .i64 a) ∧ w'.cell? ⟨w.heap.size + 1, 1, none⟩ = some (.int .i64 b)) (by kernel_rfl) ?_ (fun hHeld => ?_)
    · (try dsimp only)
      exact ⟨a0, a1, a2, l0, l1⟩
    refine wpAnyH_take (i := 0) (oi := ⟨_, _, _, _, _, _⟩) (v := ?_) rfl (by kernel_rfl) (by kernel_rfl) (by kernel_rfl) (fun _ _ _ h => h) (Or.inl ⟨by rfl, ?_⟩) (by assumption) ?_
    rotate_left
    · intro w hSw
      (try dsimp only at hSw)
      go_simp
      (try with_reducible rfl)
    (try simp only [Act.put, List.setIfInBounds_toArray, List.set_cons_zero, List.set_cons_succ])
    refine wpAnyH_take (i := 1) (oi := ⟨_, _, _, _, _, _⟩) (v := ?_) rfl (by kernel_rfl) (by kernel_rfl) (by kernel_rfl) (fun _ _ _ h => h) (Or.inl ⟨by rfl, ?_⟩) (by assumption) ?_
    rotate_left
    · intro w hSw
      (try dsimp only at hSw)
      go_simp
      (try with_reducible rfl)
    (try simp only [Act.put, List.setIfInBounds_toArray, List.set_cons_zero, List.set_cons_succ])
    refine wpAnyH_take (i := 2) (oi := ⟨_, _, _, _, _, _⟩) (v := ?_) rfl (by kernel_rfl) (by kernel_rfl) (by kernel_rfl) (fun _ _ _ h => h) (Or.inl ⟨by rfl, ?_⟩) (by assumption) ?_
    rotate_left
    · intro w hSw
      (try dsimp only at hSw)
      go_simp
      (try with_reducible rfl)
    (try simp only [Act.put, List.setIfInBounds_toArray, List.set_cons_zero, List.set_cons_succ])
    refine wpAnyH_ready (rs := [3]) (by kernel_rfl) (by simp) ?_
    refine AllReadyH.cons (o := ⟨_, _, _, _, _, _⟩) rfl (fun K hK => ?_) AllReadyH.nil
    go_simp
    (go_at_call 57; refine (onwardOf_any W H A n c xs a b _ ?_ ?_ ?_).mono ?_; (first | exact RR.out | exact RR.out.drew1 | exact RR.out.drewN _); (exact HF.out.g); (exact HF.out.l); rintro e wx ⟨mb, rfl, hom, hb⟩; (repeat (first | replace hb := below_undrew hb | replace hb := below_undrewN hb)); replace a0 := cell_keep a0 al hb; replace a1 := cell_keep a1 al hb; replace a2 := cell_keep a2 al hb; replace l0 := cell_keep l0 ll hb; replace l1 := cell_keep l1 ll hb; replace al := lt_keep al hb; replace ll := lt_keep ll hb; replace B := Lib.hid (below_next B.out hb); replace RR := Lib.hid (RR.out.keep hb); have HOM := Lib.hid hom; clear hb hom)
    (try go_wp2_with fail)
    refine hK.out _ _ ?_ (fun hHeld => ?_)
    · (try dsimp only)
      exact ⟨a0, a1, a2, l0, l1⟩
    clear hK K
    (try simp only [Act.put, List.setIfInBounds_toArray, List.set_cons_zero, List.set_cons_succ])
    refine wpAnyH_ready (rs := [4]) (by kernel_rfl) (by simp) ?_
    refine AllReadyH.cons (o := ⟨_, _, _, _, _, _⟩) rfl (fun K hK => ?_) AllReadyH.nil
    go_simp
    (go_at_call 68; refine (partsOf_any W H A n c xs a b N _ mb _ ?_ HF.out HOM.out).mono ?_; (first | exact RR.out | exact RR.out.drew1 | exact RR.out.drewN _); rintro e wy ⟨A', n', c', top, rfl, pa, hb⟩; (repeat (first | replace hb := below_undrew hb | replace hb := below_undrewN hb)); have PA := Lib.hid (pa.lower B.out.size); replace a0 := cell_keep a0 al hb; replace a1 := cell_keep a1 al hb; replace a2 := cell_keep a2 al hb; replace l0 := cell_keep l0 ll hb; replace l1 := cell_keep l1 ll hb; replace al := lt_keep al hb; replace ll := lt_keep ll hb; replace B := Lib.hid (below_next B.out hb); replace RR := Lib.hid (RR.out.keep hb); clear hb pa)
    (try go_wp2_with fail)
    refine hK.out _ _ ?_ (fun hHeld => ?_)
    · (try dsimp only)
      exact ⟨a0, a1, a2, l0, l1⟩
    clear hK K
    (try simp only [Act.put, List.setIfInBounds_toArray, List.set_cons_zero, List.set_cons_succ])
    refine wpAnyH_take (i := 5) (oi := ⟨_, _, _, _, _, _⟩) (v := ?_) rfl (by kernel_rfl) (by kernel_rfl) (by kernel_rfl) (fun _ _ _ h => h) (Or.inl ⟨by rfl, ?_⟩) (by assumption) ?_
    rotate_left
    · intro w hSw
      (try dsimp only at hSw)
      go_simp
      (try with_reducible rfl)
    (try simp only [Act.put, List.setIfInBounds_toArray, List.set_cons_zero, List.set_cons_succ])
    refine wpAnyH_take (i := 6) (oi := ⟨_, _, _, _, _, _⟩) (v := ?_) rfl (by kernel_rfl) (by kernel_rfl) (by kernel_rfl) (fun _ _ _ h => h) (Or.inl ⟨by rfl, ?_⟩) (by assumption) ?_
    rotate_left
    · intro w hSw
      (try dsimp only at hSw)
      go_simp
      (try with_reducible rfl)
    (try simp only [Act.put, List.setIfInBounds_toArray, List.set_cons_zero, List.set_cons_succ])
    refine wpAnyH_done (by kernel_rfl) ?_ _
    all_goals go_wp2
    all_goals go_ret2
    all_goals exact ⟨_, _, _, by rw [HOK.out]; rfl, by rw [partsV, if_pos HOK.out]; exact OwnSS.of PA.out, B.out⟩
  · have ho' : onB W H xs a b [] = false := by simpa using ho
    go_enter Try.func35, Try.ntmps35
    go_wp2_with fail
    refine (isLeaperOn_any _ _ _ _ _ _ _ _ _ _ _ [] _ ((ha.alloc _).alloc _) (Rd.nil _ _)).mono ?_
    rw [ho']
    rintro e wv ⟨rfl, hb⟩
    have hbx0 := below_box hb
    have a0 : wv.cell? ⟨w.heap.size, 0, none⟩ = some (.int .i64 W) := by simpa using newbox hbx0 0
    have a1 : wv.cell? ⟨w.heap.size, 1, none⟩ = some (.int .i64 H) := by simpa using newbox hbx0 1
    have a2 : wv.cell? ⟨w.heap.size, 2, none⟩ = some (.slice A n c) := by simpa using newbox hbx0 2
    have al : w.heap.size < wv.heap.size := by simpa using newbox_lt hbx0
    have l0 : wv.cell? ⟨w.heap.size + 1, 0, none⟩ = some (.int .i64 a) := by simpa using newbox hb 0
    have l1 : wv.cell? ⟨w.heap.size + 1, 1, none⟩ = some (.int .i64 b) := by simpa using newbox hb 1
    have ll : w.heap.size + 1 < wv.heap.size := by simpa using newbox_lt hb
    have B := Lib.hid (below_box hbx0)
    clear hb hbx0
    go_wp2
    go_ret2
    exact ⟨none, 0, 0, by rw [show okTwo W H xs a b = false by (rw [← onB_nil2, ho'])]; rfl, by rw [partsV, if_neg (by rw [show okTwo W H xs a b = false by (rw [← onB_nil2, ho'])]; simp)]; exact OwnSS.of (PartsAt.none_ _ _ 0), B.out⟩

end Go.Proofs.Ytagdmdjofcjilaa
