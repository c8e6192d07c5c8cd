/-
  AreGuards: what the law compares.
  AreGuards: both sides.
-/
import Derived.Test.YtjplcnbifcpebaaDoorD8
namespace Go.Proofs.YtjplcnbifcpebaaDoor
open Go.RowKit Go.Shelf

def areGB (W H : Int) (xs : List Int) (a b : Int) (ps : List Int) : Bool := decide ((guardL W H xs a b ps).length = (cellsL W H xs).length)
theorem areGB_iff {W H a b : Int} {xs ps : List Int} (hg : goodB W H xs = true) (hp : ∀ x ∈ ps, hasB W H xs x = true) : areGB W H xs a b ps = true ↔ grdL (glG W H xs a b) ps = allS W H xs := by
  rw [areGB, decide_eq_true_eq]
  constructor
  · intro h
    have h1 : guardL W H xs a b ps = cellsL W H xs := (List.filter_sublist (l := cellsL W H xs)).eq_of_length h
    have h2 : setBits ((bitsL (grdL (glG W H xs a b) ps)).map Int.toNat) = setBits ((cellsL W H xs).map Int.toNat) := by rw [guard_bits hg hp, h1]
    apply Nat.eq_of_testBit_eq
    intro i
    have h3 : (setBits ((bitsL (grdL (glG W H xs a b) ps)).map Int.toNat)).testBit i = (setBits ((cellsL W H xs).map Int.toNat)).testBit i := by rw [h2]
    rw [allS, ← h3, Bool.eq_iff_iff, setBits_test _ _ _ rfl, List.mem_map]
    constructor
    · intro hb
      have hi : i < 64 := by
        rcases Nat.lt_or_ge i 64 with h | h
        · exact h
        · exfalso
          rw [guard_bit hg hp] at hb
          have := (has_64 hg hb.1).2; omega
      exact ⟨(i : Int), bitsL_mem.2 ⟨by omega, by omega, by simpa using hb⟩, by omega⟩
    · rintro ⟨x, hx, rfl⟩
      exact (bitsL_mem.1 hx).2.2
  · intro h
    rw [← guard_bits hg hp, h, allS, set_bits (cellsL_rise W H xs) (cells_64 hg)]
def areV (W H : Int) (xs : List Int) (a b : Int) (ps : List Int) : Bool := askB W H xs a b ps && areGB W H xs a b ps

set_option maxRecDepth 100000 in
set_option maxHeartbeats 1000000 in
theorem guAre_any (W H : Int) (A : Option Addr) (n c : Nat) (xs : List Int) (a b : Int) (A2 : Option Addr) (m c2 : Nat) (ps : List Int) (w : World) (ha : Rd w A n xs) (hp : Rd w A2 m ps) (hg : goodB W H xs = true) (hps : ∀ x ∈ ps, hasB W H xs x = true) :
    Calls Tryd.prog 29 #[brd W H A n c, lpr a b, .slice A2 m c2] w fun e w' => e = .returned (.bool (areGB W H xs a b ps)) ∧ Below w.heap.size w w' := by
  obtain ⟨hW, hH, _, _⟩ := goodB_iff.1 hg
  have HN := Lib.hid (cells_le hW hH)
  have HG := Lib.hid hg
  have HPS := Lib.hid hps
  clear hW hH hg hps
  go_enter Tryd.func29, Tryd.ntmps29
  obtain ⟨W1, hW1⟩ : ∃ W1, W1 = (w.alloc (.cells #[.int .i64 W, .int .i64 H, .slice A n c] 30)).alloc (.cells #[.int .i64 a, .int .i64 b] 32) := ⟨_, rfl⟩
  have B := Lib.hid (show Below w.heap.size w W1 by rw [hW1]; exact (below_new (Below.refl _ _) _).alloc (by simp) _)
  have a0 : W1.cell? ⟨w.heap.size, 0, none⟩ = some (.int .i64 W) := by rw [hW1]; go_simp
  have a1 : W1.cell? ⟨w.heap.size, 1, none⟩ = some (.int .i64 H) := by rw [hW1]; go_simp
  have a2 : W1.cell? ⟨w.heap.size, 2, none⟩ = some (.slice A n c) := by rw [hW1]; go_simp
  have l0 : W1.cell? ⟨w.heap.size + 1, 0, none⟩ = some (.int .i64 a) := by rw [hW1]; go_simp
  have l1 : W1.cell? ⟨w.heap.size + 1, 1, none⟩ = some (.int .i64 b) := by rw [hW1]; go_simp
  have ga : w.heap.size < W1.heap.size := by rw [hW1]; simp; omega
  have gl : w.heap.size + 1 < W1.heap.size := by rw [hW1]; simp
  go_wp2_with fail
  rw [← hW1]
  clear hW1
  refine wp_region_held_drew (S := fun w' => w'.cell? ⟨w.heap.size, 0, none⟩ = some (.int .i64 W) ∧ w'.cell? ⟨w.heap.size, 1, none⟩ = some (.int .i64 H) ∧ w'.cell? ⟨w.heap.size, 2, none⟩ = some (.slice A n c) ∧ w'.cell? ⟨w.heap.size + 1, 0, none⟩ = some (.int .i64 a) ∧ w'.cell? ⟨w.heap.size + 1, 1, none⟩ = some (.int .i64 b)) (by kernel_rfl) ?_ (fun hHeld => ?_)
  · (try dsimp only)
    exact ⟨a0, a1, a2, l0, l1⟩
  refine wpAnyH_take (i := 0) (oi := ⟨_, _, _, _, _, _⟩) (v := ?_) rfl (by kernel_rfl) (by kernel_rfl) (by kernel_rfl) (fun _ _ _ h => h) (Or.inl ⟨by rfl, ?_⟩) (by assumption) ?_
  rotate_left
  · intro w hSw
    (try dsimp only at hSw)
    go_simp
    (try with_reducible rfl)
  (try simp only [Act.put, List.setIfInBounds_toArray, List.set_cons_zero, List.set_cons_succ])
  refine wpAnyH_take (i := 1) (oi := ⟨_, _, _, _, _, _⟩) (v := ?_) rfl (by kernel_rfl) (by kernel_rfl) (by kernel_rfl) (fun _ _ _ h => h) (Or.inl ⟨by rfl, ?_⟩) (by assumption) ?_
  rotate_left
  · intro w hSw
    (try dsimp only at hSw)
    go_simp
    (try with_reducible rfl)
  (try simp only [Act.put, List.setIfInBounds_toArray, List.set_cons_zero, List.set_cons_succ])
  refine wpAnyH_take (i := 2) (oi := ⟨_, _, _, _, _, _⟩) (v := ?_) rfl (by kernel_rfl) (by kernel_rfl) (by kernel_rfl) (fun _ _ _ h => h) (Or.inl ⟨by rfl, ?_⟩) (by assumption) ?_
  rotate_left
  · intro w hSw
    (try dsimp only at hSw)
    go_simp
    (try with_reducible rfl)
  (try simp only [Act.put, List.setIfInBounds_toArray, List.set_cons_zero, List.set_cons_succ])
  refine wpAnyH_take (i := 5) (oi := ⟨_, _, _, _, _, _⟩) (v := ?_) rfl (by kernel_rfl) (by kernel_rfl) (by kernel_rfl) (fun _ _ _ h => h) (Or.inl ⟨by rfl, ?_⟩) (by assumption) ?_
  rotate_left
  · intro w hSw
    (try dsimp only at hSw)
    go_simp
    (try with_reducible rfl)
  (try simp only [Act.put, List.setIfInBounds_toArray, List.set_cons_zero, List.set_cons_succ])
  refine wpAnyH_ready (rs := [3]) (by kernel_rfl) (by simp) ?_
  refine AllReadyH.cons (o := ⟨_, _, _, _, _, _⟩) rfl (fun K hK => ?_) AllReadyH.nil
  go_simp
  refine (guGuarded_any W H A n c xs a b A2 m c2 ps _ (by first | exact (ha.keep B.out) | exact (ha.keep B.out).drew1) (by first | exact (hp.keep B.out) | exact (hp.keep B.out).drew1) HG.out HPS.out).mono ?_
  rintro e wv ⟨A3, n3, c3, rfl, ho, hb⟩
  (try replace hb := below_undrew hb)
  have hn3 := Lib.hid ho.len
  clear ho
  replace a0 := cell_keep a0 ga hb; replace a1 := cell_keep a1 ga hb; replace a2 := cell_keep a2 ga hb; replace l0 := cell_keep l0 gl hb; replace l1 := cell_keep l1 gl hb; replace ga := lt_keep ga hb; replace gl := lt_keep gl hb; replace B := Lib.hid (below_next B.out hb)
  clear hb
  dsimp only
  refine hK.out _ _ ?_ (fun hHeld => ?_)
  · (try dsimp only)
    exact ⟨a0, a1, a2, l0, l1⟩
  clear hK K
  (try simp only [Act.put, List.setIfInBounds_toArray, List.set_cons_zero, List.set_cons_succ])
  refine wpAnyH_take (i := 4) (oi := ⟨_, _, _, _, _, _⟩) (v := ?_) rfl (by kernel_rfl) (by kernel_rfl) (by kernel_rfl) (fun _ _ _ h => h) (Or.inl ⟨by rfl, ?_⟩) (by assumption) ?_
  rotate_left
  · intro w hSw
    (try dsimp only at hSw)
    go_simp
    (try with_reducible rfl)
  (try simp only [Act.put, List.setIfInBounds_toArray, List.set_cons_zero, List.set_cons_succ])
  refine wpAnyH_ready (rs := [6]) (by kernel_rfl) (by simp) ?_
  refine AllReadyH.cons (o := ⟨_, _, _, _, _, _⟩) rfl (fun K hK => ?_) AllReadyH.nil
  go_simp
  refine (boCells_any W H A n c xs _ (by first | exact (ha.keep B.out) | exact (ha.keep B.out).drew1) HN.out).mono ?_
  rintro e wv ⟨A4, n4, c4, rfl, ho, hb⟩
  have hn4 := Lib.hid ho.len
  clear ho
  replace a0 := cell_keep a0 ga hb; replace a1 := cell_keep a1 ga hb; replace a2 := cell_keep a2 ga hb; replace l0 := cell_keep l0 gl hb; replace l1 := cell_keep l1 gl hb; replace ga := lt_keep ga hb; replace gl := lt_keep gl hb; replace B := Lib.hid (below_next B.out hb)
  clear hb
  dsimp only
  refine hK.out _ _ ?_ (fun hHeld => ?_)
  · (try dsimp only)
    exact ⟨a0, a1, a2, l0, l1⟩
  clear hK K
  (try simp only [Act.put, List.setIfInBounds_toArray, List.set_cons_zero, List.set_cons_succ])
  refine wpAnyH_take (i := 7) (oi := ⟨_, _, _, _, _, _⟩) (v := ?_) rfl (by kernel_rfl) (by kernel_rfl) (by kernel_rfl) (fun _ _ _ h => h) (Or.inl ⟨by rfl, ?_⟩) (by assumption) ?_
  rotate_left
  · intro w hSw
    (try dsimp only at hSw)
    go_simp
    (try with_reducible rfl)
  (try simp only [Act.put, List.setIfInBounds_toArray, List.set_cons_zero, List.set_cons_succ])
  refine wpAnyH_take (i := 8) (oi := ⟨_, _, _, _, _, _⟩) (v := ?_) rfl (by kernel_rfl) (by kernel_rfl) (by kernel_rfl) (fun _ _ _ h => h) (Or.inl ⟨by rfl, ?_⟩) (by assumption) ?_
  rotate_left
  · intro w hSw
    (try dsimp only at hSw)
    go_simp
    (try with_reducible rfl)
  (try simp only [Act.put, List.setIfInBounds_toArray, List.set_cons_zero, List.set_cons_succ])
  refine wpAnyH_take (i := 9) (oi := ⟨_, _, _, _, _, _⟩) (v := ?_) rfl (by kernel_rfl) (by kernel_rfl) (by kernel_rfl) (fun _ _ _ h => h) (Or.inl ⟨by rfl, ?_⟩) (by assumption) ?_
  rotate_left
  · intro w hSw
    (try dsimp only at hSw)
    go_simp
    (try with_reducible rfl)
  (try simp only [Act.put, List.setIfInBounds_toArray, List.set_cons_zero, List.set_cons_succ])
  refine wpAnyH_done (by kernel_rfl) ?_ _
  have HV := Lib.hid (show areGB W H xs a b ps = ((n3 : Int) == (n4 : Int)) by rw [areGB, hn3.out, hn4.out, Bool.eq_iff_iff]; simp; omega)
  go_wp2
  go_ret
  exact ⟨by rw [HV.out]; rfl, B.out⟩
end Go.Proofs.YtjplcnbifcpebaaDoor

namespace Go.Proofs.YtjplcnbifcpebaaDoor
open Go.RowKit Go.Shelf
attribute [local go_sem] Oper.semAt_some

set_option maxRecDepth 100000 in
theorem store_groundW {G : List Nat} (hG : G.length = 65) (w2 : World) :
    (Instr.storeAt 48 (.pointer (some ⟨w2.heap.size, 0, none⟩)) (.agg (words G).toArray)).run Tryd.prog (w2.alloc (.cells Tryd.zeroCells48 48)) = .ok () (w2.alloc (.cells (words G).toArray 48)) :=
  run_storeAt_new _ _ _ _ (by rw [info_ground]; simp [words, hG]) (by rw [zero_ground]; simp [words, hG]) (all_oneCell_toArray (words_one _))

set_option maxRecDepth 100000 in
set_option maxHeartbeats 1000000 in
theorem spec_AreGuards (W H : Int) (A : Option Addr) (n c : Nat) (xs : List Int) (a b : Int) (A2 : Option Addr) (m c2 : Nat) (ps : List Int) (w : World) (ha : Rd w A n xs) (hp : Rd w A2 m ps) :
    Calls Tryd.prog 17 #[brd W H A n c, lpr a b, .slice A2 m c2] w fun e w' => e = .returned (.tuple #[.bool (areV W H xs a b ps), .bool (askB W H xs a b ps)]) ∧ Below w.heap.size w w' := by
  cases ht : askB W H xs a b ps with
  | true =>
    have HT := Lib.hid ht
    go_enter Tryd.func17, Tryd.ntmps17
    go_wp2_with fail
    refine (guAsked_any W H A n c xs a b A2 m c2 ps _ ((ha.alloc _).alloc _) ((hp.alloc _).alloc _)).mono ?_
    rw [ht]
    rintro e wv ⟨rfl, hb⟩
    have hbx0 := below_box hb
    have a0 : wv.cell? ⟨w.heap.size, 0, none⟩ = some (.int .i64 W) := by simpa using newbox hbx0 0
    have a1 : wv.cell? ⟨w.heap.size, 1, none⟩ = some (.int .i64 H) := by simpa using newbox hbx0 1
    have a2 : wv.cell? ⟨w.heap.size, 2, none⟩ = some (.slice A n c) := by simpa using newbox hbx0 2
    have l0 : wv.cell? ⟨w.heap.size + 1, 0, none⟩ = some (.int .i64 a) := by simpa using newbox hb 0
    have l1 : wv.cell? ⟨w.heap.size + 1, 1, none⟩ = some (.int .i64 b) := by simpa using newbox hb 1
    have B := Lib.hid (below_box hbx0)
    clear hb hbx0 ht
    go_wp2_with fail
    refine (guAre_any W H A n c xs a b A2 m c2 ps _ (ha.keep B.out) (hp.keep B.out) (ask_parts HT.out).1 (setB_facts (ask_parts HT.out).2.2).1).mono ?_
    rintro e wv ⟨rfl, hb⟩
    replace B := Lib.hid (below_next B.out hb)
    clear hb
    go_wp2
    go_ret2
    exact ⟨by rw [areV, HT.out, Bool.true_and]; rfl, B.out⟩
  | false =>
    go_enter Tryd.func17, Tryd.ntmps17
    go_wp2_with fail
    refine (guAsked_any W H A n c xs a b A2 m c2 ps _ ((ha.alloc _).alloc _) ((hp.alloc _).alloc _)).mono ?_
    rw [ht]
    rintro e wv ⟨rfl, hb⟩
    have B := Lib.hid (below_box (below_box hb))
    clear hb
    go_wp2
    go_ret2
    exact ⟨by rw [areV, ht, Bool.false_and]; rfl, B.out⟩

set_option maxRecDepth 100000 in
set_option maxHeartbeats 1000000 in
theorem impl_AreGuards (W H : Int) (A : Option Addr) (n c : Nat) (xs : List Int) (a b : Int) (A2 : Option Addr) (m c2 : Nat) (ps : List Int) (w : World) (ha : Rd w A n xs) (hp : Rd w A2 m ps) (hT : Tab64 w ∧ 0 < w.heap.size) :
    Calls Tryd.prog 18 #[brd W H A n c, lpr a b, .slice A2 m c2] w fun e w' => e = .returned (.tuple #[.bool (areV W H xs a b ps), .bool (askB W H xs a b ps)]) ∧ Below w.heap.size w w' := by
  cases ht : askB W H xs a b ps with
  | true =>
    have HT := Lib.hid ht
    obtain ⟨hg, hl, hsb⟩ := ask_parts ht
    have HG := Lib.hid hg; have HL := Lib.hid hl; have HS := Lib.hid hsb
    have HTab := Lib.hid hT
    clear hg hl hsb hT
    refine (callsIn_wide (n := 9)).1 ?_
    refine callsIn_of_wp Tryd.func18 rfl trivial ?_ rfl
    simp only [Tryd.ntmps18, List.size_toArray, List.length_cons, List.length_nil, Nat.reduceAdd, Nat.reduceSub, Array.replicate_succ, Array.replicate_zero, List.push_toArray, List.append_toArray, List.nil_append, List.cons_append]
    gi_wp2
    refine ⟨trivial, (callsIn_wide.2 (isSetOn_any W H A n c xs a b A2 m c2 ps _ ((ha.alloc _).alloc _) ((hp.alloc _).alloc _))).mono ?_⟩
    rw [ht]
    rintro e wv ⟨rfl, hb⟩
    have hbx0 := below_box hb
    have a0 : wv.cell? ⟨w.heap.size, 0, none⟩ = some (.int .i64 W) := by simpa using newbox hbx0 0
    have a1 : wv.cell? ⟨w.heap.size, 1, none⟩ = some (.int .i64 H) := by simpa using newbox hbx0 1
    have a2 : wv.cell? ⟨w.heap.size, 2, none⟩ = some (.slice A n c) := by simpa using newbox hbx0 2
    have l0 : wv.cell? ⟨w.heap.size + 1, 0, none⟩ = some (.int .i64 a) := by simpa using newbox hb 0
    have l1 : wv.cell? ⟨w.heap.size + 1, 1, none⟩ = some (.int .i64 b) := by simpa using newbox hb 1
    have B := Lib.hid (below_box hbx0)
    clear hb hbx0 ht
    have hGr := groundOf_any W H A n c xs a b wv (ha.keep B.out) HG.out HL.out (tab_keep HTab.out B.out).1 (tab_keep HTab.out B.out).2
    gi_wp2
    refine ⟨trivial, (callsIn_wide.2 hGr).mono ?_⟩
    rintro e w2 ⟨rfl, hB2⟩
    clear hGr a0 a1 a2 l0 l1
    obtain ⟨G, hG⟩ : ∃ G, G = glG W H xs a b := ⟨_, rfl⟩
    rw [show gl W H xs a b (cellsL W H xs) = G from hG.symm]
    have hG65 : Hid (G.length = 65) := Lib.hid (by rw [hG]; exact glG_len _ _ _ _ _)
    have hGlt : Hid (∀ x ∈ G, x < 18446744073709551616) := Lib.hid (by rw [hG]; exact glG_lt HG.out)
    have hg0 : (words G)[0]? = some (.int .u64 ((allS W H xs : Nat) : Int)) := by rw [hG, glG, gl]; rfl
    obtain ⟨s, hs⟩ : ∃ s, s = setBits (ps.map Int.toNat) := ⟨_, rfl⟩
    have HSS := Lib.hid hs
    have hs64 : Hid (s < 18446744073709551616) := Lib.hid (by rw [hs]; exact set_lt (set_lt64 HG.out HS.out))
    obtain ⟨u, hu⟩ : ∃ u, u = grdL G (bitsL s) := ⟨_, rfl⟩
    have HU := Lib.hid hu
    have HV := Lib.hid (show areGB W H xs a b ps = ((u : Int) == ((allS W H xs : Nat) : Int)) by
      rw [Bool.eq_iff_iff, areGB_iff HG.out (setB_facts HS.out).1, hu, hs, setB_bits HG.out HS.out, hG, beq_iff_eq]; omega)
    clear hs hu hG
    have hst := store_groundW hG65.out w2
    obtain ⟨Wa, hWa⟩ : ∃ Wa, Wa = w2.alloc (.cells (words G).toArray 48) := ⟨_, rfl⟩
    have HH := Lib.hid (show Wa.heap[w2.heap.size]? = some (.cells (words G).toArray 48 (0, 0)) by rw [hWa]; exact World.alloc_heap_new _ _)
    have hc0 : Wa.cell? ⟨w2.heap.size, 0, none⟩ = some (.int .u64 ((allS W H xs : Nat) : Int)) := by
      rw [cell_of_row _ _ 0 _ _ _ HH.out, List.getElem?_toArray, hg0]
    have hgl : w2.heap.size < Wa.heap.size := by rw [hWa]; simp
    have hle := Nat.le_trans B.out.size hB2.size
    replace B := Lib.hid (show Below w.heap.size w Wa by rw [hWa]; exact (B.out.trans (hB2.mono B.out.size)).alloc hle _)
    rw [← hWa] at hst
    clear hWa hB2 hg0
    gi_wp2_with (refine wpIn_store_run 48 _ _ _ _ rfl rfl rfl hst ?_)
    clear hst
    refine wpIn_wide.2 ?_
    refine wp_region_held_drew (S := fun w' => w'.heap[w2.heap.size]? = some (.cells (words G).toArray 48 (0, 0)) ∧ w'.cell? ⟨w2.heap.size, 0, none⟩ = some (.int .u64 ((allS W H xs : Nat) : Int))) (by kernel_rfl) ?_ (fun hHeld => ?_)
    · (try dsimp only)
      exact ⟨HH.out, hc0⟩
    refine wpAnyH_take (i := 0) (oi := ⟨_, _, _, _, _, _⟩) (v := .agg (words G).toArray) rfl (by kernel_rfl) (by kernel_rfl) (by kernel_rfl) (fun _ _ _ h => h) (yields_load _ _ _ rfl (by kernel_rfl) rfl (fun w' h => load_groundW hG65.out h.1)) (by assumption) ?_
    (try simp only [Act.put, List.setIfInBounds_toArray, List.set_cons_zero, List.set_cons_succ])
    refine wpAnyH_take (i := 1) (oi := ⟨_, _, _, _, _, _⟩) (v := ?_) rfl (by kernel_rfl) (by kernel_rfl) (by kernel_rfl) (fun _ _ _ h => h) (Or.inl ⟨by rfl, ?_⟩) (by assumption) ?_
    rotate_left
    · intro w hSw
      (try dsimp only at hSw)
      go_simp
      (try with_reducible rfl)
    (try simp only [Act.put, List.setIfInBounds_toArray, List.set_cons_zero, List.set_cons_succ])
    refine wpAnyH_take (i := 4) (oi := ⟨_, _, _, _, _, _⟩) (v := ?_) rfl (by kernel_rfl) (by kernel_rfl) (by kernel_rfl) (fun _ _ _ h => h) (Or.inl ⟨by rfl, ?_⟩) (by assumption) ?_
    rotate_left
    · intro w hSw
      (try dsimp only at hSw)
      go_simp
      (try with_reducible rfl)
    (try simp only [Act.put, List.setIfInBounds_toArray, List.set_cons_zero, List.set_cons_succ])
    refine wpAnyH_take (i := 5) (oi := ⟨_, _, _, _, _, _⟩) (v := ?_) rfl (by kernel_rfl) (by kernel_rfl) (by kernel_rfl) (fun _ _ _ h => h) (Or.inl ⟨by rfl, ?_⟩) (by assumption) ?_
    rotate_left
    · intro w hSw
      (try dsimp only at hSw)
      go_simp
      (try with_reducible rfl)
    (try simp only [Act.put, List.setIfInBounds_toArray, List.set_cons_zero, List.set_cons_succ])
    refine wpAnyH_ready (rs := [2]) (by kernel_rfl) (by simp) ?_
    refine AllReadyH.cons (o := ⟨_, _, _, _, _, _⟩) rfl (fun K hK => ?_) AllReadyH.nil
    go_simp
    refine (setOf_any A2 m c2 ps _ (by first | exact (hp.keep B.out) | exact (hp.keep B.out).drew1) (set_lt64 HG.out HS.out)).mono ?_
    rintro e wv ⟨rfl, hb⟩
    (try replace hb := below_undrew hb)
    replace hc0 := cell_keep hc0 hgl hb; replace HH := Lib.hid ((hb.block w2.heap.size hgl).trans HH.out); replace hgl := lt_keep hgl hb; replace B := Lib.hid (below_next B.out hb)
    clear hb
    rw [← HSS.out]
    refine hK.out _ _ ?_ (fun hHeld => ?_)
    · (try dsimp only)
      exact ⟨HH.out, hc0⟩
    clear hK K
    (try simp only [Act.put, List.setIfInBounds_toArray, List.set_cons_zero, List.set_cons_succ])
    refine wpAnyH_ready (rs := [3]) (by kernel_rfl) (by simp) ?_
    refine AllReadyH.cons (o := ⟨_, _, _, _, _, _⟩) rfl (fun K hK => ?_) AllReadyH.nil
    go_simp
    refine (guardedBy_any G hG65.out hGlt.out s hs64.out _ (tab_keep HTab.out B.out).1 (tab_keep HTab.out B.out).2).mono ?_
    rintro e wv ⟨rfl, hb⟩
    replace hc0 := cell_keep hc0 hgl hb; replace HH := Lib.hid ((hb.block w2.heap.size hgl).trans HH.out); replace hgl := lt_keep hgl hb; replace B := Lib.hid (below_next B.out hb)
    clear hb
    rw [← HU.out]
    refine hK.out _ _ ?_ (fun hHeld => ?_)
    · (try dsimp only)
      exact ⟨HH.out, hc0⟩
    clear hK K
    (try simp only [Act.put, List.setIfInBounds_toArray, List.set_cons_zero, List.set_cons_succ])
    refine wpAnyH_take (i := 6) (oi := ⟨_, _, _, _, _, _⟩) (v := ?_) rfl (by kernel_rfl) (by kernel_rfl) (by kernel_rfl) (fun _ _ _ h => h) (Or.inl ⟨by rfl, ?_⟩) (by assumption) ?_
    rotate_left
    · intro w hSw
      (try dsimp only at hSw)
      go_simp
      (try with_reducible rfl)
    (try simp only [Act.put, List.setIfInBounds_toArray, List.set_cons_zero, List.set_cons_succ])
    refine wpAnyH_take (i := 7) (oi := ⟨_, _, _, _, _, _⟩) (v := ?_) rfl (by kernel_rfl) (by kernel_rfl) (by kernel_rfl) (fun _ _ _ h => h) (Or.inl ⟨by rfl, ?_⟩) (by assumption) ?_
    rotate_left
    · intro w hSw
      (try dsimp only at hSw)
      go_simp
      (try with_reducible rfl)
    (try simp only [Act.put, List.setIfInBounds_toArray, List.set_cons_zero, List.set_cons_succ])
    refine wpAnyH_take (i := 8) (oi := ⟨_, _, _, _, _, _⟩) (v := ?_) rfl (by kernel_rfl) (by kernel_rfl) (by kernel_rfl) (fun _ _ _ h => h) (Or.inl ⟨by rfl, ?_⟩) (by assumption) ?_
    rotate_left
    · intro w hSw
      (try dsimp only at hSw)
      go_simp
      (try with_reducible rfl)
    (try simp only [Act.put, List.setIfInBounds_toArray, List.set_cons_zero, List.set_cons_succ])
    refine wpAnyH_done (by kernel_rfl) ?_ _
    gi_wp2
    go_ret2
    exact ⟨by rw [areV, HT.out, Bool.true_and, HV.out]; rfl, B.out⟩
  | false =>
    clear hT
    go_enter Tryd.func18, Tryd.ntmps18
    go_wp2_with fail
    refine (isSetOn_any W H A n c xs a b A2 m c2 ps _ ((ha.alloc _).alloc _) ((hp.alloc _).alloc _)).mono ?_
    rw [ht]
    rintro e wv ⟨rfl, hb⟩
    have B := Lib.hid (below_box (below_box hb))
    clear hb
    go_wp2
    go_ret2
    exact ⟨by rw [areV, ht, Bool.false_and]; rfl, B.out⟩
end Go.Proofs.YtjplcnbifcpebaaDoor
