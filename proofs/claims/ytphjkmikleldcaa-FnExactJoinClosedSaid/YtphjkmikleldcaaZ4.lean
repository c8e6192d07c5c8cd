/-
  Contracts: tails turned, and where they can be turned.
-/
import Derived.Test.YtphjkmikleldcaaZ3
import Derived.Test.YtphjkmikleldcaaK9a
import Derived.Test.YtphjkmikleldcaaShelf
namespace Go.Proofs.Ytphjkmikleldcaa
open Go.RowKit

theorem setAllZ {E : TypeId} {lo g n c : Nat} : ∀ (ys : List Int) (o : Nat) {w : World} {xs : List Int}, OwnI E w lo (some ⟨g, 0, none⟩) n c xs → o + ys.length ≤ n →
    OwnI E (w.setCells g o (ys.map (Value.int .i64))) lo (some ⟨g, 0, none⟩) n c (xs.take o ++ ys ++ xs.drop (o + ys.length)) ∧ w.grownBy (w.setCells g o (ys.map (Value.int .i64))) (some g)
  | [], o, w, xs, h, _ => ⟨by simpa [World.setCells] using h, grown_refl _ _⟩
  | y :: ys, o, w, xs, h, ho => by
    have hl := h.len
    simp only [List.length_cons] at ho
    obtain ⟨h1, g1⟩ := h.stored o y
    obtain ⟨h2, g2⟩ := setAllZ ys (o + 1) h1 (by omega)
    refine ⟨?_, grown_next g1 g2⟩
    have e : (xs.set o y).take (o + 1) ++ ys ++ (xs.set o y).drop (o + 1 + ys.length) = xs.take o ++ (y :: ys) ++ xs.drop (o + (ys.length + 1)) := by
      rw [List.take_add_one, List.getElem?_set_self (by omega), List.take_set_of_le (Nat.le_refl _), List.drop_set_of_lt (by omega)]
      simp [show o + 1 + ys.length = o + (ys.length + 1) by omega]
    rw [e] at h2
    exact h2
/-- A list whose tail from k on is in the other order. -/
def turnL (ps : List Int) (k : Nat) : List Int := ps.take k ++ (ps.drop k).reverse
theorem turnL_len (ps : List Int) (k : Nat) : (turnL ps k).length = ps.length := by simp [turnL]; omega
theorem turnL_mem {ps : List Int} {k : Nat} {x : Int} : x ∈ turnL ps k ↔ x ∈ ps := by
  rw [turnL, List.mem_append, List.mem_reverse, ← List.mem_append, List.take_append_drop]
/-- Where a tail can be turned: from 1 to the last but one. -/
def tailsTo (W a b : Int) (ps : List Int) (n : Nat) : List Int := ((List.range' 1 n).filter (canB W a b ps)).map fun k : Nat => (k : Int)
def tailsL (W a b : Int) (ps : List Int) : List Int := tailsTo W a b ps (ps.length - 2)
theorem tails_yes {W a b : Int} {ps : List Int} {n : Nat} (h : canB W a b ps (n + 1) = true) : tailsTo W a b ps (n + 1) = tailsTo W a b ps n ++ [((n + 1 : Nat) : Int)] := by
  rw [tailsTo, List.range'_concat, List.filter_append, List.map_append, show 1 + 1 * n = n + 1 by omega]; simp [h, tailsTo]
theorem tails_no {W a b : Int} {ps : List Int} {n : Nat} (h : canB W a b ps (n + 1) = false) : tailsTo W a b ps (n + 1) = tailsTo W a b ps n := by
  rw [tailsTo, List.range'_concat, List.filter_append, List.map_append, show 1 + 1 * n = n + 1 by omega]; simp [h, tailsTo]
theorem tailsTo_len (W a b : Int) (ps : List Int) (n : Nat) : (tailsTo W a b ps n).length ≤ n := by
  rw [tailsTo, List.length_map]
  have := List.length_filter_le (canB W a b ps) (List.range' 1 n)
  rwa [List.length_range'] at this

set_option maxRecDepth 100000 in
set_option maxHeartbeats 2000000 in
theorem turnedAt_any (A2 : Option Addr) (m c2 : Nat) (ps : List Int) (k : Nat) (w : World) (hp : Rd w A2 m ps) (hk : k < m) (hm : m ≤ 1000) :
    Calls Try.prog 55 #[.slice A2 m c2, .int .i64 (k : Int)] w fun e w' => ∃ A' c', e = .returned (.slice A' m c') ∧ OwnI 3 w' w.heap.size A' m c' (turnL ps k) ∧ Below w.heap.size w w' := by
  obtain ⟨bb, oo, x, rfl, lz, -, -⟩ := hp.at_ (k := 0) (by omega)
  have HPL := Lib.hid hp.1
  have hcs : ∀ j, j < ps.length → w.cell? ⟨bb, oo + j, none⟩ = some (.int .i64 (ps.getD j 0)) := fun j hj => by
    have hx : ps[j]? = some ps[j] := List.getElem?_eq_getElem hj
    have := hp.cell_ hx
    rw [Addr.add_lit] at this
    rw [List.getD_eq_getElem?_getD, hx]; exact this
  have HC := Lib.hid hcs
  have HK := Lib.hid hk
  clear hcs hp
  go_enter Try.func55, Try.ntmps55
  go_wp2_with fail
  refine (Try.slices_Clone_int bb oo m c2 ps w (by have := HPL.out; omega) (by omega) HC.out).mono ?_
  rintro e wv ⟨v', rfl, own, -, hb⟩
  rw [List.take_of_length_le (by have := HPL.out; omega)] at own
  obtain ⟨A9, c9, rfl, own9⟩ := own_form own
  obtain ⟨g, rfl, hg1, hg2⟩ := own9.some_ (k := 0) (by omega)
  have hcap := own9.cap
  have HO := Lib.hid own9
  have B := Lib.hid hb
  have hck : ¬ c9 = k := by omega
  have hkc : (k : Int) ≤ (c9 : Int) := by omega
  have hkm : (k : Int) ≤ (m : Int) := by omega
  have hmc : (m : Int) ≤ (c9 : Int) := by omega
  have hk2 : k ≤ m := by omega
  clear own own9 hb
  go_wp2_with fail
  (try simp only [Nat.zero_add])
  refine (Try.slices_Reverse_int_cells g k (m - k) (c9 - k) (ps.drop k) _ (by rw [List.length_drop]; have := HPL.out; omega) (by omega) (fun j hj => ?_) (fun j _ => HO.out.frozen _)).mono ?_
  · rw [List.length_drop] at hj
    have hx : ps[k + j]? = some ps[k + j] := List.getElem?_eq_getElem (by omega)
    rw [List.getD_eq_getElem?_getD, List.getElem?_drop, hx]
    exact HO.out.cell hx
  rintro e wz ⟨rfl, q, rfl⟩
  have hl9 : ((ps.drop k).take (m - k)).reverse = (ps.drop k).reverse := by rw [List.take_of_length_le (by rw [List.length_drop]; have := HPL.out; omega)]
  rw [hl9]
  obtain ⟨h2, g2⟩ := setAllZ (ps.drop k).reverse k (HO.out.drewN q) (by rw [List.length_reverse, List.length_drop]; have := HPL.out; omega)
  have e9 : ps.drop (k + (ps.drop k).reverse.length) = [] := List.drop_of_length_le (by rw [List.length_reverse, List.length_drop]; omega)
  rw [e9, List.append_nil] at h2
  have O2 := Lib.hid (show OwnI 3 ((wv.drewN q).setCells g k ((ps.drop k).reverse.map (Value.int .i64))) w.heap.size (some ⟨g, 0, none⟩) m c9 (turnL ps k) from h2)
  have B2 := Lib.hid (show Below w.heap.size w ((wv.drewN q).setCells g k ((ps.drop k).reverse.map (Value.int .i64))) from (below_drewN B.out q).trans (below_of_grown g2 (show w.heap.size ≤ (wv.drewN q).heap.size from B.out.size) (fun g' h => by injection h with h; omega)))
  obtain ⟨W9, hW9⟩ : ∃ W9, W9 = (wv.drewN q).setCells g k ((ps.drop k).reverse.map (Value.int .i64)) := ⟨_, rfl⟩
  rw [← hW9] at O2 B2 ⊢
  clear hW9 h2 g2 e9 hl9
  go_wp2
  go_ret
  exact ⟨_, _, rfl, O2.out, B2.out⟩

set_option maxRecDepth 100000 in
set_option maxHeartbeats 2000000 in
theorem blBack_any (A2 : Option Addr) (m c2 : Nat) (ps : List Int) (w : World) (hp : Rd w A2 m ps) (hm : m ≤ 1000) :
    Calls Try.prog 53 #[.slice A2 m c2] w fun e w' => ∃ A' c', e = .returned (.slice A' m c') ∧ OwnI 3 w' w.heap.size A' m c' ps.reverse ∧ Below w.heap.size w w' := by
  obtain ⟨i0, hi, hz0, hz1, hz2⟩ := info_parts infoI
  have HI := Lib.hid hi; have HZ0 := Lib.hid hz0; have HZ1 := Lib.hid hz1; have HZ2 := Lib.hid hz2
  have HPL := Lib.hid hp.1
  have HP := Lib.hid hp
  clear hi hz0 hz1 hz2 hp
  have hw1 : IntKind.i64.wrap ((m : Int) - 1) = (m : Int) - 1 := IntWalk.i64_in _ (by omega)
  go_enter Try.func53, Try.ntmps53
  go_wp2
  go_loopw [3, 4] (fun v i wr => ∃ (r n' c' : Nat) (A' : Option Addr), r ≤ m ∧ r + n' = m ∧ i = .int .i64 ((r : Int) - 1) ∧ v = .slice A' n' c' ∧ OwnI 3 wr w.heap.size A' n' c' (ps.drop r).reverse ∧ Below w.heap.size w wr) (fun _ i _ => (intOf i + 1).toNat)
  case atStart => exact ⟨m, 0, 0, none, Nat.le_refl _, by omega, rfl, rfl, by rw [List.drop_of_length_le (by have := HPL.out; omega)]; exact OwnI.none_ _ _ _, Below.refl _ _⟩
  case round =>
    obtain ⟨r, n', c', A', hr, hrn, hi, rfl, hown, hbw⟩ := hrel
    rcases r with _ | r
    · rw [show (((0 : Nat) : Int) - 1) = -1 from rfl] at hi
      subst hi
      obtain rfl : n' = m := by omega
      have HO := Lib.hid hown; have HB := Lib.hid hbw
      clear hown hbw hw1
      go_wp2
      go_ret
      exact ⟨_, _, rfl, by have h := HO.out; rw [List.drop_zero] at h; exact h, HB.out⟩
    · rw [show (((r + 1 : Nat) : Int) - 1) = (r : Int) by omega] at hi
      subst hi
      obtain ⟨bb, oo, x, rfl, hg1, hx, x0⟩ := HP.out.at_ (k := r) (by omega)
      have HX := Lib.hid hx
      replace x0 := cell_keep x0 hg1 hbw
      have HO := Lib.hid hown; have HB := Lib.hid hbw
      have hsw := hbw.size
      have hr0 : (0 : Int) ≤ (r : Int) := by omega
      have hrm : (r : Int) < (m : Int) := by omega
      have hw2 : IntKind.i64.wrap ((r : Int) - 1) = (r : Int) - 1 := IntWalk.i64_in _ (by omega)
      clear hx hown hbw hw1
      go_wp2_with (at_builtin; refine wpList_app1 rfl (.tmp 12) (.tmp 17) 22 3 rfl i0 Try.underlying22 HI.out HZ0.out HZ1.out HZ2.out w.heap.size A' n' c' (ps.drop (r + 1)).reverse x rfl HO.out rfl (by omega) hsw ?_; intro A3 c3 w3 hown3 hb3)
      have O3 := Lib.hid hown3
      have B3 := Lib.hid (HB.out.trans hb3)
      clear hown3 hb3
      go_wp2
      go_roundw
      case rel => exact ⟨r, n' + 1, c3, A3, by omega, by omega, rfl, rfl, by rw [drop_cons_of HX.out, List.reverse_cons]; exact O3.out, B3.out⟩
      case measure => simp [intOf]

set_option maxRecDepth 100000 in
set_option maxHeartbeats 2000000 in
theorem blTurn_any (A2 : Option Addr) (m c2 : Nat) (ps : List Int) (k : Nat) (w : World) (hp : Rd w A2 m ps) (hcap : m ≤ c2) (hk : k < m) (hm : m ≤ 1000) :
    Calls Try.prog 58 #[.slice A2 m c2, .int .i64 (k : Int)] w fun e w' => ∃ A' c', e = .returned (.slice A' m c') ∧ OwnI 3 w' w.heap.size A' m c' (turnL ps k) ∧ Below w.heap.size w w' := by
  obtain ⟨bb, oo, x, rfl, lz, -, -⟩ := hp.at_ (k := 0) (by omega)
  have hkm : k ≤ m := by omega
  have RD := Lib.hid (hp.drop hkm)
  have RT := Lib.hid (hp.take hkm)
  have hdl : (ps.drop k).reverse.length = m - k := by rw [List.length_reverse]; exact RD.out.1
  have HDL := Lib.hid hdl
  clear hp lz hdl
  have hkc : (k : Int) ≤ (c2 : Int) := by omega
  have hkm2 : (k : Int) ≤ (m : Int) := by omega
  have hmc : (m : Int) ≤ (c2 : Int) := by omega
  have hck : ¬ c2 = k := by omega
  obtain ⟨i0, hi, hz0, hz1, hz2⟩ := info_parts infoI
  have HI := Lib.hid hi; have HZ0 := Lib.hid hz0; have HZ1 := Lib.hid hz1; have HZ2 := Lib.hid hz2
  clear hi hz0 hz1 hz2
  go_enter Try.func58, Try.ntmps58
  go_wp2_with fail
  refine wp_region_held_drew (S := fun w' => True) (by kernel_rfl) ?_ (fun hHeld => ?_)
  · exact trivial
  refine wpAnyH_take (i := 0) (oi := ⟨_, _, _, _, _, _⟩) (v := ?_) rfl (by kernel_rfl) (by kernel_rfl) (by kernel_rfl) (fun _ _ _ h => h) (Or.inl ⟨by rfl, ?_⟩) (by assumption) ?_
  rotate_left
  · intro w hSw
    (try dsimp only at hSw)
    go_simp
    (try with_reducible rfl)
  (try simp only [Act.put, List.setIfInBounds_toArray, List.set_cons_zero, List.set_cons_succ])
  refine wpAnyH_take (i := 1) (oi := ⟨_, _, _, _, _, _⟩) (v := ?_) rfl (by kernel_rfl) (by kernel_rfl) (by kernel_rfl) (fun _ _ _ h => h) (Or.inl ⟨by rfl, ?_⟩) (by assumption) ?_
  rotate_left
  · intro w hSw
    (try dsimp only at hSw)
    go_simp
    (try with_reducible rfl)
  (try simp only [Act.put, List.setIfInBounds_toArray, List.set_cons_zero, List.set_cons_succ])
  refine wpAnyH_take (i := 2) (oi := ⟨_, _, _, _, _, _⟩) (v := ?_) rfl (by kernel_rfl) (by kernel_rfl) (by kernel_rfl) (fun _ _ _ h => h) (Or.inl ⟨by rfl, ?_⟩) (by assumption) ?_
  rotate_left
  · intro w hSw
    (try dsimp only at hSw)
    go_simp
    (try with_reducible rfl)
  (try simp only [Act.put, List.setIfInBounds_toArray, List.set_cons_zero, List.set_cons_succ])
  refine wpAnyH_take (i := 4) (oi := ⟨_, _, _, _, _, _⟩) (v := ?_) rfl (by kernel_rfl) (by kernel_rfl) (by kernel_rfl) (fun _ _ _ h => h) (Or.inl ⟨by rfl, ?_⟩) (by assumption) ?_
  rotate_left
  · intro w hSw
    (try dsimp only at hSw)
    go_simp
    (try with_reducible rfl)
  (try simp only [Act.put, List.setIfInBounds_toArray, List.set_cons_zero, List.set_cons_succ])
  refine wpAnyH_take (i := 5) (oi := ⟨_, _, _, _, _, _⟩) (v := ?_) rfl (by kernel_rfl) (by kernel_rfl) (by kernel_rfl) (fun _ _ _ h => h) (Or.inl ⟨by rfl, ?_⟩) (by assumption) ?_
  rotate_left
  · intro w hSw
    (try dsimp only at hSw)
    go_simp
    (try with_reducible rfl)
  (try simp only [Act.put, List.setIfInBounds_toArray, List.set_cons_zero, List.set_cons_succ])
  refine wpAnyH_take (i := 6) (oi := ⟨_, _, _, _, _, _⟩) (v := ?_) rfl (by kernel_rfl) (by kernel_rfl) (by kernel_rfl) (fun _ _ _ h => h) (Or.inl ⟨by rfl, ?_⟩) (by assumption) ?_
  rotate_left
  · intro w hSw
    (try dsimp only at hSw)
    go_simp
    (try with_reducible rfl)
  (try simp only [Act.put, List.setIfInBounds_toArray, List.set_cons_zero, List.set_cons_succ])
  refine wpAnyH_ready (rs := [3]) (by kernel_rfl) (by simp) ?_
  refine AllReadyH.cons (o := ⟨_, _, _, _, _, _⟩) rfl (fun K hK => ?_) AllReadyH.nil
  go_simp
  (go_at_call 63; refine (l1Own_any _ _ _ (ps.take k) _ ?_ ?_).mono ?_; (first | exact RT.out | exact RT.out.drew1 | exact RT.out.drewN _); (omega); rintro e wx ⟨A9, c9, rfl, own, hb⟩; (repeat (first | replace hb := below_undrew hb | replace hb := below_undrewN hb)); have O9 := Lib.hid own; have RD2 := Lib.hid (RD.out.keep hb); have HB := Lib.hid hb; have hsz := hb.size; clear own hb RD)
  (try go_wp2_with fail)
  refine hK.out _ _ ?_ (fun hHeld => ?_)
  · exact trivial
  clear hK K
  (try simp only [Act.put, List.setIfInBounds_toArray, List.set_cons_zero, List.set_cons_succ])
  refine wpAnyH_ready (rs := [7]) (by kernel_rfl) (by simp) ?_
  refine AllReadyH.cons (o := ⟨_, _, _, _, _, _⟩) rfl (fun K hK => ?_) AllReadyH.nil
  go_simp
  (go_at_call 53; refine (blBack_any _ _ _ (ps.drop k) _ ?_ ?_).mono ?_; (first | exact RD2.out | exact RD2.out.drew1 | exact RD2.out.drewN _); (omega); rintro e wy ⟨A5, c5, rfl, own, hb⟩; (repeat (first | replace hb := below_undrew hb | replace hb := below_undrewN hb)); have O5 := Lib.hid own; replace O9 := Lib.hid (O9.out.keep hb); replace HB := Lib.hid (below_next HB.out hb); have hsz5 := HB.out.size; obtain ⟨g5, rfl, -, -⟩ := O5.out.some_ (k := 0) (by omega); clear own hb RD2)
  (try go_wp2_with fail)
  refine hK.out _ _ ?_ (fun hHeld => ?_)
  · exact trivial
  clear hK K
  (try simp only [Act.put, List.setIfInBounds_toArray, List.set_cons_zero, List.set_cons_succ])
  refine wpAnyH_ready (rs := [8]) (by kernel_rfl) (by simp) ?_
  refine AllReadyH.cons (o := ⟨_, _, _, _, _, _⟩) rfl (fun K hK => ?_) AllReadyH.nil
  (refine step_appN rfl (.tmp 8) (.tmp 12) 22 3 rfl i0 Try.underlying22 HI.out HZ0.out HZ1.out HZ2.out w.heap.size A9 k c9 (ps.take k) ⟨g5, 0, none⟩ (m - k) c5 (ps.drop k).reverse rfl O9.out rfl HDL.out (fun j y hj => O5.out.rd.cell_ hj) (by omega) hsz5 ?_; intro A7 c7 w7 hown7 hb7; have O7 := Lib.hid hown7; have HB7 := Lib.hid (HB.out.trans hb7); clear hown7 hb7)
  refine hK.out _ _ ?_ (fun hHeld => ?_)
  · exact trivial
  clear hK K
  (try simp only [Act.put, List.setIfInBounds_toArray, List.set_cons_zero, List.set_cons_succ])
  refine wpAnyH_take (i := 9) (oi := ⟨_, _, _, _, _, _⟩) (v := ?_) rfl (by kernel_rfl) (by kernel_rfl) (by kernel_rfl) (fun _ _ _ h => h) (Or.inl ⟨by rfl, ?_⟩) (by assumption) ?_
  rotate_left
  · intro w hSw
    (try dsimp only at hSw)
    go_simp
    (try with_reducible rfl)
  (try simp only [Act.put, List.setIfInBounds_toArray, List.set_cons_zero, List.set_cons_succ])
  refine wpAnyH_done (by kernel_rfl) ?_ _
  all_goals go_wp2
  all_goals go_ret
  all_goals exact ⟨A7, c7, rfl, by have h := O7.out; rw [Nat.add_sub_cancel' hkm] at h; exact h, HB7.out⟩

set_option maxRecDepth 100000 in
set_option maxHeartbeats 2000000 in
theorem tailTurns_any (W H : Int) (A : Option Addr) (n c : Nat) (a b : Int) (A2 : Option Addr) (m c2 : Nat) (ps : List Int) (w : World) (hp : Rd w A2 m ps) (hW : 1 ≤ W ∧ W ≤ 8) (h64 : ∀ x ∈ ps, 0 ≤ x ∧ x < 64) (hm : 1 ≤ m ∧ m ≤ 64) :
    Calls Try.prog 61 #[brd W H A n c, lpr a b, .slice A2 m c2] w fun e w' => ∃ A' n' c', e = .returned (.slice A' n' c') ∧ OwnI 3 w' w.heap.size A' n' c' (tailsL W a b ps) ∧ Below w.heap.size w w' := by
  obtain ⟨i0, hi, hz0, hz1, hz2⟩ := info_parts infoI
  have HI := Lib.hid hi; have HZ0 := Lib.hid hz0; have HZ1 := Lib.hid hz1; have HZ2 := Lib.hid hz2
  have HPL := Lib.hid hp.1
  have HW := Lib.hid hW; have H64 := Lib.hid h64
  have HML := Lib.hid hm
  obtain ⟨hm1, hm2⟩ := hm
  clear hi hz0 hz1 hz2 hW h64
  obtain ⟨W2, hW2⟩ : ∃ W2, W2 = (w.alloc (.cells #[.int .i64 W, .int .i64 H, .slice A n c] 30)).alloc (.cells #[.int .i64 a, .int .i64 b] 32) := ⟨_, rfl⟩
  have a0 : W2.cell? ⟨w.heap.size, 0, none⟩ = some (.int .i64 W) := by rw [hW2]; go_simp
  have a1 : W2.cell? ⟨w.heap.size, 1, none⟩ = some (.int .i64 H) := by rw [hW2]; go_simp
  have a2 : W2.cell? ⟨w.heap.size, 2, none⟩ = some (.slice A n c) := by rw [hW2]; go_simp
  have l0 : W2.cell? ⟨w.heap.size + 1, 0, none⟩ = some (.int .i64 a) := by rw [hW2]; go_simp
  have l1 : W2.cell? ⟨w.heap.size + 1, 1, none⟩ = some (.int .i64 b) := by rw [hW2]; go_simp
  have hal : w.heap.size < W2.heap.size := by rw [hW2]; simp; omega
  have hll : w.heap.size + 1 < W2.heap.size := by rw [hW2]; simp
  have B := Lib.hid (show Below w.heap.size w W2 by rw [hW2]; exact ((Below.refl _ _).alloc (Nat.le_refl _) _).alloc (by simp) _)
  have RP := Lib.hid (hp.keep B.out)
  have HA := Lib.hid (⟨a0, a1, a2, l0, l1⟩ : W2.cell? ⟨w.heap.size, 0, none⟩ = some (.int .i64 W) ∧ W2.cell? ⟨w.heap.size, 1, none⟩ = some (.int .i64 H) ∧ W2.cell? ⟨w.heap.size, 2, none⟩ = some (.slice A n c) ∧ W2.cell? ⟨w.heap.size + 1, 0, none⟩ = some (.int .i64 a) ∧ W2.cell? ⟨w.heap.size + 1, 1, none⟩ = some (.int .i64 b))
  have AL := Lib.hid hal; have LL := Lib.hid hll
  clear hp a0 a1 a2 l0 l1 hal hll
  have hm9 := RP.out.2.1
  go_enter Try.func61, Try.ntmps61
  go_wp2
  rw [← hW2]
  clear hW2
  go_loopw [7, 8] (fun v i wr => ∃ (j n' c' : Nat) (A' : Option Addr), j ≤ m - 2 ∧ i = .int .i64 ((j + 1 : Nat) : Int) ∧ v = .slice A' n' c' ∧ OwnI 3 wr W2.heap.size A' n' c' (tailsTo W a b ps j) ∧ Below W2.heap.size W2 wr) (fun _ i _ => m - (intOf i).toNat)
  case atStart => exact ⟨0, 0, 0, none, Nat.zero_le _, rfl, rfl, (by rw [show tailsTo W a b ps 0 = [] from rfl]; exact OwnI.none_ _ _ _), Below.refl _ _⟩
  case round =>
    obtain ⟨j, n', c', A', hj, hi, rfl, hown, hbw⟩ := hrel
    have hn' : n' ≤ 64 := by have := hown.len; have := tailsTo_len W a b ps j; omega
    obtain ⟨i, rfl⟩ : ∃ i, j + 1 = i := ⟨_, rfl⟩
    subst hi
    have HO := Lib.hid hown; have HB := Lib.hid hbw
    have hw1 : IntKind.i64.wrap ((m : Int) - 1) = (m : Int) - 1 := IntWalk.i64_in _ (by omega)
    have hw2 : IntKind.i64.wrap (((j + 1 : Nat) : Int) + 1) = ((j + 1 : Nat) : Int) + 1 := IntWalk.i64_in _ (by omega)
    have hw3 : IntKind.i64.wrap ((j : Int) + 1 + 1) = (j : Int) + 1 + 1 := IntWalk.i64_in _ (by omega)
    by_cases hlt : j + 2 < m
    · have a0 := cell_keep HA.out.1 AL.out hbw; have a1 := cell_keep HA.out.2.1 AL.out hbw; have a2 := cell_keep HA.out.2.2.1 AL.out hbw; have l0 := cell_keep HA.out.2.2.2.1 LL.out hbw; have l1 := cell_keep HA.out.2.2.2.2 LL.out hbw
      have hsw := hbw.size
      have hC := canTurn_any W H A n c a b A2 m c2 ps (j + 1) wr (RP.out.keep hbw) HW.out H64.out (by omega) hm2
      clear hown hbw
      cases hcan : canB W a b ps (j + 1) with
      | true =>
        have HCN := Lib.hid hcan
        rw [hcan] at hC
        clear hcan
        go_wp2_with fail
        refine hC.mono ?_
        rintro e wv ⟨rfl, hb⟩
        replace HO := Lib.hid (HO.out.keep hb)
        replace HB := Lib.hid (below_next HB.out hb)
        replace hsw := Nat.le_trans hsw hb.size
        clear hb hC a0 a1 a2 l0 l1
        go_wp2_with (at_builtin; refine wpList_app1 rfl (.tmp 21) (.tmp 23) 22 3 rfl i0 Try.underlying22 HI.out HZ0.out HZ1.out HZ2.out W2.heap.size A' n' c' (tailsTo W a b ps j) ((j + 1 : Nat) : Int) rfl HO.out rfl (by omega) hsw ?_; intro A3 c3 w3 hown3 hb3)
        have O3 := Lib.hid hown3
        have B3 := Lib.hid (HB.out.trans hb3)
        clear hown3 hb3
        go_wp2
        go_roundw
        case rel => exact ⟨j + 1, n' + 1, c3, A3, by omega, by go_num, rfl, by rw [tails_yes HCN.out]; exact O3.out, B3.out⟩
        case measure => simp [intOf]; omega
      | false =>
        have HCN := Lib.hid hcan
        rw [hcan] at hC
        clear hcan
        go_wp2_with fail
        refine hC.mono ?_
        rintro e wv ⟨rfl, hb⟩
        replace HO := Lib.hid (HO.out.keep hb)
        replace HB := Lib.hid (below_next HB.out hb)
        clear hb hC a0 a1 a2 l0 l1
        go_wp2
        go_roundw
        case rel => exact ⟨j + 1, n', c', A', by omega, by go_num, rfl, by rw [tails_no HCN.out]; exact HO.out, HB.out⟩
        case measure => simp [intOf]; omega
    · have hjm : j = m - 2 := by omega
      have hn1 : ¬ (((j + 1 : Nat) : Int) < (m : Int) - 1) := by omega
      have hn2 : ¬ (((j + 1 : Nat) : Int) + 1 < (m : Int)) := by omega
      have HT := Lib.hid (show tailsTo W a b ps j = tailsL W a b ps by rw [tailsL, HPL.out, hjm])
      clear hown hbw hjm
      go_wp2
      go_ret
      exact ⟨_, _, _, rfl, by rw [← HT.out]; exact HO.out.lower B.out.size, B.out.trans (HB.out.mono B.out.size)⟩

set_option maxRecDepth 100000 in
set_option maxHeartbeats 2000000 in
theorem blTurns_any (W H : Int) (A : Option Addr) (n c : Nat) (a b : Int) (A2 : Option Addr) (m c2 : Nat) (ps : List Int) (w : World) (hp : Rd w A2 m ps) (hW : 1 ≤ W ∧ W ≤ 8) (h64 : ∀ x ∈ ps, 0 ≤ x ∧ x < 64) (hm : 1 ≤ m ∧ m ≤ 64) :
    Calls Try.prog 60 #[brd W H A n c, lpr a b, .slice A2 m c2] w fun e w' => ∃ A' n' c', e = .returned (.slice A' n' c') ∧ OwnI 3 w' w.heap.size A' n' c' (tailsL W a b ps) ∧ Below w.heap.size w w' := by
  obtain ⟨i0, hi, hz0, hz1, hz2⟩ := info_parts infoI
  have HI := Lib.hid hi; have HZ0 := Lib.hid hz0; have HZ1 := Lib.hid hz1; have HZ2 := Lib.hid hz2
  have HPL := Lib.hid hp.1
  have HW := Lib.hid hW; have H64 := Lib.hid h64
  have HML := Lib.hid hm
  obtain ⟨hm1, hm2⟩ := hm
  clear hi hz0 hz1 hz2 hW h64
  obtain ⟨W2, hW2⟩ : ∃ W2, W2 = (w.alloc (.cells #[.int .i64 W, .int .i64 H, .slice A n c] 30)).alloc (.cells #[.int .i64 a, .int .i64 b] 32) := ⟨_, rfl⟩
  have a0 : W2.cell? ⟨w.heap.size, 0, none⟩ = some (.int .i64 W) := by rw [hW2]; go_simp
  have a1 : W2.cell? ⟨w.heap.size, 1, none⟩ = some (.int .i64 H) := by rw [hW2]; go_simp
  have a2 : W2.cell? ⟨w.heap.size, 2, none⟩ = some (.slice A n c) := by rw [hW2]; go_simp
  have l0 : W2.cell? ⟨w.heap.size + 1, 0, none⟩ = some (.int .i64 a) := by rw [hW2]; go_simp
  have l1 : W2.cell? ⟨w.heap.size + 1, 1, none⟩ = some (.int .i64 b) := by rw [hW2]; go_simp
  have hal : w.heap.size < W2.heap.size := by rw [hW2]; simp; omega
  have hll : w.heap.size + 1 < W2.heap.size := by rw [hW2]; simp
  have B := Lib.hid (show Below w.heap.size w W2 by rw [hW2]; exact ((Below.refl _ _).alloc (Nat.le_refl _) _).alloc (by simp) _)
  have RP := Lib.hid (hp.keep B.out)
  have HA := Lib.hid (⟨a0, a1, a2, l0, l1⟩ : W2.cell? ⟨w.heap.size, 0, none⟩ = some (.int .i64 W) ∧ W2.cell? ⟨w.heap.size, 1, none⟩ = some (.int .i64 H) ∧ W2.cell? ⟨w.heap.size, 2, none⟩ = some (.slice A n c) ∧ W2.cell? ⟨w.heap.size + 1, 0, none⟩ = some (.int .i64 a) ∧ W2.cell? ⟨w.heap.size + 1, 1, none⟩ = some (.int .i64 b))
  have AL := Lib.hid hal; have LL := Lib.hid hll
  clear hp a0 a1 a2 l0 l1 hal hll
  have hm9 := RP.out.2.1
  go_enter Try.func60, Try.ntmps60
  go_wp2
  rw [← hW2]
  clear hW2
  go_loopw [7, 8] (fun v i wr => ∃ (j n' c' : Nat) (A' : Option Addr), j ≤ m - 2 ∧ i = .int .i64 ((j + 1 : Nat) : Int) ∧ v = .slice A' n' c' ∧ OwnI 3 wr W2.heap.size A' n' c' (tailsTo W a b ps j) ∧ Below W2.heap.size W2 wr) (fun _ i _ => m - (intOf i).toNat)
  case atStart => exact ⟨0, 0, 0, none, Nat.zero_le _, rfl, rfl, (by rw [show tailsTo W a b ps 0 = [] from rfl]; exact OwnI.none_ _ _ _), Below.refl _ _⟩
  case round =>
    obtain ⟨j, n', c', A', hj, hi, rfl, hown, hbw⟩ := hrel
    have hn' : n' ≤ 64 := by have := hown.len; have := tailsTo_len W a b ps j; omega
    obtain ⟨i, rfl⟩ : ∃ i, j + 1 = i := ⟨_, rfl⟩
    subst hi
    have HO := Lib.hid hown; have HB := Lib.hid hbw
    have hw1 : IntKind.i64.wrap ((m : Int) - 1) = (m : Int) - 1 := IntWalk.i64_in _ (by omega)
    have hw2 : IntKind.i64.wrap (((j + 1 : Nat) : Int) + 1) = ((j + 1 : Nat) : Int) + 1 := IntWalk.i64_in _ (by omega)
    have hw3 : IntKind.i64.wrap ((j : Int) + 1 + 1) = (j : Int) + 1 + 1 := IntWalk.i64_in _ (by omega)
    by_cases hlt : j + 2 < m
    · have a0 := cell_keep HA.out.1 AL.out hbw; have a1 := cell_keep HA.out.2.1 AL.out hbw; have a2 := cell_keep HA.out.2.2.1 AL.out hbw; have l0 := cell_keep HA.out.2.2.2.1 LL.out hbw; have l1 := cell_keep HA.out.2.2.2.2 LL.out hbw
      have hsw := hbw.size
      have hC := blCan_any W H A n c a b A2 m c2 ps (j + 1) wr (RP.out.keep hbw) HW.out H64.out (by omega) hm2
      clear hown hbw
      cases hcan : canB W a b ps (j + 1) with
      | true =>
        have HCN := Lib.hid hcan
        rw [hcan] at hC
        clear hcan
        go_wp2_with fail
        refine hC.mono ?_
        rintro e wv ⟨rfl, hb⟩
        replace HO := Lib.hid (HO.out.keep hb)
        replace HB := Lib.hid (below_next HB.out hb)
        replace hsw := Nat.le_trans hsw hb.size
        clear hb hC a0 a1 a2 l0 l1
        go_wp2_with (at_builtin; refine wpList_app1 rfl (.tmp 21) (.tmp 23) 22 3 rfl i0 Try.underlying22 HI.out HZ0.out HZ1.out HZ2.out W2.heap.size A' n' c' (tailsTo W a b ps j) ((j + 1 : Nat) : Int) rfl HO.out rfl (by omega) hsw ?_; intro A3 c3 w3 hown3 hb3)
        have O3 := Lib.hid hown3
        have B3 := Lib.hid (HB.out.trans hb3)
        clear hown3 hb3
        go_wp2
        go_roundw
        case rel => exact ⟨j + 1, n' + 1, c3, A3, by omega, by go_num, rfl, by rw [tails_yes HCN.out]; exact O3.out, B3.out⟩
        case measure => simp [intOf]; omega
      | false =>
        have HCN := Lib.hid hcan
        rw [hcan] at hC
        clear hcan
        go_wp2_with fail
        refine hC.mono ?_
        rintro e wv ⟨rfl, hb⟩
        replace HO := Lib.hid (HO.out.keep hb)
        replace HB := Lib.hid (below_next HB.out hb)
        clear hb hC a0 a1 a2 l0 l1
        go_wp2
        go_roundw
        case rel => exact ⟨j + 1, n', c', A', by omega, by go_num, rfl, by rw [tails_no HCN.out]; exact HO.out, HB.out⟩
        case measure => simp [intOf]; omega
    · have hjm : j = m - 2 := by omega
      have hn1 : ¬ (((j + 1 : Nat) : Int) < (m : Int) - 1) := by omega
      have hn2 : ¬ (((j + 1 : Nat) : Int) + 1 < (m : Int)) := by omega
      have HT := Lib.hid (show tailsTo W a b ps j = tailsL W a b ps by rw [tailsL, HPL.out, hjm])
      clear hown hbw hjm
      go_wp2
      go_ret
      exact ⟨_, _, _, rfl, by rw [← HT.out]; exact HO.out.lower B.out.size, B.out.trans (HB.out.mono B.out.size)⟩

end Go.Proofs.Ytphjkmikleldcaa
