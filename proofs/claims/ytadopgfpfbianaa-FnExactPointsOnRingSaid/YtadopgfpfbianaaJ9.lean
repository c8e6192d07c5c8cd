/-
  Contracts: lines around, crossings counted, spots inside: in the program.
-/
import Derived.Test.YtadopgfpfbianaaJ8
namespace Go.Proofs.Ytadopgfpfbianaa
open Go.RowKit

/-- A line's numbers are those of columns and rows. -/
def CoL (l : Ln) : Prop := (Co l.1.1 ∧ Co l.1.2) ∧ (Co l.2.1 ∧ Co l.2.2)
theorem co_line {W p q : Int} (hW : 1 ≤ W ∧ W ≤ 8) (hp : 0 ≤ p ∧ p ≤ 64) (hq : 0 ≤ q ∧ q ≤ 64) : CoL (lnL W p q) :=
  ⟨spot_bd hW (show 0 ≤ min p q ∧ min p q ≤ 64 by omega), spot_bd hW (show 0 ≤ max p q ∧ max p q ≤ 64 by omega)⟩
theorem co_lines {W : Int} {ps : List Int} (hW : 1 ≤ W ∧ W ≤ 8) (h64 : ∀ x ∈ ps, 0 ≤ x ∧ x < 64) : ∀ l ∈ linesL W ps, CoL l := fun l hl => by
  obtain ⟨i, _, rfl⟩ := List.mem_map.1 hl
  exact co_line hW (getD_64 h64 i) (getD_64 h64 (i + 1))
theorem round_64 {ps : List Int} (h64 : ∀ x ∈ ps, 0 ≤ x ∧ x < 64) (hn : 1 ≤ ps.length) : ∀ x ∈ roundP ps, 0 ≤ x ∧ x < 64 := fun x hx => by
  rcases List.mem_append.1 hx with h | h
  · exact h64 x h
  · have e : x = ps.getD 0 0 := by simpa using h
    rw [e, List.getD_eq_getElem?_getD, List.getElem?_eq_getElem (by omega)]
    exact h64 _ (List.getElem_mem _)
theorem line_at {w : World} {lo g n c : Nat} {L : List Ln} (h : OwnN w lo (some ⟨g, 0, none⟩) n c L) {i : Nat} {l : Ln} (hx : L[i]? = some l) :
    w.cell? ⟨g, i * 4, none⟩ = some (.int .i64 l.1.1) ∧ w.cell? ⟨g, i * 4 + 1, none⟩ = some (.int .i64 l.1.2) ∧ w.cell? ⟨g, i * 4 + 2, none⟩ = some (.int .i64 l.2.1) ∧ w.cell? ⟨g, i * 4 + 3, none⟩ = some (.int .i64 l.2.2) :=
  ⟨OwnK.cell (j := 0) encN_len h hx rfl, OwnK.cell (j := 1) encN_len h hx rfl, OwnK.cell (j := 2) encN_len h hx rfl, OwnK.cell (j := 3) encN_len h hx rfl⟩

set_option maxRecDepth 100000 in
set_option maxHeartbeats 2000000 in
theorem linesAround_any (W H : Int) (A : Option Addr) (n c : Nat) (A2 : Option Addr) (m c2 : Nat) (ps : List Int) (w : World) (hp : Rd w A2 m ps) (hcap : m ≤ c2) (hW : 1 ≤ W ∧ W ≤ 8) (h64 : ∀ x ∈ ps, 0 ≤ x ∧ x < 64) (hm : 1 ≤ m ∧ m ≤ 1000) :
    Calls Try.prog 144 #[brd W H A n c, .slice A2 m c2] w fun e w' => ∃ A' n' c', e = .returned (.slice A' n' c') ∧ OwnN w' w.heap.size A' n' c' (linesL W (roundP ps)) ∧ Below w.heap.size w w' := by
  obtain ⟨k, hk⟩ : ∃ k, m = k + 1 := ⟨m - 1, by omega⟩
  obtain ⟨bb, oo, x, he0, -, hx, -⟩ := hp.at_ (k := 0) (by omega)
  obtain ⟨b4, o4, y, he4, -, hy, -⟩ := hp.at_ (k := k) (by omega)
  subst he0
  injection he4 with he4
  injection he4 with e1 e2 _
  subst e1 e2
  have HPL := Lib.hid hp.1
  have HV := Lib.hid (show linesL W (roundP ps) = linesL W ps ++ [lnL W y x] by
    rw [linesL_round (by rw [hp.1]; omega), hp.1, show m - 1 = k by omega, List.getD_eq_getElem?_getD, List.getD_eq_getElem?_getD, hx, hy]; rfl)
  have HX64 := Lib.hid (show 0 ≤ x ∧ x ≤ 64 by have := h64 x (List.mem_of_getElem? hx); omega)
  have HY64 := Lib.hid (show 0 ≤ y ∧ y ≤ 64 by have := h64 y (List.mem_of_getElem? hy); omega)
  have HW := Lib.hid hW; have H64 := Lib.hid h64; have HM := Lib.hid hm
  obtain ⟨hm1, hm2⟩ := hm
  obtain ⟨i0, hi, hz0, hz1, hz2⟩ := info_parts infoN
  have HI := Lib.hid hi; have HZ0 := Lib.hid hz0; have HZ1 := Lib.hid hz1; have HZ2 := Lib.hid hz2
  obtain ⟨W2, hW2⟩ : ∃ W2, W2 = w.alloc (.cells #[.int .i64 W, .int .i64 H, .slice A n c] 24) := ⟨_, rfl⟩
  have a0 : W2.cell? ⟨w.heap.size, 0, none⟩ = some (.int .i64 W) := by rw [hW2]; go_simp
  have a1 : W2.cell? ⟨w.heap.size, 1, none⟩ = some (.int .i64 H) := by rw [hW2]; go_simp
  have a2 : W2.cell? ⟨w.heap.size, 2, none⟩ = some (.slice A n c) := by rw [hW2]; go_simp
  have al : w.heap.size < W2.heap.size := by rw [hW2]; simp
  have B := Lib.hid (show Below w.heap.size w W2 by rw [hW2]; exact below_new (Below.refl _ _) _)
  have RP := Lib.hid (hp.keep B.out)
  obtain ⟨b5, o5, x', he5, g0, hx5, x0⟩ := RP.out.at_ (k := 0) (by omega)
  obtain ⟨b6, o6, y', he6, -, hy6, y0⟩ := RP.out.at_ (k := k) (by omega)
  injection he5 with he5
  injection he5 with e1 e2 _
  subst e1 e2
  injection he6 with he6
  injection he6 with e1 e2 _
  subst e1 e2
  obtain rfl : x = x' := by rw [hx] at hx5; injection hx5
  obtain rfl : y = y' := by rw [hy] at hy6; injection hy6
  rw [Nat.add_zero] at x0
  have AL := Lib.hid al; have G0 := Lib.hid g0
  have k0 : (0 : Int) ≤ (k : Int) := by omega
  have km : (k : Int) < (m : Int) := by omega
  have m0 : 0 < m := by omega
  have mi : (0 : Int) < (m : Int) := by omega
  have k4 : k < m := by omega
  have hw4 : IntKind.i64.wrap ((m : Int) - 1) = (k : Int) := by rw [show ((m : Int) - 1) = (k : Int) by omega]; exact IntWalk.i64_in _ (by omega)
  have HB := Lib.hid (Below.refl W2.heap.size W2)
  have hsw := Lib.hid (Nat.le_refl W2.heap.size)
  have HCAP := Lib.hid hcap
  clear hp hW h64 hi hz0 hz1 hz2 hx hy hx5 hy6 hk hcap
  go_enter Try.func144, Try.ntmps144
  go_wp2_with fail
  rw [← hW2]
  clear hW2
  refine wp_region_held_drew (S := fun w' => w'.cell? ⟨w.heap.size, 0, none⟩ = some (.int .i64 W) ∧ w'.cell? ⟨w.heap.size, 1, none⟩ = some (.int .i64 H) ∧ w'.cell? ⟨w.heap.size, 2, none⟩ = some (.slice A n c) ∧ w'.cell? ⟨bb, oo, none⟩ = some (.int .i64 x) ∧ w'.cell? ⟨bb, oo + k, none⟩ = some (.int .i64 y)) (by kernel_rfl) ?_ (fun hHeld => ?_)
  · (try dsimp only)
    exact ⟨a0, a1, a2, x0, y0⟩
  refine wpAnyH_take (i := 0) (oi := ⟨_, _, _, _, _, _⟩) (v := ?_) rfl (by kernel_rfl) (by kernel_rfl) (by kernel_rfl) (fun _ _ _ h => h) (Or.inl ⟨by rfl, ?_⟩) (by assumption) ?_
  rotate_left
  · intro w hSw
    (try dsimp only at hSw)
    go_simp
    (try with_reducible rfl)
  (try simp only [Act.put, List.setIfInBounds_toArray, List.set_cons_zero, List.set_cons_succ])
  refine wpAnyH_take (i := 1) (oi := ⟨_, _, _, _, _, _⟩) (v := ?_) rfl (by kernel_rfl) (by kernel_rfl) (by kernel_rfl) (fun _ _ _ h => h) (Or.inl ⟨by rfl, ?_⟩) (by assumption) ?_
  rotate_left
  · intro w hSw
    (try dsimp only at hSw)
    go_simp
    (try with_reducible rfl)
  (try simp only [Act.put, List.setIfInBounds_toArray, List.set_cons_zero, List.set_cons_succ])
  refine wpAnyH_take (i := 3) (oi := ⟨_, _, _, _, _, _⟩) (v := ?_) rfl (by kernel_rfl) (by kernel_rfl) (by kernel_rfl) (fun _ _ _ h => h) (Or.inl ⟨by rfl, ?_⟩) (by assumption) ?_
  rotate_left
  · intro w hSw
    (try dsimp only at hSw)
    go_simp
    (try with_reducible rfl)
  (try simp only [Act.put, List.setIfInBounds_toArray, List.set_cons_zero, List.set_cons_succ])
  refine wpAnyH_take (i := 4) (oi := ⟨_, _, _, _, _, _⟩) (v := ?_) rfl (by kernel_rfl) (by kernel_rfl) (by kernel_rfl) (fun _ _ _ h => h) (Or.inl ⟨by rfl, ?_⟩) (by assumption) ?_
  rotate_left
  · intro w hSw
    (try dsimp only at hSw)
    go_simp
    (try with_reducible rfl)
  (try simp only [Act.put, List.setIfInBounds_toArray, List.set_cons_zero, List.set_cons_succ])
  refine wpAnyH_take (i := 5) (oi := ⟨_, _, _, _, _, _⟩) (v := ?_) rfl (by kernel_rfl) (by kernel_rfl) (by kernel_rfl) (fun _ _ _ h => h) (Or.inl ⟨by rfl, ?_⟩) (by assumption) ?_
  rotate_left
  · intro w hSw
    (try dsimp only at hSw)
    go_simp
    (try with_reducible rfl)
  (try simp only [Act.put, List.setIfInBounds_toArray, List.set_cons_zero, List.set_cons_succ])
  refine wpAnyH_take (i := 6) (oi := ⟨_, _, _, _, _, _⟩) (v := ?_) rfl (by kernel_rfl) (by kernel_rfl) (by kernel_rfl) (fun _ _ _ h => h) (Or.inl ⟨by rfl, ?_⟩) (by assumption) ?_
  rotate_left
  · intro w hSw
    (try dsimp only at hSw)
    go_simp
    (try with_reducible rfl)
  (try simp only [Act.put, List.setIfInBounds_toArray, List.set_cons_zero, List.set_cons_succ])
  refine wpAnyH_take (i := 7) (oi := ⟨_, _, _, _, _, _⟩) (v := ?_) rfl (by kernel_rfl) (by kernel_rfl) (by kernel_rfl) (fun _ _ _ h => h) (Or.inl ⟨by rfl, ?_⟩) (by assumption) ?_
  rotate_left
  · intro w hSw
    (try dsimp only at hSw)
    go_simp
    (try with_reducible rfl)
  (try simp only [Act.put, List.setIfInBounds_toArray, List.set_cons_zero, List.set_cons_succ])
  refine wpAnyH_take (i := 8) (oi := ⟨_, _, _, _, _, _⟩) (v := ?_) rfl (by kernel_rfl) (by kernel_rfl) (by kernel_rfl) (fun _ _ _ h => h) (Or.inl ⟨by rfl, ?_⟩) (by assumption) ?_
  rotate_left
  · intro w hSw
    (try dsimp only at hSw)
    go_simp
    (try with_reducible rfl)
  (try simp only [Act.put, List.setIfInBounds_toArray, List.set_cons_zero, List.set_cons_succ])
  refine wpAnyH_take (i := 9) (oi := ⟨_, _, _, _, _, _⟩) (v := ?_) rfl (by kernel_rfl) (by kernel_rfl) (by kernel_rfl) (fun _ _ _ h => h) (Or.inl ⟨by rfl, ?_⟩) (by assumption) ?_
  rotate_left
  · intro w hSw
    (try dsimp only at hSw)
    go_simp
    (try with_reducible rfl)
  (try simp only [Act.put, List.setIfInBounds_toArray, List.set_cons_zero, List.set_cons_succ])
  refine wpAnyH_take (i := 10) (oi := ⟨_, _, _, _, _, _⟩) (v := ?_) rfl (by kernel_rfl) (by kernel_rfl) (by kernel_rfl) (fun _ _ _ h => h) (Or.inl ⟨by rfl, ?_⟩) (by assumption) ?_
  rotate_left
  · intro w hSw
    (try dsimp only at hSw)
    go_simp
    (try with_reducible rfl)
  (try simp only [Act.put, List.setIfInBounds_toArray, List.set_cons_zero, List.set_cons_succ])
  refine wpAnyH_take (i := 11) (oi := ⟨_, _, _, _, _, _⟩) (v := ?_) rfl (by kernel_rfl) (by kernel_rfl) (by kernel_rfl) (fun _ _ _ h => h) (Or.inl ⟨by rfl, ?_⟩) (by assumption) ?_
  rotate_left
  · intro w hSw
    (try dsimp only at hSw)
    go_simp
    (try with_reducible rfl)
  (try simp only [Act.put, List.setIfInBounds_toArray, List.set_cons_zero, List.set_cons_succ])
  refine wpAnyH_take (i := 12) (oi := ⟨_, _, _, _, _, _⟩) (v := ?_) rfl (by kernel_rfl) (by kernel_rfl) (by kernel_rfl) (fun _ _ _ h => h) (Or.inl ⟨by rfl, ?_⟩) (by assumption) ?_
  rotate_left
  · intro w hSw
    (try dsimp only at hSw)
    go_simp
    (try with_reducible rfl)
  (try simp only [Act.put, List.setIfInBounds_toArray, List.set_cons_zero, List.set_cons_succ])
  refine wpAnyH_ready (rs := [2]) (by kernel_rfl) (by simp) ?_
  refine AllReadyH.cons (o := ⟨_, _, _, _, _, _⟩) rfl (fun K hK => ?_) AllReadyH.nil
  go_simp
  (go_at_call 163; refine (linesOf_any W H A n c (some ⟨bb, oo, none⟩) m c2 ps _ ?_ HCAP.out HW.out H64.out HM.out).mono ?_; (first | exact RP.out | exact RP.out.drew1 | exact RP.out.drewN _); rintro e w3 ⟨A', n', c', rfl, hown, hb⟩; have HO := Lib.hid (show OwnN w3 W2.heap.size A' n' c' (linesL W ps) from hown.lower (by simp)); clear hown; (repeat (first | replace hb := below_undrew hb | replace hb := below_undrewN hb)); replace a0 := cell_keep a0 al hb; replace a1 := cell_keep a1 al hb; replace a2 := cell_keep a2 al hb; replace x0 := cell_keep x0 g0 hb; replace y0 := cell_keep y0 g0 hb; replace al := lt_keep al hb; replace g0 := lt_keep g0 hb; replace hsw := Lib.hid (Nat.le_trans hsw.out hb.size); replace HB := Lib.hid (below_next HB.out hb); clear hb)
  (try go_wp2_with fail)
  refine hK.out _ _ ?_ (fun hHeld => ?_)
  · (try dsimp only)
    exact ⟨a0, a1, a2, x0, y0⟩
  clear hK K
  (try simp only [Act.put, List.setIfInBounds_toArray, List.set_cons_zero, List.set_cons_succ])
  refine wpAnyH_ready (rs := [13]) (by kernel_rfl) (by simp) ?_
  refine AllReadyH.cons (o := ⟨_, _, _, _, _, _⟩) rfl (fun K hK => ?_) AllReadyH.nil
  go_simp
  (go_at_call 164; refine (lineOf_any W H A n c y x _ HW.out HY64.out HX64.out).mono ?_; rintro e w3 ⟨rfl, hb⟩; (repeat (first | replace hb := below_undrew hb | replace hb := below_undrewN hb)); replace a0 := cell_keep a0 al hb; replace a1 := cell_keep a1 al hb; replace a2 := cell_keep a2 al hb; replace x0 := cell_keep x0 g0 hb; replace y0 := cell_keep y0 g0 hb; replace al := lt_keep al hb; replace g0 := lt_keep g0 hb; replace HO := Lib.hid (HO.out.keep hb); replace hsw := Lib.hid (Nat.le_trans hsw.out hb.size); replace HB := Lib.hid (below_next HB.out hb); clear hb)
  (try go_wp2_with fail)
  refine hK.out _ _ ?_ (fun hHeld => ?_)
  · (try dsimp only)
    exact ⟨a0, a1, a2, x0, y0⟩
  clear hK K
  (try simp only [Act.put, List.setIfInBounds_toArray, List.set_cons_zero, List.set_cons_succ])
  refine wpAnyH_ready (rs := [14]) (by kernel_rfl) (by simp) ?_
  refine AllReadyH.cons (o := ⟨_, _, _, _, _, _⟩) rfl (fun K hK => ?_) AllReadyH.nil
  go_simp
  obtain ⟨w4, hw4⟩ : ∃ w4, w4 = w3.alloc (.cells #[.int .i64 (lnL W y x).1.1, .int .i64 (lnL W y x).1.2, .int .i64 (lnL W y x).2.1, .int .i64 (lnL W y x).2.2] 164) := ⟨_, rfl⟩
  have hb : Below w3.heap.size w3 w4 := by rw [hw4]; exact below_new (Below.refl _ _) _
  have HY4 : ∀ j u, ([lnL W y x].flatMap encN)[j]? = some u → w4.cell? (Addr.add ⟨w3.heap.size, 0, none⟩ j) = some u := fun j u hj => by
    rw [hw4]
    rcases j with _ | _ | _ | _ | j
    · injection hj with hj; subst hj; go_simp
    · injection hj with hj; subst hj; go_simp
    · injection hj with hj; subst hj; go_simp
    · injection hj with hj; subst hj; go_simp
    · simp [encN] at hj
  rw [← hw4]
  clear hw4
  replace a0 := cell_keep a0 al hb; replace a1 := cell_keep a1 al hb; replace a2 := cell_keep a2 al hb; replace x0 := cell_keep x0 g0 hb; replace y0 := cell_keep y0 g0 hb; replace al := lt_keep al hb; replace g0 := lt_keep g0 hb; replace HO := Lib.hid (HO.out.keep hb); replace hsw := Lib.hid (Nat.le_trans hsw.out hb.size); replace HB := Lib.hid (below_next HB.out hb)
  clear hb
  (try go_wp2_with fail)
  refine hK.out _ _ ?_ (fun hHeld => ?_)
  · (try dsimp only)
    exact ⟨a0, a1, a2, x0, y0⟩
  clear hK K
  (try simp only [Act.put, List.setIfInBounds_toArray, List.set_cons_zero, List.set_cons_succ])
  refine wpAnyH_ready (rs := [15]) (by kernel_rfl) (by simp) ?_
  refine AllReadyH.cons (o := ⟨_, _, _, _, _, _⟩) rfl (fun K hK => ?_) AllReadyH.nil
  refine step_appK rfl (.tmp 7) (.tmp 19) 148 164 rfl i0 (.agg #[.int .i64 0, .int .i64 0, .int .i64 0, .int .i64 0]) 32 Try.underlying148 HI.out HZ0.out HZ1.out HZ2.out rfl (by decide) (by decide) encN_len encN_one W2.heap.size A' n' c' (linesL W ps) _ 1 _ [lnL W y x] rfl HO.out rfl rfl HY4 (by have := HO.out.len; rw [linesL_len, HPL.out] at this; omega) hsw.out ?_
  intro A5 c5 w5 O5 hb5
  replace a0 := (hb5.cell (p := ⟨w.heap.size, 0, none⟩) AL.out).trans a0; replace a1 := (hb5.cell (p := ⟨w.heap.size, 1, none⟩) AL.out).trans a1; replace a2 := (hb5.cell (p := ⟨w.heap.size, 2, none⟩) AL.out).trans a2; replace x0 := (hb5.cell (p := ⟨bb, oo, none⟩) G0.out).trans x0; replace y0 := (hb5.cell (p := ⟨bb, oo + k, none⟩) G0.out).trans y0
  replace HB := Lib.hid (HB.out.trans hb5)
  replace O5 := Lib.hid O5
  clear hb5
  refine hK.out _ _ ?_ (fun hHeld => ?_)
  · (try dsimp only)
    exact ⟨a0, a1, a2, x0, y0⟩
  clear hK K
  (try simp only [Act.put, List.setIfInBounds_toArray, List.set_cons_zero, List.set_cons_succ])
  refine wpAnyH_take (i := 16) (oi := ⟨_, _, _, _, _, _⟩) (v := ?_) rfl (by kernel_rfl) (by kernel_rfl) (by kernel_rfl) (fun _ _ _ h => h) (Or.inl ⟨by rfl, ?_⟩) (by assumption) ?_
  rotate_left
  · intro w hSw
    (try dsimp only at hSw)
    go_simp
    (try with_reducible rfl)
  (try simp only [Act.put, List.setIfInBounds_toArray, List.set_cons_zero, List.set_cons_succ])
  refine wpAnyH_done (by kernel_rfl) ?_ _
  go_wp2
  go_ret
  exact ⟨_, _, _, rfl, by rw [HV.out]; exact O5.out.lower B.out.size, B.out.trans (HB.out.mono B.out.size)⟩

set_option maxRecDepth 100000 in
set_option maxHeartbeats 2000000 in
theorem countCrossings_any (lo : Nat) (A : Option Addr) (n c : Nat) (L : List Ln) (w : World) (hown : OwnN w lo A n c L) (hco : ∀ l ∈ L, CoL l) (hn : n ≤ 1000) (hcap : n ≤ c) :
    Calls Try.prog 143 #[.slice A n c] w fun e w' => e = .returned (.int .i64 (cntR (lnR L) L.length : Int)) ∧ Below w.heap.size w w' := by
  have HO := Lib.hid hown
  have HL := Lib.hid hown.len
  have HC := Lib.hid hco
  clear hown hco
  go_enter Try.func143, Try.ntmps143
  go_wp2
  go_loopw [3, 10] (fun cv i wr => ∃ k : Nat, k ≤ n ∧ i = .int .i64 k ∧ cv = .int .i64 (cntR (lnR L) k : Int) ∧ Below w.heap.size w wr) (fun _ i _ => n - (intOf i).toNat)
  case atStart => exact ⟨0, Nat.zero_le _, rfl, rfl, Below.refl _ _⟩
  case round =>
    obtain ⟨k, hk, rfl, rfl, hbw⟩ := hrel
    have HB := Lib.hid hbw
    have hcn := cntR_le (lnR L) k
    have hkk : k * k ≤ 1000 * 1000 := Nat.mul_le_mul (by omega) (by omega)
    by_cases hlt : k < n
    · obtain ⟨l, hx⟩ : ∃ l, L[k]? = some l := ⟨_, List.getElem?_eq_getElem (by rw [HL.out]; exact hlt)⟩
      have OK := HO.out.keep hbw
      obtain ⟨g, rfl, _, gl⟩ := OK.some_ hlt
      obtain ⟨x0, x1, x2, x3⟩ := line_at OK hx
      have HX := Lib.hid hx
      have HCL := Lib.hid (HC.out l (List.mem_of_getElem? hx))
      have k0 : (0 : Int) ≤ (k : Int) := by omega
      have kc : (k : Int) ≤ (c : Int) := by omega
      have kc2 : k ≤ c := by omega
      have kn : (k : Int) < (n : Int) := by omega
      have HCN := Lib.hid hcn; have HKK := Lib.hid hkk
      clear hx OK hbw hcn hkk
      go_upto_region 5 with fail
      obtain ⟨W4, hW4⟩ : ∃ W4, W4 = wr.alloc (.cells #[.int .i64 l.1.1, .int .i64 l.1.2, .int .i64 l.2.1, .int .i64 l.2.2] 164) := ⟨_, rfl⟩
      have p0 : W4.cell? ⟨wr.heap.size, 0, none⟩ = some (.int .i64 l.1.1) := by rw [hW4]; go_simp
      have p1 : W4.cell? ⟨wr.heap.size, 1, none⟩ = some (.int .i64 l.1.2) := by rw [hW4]; go_simp
      have p2 : W4.cell? ⟨wr.heap.size, 2, none⟩ = some (.int .i64 l.2.1) := by rw [hW4]; go_simp
      have p3 : W4.cell? ⟨wr.heap.size, 3, none⟩ = some (.int .i64 l.2.2) := by rw [hW4]; go_simp
      have pl : wr.heap.size < W4.heap.size := by rw [hW4]; simp
      have hb4 : Below wr.heap.size wr W4 := by rw [hW4]; exact below_new (Below.refl _ _) _
      have HB4 := Lib.hid (below_next HB.out hb4)
      rw [← hW4]
      clear hW4 hb4 x0 x1 x2 x3
      generalize wr.heap.size = gp at *
      go_wp2_with fail
      go_loopw [3, 19] (fun cv i ws => ∃ j : Nat, j ≤ k ∧ i = .int .i64 j ∧ cv = .int .i64 ((cntR (lnR L) k : Int) + (rwR (lnR L) k j : Int)) ∧ Below W4.heap.size W4 ws) (fun _ i _ => k - (intOf i).toNat)
      case atStart => exact ⟨0, Nat.zero_le _, rfl, by rw [show rwR (lnR L) k 0 = 0 from rfl]; simp, Below.refl _ _⟩
      case round =>
        obtain ⟨j, hj, rfl, rfl, hbs⟩ := hrel
        have HBS := Lib.hid hbs
        have hrw := rwR_le (lnR L) k j
        by_cases hjk : j < k
        · obtain ⟨q, hy⟩ : ∃ q, L[j]? = some q := ⟨_, List.getElem?_eq_getElem (by rw [HL.out]; omega)⟩
          have OS := (HO.out.keep HB4.out).keep hbs
          obtain ⟨q0, q1, q2, q3⟩ := line_at OS hy
          have r0 := cell_keep p0 pl hbs; have r1 := cell_keep p1 pl hbs; have r2 := cell_keep p2 pl hbs; have r3 := cell_keep p3 pl hbs; have rl := lt_keep pl hbs
          have hcl := HCL.out
          have hcq := HC.out q (List.mem_of_getElem? hy)
          have HCQ := Lib.hid hcq
          have j0 : (0 : Int) ≤ (j : Int) := by omega
          have jk : (j : Int) < (k : Int) := by omega
          have HLR := Lib.hid (show lnR L k j = cr l q by rw [lnR, List.getD_eq_getElem?_getD, List.getD_eq_getElem?_getD, HX.out, hy]; rfl)
          have hh1 := HCN.out; have hh2 := HKK.out
          have hw1 : IntKind.i64.wrap ((cntR (lnR L) k : Int) + (rwR (lnR L) k j : Int) + 1) = (cntR (lnR L) k : Int) + (rwR (lnR L) k j : Int) + 1 := IntWalk.i64_in _ (by omega)
          clear hy OS hbs hcl hcq hrw hh1 hh2
          cases hc : cr l q with
          | true =>
            have HCC := Lib.hid hc
            have HR := Lib.hid (show rwR (lnR L) k (j + 1) = rwR (lnR L) k j + 1 from rwR_yes (by rw [HLR.out, hc]))
            clear hc
            go_wp2_with fail
            refine (crosses_any l.1.1 l.1.2 l.2.1 l.2.2 q.1.1 q.1.2 q.2.1 q.2.2 _ HCL.out.1.1 HCL.out.1.2 HCL.out.2.1 HCL.out.2.2 HCQ.out.1.1 HCQ.out.1.2 HCQ.out.2.1 HCQ.out.2.2).mono ?_
            rw [show cr ((l.1.1, l.1.2), (l.2.1, l.2.2)) ((q.1.1, q.1.2), (q.2.1, q.2.2)) = true from HCC.out]
            rintro e wz ⟨rfl, hb⟩
            replace HBS := Lib.hid (below_next HBS.out (below_box hb))
            clear hb q0 q1 q2 q3 r0 r1 r2 r3
            go_wp2
            go_roundw
            case rel => exact ⟨j + 1, by omega, by go_num, by rw [HR.out]; go_num, HBS.out⟩
            case measure => simp [intOf]; omega
          | false =>
            have HCC := Lib.hid hc
            have HR := Lib.hid (show rwR (lnR L) k (j + 1) = rwR (lnR L) k j from rwR_no (by rw [HLR.out, hc]))
            clear hc
            go_wp2_with fail
            refine (crosses_any l.1.1 l.1.2 l.2.1 l.2.2 q.1.1 q.1.2 q.2.1 q.2.2 _ HCL.out.1.1 HCL.out.1.2 HCL.out.2.1 HCL.out.2.2 HCQ.out.1.1 HCQ.out.1.2 HCQ.out.2.1 HCQ.out.2.2).mono ?_
            rw [show cr ((l.1.1, l.1.2), (l.2.1, l.2.2)) ((q.1.1, q.1.2), (q.2.1, q.2.2)) = false from HCC.out]
            rintro e wz ⟨rfl, hb⟩
            replace HBS := Lib.hid (below_next HBS.out (below_box hb))
            clear hb q0 q1 q2 q3 r0 r1 r2 r3
            go_wp2
            go_roundw
            case rel => exact ⟨j + 1, by omega, by go_num, by rw [HR.out], HBS.out⟩
            case measure => simp [intOf]; omega
        · have HR := Lib.hid (show cntR (lnR L) (k + 1) = cntR (lnR L) k + rwR (lnR L) k j by rw [cntR, show j = k by omega])
          have jk : ¬ (j : Int) < (k : Int) := by omega
          clear hbs hrw
          go_wp2
          go_roundw
          case rel => exact ⟨k + 1, by omega, by go_num, by rw [HR.out]; go_num, below_next HB4.out HBS.out⟩
          case measure => simp [intOf]; omega
    · obtain rfl : k = n := by omega
      clear hbw hcn hkk
      go_wp2
      go_ret
      exact ⟨ret_int (by rw [HL.out]), HB.out⟩

end Go.Proofs.Ytadopgfpfbianaa
