/-
  Contracts: lists of lines, in the program.
-/
import Derived.Test.YtadopgfpfbianaaJ5
import Derived.Test.YtadopgfpfbianaaMem2
import Derived.Test.YtadopgfpfbianaaB14
import Derived.Deep.RegionHeld3
namespace Go.Proofs.Ytadopgfpfbianaa
open Go.RowKit

def encN (l : Ln) : List Value := [.int .i64 l.1.1, .int .i64 l.1.2, .int .i64 l.2.1, .int .i64 l.2.2]
theorem encN_len (l : Ln) : (encN l).length = 4 := rfl
theorem encN_one (l : Ln) : ∀ u ∈ encN l, u.oneCell' = true := fun u hu => by simp [encN] at hu; rcases hu with rfl | rfl | rfl | rfl <;> rfl
theorem infoN : (Try.prog.info? 164).map (fun i => (i.zero, i.size, i.bytes)) = some (some (.agg #[.int .i64 0, .int .i64 0, .int .i64 0, .int .i64 0]), 4, 32) := by kernel_rfl
abbrev lnv' (l : Ln) : Value := lnv l.1.1 l.1.2 l.2.1 l.2.2

set_option maxRecDepth 100000 in
set_option maxHeartbeats 2000000 in
theorem lineOf_any (W H : Int) (A : Option Addr) (n c : Nat) (p q : Int) (w : World) (hW : 1 ≤ W ∧ W ≤ 8) (hp : 0 ≤ p ∧ p ≤ 64) (hq : 0 ≤ q ∧ q ≤ 64) :
    Calls Try.prog 164 #[brd W H A n c, .int .i64 p, .int .i64 q] w fun e w' => e = .returned (lnv' (lnL W p q)) ∧ Below w.heap.size w w' := by
  have HW := Lib.hid hW
  have HMIN := Lib.hid (show 0 ≤ min p q ∧ min p q ≤ 64 by omega)
  have HMAX := Lib.hid (show 0 ≤ max p q ∧ max p q ≤ 64 by omega)
  clear hW hp hq
  show Calls Try.prog 164 #[brd W H A n c, .int .i64 p, .int .i64 q] w fun e w' => e = .returned (lnv (min p q % W) (min p q / W) (max p q % W) (max p q / W)) ∧ Below w.heap.size w w'
  have hmin : (if p < q then p else q) = min p q := by rw [Int.min_def]; split <;> split <;> omega
  have hmin2 : (if q < p then q else p) = min p q := by rw [Int.min_def]; split <;> split <;> omega
  have hmax : (if p < q then q else p) = max p q := by rw [Int.max_def]; split <;> split <;> omega
  have hmax2 : (if q < p then p else q) = max p q := by rw [Int.max_def]; split <;> split <;> omega
  obtain ⟨W2, hW2⟩ : ∃ W2, W2 = (w.alloc (.cells #[.int .i64 W, .int .i64 H, .slice A n c] 24)).alloc (.cells #[.int .i64 0, .int .i64 0, .int .i64 0, .int .i64 0] 164) := ⟨_, rfl⟩
  have a0 : W2.cell? ⟨w.heap.size, 0, none⟩ = some (.int .i64 W) := by rw [hW2]; go_simp
  have a1 : W2.cell? ⟨w.heap.size, 1, none⟩ = some (.int .i64 H) := by rw [hW2]; go_simp
  have a2 : W2.cell? ⟨w.heap.size, 2, none⟩ = some (.slice A n c) := by rw [hW2]; go_simp
  have al : w.heap.size < W2.heap.size := by rw [hW2]; simp; omega
  have tl : w.heap.size + 1 < W2.heap.size := by rw [hW2]; simp
  have t0 : W2.cell? ⟨w.heap.size + 1, 0, none⟩ = some (.int .i64 0) := by rw [hW2]; go_simp
  have z0 : W2.frozen? ⟨w.heap.size + 1, 0, none⟩ = false := by rw [hW2]; go_simp
  have t1 : W2.cell? ⟨w.heap.size + 1, 1, none⟩ = some (.int .i64 0) := by rw [hW2]; go_simp
  have z1 : W2.frozen? ⟨w.heap.size + 1, 1, none⟩ = false := by rw [hW2]; go_simp
  have t2 : W2.cell? ⟨w.heap.size + 1, 2, none⟩ = some (.int .i64 0) := by rw [hW2]; go_simp
  have z2 : W2.frozen? ⟨w.heap.size + 1, 2, none⟩ = false := by rw [hW2]; go_simp
  have t3 : W2.cell? ⟨w.heap.size + 1, 3, none⟩ = some (.int .i64 0) := by rw [hW2]; go_simp
  have z3 : W2.frozen? ⟨w.heap.size + 1, 3, none⟩ = false := by rw [hW2]; go_simp
  have B := Lib.hid (show Below w.heap.size w W2 by rw [hW2]; exact below_new (below_new (Below.refl _ _) _) _)
  go_enter Try.func164, Try.ntmps164
  go_wp2_with fail
  rw [← hW2]
  clear hW2
  refine wp_region_held_drew (S := fun w' => w'.cell? ⟨w.heap.size, 0, none⟩ = some (.int .i64 W) ∧ w'.cell? ⟨w.heap.size, 1, none⟩ = some (.int .i64 H) ∧ w'.cell? ⟨w.heap.size, 2, none⟩ = some (.slice A n c)) (by kernel_rfl) ?_ (fun hHeld => ?_)
  · (try dsimp only)
    exact ⟨a0, a1, a2⟩
  refine wpAnyH_take (i := 0) (oi := ⟨_, _, _, _, _, _⟩) (v := ?_) rfl (by kernel_rfl) (by kernel_rfl) (by kernel_rfl) (fun _ _ _ h => h) (Or.inl ⟨by rfl, ?_⟩) (by assumption) ?_
  rotate_left
  · intro w hSw
    (try dsimp only at hSw)
    go_simp
    (try with_reducible rfl)
  (try simp only [Act.put, List.setIfInBounds_toArray, List.set_cons_zero, List.set_cons_succ])
  refine wpAnyH_take (i := 1) (oi := ⟨_, _, _, _, _, _⟩) (v := ?_) rfl (by kernel_rfl) (by kernel_rfl) (by kernel_rfl) (fun _ _ _ h => h) (Or.inl ⟨by rfl, ?_⟩) (by assumption) ?_
  rotate_left
  · intro w hSw
    (try dsimp only at hSw)
    go_simp
    (try with_reducible rfl)
  (try simp only [Act.put, List.setIfInBounds_toArray, List.set_cons_zero, List.set_cons_succ])
  refine wpAnyH_take (i := 2) (oi := ⟨_, _, _, _, _, _⟩) (v := ?_) rfl (by kernel_rfl) (by kernel_rfl) (by kernel_rfl) (fun _ _ _ h => h) (Or.inl ⟨by rfl, ?_⟩) (by assumption) ?_
  rotate_left
  · intro w hSw
    (try dsimp only at hSw)
    go_simp
    (try with_reducible rfl)
  (try simp only [Act.put, List.setIfInBounds_toArray, List.set_cons_zero, List.set_cons_succ])
  refine wpAnyH_take (i := 3) (oi := ⟨_, _, _, _, _, _⟩) (v := ?_) rfl (by kernel_rfl) (by kernel_rfl) (by kernel_rfl) (fun _ _ _ h => h) (Or.inl ⟨by rfl, ?_⟩) (by assumption) ?_
  rotate_left
  · intro w hSw
    (try dsimp only at hSw)
    go_simp
    (try with_reducible rfl)
  (try simp only [Act.put, List.setIfInBounds_toArray, List.set_cons_zero, List.set_cons_succ])
  refine wpAnyH_take (i := 5) (oi := ⟨_, _, _, _, _, _⟩) (v := ?_) rfl (by kernel_rfl) (by kernel_rfl) (by kernel_rfl) (fun _ _ _ h => h) (Or.inl ⟨by rfl, ?_⟩) (by assumption) ?_
  rotate_left
  · intro w hSw
    (try dsimp only at hSw)
    go_simp
    (try with_reducible rfl)
  (try simp only [Act.put, List.setIfInBounds_toArray, List.set_cons_zero, List.set_cons_succ])
  refine wpAnyH_take (i := 6) (oi := ⟨_, _, _, _, _, _⟩) (v := ?_) rfl (by kernel_rfl) (by kernel_rfl) (by kernel_rfl) (fun _ _ _ h => h) (Or.inl ⟨by rfl, ?_⟩) (by assumption) ?_
  rotate_left
  · intro w hSw
    (try dsimp only at hSw)
    go_simp
    (try with_reducible rfl)
  (try simp only [Act.put, List.setIfInBounds_toArray, List.set_cons_zero, List.set_cons_succ])
  refine wpAnyH_take (i := 7) (oi := ⟨_, _, _, _, _, _⟩) (v := ?_) rfl (by kernel_rfl) (by kernel_rfl) (by kernel_rfl) (fun _ _ _ h => h) (Or.inl ⟨by rfl, ?_⟩) (by assumption) ?_
  rotate_left
  · intro w hSw
    (try dsimp only at hSw)
    go_simp
    (try with_reducible rfl)
  (try simp only [Act.put, List.setIfInBounds_toArray, List.set_cons_zero, List.set_cons_succ])
  refine wpAnyH_take (i := 8) (oi := ⟨_, _, _, _, _, _⟩) (v := ?_) rfl (by kernel_rfl) (by kernel_rfl) (by kernel_rfl) (fun _ _ _ h => h) (Or.inl ⟨by rfl, ?_⟩) (by assumption) ?_
  rotate_left
  · intro w hSw
    (try dsimp only at hSw)
    go_simp
    (try with_reducible rfl)
  (try simp only [Act.put, List.setIfInBounds_toArray, List.set_cons_zero, List.set_cons_succ])
  refine wpAnyH_ready (rs := [4]) (by kernel_rfl) (by simp) ?_
  refine AllReadyH.cons (o := ⟨_, _, _, _, _, _⟩) rfl (fun K hK => ?_) AllReadyH.nil
  go_simp
  (go_at_call 72; refine (spotOf_any W H A n c _ _ HW.out HMIN.out).mono ?_; rintro e wx ⟨rfl, hb⟩; (repeat (first | replace hb := below_undrew hb | replace hb := below_undrewN hb)); replace z0 := ((bcell hb).2 _ 0 tl).trans z0; replace t0 := cell_keep t0 tl hb; replace z1 := ((bcell hb).2 _ 1 tl).trans z1; replace t1 := cell_keep t1 tl hb; replace z2 := ((bcell hb).2 _ 2 tl).trans z2; replace t2 := cell_keep t2 tl hb; replace z3 := ((bcell hb).2 _ 3 tl).trans z3; replace t3 := cell_keep t3 tl hb; replace tl := lt_keep tl hb; replace a0 := cell_keep a0 al hb; replace a1 := cell_keep a1 al hb; replace a2 := cell_keep a2 al hb; replace al := lt_keep al hb; replace B := Lib.hid (below_next B.out hb); clear hb)
  (try go_wp2_with fail)
  refine hK.out _ _ ?_ (fun hHeld => ?_)
  · (try dsimp only)
    exact ⟨a0, a1, a2⟩
  clear hK K
  (try simp only [Act.put, List.setIfInBounds_toArray, List.set_cons_zero, List.set_cons_succ])
  refine wpAnyH_ready (rs := [9]) (by kernel_rfl) (by simp) ?_
  refine AllReadyH.cons (o := ⟨_, _, _, _, _, _⟩) rfl (fun K hK => ?_) AllReadyH.nil
  go_simp
  (go_at_call 72; refine (spotOf_any W H A n c _ _ HW.out HMAX.out).mono ?_; rintro e wx ⟨rfl, hb⟩; (repeat (first | replace hb := below_undrew hb | replace hb := below_undrewN hb)); replace z0 := ((bcell hb).2 _ 0 tl).trans z0; replace t0 := cell_keep t0 tl hb; replace z1 := ((bcell hb).2 _ 1 tl).trans z1; replace t1 := cell_keep t1 tl hb; replace z2 := ((bcell hb).2 _ 2 tl).trans z2; replace t2 := cell_keep t2 tl hb; replace z3 := ((bcell hb).2 _ 3 tl).trans z3; replace t3 := cell_keep t3 tl hb; replace tl := lt_keep tl hb; replace a0 := cell_keep a0 al hb; replace a1 := cell_keep a1 al hb; replace a2 := cell_keep a2 al hb; replace al := lt_keep al hb; replace B := Lib.hid (below_next B.out hb); clear hb)
  (try go_wp2_with fail)
  refine hK.out _ _ ?_ (fun hHeld => ?_)
  · (try dsimp only)
    exact ⟨a0, a1, a2⟩
  clear hK K
  (try simp only [Act.put, List.setIfInBounds_toArray, List.set_cons_zero, List.set_cons_succ])
  refine wpAnyH_take (i := 10) (oi := ⟨_, _, _, _, _, _⟩) (v := ?_) rfl (by kernel_rfl) (by kernel_rfl) (by kernel_rfl) (fun _ _ _ h => h) (Or.inl ⟨by rfl, ?_⟩) (by assumption) ?_
  rotate_left
  · intro w hSw
    (try dsimp only at hSw)
    go_simp
    (try with_reducible rfl)
  (try simp only [Act.put, List.setIfInBounds_toArray, List.set_cons_zero, List.set_cons_succ])
  refine wpAnyH_ready (rs := [11]) (by kernel_rfl) (by simp) ?_
  refine AllReadyH.cons (o := ⟨_, _, _, _, _, _⟩) rfl (fun K hK => ?_) AllReadyH.nil
  go_simp
  skip
  (try go_wp2_with fail)
  refine hK.out _ _ ?_ (fun hHeld => ?_)
  · (try dsimp only)
    exact ⟨by go_simp, by go_simp, by go_simp⟩
  clear hK K
  (try simp only [Act.put, List.setIfInBounds_toArray, List.set_cons_zero, List.set_cons_succ])
  refine wpAnyH_done (by kernel_rfl) ?_ _
  go_wp2
  exact bodyPost_ret (v := lnv (min p q % W) (min p q / W) (max p q % W) (max p q / W)) (by simp [results, Try.results164, go_sem, t0, t1, t2, t3]) rfl ⟨rfl, (by repeat (first | exact B.out | refine below_drewN ?_ _ | refine Below.drew ?_ | refine Below.setCell ?_ (by simp) _))⟩

theorem step_appK {α : Type} {enc : α → List Value} {k : Nat} {P : Program} {w : World} {ops : Array Oper} {o : Oper} {a : Act} {K : Act → World → Prop} {Q : Exit → Act → World → Prop} {E0 : Prop} (hgd : o.guard = none) (s x : Operand) (T E : TypeId)
    (ho : o.op = .call { callee := .builtin .append, args := #[s, x], argTypes := #[T, T] }) (i0 : TypeInfo) (z : Value) (bytes : Nat)
    (hT : P.underlying T = some (.slice E)) (hi : P.info? E = some i0) (hz0 : i0.zero = some z) (hz1 : i0.size = k) (hz2 : i0.bytes = bytes) (hzs : z.cells.size = k) (hk0 : 0 < k) (hby : bytes ≤ 64)
    (hk : ∀ x, (enc x).length = k) (h1 : ∀ x, ∀ u ∈ enc x, u.oneCell' = true)
    (lo : Nat) (A : Option Addr) (n c : Nat) (xs : List α) (ad : Addr) (m cy : Nat) (ys : List α) (hs : a.eval s = .slice A n c) (hown : OwnK enc k E w lo A n c xs) (hx : a.eval x = .slice (some ad) m cy) (hm : ys.length = m)
    (hy : ∀ j u, (ys.flatMap enc)[j]? = some u → w.cell? (ad.add j) = some u) (hn : n + m ≤ 1000000) (hlo : lo ≤ w.heap.size)
    (h : ∀ A' c' w', OwnK enc k E w' lo A' (n + m) c' (xs ++ ys) → Below lo w w' → K (a.put o.dst (.slice A' (n + m) c')) w') :
    if Region.wanted o (yielded ops a.tmps) = true then Oper.wp P o a w K Q else E0 := by
  have hw : Region.wanted o (yielded ops a.tmps) = true := by simp [Region.wanted, hgd]
  rw [if_pos hw]
  refine wp_append_own w s x T ho lo E i0 z k bytes hT hi hz0 hz1 hz2 hzs hk0 (.slice A n c) n (xs.flatMap enc) hs hown.2 ad m cy (ys.flatMap enc) hx (by rw [flat_len hk, hm]) hy ?_ (by unfold maxLen; omega) ?_ hlo ?_
  · intro u hu
    obtain ⟨y, _, hu⟩ := List.mem_flatMap.1 hu
    exact h1 y u hu
  · have := Nat.mul_le_mul hn hby; omega
  · intro v' w' hown' hgrow _
    rw [← List.flatMap_append] at hown'
    obtain ⟨A', c', rfl, hO⟩ := OwnK.of_row (by rw [List.length_append, hown.1, hm]) hown'
    exact h A' c' w' hO ((Below.refl _ _).grown hgrow hlo (fun k hk => (World.ownsRow.lt hown.2 k hk).1))
abbrev OwnN (w : World) (lo : Nat) (A : Option Addr) (n c : Nat) (xs : List Ln) : Prop := OwnK encN 4 164 w lo A n c xs

set_option maxRecDepth 100000 in
set_option maxHeartbeats 2000000 in
theorem linesOf_any (W H : Int) (A : Option Addr) (n c : Nat) (A2 : Option Addr) (m c2 : Nat) (ps : List Int) (w : World) (hp : Rd w A2 m ps) (hcap : m ≤ c2) (hW : 1 ≤ W ∧ W ≤ 8) (h64 : ∀ x ∈ ps, 0 ≤ x ∧ x < 64) (hm : 1 ≤ m ∧ m ≤ 1000) :
    Calls Try.prog 163 #[brd W H A n c, .slice A2 m c2] w fun e w' => ∃ A' n' c', e = .returned (.slice A' n' c') ∧ OwnN w' w.heap.size A' n' c' (linesL W ps) ∧ Below w.heap.size w w' := by
  obtain ⟨bb, oo, x9, rfl, -, -, -⟩ := hp.at_ (k := 0) (by omega)
  have HPL := Lib.hid hp.1
  have HW := Lib.hid hW; have H64 := Lib.hid h64; have HM := Lib.hid hm
  obtain ⟨hm1, hm2⟩ := hm
  obtain ⟨i0, hi, hz0, hz1, hz2⟩ := info_parts infoN
  have HI := Lib.hid hi; have HZ0 := Lib.hid hz0; have HZ1 := Lib.hid hz1; have HZ2 := Lib.hid hz2
  obtain ⟨W2, hW2⟩ : ∃ W2, W2 = w.alloc (.cells #[.int .i64 W, .int .i64 H, .slice A n c] 24) := ⟨_, rfl⟩
  have a0 : W2.cell? ⟨w.heap.size, 0, none⟩ = some (.int .i64 W) := by rw [hW2]; go_simp
  have a1 : W2.cell? ⟨w.heap.size, 1, none⟩ = some (.int .i64 H) := by rw [hW2]; go_simp
  have a2 : W2.cell? ⟨w.heap.size, 2, none⟩ = some (.slice A n c) := by rw [hW2]; go_simp
  have al : w.heap.size < W2.heap.size := by rw [hW2]; simp
  have B := Lib.hid (show Below w.heap.size w W2 by rw [hW2]; exact below_new (Below.refl _ _) _)
  have RP := Lib.hid (hp.keep B.out)
  clear hp hW h64 hi hz0 hz1 hz2
  have g1 : (1 : Int) ≤ (m : Int) := by omega
  have g2 : (m : Int) ≤ (c2 : Int) := by omega
  have g3 : m - 1 ≤ c2 - 1 := by omega
  by_cases hc1 : c2 = 1
  · obtain rfl : m = 1 := by omega
    subst hc1
    have HV := Lib.hid (show linesL W ps = [] by rw [linesL, HPL.out]; rfl)
    go_enter Try.func163, Try.ntmps163
    go_wp2_with fail
    rw [← hW2]
    clear hW2 RP
    go_loopw [5, 11] (fun v i wr => i = .int .i64 0 ∧ v = .slice none 0 0 ∧ wr = W2) (fun _ _ _ => 0)
    case atStart => exact ⟨rfl, rfl, rfl⟩
    case round =>
      obtain ⟨rfl, rfl, rfl⟩ := hrel
      go_wp2
      go_ret
      exact ⟨_, _, _, rfl, by rw [HV.out]; exact OwnK.none_ _ _ _ _ _, B.out⟩
  · go_enter Try.func163, Try.ntmps163
    go_wp2_with fail
    rw [← hW2]
    clear hW2
    go_loopw [5, 11] (fun v i wr => ∃ (k n' c' : Nat) (A' : Option Addr), k ≤ m - 1 ∧ i = .int .i64 k ∧ v = .slice A' n' c' ∧ OwnN wr W2.heap.size A' n' c' (linesTo W ps k) ∧ Below W2.heap.size W2 wr) (fun _ i _ => m - (intOf i).toNat)
    case atStart => exact ⟨0, 0, 0, none, Nat.zero_le _, rfl, rfl, OwnK.none_ _ _ _ _ _, Below.refl _ _⟩
    case round =>
      obtain ⟨k, n', c', A', hk, rfl, rfl, hown, hbw⟩ := hrel
      have HNK := Lib.hid (show n' = k by have := hown.len; rw [linesTo_len] at this; omega)
      have HO := Lib.hid hown; have HB := Lib.hid hbw
      by_cases hlt : k + 1 < m
      · obtain ⟨b1, o1, x, he1, hg1, hx, x0⟩ := RP.out.at_ (k := k) (by omega)
        obtain ⟨b4, o4, y, he4, hg4, hy, y0⟩ := RP.out.at_ (k := k + 1) (by omega)
        injection he1 with he1
        injection he1 with e1 e2 _
        subst e1 e2
        injection he4 with he4
        injection he4 with e1 e2 _
        subst e1 e2
        have G1 := Lib.hid hg1; have AL := Lib.hid al
        replace x0 := cell_keep x0 hg1 hbw
        replace y0 := cell_keep y0 hg1 hbw
        rw [show oo + (k + 1) = oo + 1 + k by omega] at y0
        replace a0 := cell_keep a0 al hbw; replace a1 := cell_keep a1 al hbw; replace a2 := cell_keep a2 al hbw; replace al := lt_keep al hbw
        replace hg1 := lt_keep hg1 hbw
        have HX64 := Lib.hid (show 0 ≤ x ∧ x ≤ 64 by have := H64.out x (List.mem_of_getElem? hx); omega)
        have HY64 := Lib.hid (show 0 ≤ y ∧ y ≤ 64 by have := H64.out y (List.mem_of_getElem? hy); omega)
        have HV := Lib.hid (show linesTo W ps (k + 1) = linesTo W ps k ++ [lnL W x y] by rw [linesTo_succ, List.getD_eq_getElem?_getD, List.getD_eq_getElem?_getD, hx, hy]; rfl)
        have hsw := Lib.hid (show W2.heap.size ≤ wr.heap.size from hbw.size)
        have k0 : (0 : Int) ≤ (k : Int) := by omega
        have k1 : (k : Int) < (m : Int) := by omega
        have k2 : (k : Int) < ((m - 1 : Nat) : Int) := by omega
        have k3 : k < m - 1 := by omega
        have k4 : k < m := by omega
        clear hx hy hown hbw hg4
        go_wp2_with fail
        refine wp_region_held_drew (S := fun w' => w'.cell? ⟨w.heap.size, 0, none⟩ = some (.int .i64 W) ∧ w'.cell? ⟨w.heap.size, 1, none⟩ = some (.int .i64 H) ∧ w'.cell? ⟨w.heap.size, 2, none⟩ = some (.slice A n c) ∧ w'.cell? ⟨bb, oo + k, none⟩ = some (.int .i64 x)) (by kernel_rfl) ?_ (fun hHeld => ?_)
        · (try dsimp only)
          exact ⟨a0, a1, a2, x0⟩
        refine wpAnyH_take (i := 0) (oi := ⟨_, _, _, _, _, _⟩) (v := ?_) rfl (by kernel_rfl) (by kernel_rfl) (by kernel_rfl) (fun _ _ _ h => h) (Or.inl ⟨by rfl, ?_⟩) (by assumption) ?_
        rotate_left
        · intro w hSw
          (try dsimp only at hSw)
          go_simp
          (try with_reducible rfl)
        (try simp only [Act.put, List.setIfInBounds_toArray, List.set_cons_zero, List.set_cons_succ])
        refine wpAnyH_take (i := 1) (oi := ⟨_, _, _, _, _, _⟩) (v := ?_) rfl (by kernel_rfl) (by kernel_rfl) (by kernel_rfl) (fun _ _ _ h => h) (Or.inl ⟨by rfl, ?_⟩) (by assumption) ?_
        rotate_left
        · intro w hSw
          (try dsimp only at hSw)
          go_simp
          (try with_reducible rfl)
        (try simp only [Act.put, List.setIfInBounds_toArray, List.set_cons_zero, List.set_cons_succ])
        refine wpAnyH_take (i := 2) (oi := ⟨_, _, _, _, _, _⟩) (v := ?_) rfl (by kernel_rfl) (by kernel_rfl) (by kernel_rfl) (fun _ _ _ h => h) (Or.inl ⟨by rfl, ?_⟩) (by assumption) ?_
        rotate_left
        · intro w hSw
          (try dsimp only at hSw)
          go_simp
          (try with_reducible rfl)
        (try simp only [Act.put, List.setIfInBounds_toArray, List.set_cons_zero, List.set_cons_succ])
        refine wpAnyH_take (i := 3) (oi := ⟨_, _, _, _, _, _⟩) (v := ?_) rfl (by kernel_rfl) (by kernel_rfl) (by kernel_rfl) (fun _ _ _ h => h) (Or.inl ⟨by rfl, ?_⟩) (by assumption) ?_
        rotate_left
        · intro w hSw
          (try dsimp only at hSw)
          go_simp
          (try with_reducible rfl)
        (try simp only [Act.put, List.setIfInBounds_toArray, List.set_cons_zero, List.set_cons_succ])
        refine wpAnyH_take (i := 4) (oi := ⟨_, _, _, _, _, _⟩) (v := ?_) rfl (by kernel_rfl) (by kernel_rfl) (by kernel_rfl) (fun _ _ _ h => h) (Or.inl ⟨by rfl, ?_⟩) (by assumption) ?_
        rotate_left
        · intro w hSw
          (try dsimp only at hSw)
          go_simp
          (try with_reducible rfl)
        (try simp only [Act.put, List.setIfInBounds_toArray, List.set_cons_zero, List.set_cons_succ])
        refine wpAnyH_take (i := 5) (oi := ⟨_, _, _, _, _, _⟩) (v := ?_) rfl (by kernel_rfl) (by kernel_rfl) (by kernel_rfl) (fun _ _ _ h => h) (Or.inl ⟨by rfl, ?_⟩) (by assumption) ?_
        rotate_left
        · intro w hSw
          (try dsimp only at hSw)
          go_simp
          (try with_reducible rfl)
        (try simp only [Act.put, List.setIfInBounds_toArray, List.set_cons_zero, List.set_cons_succ])
        refine wpAnyH_take (i := 6) (oi := ⟨_, _, _, _, _, _⟩) (v := ?_) rfl (by kernel_rfl) (by kernel_rfl) (by kernel_rfl) (fun _ _ _ h => h) (Or.inl ⟨by rfl, ?_⟩) (by assumption) ?_
        rotate_left
        · intro w hSw
          (try dsimp only at hSw)
          go_simp
          (try with_reducible rfl)
        (try simp only [Act.put, List.setIfInBounds_toArray, List.set_cons_zero, List.set_cons_succ])
        refine wpAnyH_ready (rs := [7]) (by kernel_rfl) (by simp) ?_
        refine AllReadyH.cons (o := ⟨_, _, _, _, _, _⟩) rfl (fun K hK => ?_) AllReadyH.nil
        go_simp
        (go_at_call 164; refine (lineOf_any W H A n c x y _ HW.out HX64.out HY64.out).mono ?_; rintro e w3 ⟨rfl, hb⟩; (repeat (first | replace hb := below_undrew hb | replace hb := below_undrewN hb)); replace a0 := cell_keep a0 al hb; replace a1 := cell_keep a1 al hb; replace a2 := cell_keep a2 al hb; replace x0 := cell_keep x0 hg1 hb; replace al := lt_keep al hb; replace hg1 := lt_keep hg1 hb; replace HO := Lib.hid (HO.out.keep hb); replace hsw := Lib.hid (Nat.le_trans hsw.out hb.size); replace HB := Lib.hid (below_next HB.out hb); clear hb)
        (try go_wp2_with fail)
        refine hK.out _ _ ?_ (fun hHeld => ?_)
        · (try dsimp only)
          exact ⟨a0, a1, a2, x0⟩
        clear hK K
        (try simp only [Act.put, List.setIfInBounds_toArray, List.set_cons_zero, List.set_cons_succ])
        refine wpAnyH_ready (rs := [8]) (by kernel_rfl) (by simp) ?_
        refine AllReadyH.cons (o := ⟨_, _, _, _, _, _⟩) rfl (fun K hK => ?_) AllReadyH.nil
        go_simp
        obtain ⟨w4, hw4⟩ : ∃ w4, w4 = w3.alloc (.cells #[.int .i64 (lnL W x y).1.1, .int .i64 (lnL W x y).1.2, .int .i64 (lnL W x y).2.1, .int .i64 (lnL W x y).2.2] 164) := ⟨_, rfl⟩
        have hb : Below w3.heap.size w3 w4 := by rw [hw4]; exact below_new (Below.refl _ _) _
        have HY4 : ∀ j u, ([lnL W x y].flatMap encN)[j]? = some u → w4.cell? (Addr.add ⟨w3.heap.size, 0, none⟩ j) = some u := fun j u hj => by
          rw [hw4]
          rcases j with _ | _ | _ | _ | j
          · injection hj with hj; subst hj; go_simp
          · injection hj with hj; subst hj; go_simp
          · injection hj with hj; subst hj; go_simp
          · injection hj with hj; subst hj; go_simp
          · simp [encN] at hj
        rw [← hw4]
        clear hw4
        replace a0 := cell_keep a0 al hb; replace a1 := cell_keep a1 al hb; replace a2 := cell_keep a2 al hb; replace x0 := cell_keep x0 hg1 hb; replace al := lt_keep al hb; replace hg1 := lt_keep hg1 hb; replace HO := Lib.hid (HO.out.keep hb); replace hsw := Lib.hid (Nat.le_trans hsw.out hb.size); replace HB := Lib.hid (below_next HB.out hb)
        clear hb
        (try go_wp2_with fail)
        refine hK.out _ _ ?_ (fun hHeld => ?_)
        · (try dsimp only)
          exact ⟨a0, a1, a2, x0⟩
        clear hK K
        (try simp only [Act.put, List.setIfInBounds_toArray, List.set_cons_zero, List.set_cons_succ])
        refine wpAnyH_ready (rs := [9]) (by kernel_rfl) (by simp) ?_
        refine AllReadyH.cons (o := ⟨_, _, _, _, _, _⟩) rfl (fun K hK => ?_) AllReadyH.nil
        refine step_appK rfl (.tmp 16) (.tmp 24) 148 164 rfl i0 (.agg #[.int .i64 0, .int .i64 0, .int .i64 0, .int .i64 0]) 32 Try.underlying148 HI.out HZ0.out HZ1.out HZ2.out rfl (by decide) (by decide) encN_len encN_one W2.heap.size A' n' c' (linesTo W ps k) _ 1 _ [lnL W x y] rfl HO.out rfl rfl HY4 (by have := HNK.out; omega) hsw.out ?_
        intro A5 c5 w5 O5 hb5
        replace a0 := (hb5.cell (p := ⟨w.heap.size, 0, none⟩) AL.out).trans a0; replace a1 := (hb5.cell (p := ⟨w.heap.size, 1, none⟩) AL.out).trans a1; replace a2 := (hb5.cell (p := ⟨w.heap.size, 2, none⟩) AL.out).trans a2; replace x0 := (hb5.cell (p := ⟨bb, oo + k, none⟩) G1.out).trans x0
        replace HB := Lib.hid (HB.out.trans hb5)
        replace O5 := Lib.hid O5
        clear hb5
        refine hK.out _ _ ?_ (fun hHeld => ?_)
        · (try dsimp only)
          exact ⟨a0, a1, a2, x0⟩
        clear hK K
        (try simp only [Act.put, List.setIfInBounds_toArray, List.set_cons_zero, List.set_cons_succ])
        refine wpAnyH_take (i := 10) (oi := ⟨_, _, _, _, _, _⟩) (v := ?_) rfl (by kernel_rfl) (by kernel_rfl) (by kernel_rfl) (fun _ _ _ h => h) (Or.inl ⟨by rfl, ?_⟩) (by assumption) ?_
        rotate_left
        · intro w hSw
          (try dsimp only at hSw)
          go_simp
          (try with_reducible rfl)
        (try simp only [Act.put, List.setIfInBounds_toArray, List.set_cons_zero, List.set_cons_succ])
        refine wpAnyH_done (by kernel_rfl) ?_ _
        go_wp2
        go_roundw
        case rel => exact ⟨k + 1, n' + 1, c5, A5, by omega, by go_num, rfl, by rw [HV.out]; exact O5.out, HB.out⟩
        case measure => simp [intOf]; omega
      · have HV := Lib.hid (show linesL W ps = linesTo W ps k by rw [linesL, HPL.out, show m - 1 = k by omega])
        have k2 : ¬ (k : Int) < ((m - 1 : Nat) : Int) := by omega
        clear hown hbw
        go_wp2
        go_ret
        exact ⟨_, _, _, rfl, by rw [HV.out]; exact HO.out.lower B.out.size, below_next B.out HB.out⟩

end Go.Proofs.Ytadopgfpfbianaa
