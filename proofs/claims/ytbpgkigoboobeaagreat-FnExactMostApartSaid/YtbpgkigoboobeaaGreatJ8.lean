/-
  Contracts: lists of lines, in the program.
-/
import Derived.Test.YtbpgkigoboobeaaGreatJ5
import Derived.Test.YtbpgkigoboobeaaGreatMem2
import Derived.Test.YtbpgkigoboobeaaGreatB14
import Derived.Deep.RegionHeld3
namespace Go.Proofs.YtbpgkigoboobeaaGreat
open Go.RowKit

def encN (l : Ln) : List Value := [.int .i64 l.1.1, .int .i64 l.1.2, .int .i64 l.2.1, .int .i64 l.2.2]
theorem encN_len (l : Ln) : (encN l).length = 4 := rfl
theorem encN_one (l : Ln) : ∀ u ∈ encN l, u.oneCell' = true := fun u hu => by simp [encN] at hu; rcases hu with rfl | rfl | rfl | rfl <;> rfl
theorem infoN : (Tryz.prog.info? 68).map (fun i => (i.zero, i.size, i.bytes)) = some (some (.agg #[.int .i64 0, .int .i64 0, .int .i64 0, .int .i64 0]), 4, 32) := by kernel_rfl
abbrev lnv' (l : Ln) : Value := lnv l.1.1 l.1.2 l.2.1 l.2.2

set_option maxRecDepth 100000 in
set_option maxHeartbeats 2000000 in
theorem lineOf_any (W H : Int) (A : Option Addr) (n c : Nat) (p q : Int) (w : World) (hW : 1 ≤ W ∧ W ≤ 8) (hp : 0 ≤ p ∧ p ≤ 64) (hq : 0 ≤ q ∧ q ≤ 64) :
    Calls Tryz.prog 38 #[brd W H A n c, .int .i64 p, .int .i64 q] w fun e w' => e = .returned (lnv' (lnL W p q)) ∧ Below w.heap.size w w' := by
  have HW := Lib.hid hW
  have HMIN := Lib.hid (show 0 ≤ min p q ∧ min p q ≤ 64 by omega)
  have HMAX := Lib.hid (show 0 ≤ max p q ∧ max p q ≤ 64 by omega)
  clear hW hp hq
  show Calls Tryz.prog 38 #[brd W H A n c, .int .i64 p, .int .i64 q] w fun e w' => e = .returned (lnv (min p q % W) (min p q / W) (max p q % W) (max p q / W)) ∧ Below w.heap.size w w'
  have hmin : (if p < q then p else q) = min p q := by rw [Int.min_def]; split <;> split <;> omega
  have hmin2 : (if q < p then q else p) = min p q := by rw [Int.min_def]; split <;> split <;> omega
  have hmax : (if p < q then q else p) = max p q := by rw [Int.max_def]; split <;> split <;> omega
  have hmax2 : (if q < p then p else q) = max p q := by rw [Int.max_def]; split <;> split <;> omega
  obtain ⟨W2, hW2⟩ : ∃ W2, W2 = (w.alloc (.cells #[.int .i64 W, .int .i64 H, .slice A n c] 31)).alloc (.cells #[.int .i64 0, .int .i64 0, .int .i64 0, .int .i64 0] 68) := ⟨_, rfl⟩
  have a0 : W2.cell? ⟨w.heap.size, 0, none⟩ = some (.int .i64 W) := by rw [hW2]; go_simp
  have a1 : W2.cell? ⟨w.heap.size, 1, none⟩ = some (.int .i64 H) := by rw [hW2]; go_simp
  have a2 : W2.cell? ⟨w.heap.size, 2, none⟩ = some (.slice A n c) := by rw [hW2]; go_simp
  have al : w.heap.size < W2.heap.size := by rw [hW2]; simp; omega
  have tl : w.heap.size + 1 < W2.heap.size := by rw [hW2]; simp
  have t0 : W2.cell? ⟨w.heap.size + 1, 0, none⟩ = some (.int .i64 0) := by rw [hW2]; go_simp
  have z0 : W2.frozen? ⟨w.heap.size + 1, 0, none⟩ = false := by rw [hW2]; go_simp
  have t1 : W2.cell? ⟨w.heap.size + 1, 1, none⟩ = some (.int .i64 0) := by rw [hW2]; go_simp
  have z1 : W2.frozen? ⟨w.heap.size + 1, 1, none⟩ = false := by rw [hW2]; go_simp
  have t2 : W2.cell? ⟨w.heap.size + 1, 2, none⟩ = some (.int .i64 0) := by rw [hW2]; go_simp
  have z2 : W2.frozen? ⟨w.heap.size + 1, 2, none⟩ = false := by rw [hW2]; go_simp
  have t3 : W2.cell? ⟨w.heap.size + 1, 3, none⟩ = some (.int .i64 0) := by rw [hW2]; go_simp
  have z3 : W2.frozen? ⟨w.heap.size + 1, 3, none⟩ = false := by rw [hW2]; go_simp
  have B := Lib.hid (show Below w.heap.size w W2 by rw [hW2]; exact below_new (below_new (Below.refl _ _) _) _)
  go_enter Tryz.func38, Tryz.ntmps38
  go_wp2_with fail
  rw [← hW2]
  clear hW2
  refine wp_region_held_drew (S := fun w' => w'.cell? ⟨w.heap.size, 0, none⟩ = some (.int .i64 W) ∧ w'.cell? ⟨w.heap.size, 1, none⟩ = some (.int .i64 H) ∧ w'.cell? ⟨w.heap.size, 2, none⟩ = some (.slice A n c)) (by kernel_rfl) ?_ (fun hHeld => ?_)
  · (try dsimp only)
    exact ⟨a0, a1, a2⟩
  refine wpAnyH_take (i := 0) (oi := ⟨_, _, _, _, _, _⟩) (v := ?_) rfl (by kernel_rfl) (by kernel_rfl) (by kernel_rfl) (fun _ _ _ h => h) (Or.inl ⟨by rfl, ?_⟩) (by assumption) ?_
  rotate_left
  · intro w hSw
    (try dsimp only at hSw)
    go_simp
    (try with_reducible rfl)
  (try simp only [Act.put, List.setIfInBounds_toArray, List.set_cons_zero, List.set_cons_succ])
  refine wpAnyH_take (i := 1) (oi := ⟨_, _, _, _, _, _⟩) (v := ?_) rfl (by kernel_rfl) (by kernel_rfl) (by kernel_rfl) (fun _ _ _ h => h) (Or.inl ⟨by rfl, ?_⟩) (by assumption) ?_
  rotate_left
  · intro w hSw
    (try dsimp only at hSw)
    go_simp
    (try with_reducible rfl)
  (try simp only [Act.put, List.setIfInBounds_toArray, List.set_cons_zero, List.set_cons_succ])
  refine wpAnyH_take (i := 2) (oi := ⟨_, _, _, _, _, _⟩) (v := ?_) rfl (by kernel_rfl) (by kernel_rfl) (by kernel_rfl) (fun _ _ _ h => h) (Or.inl ⟨by rfl, ?_⟩) (by assumption) ?_
  rotate_left
  · intro w hSw
    (try dsimp only at hSw)
    go_simp
    (try with_reducible rfl)
  (try simp only [Act.put, List.setIfInBounds_toArray, List.set_cons_zero, List.set_cons_succ])
  refine wpAnyH_take (i := 3) (oi := ⟨_, _, _, _, _, _⟩) (v := ?_) rfl (by kernel_rfl) (by kernel_rfl) (by kernel_rfl) (fun _ _ _ h => h) (Or.inl ⟨by rfl, ?_⟩) (by assumption) ?_
  rotate_left
  · intro w hSw
    (try dsimp only at hSw)
    go_simp
    (try with_reducible rfl)
  (try simp only [Act.put, List.setIfInBounds_toArray, List.set_cons_zero, List.set_cons_succ])
  refine wpAnyH_take (i := 5) (oi := ⟨_, _, _, _, _, _⟩) (v := ?_) rfl (by kernel_rfl) (by kernel_rfl) (by kernel_rfl) (fun _ _ _ h => h) (Or.inl ⟨by rfl, ?_⟩) (by assumption) ?_
  rotate_left
  · intro w hSw
    (try dsimp only at hSw)
    go_simp
    (try with_reducible rfl)
  (try simp only [Act.put, List.setIfInBounds_toArray, List.set_cons_zero, List.set_cons_succ])
  refine wpAnyH_take (i := 6) (oi := ⟨_, _, _, _, _, _⟩) (v := ?_) rfl (by kernel_rfl) (by kernel_rfl) (by kernel_rfl) (fun _ _ _ h => h) (Or.inl ⟨by rfl, ?_⟩) (by assumption) ?_
  rotate_left
  · intro w hSw
    (try dsimp only at hSw)
    go_simp
    (try with_reducible rfl)
  (try simp only [Act.put, List.setIfInBounds_toArray, List.set_cons_zero, List.set_cons_succ])
  refine wpAnyH_take (i := 7) (oi := ⟨_, _, _, _, _, _⟩) (v := ?_) rfl (by kernel_rfl) (by kernel_rfl) (by kernel_rfl) (fun _ _ _ h => h) (Or.inl ⟨by rfl, ?_⟩) (by assumption) ?_
  rotate_left
  · intro w hSw
    (try dsimp only at hSw)
    go_simp
    (try with_reducible rfl)
  (try simp only [Act.put, List.setIfInBounds_toArray, List.set_cons_zero, List.set_cons_succ])
  refine wpAnyH_take (i := 8) (oi := ⟨_, _, _, _, _, _⟩) (v := ?_) rfl (by kernel_rfl) (by kernel_rfl) (by kernel_rfl) (fun _ _ _ h => h) (Or.inl ⟨by rfl, ?_⟩) (by assumption) ?_
  rotate_left
  · intro w hSw
    (try dsimp only at hSw)
    go_simp
    (try with_reducible rfl)
  (try simp only [Act.put, List.setIfInBounds_toArray, List.set_cons_zero, List.set_cons_succ])
  refine wpAnyH_ready (rs := [4]) (by kernel_rfl) (by simp) ?_
  refine AllReadyH.cons (o := ⟨_, _, _, _, _, _⟩) rfl (fun K hK => ?_) AllReadyH.nil
  go_simp
  (go_at_call 68; refine (spotOf_any W H A n c _ _ HW.out HMIN.out).mono ?_; rintro e wx ⟨rfl, hb⟩; (repeat (first | replace hb := below_undrew hb | replace hb := below_undrewN hb)); replace z0 := ((bcell hb).2 _ 0 tl).trans z0; replace t0 := cell_keep t0 tl hb; replace z1 := ((bcell hb).2 _ 1 tl).trans z1; replace t1 := cell_keep t1 tl hb; replace z2 := ((bcell hb).2 _ 2 tl).trans z2; replace t2 := cell_keep t2 tl hb; replace z3 := ((bcell hb).2 _ 3 tl).trans z3; replace t3 := cell_keep t3 tl hb; replace tl := lt_keep tl hb; replace a0 := cell_keep a0 al hb; replace a1 := cell_keep a1 al hb; replace a2 := cell_keep a2 al hb; replace al := lt_keep al hb; replace B := Lib.hid (below_next B.out hb); clear hb)
  (try go_wp2_with fail)
  refine hK.out _ _ ?_ (fun hHeld => ?_)
  · (try dsimp only)
    exact ⟨a0, a1, a2⟩
  clear hK K
  (try simp only [Act.put, List.setIfInBounds_toArray, List.set_cons_zero, List.set_cons_succ])
  refine wpAnyH_ready (rs := [9]) (by kernel_rfl) (by simp) ?_
  refine AllReadyH.cons (o := ⟨_, _, _, _, _, _⟩) rfl (fun K hK => ?_) AllReadyH.nil
  go_simp
  (go_at_call 68; refine (spotOf_any W H A n c _ _ HW.out HMAX.out).mono ?_; rintro e wx ⟨rfl, hb⟩; (repeat (first | replace hb := below_undrew hb | replace hb := below_undrewN hb)); replace z0 := ((bcell hb).2 _ 0 tl).trans z0; replace t0 := cell_keep t0 tl hb; replace z1 := ((bcell hb).2 _ 1 tl).trans z1; replace t1 := cell_keep t1 tl hb; replace z2 := ((bcell hb).2 _ 2 tl).trans z2; replace t2 := cell_keep t2 tl hb; replace z3 := ((bcell hb).2 _ 3 tl).trans z3; replace t3 := cell_keep t3 tl hb; replace tl := lt_keep tl hb; replace a0 := cell_keep a0 al hb; replace a1 := cell_keep a1 al hb; replace a2 := cell_keep a2 al hb; replace al := lt_keep al hb; replace B := Lib.hid (below_next B.out hb); clear hb)
  (try go_wp2_with fail)
  refine hK.out _ _ ?_ (fun hHeld => ?_)
  · (try dsimp only)
    exact ⟨a0, a1, a2⟩
  clear hK K
  (try simp only [Act.put, List.setIfInBounds_toArray, List.set_cons_zero, List.set_cons_succ])
  refine wpAnyH_take (i := 10) (oi := ⟨_, _, _, _, _, _⟩) (v := ?_) rfl (by kernel_rfl) (by kernel_rfl) (by kernel_rfl) (fun _ _ _ h => h) (Or.inl ⟨by rfl, ?_⟩) (by assumption) ?_
  rotate_left
  · intro w hSw
    (try dsimp only at hSw)
    go_simp
    (try with_reducible rfl)
  (try simp only [Act.put, List.setIfInBounds_toArray, List.set_cons_zero, List.set_cons_succ])
  refine wpAnyH_ready (rs := [11]) (by kernel_rfl) (by simp) ?_
  refine AllReadyH.cons (o := ⟨_, _, _, _, _, _⟩) rfl (fun K hK => ?_) AllReadyH.nil
  go_simp
  skip
  (try go_wp2_with fail)
  refine hK.out _ _ ?_ (fun hHeld => ?_)
  · (try dsimp only)
    exact ⟨by go_simp, by go_simp, by go_simp⟩
  clear hK K
  (try simp only [Act.put, List.setIfInBounds_toArray, List.set_cons_zero, List.set_cons_succ])
  refine wpAnyH_done (by kernel_rfl) ?_ _
  go_wp2
  exact bodyPost_ret (v := lnv (min p q % W) (min p q / W) (max p q % W) (max p q / W)) (by simp [results, Tryz.results38, go_sem, t0, t1, t2, t3]) rfl ⟨rfl, (by repeat (first | exact B.out | refine below_drewN ?_ _ | refine Below.drew ?_ | refine Below.setCell ?_ (by simp) _))⟩

theorem step_appK {α : Type} {enc : α → List Value} {k : Nat} {P : Program} {w : World} {ops : Array Oper} {o : Oper} {a : Act} {K : Act → World → Prop} {Q : Exit → Act → World → Prop} {E0 : Prop} (hgd : o.guard = none) (s x : Operand) (T E : TypeId)
    (ho : o.op = .call { callee := .builtin .append, args := #[s, x], argTypes := #[T, T] }) (i0 : TypeInfo) (z : Value) (bytes : Nat)
    (hT : P.underlying T = some (.slice E)) (hi : P.info? E = some i0) (hz0 : i0.zero = some z) (hz1 : i0.size = k) (hz2 : i0.bytes = bytes) (hzs : z.cells.size = k) (hk0 : 0 < k) (hby : bytes ≤ 64)
    (hk : ∀ x, (enc x).length = k) (h1 : ∀ x, ∀ u ∈ enc x, u.oneCell' = true)
    (lo : Nat) (A : Option Addr) (n c : Nat) (xs : List α) (ad : Addr) (m cy : Nat) (ys : List α) (hs : a.eval s = .slice A n c) (hown : OwnK enc k E w lo A n c xs) (hx : a.eval x = .slice (some ad) m cy) (hm : ys.length = m)
    (hy : ∀ j u, (ys.flatMap enc)[j]? = some u → w.cell? (ad.add j) = some u) (hn : n + m ≤ 1000000) (hlo : lo ≤ w.heap.size)
    (h : ∀ A' c' w', OwnK enc k E w' lo A' (n + m) c' (xs ++ ys) → Below lo w w' → K (a.put o.dst (.slice A' (n + m) c')) w') :
    if Region.wanted o (yielded ops a.tmps) = true then Oper.wp P o a w K Q else E0 := by
  have hw : Region.wanted o (yielded ops a.tmps) = true := by simp [Region.wanted, hgd]
  rw [if_pos hw]
  refine wp_append_own w s x T ho lo E i0 z k bytes hT hi hz0 hz1 hz2 hzs hk0 (.slice A n c) n (xs.flatMap enc) hs hown.2 ad m cy (ys.flatMap enc) hx (by rw [flat_len hk, hm]) hy ?_ (by unfold maxLen; omega) ?_ hlo ?_
  · intro u hu
    obtain ⟨y, _, hu⟩ := List.mem_flatMap.1 hu
    exact h1 y u hu
  · have := Nat.mul_le_mul hn hby; omega
  · intro v' w' hown' hgrow _
    rw [← List.flatMap_append] at hown'
    obtain ⟨A', c', rfl, hO⟩ := OwnK.of_row (by rw [List.length_append, hown.1, hm]) hown'
    exact h A' c' w' hO ((Below.refl _ _).grown hgrow hlo (fun k hk => (World.ownsRow.lt hown.2 k hk).1))
abbrev OwnN (w : World) (lo : Nat) (A : Option Addr) (n c : Nat) (xs : List Ln) : Prop := OwnK encN 4 68 w lo A n c xs

end Go.Proofs.YtbpgkigoboobeaaGreat
