/-
  Contracts: StepsOfWalk, in the model.
-/
import Derived.Test.YtphjkmikleldcaaY2
import Derived.Test.YtphjkmikleldcaaV1
namespace Go.Proofs.Ytphjkmikleldcaa
open Go.RowKit

theorem ownBlock_eq (A : Option Addr) (n c g : Nat) (h : (Value.slice A n c).ownBlock = some g) : ∃ a, A = some a ∧ a.block = g := by
  cases A with
  | none => simp [Value.ownBlock] at h
  | some a => exact ⟨a, rfl, by simpa [Value.ownBlock] using h⟩
/-- append of one int, telling which block was written. -/
theorem wpList_app1G {P : Program} {w : World} {ops : Array Oper} {rest : List Oper} {o : Oper} {a : Act} {Q : Exit → Act → World → Prop} (hgd : o.guard = none) (s x : Operand) (T E : TypeId)
    (ho : o.op = .call { callee := .builtin .append, args := #[s, x], argTypes := #[T, T] }) (i0 : TypeInfo)
    (hT : P.underlying T = some (.slice E)) (hi : P.info? E = some i0) (hz0 : i0.zero = some (.int .i64 0)) (hz1 : i0.size = 1) (hz2 : i0.bytes = 8)
    (lo : Nat) (A : Option Addr) (n c : Nat) (xs : List Int) (q : Int) (hs : a.eval s = .slice A n c) (hown : OwnI E w lo A n c xs) (hx : a.eval x = .slice (some ⟨w.heap.size, 0, none⟩) 1 1)
    (hn : n ≤ 1000000) (hlo : lo ≤ w.heap.size)
    (h : ∀ A' c' w', OwnI E w' lo A' (n + 1) c' (xs ++ [q]) → Below lo w w' → (w.alloc (.cells #[.int .i64 q] E)).grownBy w' (Value.slice A n c).ownBlock → wpList P ops Q rest (a.put o.dst (.slice A' (n + 1) c')) w') :
    wpList P ops Q (o :: rest) a (w.alloc (.cells #[.int .i64 q] E)) := by
  refine wpList_append_own (w.alloc (.cells #[.int .i64 q] E)) hgd s x T ho lo E i0 (.int .i64 0) 1 8 hT hi hz0 hz1 hz2 rfl (by decide) (.slice A n c) n (xs.map (Value.int .i64)) hs (World.ownsRow.alloc hown _)
    ⟨w.heap.size, 0, none⟩ 1 1 [.int .i64 q] hx rfl ?_ ?_ (by unfold maxLen; omega) (by omega) (by simp; omega) ?_
  · intro j u hj
    match j, hj with
    | 0, hj =>
      simp at hj; subst hj
      exact cell_of_row (w.alloc (.cells #[.int .i64 q] E)) w.heap.size 0 #[.int .i64 q] E (0, 0) (heap_alloc_new w _)
  · intro u hu; simp at hu; subst hu; rfl
  · intro v' w' hown' hgrow _
    have e : xs.map (Value.int .i64) ++ [.int .i64 q] = (xs ++ [q]).map (Value.int .i64) := by simp
    rw [e] at hown'
    obtain ⟨A', c', rfl, hO⟩ := own_form hown'
    refine h A' c' w' hO ?_ hgrow
    have hb : Below lo w (w.alloc (.cells #[.int .i64 q] E)) := (Below.refl _ _).alloc hlo _
    refine hb.grown hgrow (by simp; omega) (fun k hk => ?_)
    exact (World.ownsRow.lt hown k hk).1
def atB (i j : Nat) : List Int := if i < j then [(i : Int)] else []
theorem atB_yes (i : Nat) : atB i i = [] ∧ atB i (i + 1) = [(i : Int)] := by simp [atB]
theorem atB_no {i j : Nat} (h : i ≠ j) : atB i (j + 1) = atB i j := by
  unfold atB
  by_cases h1 : i < j
  · rw [if_pos h1, if_pos (by omega)]
  · rw [if_neg h1, if_neg (by omega)]

set_option maxRecDepth 100000 in
set_option maxHeartbeats 4000000 in
theorem spec_StepsOfWalk (W H : Int) (A : Option Addr) (n c : Nat) (xs : List Int) (a b : Int) (A2 : Option Addr) (m c2 : Nat) (ps : List Int) (w : World) (ha : Rd w A n xs) (hp : Rd w A2 m ps) (hcap : m ≤ c2) :
    Calls Try.prog 49 #[brd W H A n c, lpr a b, .slice A2 m c2] w fun e w' => ∃ A' n' c', e = .returned (.tuple #[.slice A' n' c', .bool (okWk W H xs a b ps)]) ∧ OwnI 3 w' w.heap.size A' n' c' (wstepsV W H xs a b ps) ∧ Below w.heap.size w w' := by
  have HPL := Lib.hid hp.1
  have m9 := hp.2.1
  obtain ⟨W2, hW2⟩ : ∃ W2, W2 = (w.alloc (.cells #[.int .i64 W, .int .i64 H, .slice A n c] 30)).alloc (.cells #[.int .i64 a, .int .i64 b] 32) := ⟨_, rfl⟩
  have a0 : W2.cell? ⟨w.heap.size, 0, none⟩ = some (.int .i64 W) := by rw [hW2]; go_simp
  have a1 : W2.cell? ⟨w.heap.size, 1, none⟩ = some (.int .i64 H) := by rw [hW2]; go_simp
  have a2 : W2.cell? ⟨w.heap.size, 2, none⟩ = some (.slice A n c) := by rw [hW2]; go_simp
  have l0 : W2.cell? ⟨w.heap.size + 1, 0, none⟩ = some (.int .i64 a) := by rw [hW2]; go_simp
  have l1 : W2.cell? ⟨w.heap.size + 1, 1, none⟩ = some (.int .i64 b) := by rw [hW2]; go_simp
  have hsz : W2.heap.size = w.heap.size + 2 := by rw [hW2]; simp
  have al : w.heap.size < W2.heap.size := by omega
  have ll : w.heap.size + 1 < W2.heap.size := by omega
  have B := Lib.hid (show Below w.heap.size w W2 by rw [hW2]; exact ((Below.refl _ _).alloc (Nat.le_refl _) _).alloc (by simp) _)
  have R := Lib.hid (ha.keep B.out); have RP := Lib.hid (hp.keep B.out)
  clear ha hp hsz
  cases hq : okWk W H xs a b ps with
  | true =>
    have HQ := Lib.hid hq
    clear hq
    go_enter Try.func49, Try.ntmps49
    go_wp2_with fail
    rw [← hW2]
    clear hW2
    refine (blWalk_any W H A n c xs a b A2 m c2 ps _ R.out RP.out hcap).mono ?_
    rw [HQ.out]
    rintro e wv ⟨rfl, hb⟩
    replace a0 := cell_keep a0 al hb; replace a1 := cell_keep a1 al hb; replace a2 := cell_keep a2 al hb; replace al := lt_keep al hb
    replace l0 := cell_keep l0 ll hb; replace l1 := cell_keep l1 ll hb; replace ll := lt_keep ll hb
    replace R := Lib.hid (R.out.keep hb); replace RP := Lib.hid (RP.out.keep hb)
    replace B := Lib.hid (below_next B.out hb)
    clear hb
    have hml := ok_len HQ.out
    rw [HPL.out] at hml
    obtain ⟨hm1, hm2⟩ := hml
    have HLP := Lib.hid (ok_leaper HQ.out)
    obtain ⟨i0, hi, hz0, hz1, hz2⟩ := info_parts infoI
    have HI := Lib.hid hi; have HZ0 := Lib.hid hz0; have HZ1 := Lib.hid hz1; have HZ2 := Lib.hid hz2
    have AL := Lib.hid al; have LL := Lib.hid ll
    have HA := Lib.hid (⟨a0, l0, l1⟩ : wv.cell? ⟨w.heap.size, 0, none⟩ = some (.int .i64 W) ∧ wv.cell? ⟨w.heap.size + 1, 0, none⟩ = some (.int .i64 a) ∧ wv.cell? ⟨w.heap.size + 1, 1, none⟩ = some (.int .i64 b))
    have hWW := ok_W HQ.out; have hHH := okH HQ.out
    have HWW := Lib.hid hWW; have HHH := Lib.hid hHH
    have HIN := Lib.hid (okIn HQ.out)
    have HNN := Lib.hid (cells_le hWW hHH)
    have hW1 := hWW.1
    clear hi hz0 hz1 hz2 a0 a1 a2 l0 l1 ll al R hWW hHH
    go_wp2
    go_loopw [8, 9] (fun v i wr => ∃ (k n' c' : Nat) (A' : Option Addr), k + 1 ≤ m ∧ i = .int .i64 ((k : Int) + 1) ∧ v = .slice A' n' c' ∧ OwnI 3 wr wv.heap.size A' n' c' (stepIs W a b ps k) ∧ Below wv.heap.size wv wr) (fun _ i _ => m - (intOf i).toNat)
    case atStart => exact ⟨0, 0, 0, none, hm1, rfl, rfl, (by rw [show stepIs W a b ps 0 = [] from rfl]; exact OwnI.none_ _ _ _), Below.refl _ _⟩
    case round =>
      obtain ⟨k, n', c', A', hk, rfl, rfl, hown, hbw⟩ := hrel
      have HNK := Lib.hid (show n' = k by have := hown.len; rw [stepIs_len] at this; omega)
      by_cases hlt : k + 1 < m
      · obtain ⟨bb, oo, x, rfl, hg1, hx, x0⟩ := RP.out.at_ (k := k) (by omega)
        obtain ⟨b4, o4, y, he4, hg4, hy, y0⟩ := RP.out.at_ (k := k + 1) (by omega)
        injection he4 with he4
        injection he4 with e1 e2 _
        subst e1 e2
        replace x0 := cell_keep x0 hg1 hbw
        replace y0 := cell_keep y0 hg1 hbw
        have a0 := cell_keep HA.out.1 AL.out hbw; have l0 := cell_keep HA.out.2.1 LL.out hbw; have l1 := cell_keep HA.out.2.2 LL.out hbw
        have hxr := HIN.out x (List.mem_of_getElem? hx)
        have hyr := HIN.out y (List.mem_of_getElem? hy)
        have hNN := HNN.out
        have hst := ok_step HQ.out hx hy
        have hsi := stepI_at (W := W) (a := a) (b := b) hx hy
        have hx0 : 0 ≤ x := hxr.1
        have hy0 : 0 ≤ y := hyr.1
        have hc1 := colIn (x := x) HWW.out; have hc2 := colIn (x := y) HWW.out; have hr1 := rowIn HWW.out hxr; have hr2 := rowIn HWW.out hyr
        have hW8 := HWW.out.2; have hH8 := HHH.out.2
        have hwA : IntKind.i64.wrap (y % W - x % W) = y % W - x % W := IntWalk.i64_in _ (by omega)
        have hwB : IntKind.i64.wrap (y / W - x / W) = y / W - x / W := IntWalk.i64_in _ (by omega)
        have hWne : ¬ W = 0 := by omega
        have htm1 : y.tmod W = y % W := Int.tmod_eq_emod_of_nonneg hy0
        have htm2 : x.tmod W = x % W := Int.tmod_eq_emod_of_nonneg hx0
        have htd1 : y.tdiv W = y / W := Int.tdiv_eq_ediv_of_nonneg hy0
        have htd2 : x.tdiv W = x / W := Int.tdiv_eq_ediv_of_nonneg hx0
        have hwC : IntKind.i64.wrap (y / W) = y / W := IntWalk.i64_in _ (by omega)
        have hwD : IntKind.i64.wrap (x / W) = x / W := IntWalk.i64_in _ (by omega)
        have hk0 : (0 : Int) ≤ (k : Int) := by omega
        have hkm : (k : Int) < (m : Int) := by omega
        have hkm2 : k < m := by omega
        have hk1 : (0 : Int) ≤ (k : Int) + 1 := by omega
        have hk2 : (k : Int) + 1 < (m : Int) := by omega
        have htn : ((k : Int) + 1).toNat = k + 1 := by omega
        have hwk : IntKind.i64.wrap ((k : Int) + 1 - 1) = (k : Int) := by rw [show ((k : Int) + 1 - 1) = (k : Int) by omega]; exact IntWalk.i64_in _ (by omega)
        have hwk2 : IntKind.i64.wrap (k : Int) = (k : Int) := IntWalk.i64_in _ (by omega)
        have hwk3 : IntKind.i64.wrap ((k : Int) + 1 + 1) = (k : Int) + 1 + 1 := IntWalk.i64_in _ (by omega)
        obtain ⟨D1, hD1⟩ : ∃ D, D = y % W - x % W := ⟨_, rfl⟩
        obtain ⟨D2, hD2⟩ : ∃ D, D = y / W - x / W := ⟨_, rfl⟩
        have HST := Lib.hid (show (D1, D2) ∈ stepsL a b by rw [hD1, hD2]; exact hst)
        have HSI := Lib.hid (show stepI W a b ps k = ((stepsL a b).idxOf (D1, D2) : Int) by rw [hsi, hD1, hD2]; rfl)
        have HD1 := Lib.hid hD1; have HD2 := Lib.hid hD2
        have HO := Lib.hid hown; have HB := Lib.hid hbw
        have hsw := hbw.size
        have gl := lt_keep LL.out hbw
        have HS := Lib.hid (boSteps_any a b · HLP.out)
        clear hx hy hxr hyr hNN hst hsi hc1 hc2 hr1 hr2 hW8 hH8 hown hbw hg1 hg4 hD1 hD2
        go_wp2_with fail
        refine wp_region_held_drew (S := fun w' => w'.cell? ⟨w.heap.size, 0, none⟩ = some (.int .i64 W) ∧ w'.cell? ⟨bb, oo + k, none⟩ = some (.int .i64 x) ∧ w'.cell? ⟨bb, oo + (k + 1), none⟩ = some (.int .i64 y)) (by kernel_rfl) ?_ (fun hHeld => ?_)
        · (try dsimp only)
          exact ⟨a0, x0, y0⟩
        refine wpAnyH_take (i := 0) (oi := ⟨_, _, _, _, _, _⟩) (v := ?_) rfl (by kernel_rfl) (by kernel_rfl) (by kernel_rfl) (fun _ _ _ h => h) (Or.inl ⟨by rfl, ?_⟩) (by assumption) ?_
        rotate_left
        · intro w hSw
          (try dsimp only at hSw)
          go_simp
          (try with_reducible rfl)
        (try simp only [Act.put, List.setIfInBounds_toArray, List.set_cons_zero, List.set_cons_succ])
        refine wpAnyH_take (i := 1) (oi := ⟨_, _, _, _, _, _⟩) (v := ?_) rfl (by kernel_rfl) (by kernel_rfl) (by kernel_rfl) (fun _ _ _ h => h) (Or.inl ⟨by rfl, ?_⟩) (by assumption) ?_
        rotate_left
        · intro w hSw
          (try dsimp only at hSw)
          go_simp
          (try with_reducible rfl)
        (try simp only [Act.put, List.setIfInBounds_toArray, List.set_cons_zero, List.set_cons_succ])
        refine wpAnyH_take (i := 2) (oi := ⟨_, _, _, _, _, _⟩) (v := ?_) rfl (by kernel_rfl) (by kernel_rfl) (by kernel_rfl) (fun _ _ _ h => h) (Or.inl ⟨by rfl, ?_⟩) (by assumption) ?_
        rotate_left
        · intro w hSw
          (try dsimp only at hSw)
          go_simp
          (try with_reducible rfl)
        (try simp only [Act.put, List.setIfInBounds_toArray, List.set_cons_zero, List.set_cons_succ])
        refine wpAnyH_take (i := 3) (oi := ⟨_, _, _, _, _, _⟩) (v := ?_) rfl (by kernel_rfl) (by kernel_rfl) (by kernel_rfl) (fun _ _ _ h => h) (Or.inl ⟨by rfl, ?_⟩) (by assumption) ?_
        rotate_left
        · intro w hSw
          (try dsimp only at hSw)
          go_simp
          (try with_reducible rfl)
        (try simp only [Act.put, List.setIfInBounds_toArray, List.set_cons_zero, List.set_cons_succ])
        refine wpAnyH_take (i := 4) (oi := ⟨_, _, _, _, _, _⟩) (v := ?_) rfl (by kernel_rfl) (by kernel_rfl) (by kernel_rfl) (fun _ _ _ h => h) (Or.inl ⟨by rfl, ?_⟩) (by assumption) ?_
        rotate_left
        · intro w hSw
          (try dsimp only at hSw)
          go_simp
          (try with_reducible rfl)
        (try simp only [Act.put, List.setIfInBounds_toArray, List.set_cons_zero, List.set_cons_succ])
        refine wpAnyH_take (i := 5) (oi := ⟨_, _, _, _, _, _⟩) (v := ?_) rfl (by kernel_rfl) (by kernel_rfl) (by kernel_rfl) (fun _ _ _ h => h) (Or.inl ⟨by rfl, ?_⟩) (by assumption) ?_
        rotate_left
        · intro w hSw
          (try dsimp only at hSw)
          go_simp
          (try with_reducible rfl)
        (try simp only [Act.put, List.setIfInBounds_toArray, List.set_cons_zero, List.set_cons_succ])
        refine wpAnyH_take (i := 6) (oi := ⟨_, _, _, _, _, _⟩) (v := ?_) rfl (by kernel_rfl) (by kernel_rfl) (by kernel_rfl) (fun _ _ _ h => h) (Or.inl ⟨by rfl, ?_⟩) (by assumption) ?_
        rotate_left
        · intro w hSw
          (try dsimp only at hSw)
          go_simp
          (try with_reducible rfl)
        (try simp only [Act.put, List.setIfInBounds_toArray, List.set_cons_zero, List.set_cons_succ])
        refine wpAnyH_take (i := 7) (oi := ⟨_, _, _, _, _, _⟩) (v := ?_) rfl (by kernel_rfl) (by kernel_rfl) (by kernel_rfl) (fun _ _ _ h => h) (Or.inl ⟨by rfl, ?_⟩) (by assumption) ?_
        rotate_left
        · intro w hSw
          (try dsimp only at hSw)
          go_simp
          (try with_reducible rfl)
        (try simp only [Act.put, List.setIfInBounds_toArray, List.set_cons_zero, List.set_cons_succ])
        refine wpAnyH_take (i := 8) (oi := ⟨_, _, _, _, _, _⟩) (v := ?_) rfl (by kernel_rfl) (by kernel_rfl) (by kernel_rfl) (fun _ _ _ h => h) (Or.inl ⟨by rfl, ?_⟩) (by assumption) ?_
        rotate_left
        · intro w hSw
          (try dsimp only at hSw)
          go_simp
          (try with_reducible rfl)
        (try simp only [Act.put, List.setIfInBounds_toArray, List.set_cons_zero, List.set_cons_succ])
        refine wpAnyH_take (i := 9) (oi := ⟨_, _, _, _, _, _⟩) (v := ?_) rfl (by kernel_rfl) (by kernel_rfl) (by kernel_rfl) (fun _ _ _ h => h) (Or.inl ⟨by rfl, ?_⟩) (by assumption) ?_
        rotate_left
        · intro w hSw
          (try dsimp only at hSw)
          go_simp
          (try with_reducible rfl)
        (try simp only [Act.put, List.setIfInBounds_toArray, List.set_cons_zero, List.set_cons_succ])
        refine wpAnyH_take (i := 10) (oi := ⟨_, _, _, _, _, _⟩) (v := ?_) rfl (by kernel_rfl) (by kernel_rfl) (by kernel_rfl) (fun _ _ _ h => h) (Or.inl ⟨by rfl, ?_⟩) (by assumption) ?_
        rotate_left
        · intro w hSw
          (try dsimp only at hSw)
          go_simp
          (try with_reducible rfl)
        (try simp only [Act.put, List.setIfInBounds_toArray, List.set_cons_zero, List.set_cons_succ])
        refine wpAnyH_take (i := 11) (oi := ⟨_, _, _, _, _, _⟩) (v := ?_) rfl (by kernel_rfl) (by kernel_rfl) (by kernel_rfl) (fun _ _ _ h => h) (Or.inl ⟨by rfl, ?_⟩) (by assumption) ?_
        rotate_left
        · intro w hSw
          (try dsimp only at hSw)
          go_simp
          (try with_reducible rfl)
        (try simp only [Act.put, List.setIfInBounds_toArray, List.set_cons_zero, List.set_cons_succ])
        refine wpAnyH_take (i := 12) (oi := ⟨_, _, _, _, _, _⟩) (v := ?_) rfl (by kernel_rfl) (by kernel_rfl) (by kernel_rfl) (fun _ _ _ h => h) (Or.inl ⟨by rfl, ?_⟩) (by assumption) ?_
        rotate_left
        · intro w hSw
          (try dsimp only at hSw)
          go_simp
          (try with_reducible rfl)
        (try simp only [Act.put, List.setIfInBounds_toArray, List.set_cons_zero, List.set_cons_succ])
        refine wpAnyH_take (i := 13) (oi := ⟨_, _, _, _, _, _⟩) (v := ?_) rfl (by kernel_rfl) (by kernel_rfl) (by kernel_rfl) (fun _ _ _ h => h) (Or.inl ⟨by rfl, ?_⟩) (by assumption) ?_
        rotate_left
        · intro w hSw
          (try dsimp only at hSw)
          go_simp
          (try with_reducible rfl)
        (try simp only [Act.put, List.setIfInBounds_toArray, List.set_cons_zero, List.set_cons_succ])
        refine wpAnyH_take (i := 14) (oi := ⟨_, _, _, _, _, _⟩) (v := ?_) rfl (by kernel_rfl) (by kernel_rfl) (by kernel_rfl) (fun _ _ _ h => h) (Or.inl ⟨by rfl, ?_⟩) (by assumption) ?_
        rotate_left
        · intro w hSw
          (try dsimp only at hSw)
          go_simp
          (try with_reducible rfl)
        (try simp only [Act.put, List.setIfInBounds_toArray, List.set_cons_zero, List.set_cons_succ])
        refine wpAnyH_take (i := 15) (oi := ⟨_, _, _, _, _, _⟩) (v := ?_) rfl (by kernel_rfl) (by kernel_rfl) (by kernel_rfl) (fun _ _ _ h => h) (Or.inl ⟨by rfl, ?_⟩) (by assumption) ?_
        rotate_left
        · intro w hSw
          (try dsimp only at hSw)
          go_simp
          (try with_reducible rfl)
        (try simp only [Act.put, List.setIfInBounds_toArray, List.set_cons_zero, List.set_cons_succ])
        refine wpAnyH_take (i := 16) (oi := ⟨_, _, _, _, _, _⟩) (v := ?_) rfl (by kernel_rfl) (by kernel_rfl) (by kernel_rfl) (fun _ _ _ h => h) (Or.inl ⟨by rfl, ?_⟩) (by assumption) ?_
        rotate_left
        · intro w hSw
          (try dsimp only at hSw)
          go_simp
          (try with_reducible rfl)
        (try simp only [Act.put, List.setIfInBounds_toArray, List.set_cons_zero, List.set_cons_succ])
        refine wpAnyH_take (i := 17) (oi := ⟨_, _, _, _, _, _⟩) (v := ?_) rfl (by kernel_rfl) (by kernel_rfl) (by kernel_rfl) (fun _ _ _ h => h) (Or.inl ⟨by rfl, ?_⟩) (by assumption) ?_
        rotate_left
        · intro w hSw
          (try dsimp only at hSw)
          go_simp
          (try with_reducible rfl)
        (try simp only [Act.put, List.setIfInBounds_toArray, List.set_cons_zero, List.set_cons_succ])
        refine wpAnyH_take (i := 18) (oi := ⟨_, _, _, _, _, _⟩) (v := ?_) rfl (by kernel_rfl) (by kernel_rfl) (by kernel_rfl) (fun _ _ _ h => h) (Or.inl ⟨by rfl, ?_⟩) (by assumption) ?_
        rotate_left
        · intro w hSw
          (try dsimp only at hSw)
          go_simp
          (try with_reducible rfl)
        (try simp only [Act.put, List.setIfInBounds_toArray, List.set_cons_zero, List.set_cons_succ])
        refine wpAnyH_take (i := 19) (oi := ⟨_, _, _, _, _, _⟩) (v := ?_) rfl (by kernel_rfl) (by kernel_rfl) (by kernel_rfl) (fun _ _ _ h => h) (Or.inl ⟨by rfl, ?_⟩) (by assumption) ?_
        rotate_left
        · intro w hSw
          (try dsimp only at hSw)
          go_simp
          (try with_reducible rfl)
        (try simp only [Act.put, List.setIfInBounds_toArray, List.set_cons_zero, List.set_cons_succ])
        refine wpAnyH_take (i := 20) (oi := ⟨_, _, _, _, _, _⟩) (v := ?_) rfl (by kernel_rfl) (by kernel_rfl) (by kernel_rfl) (fun _ _ _ h => h) (Or.inl ⟨by rfl, ?_⟩) (by assumption) ?_
        rotate_left
        · intro w hSw
          (try dsimp only at hSw)
          go_simp
          (try with_reducible rfl)
        (try simp only [Act.put, List.setIfInBounds_toArray, List.set_cons_zero, List.set_cons_succ])
        refine wpAnyH_take (i := 21) (oi := ⟨_, _, _, _, _, _⟩) (v := ?_) rfl (by kernel_rfl) (by kernel_rfl) (by kernel_rfl) (fun _ _ _ h => h) (Or.inl ⟨by rfl, ?_⟩) (by assumption) ?_
        rotate_left
        · intro w hSw
          (try dsimp only at hSw)
          go_simp
          (try with_reducible rfl)
        (try simp only [Act.put, List.setIfInBounds_toArray, List.set_cons_zero, List.set_cons_succ])
        refine wpAnyH_take (i := 22) (oi := ⟨_, _, _, _, _, _⟩) (v := ?_) rfl (by kernel_rfl) (by kernel_rfl) (by kernel_rfl) (fun _ _ _ h => h) (Or.inl ⟨by rfl, ?_⟩) (by assumption) ?_
        rotate_left
        · intro w hSw
          (try dsimp only at hSw)
          go_simp
          (try with_reducible rfl)
        (try simp only [Act.put, List.setIfInBounds_toArray, List.set_cons_zero, List.set_cons_succ])
        refine wpAnyH_take (i := 23) (oi := ⟨_, _, _, _, _, _⟩) (v := ?_) rfl (by kernel_rfl) (by kernel_rfl) (by kernel_rfl) (fun _ _ _ h => h) (Or.inl ⟨by rfl, ?_⟩) (by assumption) ?_
        rotate_left
        · intro w hSw
          (try dsimp only at hSw)
          go_simp
          (try with_reducible rfl)
        (try simp only [Act.put, List.setIfInBounds_toArray, List.set_cons_zero, List.set_cons_succ])
        refine wpAnyH_take (i := 24) (oi := ⟨_, _, _, _, _, _⟩) (v := ?_) rfl (by kernel_rfl) (by kernel_rfl) (by kernel_rfl) (fun _ _ _ h => h) (Or.inl ⟨by rfl, ?_⟩) (by assumption) ?_
        rotate_left
        · intro w hSw
          (try dsimp only at hSw)
          go_simp
          (try with_reducible rfl)
        (try simp only [Act.put, List.setIfInBounds_toArray, List.set_cons_zero, List.set_cons_succ])
        refine wpAnyH_take (i := 25) (oi := ⟨_, _, _, _, _, _⟩) (v := ?_) rfl (by kernel_rfl) (by kernel_rfl) (by kernel_rfl) (fun _ _ _ h => h) (Or.inl ⟨by rfl, ?_⟩) (by assumption) ?_
        rotate_left
        · intro w hSw
          (try dsimp only at hSw)
          go_simp
          (try with_reducible rfl)
        (try simp only [Act.put, List.setIfInBounds_toArray, List.set_cons_zero, List.set_cons_succ])
        refine wpAnyH_take (i := 26) (oi := ⟨_, _, _, _, _, _⟩) (v := ?_) rfl (by kernel_rfl) (by kernel_rfl) (by kernel_rfl) (fun _ _ _ h => h) (Or.inl ⟨by rfl, ?_⟩) (by assumption) ?_
        rotate_left
        · intro w hSw
          (try dsimp only at hSw)
          go_simp
          (try with_reducible rfl)
        (try simp only [Act.put, List.setIfInBounds_toArray, List.set_cons_zero, List.set_cons_succ])
        refine wpAnyH_take (i := 27) (oi := ⟨_, _, _, _, _, _⟩) (v := ?_) rfl (by kernel_rfl) (by kernel_rfl) (by kernel_rfl) (fun _ _ _ h => h) (Or.inl ⟨by rfl, ?_⟩) (by assumption) ?_
        rotate_left
        · intro w hSw
          (try dsimp only at hSw)
          go_simp
          (try with_reducible rfl)
        (try simp only [Act.put, List.setIfInBounds_toArray, List.set_cons_zero, List.set_cons_succ])
        refine wpAnyH_take (i := 28) (oi := ⟨_, _, _, _, _, _⟩) (v := ?_) rfl (by kernel_rfl) (by kernel_rfl) (by kernel_rfl) (fun _ _ _ h => h) (Or.inl ⟨by rfl, ?_⟩) (by assumption) ?_
        rotate_left
        · intro w hSw
          (try dsimp only at hSw)
          go_simp
          (try with_reducible rfl)
        (try simp only [Act.put, List.setIfInBounds_toArray, List.set_cons_zero, List.set_cons_succ])
        refine wpAnyH_take (i := 29) (oi := ⟨_, _, _, _, _, _⟩) (v := ?_) rfl (by kernel_rfl) (by kernel_rfl) (by kernel_rfl) (fun _ _ _ h => h) (Or.inl ⟨by rfl, ?_⟩) (by assumption) ?_
        rotate_left
        · intro w hSw
          (try dsimp only at hSw)
          go_simp
          (try with_reducible rfl)
        (try simp only [Act.put, List.setIfInBounds_toArray, List.set_cons_zero, List.set_cons_succ])
        refine wpAnyH_take (i := 30) (oi := ⟨_, _, _, _, _, _⟩) (v := ?_) rfl (by kernel_rfl) (by kernel_rfl) (by kernel_rfl) (fun _ _ _ h => h) (Or.inl ⟨by rfl, ?_⟩) (by assumption) ?_
        rotate_left
        · intro w hSw
          (try dsimp only at hSw)
          go_simp
          (try with_reducible rfl)
        (try simp only [Act.put, List.setIfInBounds_toArray, List.set_cons_zero, List.set_cons_succ])
        refine wpAnyH_take (i := 31) (oi := ⟨_, _, _, _, _, _⟩) (v := ?_) rfl (by kernel_rfl) (by kernel_rfl) (by kernel_rfl) (fun _ _ _ h => h) (Or.inl ⟨by rfl, ?_⟩) (by assumption) ?_
        rotate_left
        · intro w hSw
          (try dsimp only at hSw)
          go_simp
          (try with_reducible rfl)
        (try simp only [Act.put, List.setIfInBounds_toArray, List.set_cons_zero, List.set_cons_succ])
        refine wpAnyH_take (i := 32) (oi := ⟨_, _, _, _, _, _⟩) (v := ?_) rfl (by kernel_rfl) (by kernel_rfl) (by kernel_rfl) (fun _ _ _ h => h) (Or.inl ⟨by rfl, ?_⟩) (by assumption) ?_
        rotate_left
        · intro w hSw
          (try dsimp only at hSw)
          go_simp
          (try with_reducible rfl)
        (try simp only [Act.put, List.setIfInBounds_toArray, List.set_cons_zero, List.set_cons_succ])
        refine wpAnyH_take (i := 33) (oi := ⟨_, _, _, _, _, _⟩) (v := ?_) rfl (by kernel_rfl) (by kernel_rfl) (by kernel_rfl) (fun _ _ _ h => h) (Or.inl ⟨by rfl, ?_⟩) (by assumption) ?_
        rotate_left
        · intro w hSw
          (try dsimp only at hSw)
          go_simp
          (try with_reducible rfl)
        (try simp only [Act.put, List.setIfInBounds_toArray, List.set_cons_zero, List.set_cons_succ])
        refine wpAnyH_done (by kernel_rfl) ?_ _
        rw [← HD1.out, ← HD2.out]
        clear a0 x0 y0 hwA hwB hwk hwk2 hHeld hWne htm1 htm2 htd1 htd2 hwC hwD hx0 hy0
        go_wp2_with fail
        clear l0 l1 gl htn
        refine (HS.out _).mono ?_
        rintro e w3 ⟨A1, n1, c1, top, rfl, hpa, hb⟩
        have HSS := Lib.hid (OwnSS.of hpa)
        have SLN := Lib.hid (show (stepsL a b).length = n1 by have := hpa.len; rw [List.length_map] at this; exact this)
        have n8 : n1 ≤ 8 := by have := SLN.out; have := stepsL_len HLP.out; omega
        have hlo : ∀ x, A' = some x → x.block < wr.heap.size := fun x hx => by
          subst hx
          exact (World.ownsRow.lt HO.out x.block (by simp [Value.ownBlock])).2
        have HLO := Lib.hid hlo
        replace HO := Lib.hid ((HO.out.drewN 1).keep hb)
        have HW3 := Lib.hid (show wr.heap.size ≤ w3.heap.size from hb.size)
        have HB3 := Lib.hid (below_next HB.out (show Below wr.heap.size wr w3 from below_undrew hb))
        obtain ⟨ix, hix⟩ : ∃ i, (stepsL a b).idxOf (D1, D2) = i := ⟨_, rfl⟩
        have HIX := Lib.hid hix
        have HIL := Lib.hid (show ix < n1 by have := List.idxOf_lt_length_of_mem HST.out; have := SLN.out; omega)
        have hlow : wv.heap.size ≤ w3.heap.size := HB3.out.size
        have hk60 : k ≤ 64 := by omega
        clear hpa hb hlo hix hsw HB
        go_wp2
        go_loopw [8, 60] (fun v i wy => ∃ (j n2 c2' : Nat) (A2 : Option Addr), j ≤ n1 ∧ i = .int .i64 j ∧ v = .slice A2 n2 c2' ∧ OwnI 3 wy wv.heap.size A2 n2 c2' (stepIs W a b ps k ++ atB ix j) ∧ OwnSS wy wr.heap.size w3.heap.size A1 n1 c1 ((stepsL a b).map pairL) ∧ (j ≤ ix → ∀ x, A2 = some x → x.block < wr.heap.size) ∧ w3.heap.size ≤ wy.heap.size ∧ Below wv.heap.size wv wy) (fun _ i _ => n1 - (intOf i).toNat)
        case atStart => exact ⟨0, n', c', A', Nat.zero_le _, rfl, rfl, (by rw [show atB ix 0 = [] by simp [atB], List.append_nil]; exact HO.out), HSS.out, fun _ => HLO.out, Nat.le_refl _, HB3.out⟩
        case round =>
          obtain ⟨j, n2, c2', A2, hj, rfl, rfl, hown, hss, hbl, hwy, hbw⟩ := hrel
          have hn2 : n2 ≤ 66 := by have := hown.len; rw [List.length_append, stepIs_len] at this; have h9 : (atB ix j).length ≤ 1 := (by unfold atB; split <;> simp); omega
          have HO2 := Lib.hid hown; have HS2 := Lib.hid hss; have HBL := Lib.hid hbl; have HB2 := Lib.hid hbw
          clear hown hss hbl hbw
          by_cases hlt2 : j < n1
          · obtain ⟨g, V, mm, kk, pp, rfl, hg, hcl, hpp, hrow, hVb, -⟩ := HS2.out.at_ hlt2
            have hkl : j < (stepsL a b).length := by have := SLN.out; omega
            obtain ⟨⟨dx, dy⟩, hx⟩ : ∃ s, (stepsL a b)[j]? = some s := ⟨_, List.getElem?_eq_getElem hkl⟩
            have hpe : pp = [dx, dy] := by rw [List.getElem?_map, hx] at hpp; simp [pairL] at hpp; exact hpp.symm
            subst hpe
            have hmm : mm = 2 := by have := hrow.len; simp at this; omega
            subst hmm
            obtain ⟨gv, rfl, hgv, hgv2⟩ := hrow.some_ (k := 0) (by omega)
            have x0 := hrow.cell (k := 0) (x := dx) rfl
            have x1 := hrow.cell (k := 1) (x := dy) rfl
            have HX := Lib.hid hx
            have hswy := HB2.out.size
            clear hx hpp hrow hVb hkl
            by_cases he : dx = D1 ∧ dy = D2
            · obtain ⟨he1, he2⟩ := he
              have hji : ix = j := by rw [← HIX.out]; exact idx_only (stepsL_nodup HLP.out) (by rw [HX.out, he1, he2])
              subst hji
              have HAT := Lib.hid (atB_yes ix)
              go_wp2_with (at_builtin; refine wpList_app1G rfl (.tmp 77) (.tmp 79) 22 3 rfl i0 Try.underlying22 HI.out HZ0.out HZ1.out HZ2.out wv.heap.size A2 n2 c2' (stepIs W a b ps k ++ atB ix ix) (ix : Int) rfl HO2.out rfl (by omega) hswy ?_; intro A3 c3 w5 hown3 hb5 hgr)
              have O3 := Lib.hid hown3
              have B3 := Lib.hid (HB2.out.trans hb5)
              have S3 := Lib.hid ((HS2.out.keep ((Below.refl _ _).alloc (Nat.le_refl _) _)).other hgr (fun g' h1 h2 he' => by
                obtain ⟨a9, ha9, hab⟩ := ownBlock_eq _ _ _ _ he'.symm
                have := HBL.out (Nat.le_refl _) a9 ha9
                omega))
              have hw5 : w3.heap.size ≤ w5.heap.size := Nat.le_trans hwy (Nat.le_trans (by simp) hgr.size)
              clear hown3 hb5 hgr x0 x1 he1 he2 hcl
              go_wp2
              go_roundw
              case rel => exact ⟨ix + 1, n2 + 1, c3, A3, by omega, by go_num, rfl, (by rw [HAT.out.2]; have h := O3.out; rw [HAT.out.1, List.append_nil] at h; exact h), S3.out, fun h => absurd h (by omega), hw5, B3.out⟩
              case measure => simp [intOf]; omega
            · have HNE := Lib.hid (show ix ≠ j from fun h => by
                have h1 := List.getElem?_eq_getElem (List.idxOf_lt_length_of_mem HST.out)
                rw [List.getElem_idxOf] at h1
                rw [HIX.out, h, HX.out] at h1
                injection h1 with h1
                injection h1 with h1 h2
                exact he ⟨h1, h2⟩)
              have HAT := Lib.hid (atB_no HNE.out)
              by_cases he1 : dx = D1
              · have he2 : ¬ dy = D2 := fun h => he ⟨he1, h⟩
                clear he
                go_wp2
                clear x0 x1 hcl he1 he2
                go_roundw
                case rel => exact ⟨j + 1, n2, c2', A2, by omega, by go_num, rfl, (by rw [HAT.out]; exact HO2.out), HS2.out, fun h => HBL.out (by omega), hwy, HB2.out⟩
                case measure => simp [intOf]; omega
              · clear he
                go_wp2
                clear x0 x1 hcl he1
                go_roundw
                case rel => exact ⟨j + 1, n2, c2', A2, by omega, by go_num, rfl, (by rw [HAT.out]; exact HO2.out), HS2.out, fun h => HBL.out (by omega), hwy, HB2.out⟩
                case measure => simp [intOf]; omega
          · have hjn : j = n1 := by omega
            subst hjn
            have HV := Lib.hid (show stepIs W a b ps k ++ atB ix j = stepIs W a b ps (k + 1) by rw [stepIs_succ, HSI.out, HIX.out, atB, if_pos HIL.out])
            have hn3 : n2 = k + 1 := by have := HO2.out.len; rw [HV.out, stepIs_len] at this; omega
            go_wp2
            go_roundw
            case rel => exact ⟨k + 1, n2, c2', A2, by omega, by go_num, rfl, (by rw [← HV.out]; exact HO2.out), HB2.out⟩
            case measure => simp [intOf]; omega
      · have hkm : ps.length - 1 = k := by have := HPL.out; omega
        have HV := Lib.hid (show wstepsV W H xs a b ps = stepIs W a b ps k by rw [wstepsV, if_pos HQ.out, hkm])
        have HO := Lib.hid (hown.lower B.out.size); have HB := Lib.hid hbw
        have hk2 : ¬ ((k : Int) + 1 < (m : Int)) := by omega
        clear hown hbw hkm
        go_wp2
        go_ret2
        exact ⟨_, _, _, rfl, by rw [HV.out]; exact HO.out, B.out.trans (HB.out.mono B.out.size)⟩
  | false =>
    have HQ := Lib.hid hq
    clear hq
    go_enter Try.func49, Try.ntmps49
    go_wp2_with fail
    rw [← hW2]
    clear hW2
    refine (blWalk_any W H A n c xs a b A2 m c2 ps _ R.out RP.out hcap).mono ?_
    rw [HQ.out]
    rintro e wv ⟨rfl, hb⟩
    replace a0 := cell_keep a0 al hb; replace a1 := cell_keep a1 al hb; replace a2 := cell_keep a2 al hb; replace al := lt_keep al hb
    replace l0 := cell_keep l0 ll hb; replace l1 := cell_keep l1 ll hb; replace ll := lt_keep ll hb
    replace R := Lib.hid (R.out.keep hb); replace RP := Lib.hid (RP.out.keep hb)
    replace B := Lib.hid (below_next B.out hb)
    clear hb
    clear a0 a1 a2 l0 l1 al ll
    go_wp2
    go_ret2
    exact ⟨none, 0, 0, rfl, by rw [wstepsV, if_neg (by rw [HQ.out]; simp)]; exact OwnI.none_ _ _ _, B.out⟩

end Go.Proofs.Ytphjkmikleldcaa
