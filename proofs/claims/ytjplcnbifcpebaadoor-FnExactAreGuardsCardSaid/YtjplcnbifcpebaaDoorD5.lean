/-
  Contracts: the cells that are guarded, as words.
  Contracts: the cells that a set guards.
-/
import Derived.Test.YtjplcnbifcpebaaDoorD3
import Derived.Test.YtjplcnbifcpebaaDoorE15
namespace Go.Proofs.YtjplcnbifcpebaaDoor
open Go.RowKit Go.Shelf
attribute [local go_sem] Oper.semAt_some

/-- The cells that are guarded from one, by the ground's words. -/
def grdC (G : List Nat) (x : Int) : Nat := G.getD (1 + x.toNat) 0 ||| 2 ^ x.toNat
/-- The cells that are guarded from some. -/
def grdL (G : List Nat) (l : List Int) : Nat := l.foldl (fun acc x => acc ||| grdC G x) 0
theorem grdL_snoc (G : List Nat) (l : List Int) (x : Int) : grdL G (l ++ [x]) = grdL G l ||| grdC G x := by simp [grdL, List.foldl_append]
theorem or_lt64 {a b : Nat} (ha : a < 18446744073709551616) (hb : b < 18446744073709551616) : a ||| b < 18446744073709551616 := Nat.or_lt_two_pow (n := 64) ha hb
theorem getD_lt {G : List Nat} (hGb : ∀ x ∈ G, x < 18446744073709551616) (i : Nat) : G.getD i 0 < 18446744073709551616 := by
  rw [List.getD_eq_getElem?_getD]
  cases h : G[i]? with
  | none => decide
  | some y => exact hGb y (List.mem_of_getElem? h)
theorem grdC_lt {G : List Nat} (hGb : ∀ x ∈ G, x < 18446744073709551616) {x : Int} (h0 : 0 ≤ x) (h1 : x < 64) : grdC G x < 18446744073709551616 :=
  or_lt64 (getD_lt hGb _) (Nat.lt_of_lt_of_le (Nat.pow_lt_pow_right (by decide) (by omega : x.toNat < 64)) (by decide))
theorem grdL_lt' {G : List Nat} (hGb : ∀ x ∈ G, x < 18446744073709551616) : ∀ (l : List Int) (acc : Nat), acc < 18446744073709551616 → (∀ x ∈ l, 0 ≤ x ∧ x < 64) → l.foldl (fun acc x => acc ||| grdC G x) acc < 18446744073709551616
  | [], _, h, _ => h
  | x :: l, acc, ha, h => grdL_lt' hGb l _ (or_lt64 ha (grdC_lt hGb (h x (by simp)).1 (h x (by simp)).2)) (fun y hy => h y (by simp [hy]))
theorem grdL_lt {G : List Nat} (hGb : ∀ x ∈ G, x < 18446744073709551616) (l : List Int) (h : ∀ x ∈ l, 0 ≤ x ∧ x < 64) : grdL G l < 18446744073709551616 := grdL_lt' hGb l 0 (by decide) h
theorem grdL_bit' {G : List Nat} {i : Nat} : ∀ (l : List Int) (acc : Nat), (l.foldl (fun acc x => acc ||| grdC G x) acc).testBit i = true ↔ acc.testBit i = true ∨ ∃ x ∈ l, (grdC G x).testBit i = true
  | [], acc => by simp
  | x :: l, acc => by
    rw [List.foldl_cons, grdL_bit' l, Nat.testBit_or, Bool.or_eq_true]
    constructor
    · rintro ((h | h) | ⟨y, hy, h⟩)
      · exact .inl h
      · exact .inr ⟨x, by simp, h⟩
      · exact .inr ⟨y, by simp [hy], h⟩
    · rintro (h | ⟨y, hy, h⟩)
      · exact .inl (.inl h)
      · rcases List.mem_cons.1 hy with rfl | hy
        · exact .inl (.inr h)
        · exact .inr ⟨y, hy, h⟩
theorem grdL_bit {G : List Nat} {i : Nat} (l : List Int) : (grdL G l).testBit i = true ↔ ∃ x ∈ l, (grdC G x).testBit i = true := by
  rw [grdL, grdL_bit']
  simp
theorem grdC_bit {G : List Nat} {x : Int} {i : Nat} : (grdC G x).testBit i = true ↔ (G.getD (1 + x.toNat) 0).testBit i = true ∨ x.toNat = i := by
  rw [grdC, Nat.testBit_or, Bool.or_eq_true, Nat.testBit_two_pow, decide_eq_true_eq]

set_option maxRecDepth 100000 in
theorem guardedFrom_any (G : List Nat) (hG : G.length = 65) (hGb : ∀ x ∈ G, x < 18446744073709551616) (x : Int) (h0 : 0 ≤ x) (h1 : x < 64) (w : World) :
    Calls Tryd.prog 42 #[.agg (words G).toArray, .int .i64 x] w fun e w' => e = .returned (.int .u64 ((grdC G x : Nat) : Int)) ∧ Below w.heap.size w w' := by
  obtain ⟨y, hy⟩ : ∃ y, y = G.getD (1 + x.toNat) 0 := ⟨_, rfl⟩
  have hyg : G[1 + x.toNat]? = some y := by rw [hy, List.getD_eq_getElem?_getD, List.getElem?_eq_getElem (by omega)]; rfl
  have hy9 : y < 18446744073709551616 := hGb y (List.mem_of_getElem? hyg)
  obtain ⟨W1, hW1⟩ : ∃ W1, W1 = w.alloc (.cells (words G).toArray 48) := ⟨_, rfl⟩
  have hb1 : Below w.heap.size w W1 := by rw [hW1]; exact below_new (Below.refl _ _) _
  have hc1 : W1.cell? ⟨w.heap.size, 1 + x.toNat, none⟩ = some (.int .u64 (y : Int)) := by
    rw [hW1, cell_of_row _ _ _ _ _ _ (World.alloc_heap_new _ _), List.getElem?_toArray, words, List.getElem?_map, hyg]; rfl
  have hcw : (words G)[1 + x.toNat]? = some (.int .u64 (y : Int)) := by rw [words, List.getElem?_map, hyg]; rfl
  have HY := Lib.hid hy
  have hx : x = ((x.toNat : Nat) : Int) := by omega
  have hwith := withS_any y x.toNat hy9 (by omega) W1
  rw [← hx] at hwith
  have HX := Lib.hid hx
  clear hy hyg hx hGb hG
  go_enter Tryd.func42, Tryd.ntmps42
  go_wp2_with fail
  rw [← hW1]
  clear hW1
  refine hwith.mono ?_
  rintro e wv ⟨rfl, rfl⟩
  go_wp2
  go_ret
  exact ⟨by rw [grdC, ← HY.out]; rfl, hb1⟩
end Go.Proofs.YtjplcnbifcpebaaDoor

namespace Go.Proofs.YtjplcnbifcpebaaDoor
open Go.RowKit Go.Shelf
attribute [local go_sem] Oper.semAt_some

theorem yields_load {P : Program} {ops : Array Oper} {S : World → Prop} {o : Oper} {a : Act} {v : Value} (ty : TypeId) (x : Operand) (p : Value) (ho : o.op = .load ty x) (hw : Region.wanted o (yielded ops a.tmps) = true)
    (hx : a.eval x = p) (hr : ∀ w, S w → (Instr.loadAt ty p).run P w = .ok v w) : YieldsIf P ops S o v a := by
  refine Or.inl ⟨hw, fun w hS => ?_⟩
  unfold execOp
  simp only [ho, hx, Sem.run_bind, hr w hS, Sem.run_pure, Result.andThen_ok]
set_option maxRecDepth 100000 in
theorem load_groundW {G : List Nat} (hG : G.length = 65) {w : World} {g : Nat} (h : w.heap[g]? = some (.cells (words G).toArray 48 (0, 0))) :
    (Instr.loadAt 48 (.pointer (some ⟨g, 0, none⟩))).run Tryd.prog w = .ok (.agg (words G).toArray) w :=
  run_loadAt_mid (P := Tryd.prog) w g 0 48 (words G) (.struct _) (fun j v hv => by rw [Nat.zero_add, cell_of_row _ _ _ _ _ _ h]; simpa using hv) rfl rfl (by rw [info_ground]; simp [words, hG])

set_option maxRecDepth 100000 in
set_option maxHeartbeats 1000000 in
theorem guardedBy_any (G : List Nat) (hG : G.length = 65) (hGb : ∀ x ∈ G, x < 18446744073709551616) (s : Nat) (hs : s < 18446744073709551616) (w : World) (hT : Tab64 w) (hgb : 0 < w.heap.size) :
    Calls Tryd.prog 26 #[.agg (words G).toArray, .int .u64 (s : Int)] w fun e w' => e = .returned (.int .u64 ((grdL G (bitsL s) : Nat) : Int)) ∧ Below w.heap.size w w' := by
  refine (callsIn_wide (n := 9)).1 ?_
  refine callsIn_of_wp_marks Tryd.func26 rfl trivial ?_ rfl
  simp only [Tryd.ntmps26, List.size_toArray, List.length_cons, List.length_nil, Nat.reduceAdd, Nat.reduceSub, Array.replicate_succ, Array.replicate_zero, List.push_toArray, List.append_toArray, List.nil_append, List.cons_append]
  have HT := Lib.hid hT
  have HGB := Lib.hid hGb
  have HGL := Lib.hid hG
  obtain ⟨W3, hW3⟩ : ∃ W3, W3 = (w.alloc (.cells (words G).toArray 48)).alloc (.cells #[.int .u64 0] 45) := ⟨_, rfl⟩
  have hs3 : W3.heap.size = w.heap.size + 2 := by rw [hW3]; simp
  have hb3 : Below w.heap.size w W3 := by rw [hW3]; exact (below_new (Below.refl _ _) _).alloc (by simp) _
  have hg3 : W3.heap[w.heap.size]? = some (.cells (words G).toArray 48 (0, 0)) := by
    rw [hW3, Below.heap_alloc _ _ _ (by simp)]; exact World.alloc_heap_new _ _
  have hr3 : W3.heap[w.heap.size + 1]? = some (.cells #[.int .u64 0] 45 (0, 0)) := by
    have h := World.alloc_heap_new (w.alloc (.cells (words G).toArray 48)) (.cells #[.int .u64 0] 45)
    rw [hW3]; rw [World.size_alloc] at h; exact h
  clear hT hGb hG
  gi_wp2
  rw [← hW3]
  clear hW3
  have hit := each_hands (9 - 1) s hs
  refine wpIn_handsQ (q := 6) rfl (fun args w => by simp [go_sem]) hit (MidC W3 (w.heap.size + 1) 45 (fun pre => #[.int .u64 ((grdL G pre : Nat) : Int)]) (fun _ => True))
    (fun pre w' h => HT.out.keep hgb (hb3.grown h.1 hb3.size (fun k e => by cases e; omega))) (midC_own (by omega)) ⟨World.grownBy.refl _ _, hr3, trivial⟩ ?_ ?_ ?_
  · intro l x W' K hK
    gi_wp2
    exact hK
  · rintro l pre x rest W' hl hsp ⟨hgw, hrw, _⟩
    have hxm : ∀ y ∈ pre ++ [x], 0 ≤ y ∧ y < 64 := fun y hy => by
      have : y ∈ bitsL s := by rw [hsp]; simp at hy ⊢; rcases hy with h | h <;> simp [h]
      obtain ⟨h0, h1, -⟩ := bitsL_mem.1 this
      exact ⟨h0, h1⟩
    obtain ⟨h0x, h1x⟩ := hxm x (by simp)
    have hacc : grdL G pre < 18446744073709551616 := grdL_lt HGB.out pre (fun y hy => hxm y (by simp [hy]))
    have hgc : grdC G x < 18446744073709551616 := grdC_lt HGB.out h0x h1x
    have hor := bits_or_u64_nat (grdL G pre) (grdC G x) hacc hgc
    rw [← grdL_snoc] at hor
    have hgb' : W'.heap[w.heap.size]? = some (.cells (words G).toArray 48 (0, 0)) := (hgw.block w.heap.size (by omega) (by simp)).trans hg3
    have hrc : W'.cell? ⟨w.heap.size + 1, 0, none⟩ = some (.int .u64 ((grdL G pre : Nat) : Int)) := by rw [cell_of_row _ _ _ _ _ _ hrw]; rfl
    have hrf : W'.frozen? ⟨w.heap.size + 1, 0, none⟩ = false := frozen_of_row _ _ _ _ _ hrw
    have hgl : w.heap.size + 1 < W'.heap.size := (Array.getElem?_eq_some_iff.1 hrw).1
    have HFIN := Lib.hid (show ∀ w5 : World, Below W'.heap.size W' w5 → KeepsFrom W3.heap.size W' (w5.setCell ⟨w.heap.size + 1, 0, none⟩ (.int .u64 ((grdL G (pre ++ [x]) : Nat) : Int))) ∧ True ∧ MidC W3 (w.heap.size + 1) 45 (fun pre => #[.int .u64 ((grdL G pre : Nat) : Int)]) (fun _ => True) (pre ++ [x]) (w5.setCell ⟨w.heap.size + 1, 0, none⟩ (.int .u64 ((grdL G (pre ++ [x]) : Nat) : Int))) from fun w5 hB => by
      have hg0 : W'.grownBy w5 none := ⟨hB.os, hB.tape, hB.output, hB.size, fun k hk _ => hB.block k hk⟩
      have hgs : W'.grownBy (w5.setCell ⟨w.heap.size + 1, 0, none⟩ (.int .u64 ((grdL G (pre ++ [x]) : Nat) : Int))) (some (w.heap.size + 1)) := (hg0.but _).trans (grown_set _ _ _ _)
      refine ⟨KeepsFrom.of_grownBy hgs (fun j e => by cases e; omega), trivial, hgw.trans hgs, ?_, trivial⟩
      have h := heap_set (W := w5) (j := 0) (.int .u64 ((grdL G (pre ++ [x]) : Nat) : Int)) ((hB.block _ hgl).trans hrw)
      simpa using h)
    have HGW := Lib.hid hgw
    have HRW := Lib.hid hrw
    have HGH := Lib.hid hgb'
    clear hgw hrw hit hsp hxm hacc hgc hgb'
    gi_wp2
    refine wpIn_region_held_round (S := fun w' => w'.heap[w.heap.size]? = some (.cells (words G).toArray 48 (0, 0))) (by kernel_rfl) (by kernel_rfl) (fun ⟨_, _, h⟩ => h) HGH.out (fun hHeld => ?_)
    refine wpAnyH_take (i := 1) (oi := ⟨_, _, _, _, _, _⟩) (v := .agg (words G).toArray) rfl (by kernel_rfl) (by kernel_rfl) (by kernel_rfl) (fun _ _ _ h => h) (yields_load _ _ _ rfl (by kernel_rfl) rfl (fun w' h => load_groundW HGL.out h)) (by assumption) ?_
    (try simp only [Act.put, List.setIfInBounds_toArray, List.set_cons_zero, List.set_cons_succ])
    refine wpAnyH_take (i := 2) (oi := ⟨_, _, _, _, _, _⟩) (v := ?_) rfl (by kernel_rfl) (by kernel_rfl) (by kernel_rfl) (fun _ _ _ h => h) (Or.inl ⟨by rfl, ?_⟩) (by assumption) ?_
    rotate_left
    · intro w hSw
      (try dsimp only at hSw)
      go_simp
      (try with_reducible rfl)
    (try simp only [Act.put, List.setIfInBounds_toArray, List.set_cons_zero, List.set_cons_succ])
    refine wpAnyH_ready (rs := [0, 3]) (by kernel_rfl) (by simp) ?_
    refine AllReadyH.cons (o := ⟨_, _, _, _, _, _⟩) rfl (fun K hK => ?_) ?_
    · go_simp
      skip
      refine hK.out _ _ ?_ (fun hHeld => ?_)
      · (try dsimp only)
        first | exact hHeld | exact (hB6.block w.heap.size (by omega)).trans HGH.out | exact ((grown_set _ _ _ _).block w.heap.size (Array.getElem?_eq_some_iff.1 hHeld).1 (by simp)).trans hHeld
      clear hK K
      (try simp only [Act.put, List.setIfInBounds_toArray, List.set_cons_zero, List.set_cons_succ])
      refine wpAnyH_ready (rs := [3]) (by kernel_rfl) (by simp) ?_
      refine AllReadyH.cons (o := ⟨_, _, _, _, _, _⟩) rfl (fun K hK => ?_) AllReadyH.nil
      go_simp
      refine (guardedFrom_any G HGL.out HGB.out x h0x h1x _).mono ?_
      rintro e w5 ⟨rfl, hB5⟩
      have hB6 : Below W'.heap.size W' w5 := ⟨hB5.os, hB5.tape, hB5.output, hB5.size, hB5.block⟩
      replace hrc := cell_keep hrc hgl hB6; replace hrf := (hB6.frozen (p := ⟨w.heap.size + 1, 0, none⟩) hgl).trans hrf
      dsimp only
      refine hK.out _ _ ?_ (fun hHeld => ?_)
      · (try dsimp only)
        first | exact hHeld | exact (hB6.block w.heap.size (by omega)).trans HGH.out | exact ((grown_set _ _ _ _).block w.heap.size (Array.getElem?_eq_some_iff.1 hHeld).1 (by simp)).trans hHeld
      clear hK K
      (try simp only [Act.put, List.setIfInBounds_toArray, List.set_cons_zero, List.set_cons_succ])
      refine wpAnyH_take (i := 4) (oi := ⟨_, _, _, _, _, _⟩) (v := ?_) rfl (by kernel_rfl) (by kernel_rfl) (by kernel_rfl) (fun _ _ _ h => h) (Or.inl ⟨by rfl, ?_⟩) (by assumption) ?_
      rotate_left
      · intro w hSw
        (try dsimp only at hSw)
        go_simp
        (try with_reducible rfl)
      (try simp only [Act.put, List.setIfInBounds_toArray, List.set_cons_zero, List.set_cons_succ])
      refine wpAnyH_ready (rs := [5]) (by kernel_rfl) (by simp) ?_
      refine AllReadyH.cons (o := ⟨_, _, _, _, _, _⟩) rfl (fun K hK => ?_) AllReadyH.nil
      go_simp
      skip
      refine hK.out _ _ ?_ (fun hHeld => ?_)
      · (try dsimp only)
        first | exact hHeld | exact (hB6.block w.heap.size (by omega)).trans HGH.out | exact ((grown_set _ _ _ _).block w.heap.size (Array.getElem?_eq_some_iff.1 hHeld).1 (by simp)).trans hHeld
      clear hK K
      (try simp only [Act.put, List.setIfInBounds_toArray, List.set_cons_zero, List.set_cons_succ])
      refine wpAnyH_done (by kernel_rfl) ?_ _
      exact HFIN.out _ hB6
    refine AllReadyH.cons (o := ⟨_, _, _, _, _, _⟩) rfl (fun K hK => ?_) AllReadyH.nil
    go_simp
    refine (guardedFrom_any G HGL.out HGB.out x h0x h1x _).mono ?_
    rintro e w5 ⟨rfl, hB5⟩
    have hB6 : Below W'.heap.size W' w5 := ⟨hB5.os, hB5.tape, hB5.output, hB5.size, hB5.block⟩
    replace hrc := cell_keep hrc hgl hB6; replace hrf := (hB6.frozen (p := ⟨w.heap.size + 1, 0, none⟩) hgl).trans hrf
    dsimp only
    refine hK.out _ _ ?_ (fun hHeld => ?_)
    · (try dsimp only)
      first | exact hHeld | exact (hB6.block w.heap.size (by omega)).trans HGH.out | exact ((grown_set _ _ _ _).block w.heap.size (Array.getElem?_eq_some_iff.1 hHeld).1 (by simp)).trans hHeld
    clear hK K
    (try simp only [Act.put, List.setIfInBounds_toArray, List.set_cons_zero, List.set_cons_succ])
    refine wpAnyH_ready (rs := [0]) (by kernel_rfl) (by simp) ?_
    refine AllReadyH.cons (o := ⟨_, _, _, _, _, _⟩) rfl (fun K hK => ?_) AllReadyH.nil
    go_simp
    skip
    refine hK.out _ _ ?_ (fun hHeld => ?_)
    · (try dsimp only)
      first | exact hHeld | exact (hB6.block w.heap.size (by omega)).trans HGH.out | exact ((grown_set _ _ _ _).block w.heap.size (Array.getElem?_eq_some_iff.1 hHeld).1 (by simp)).trans hHeld
    clear hK K
    (try simp only [Act.put, List.setIfInBounds_toArray, List.set_cons_zero, List.set_cons_succ])
    refine wpAnyH_take (i := 4) (oi := ⟨_, _, _, _, _, _⟩) (v := ?_) rfl (by kernel_rfl) (by kernel_rfl) (by kernel_rfl) (fun _ _ _ h => h) (Or.inl ⟨by rfl, ?_⟩) (by assumption) ?_
    rotate_left
    · intro w hSw
      (try dsimp only at hSw)
      go_simp
      (try with_reducible rfl)
    (try simp only [Act.put, List.setIfInBounds_toArray, List.set_cons_zero, List.set_cons_succ])
    refine wpAnyH_ready (rs := [5]) (by kernel_rfl) (by simp) ?_
    refine AllReadyH.cons (o := ⟨_, _, _, _, _, _⟩) rfl (fun K hK => ?_) AllReadyH.nil
    go_simp
    skip
    refine hK.out _ _ ?_ (fun hHeld => ?_)
    · (try dsimp only)
      first | exact hHeld | exact (hB6.block w.heap.size (by omega)).trans HGH.out | exact ((grown_set _ _ _ _).block w.heap.size (Array.getElem?_eq_some_iff.1 hHeld).1 (by simp)).trans hHeld
    clear hK K
    (try simp only [Act.put, List.setIfInBounds_toArray, List.set_cons_zero, List.set_cons_succ])
    refine wpAnyH_done (by kernel_rfl) ?_ _
    exact HFIN.out _ hB6
  · rintro D W' hD ⟨hgw, hrw, _⟩ hd
    have hrc : W'.cell? ⟨w.heap.size + 1, 0, none⟩ = some (.int .u64 ((grdL G (bitsL s) : Nat) : Int)) := by rw [cell_of_row _ _ _ _ _ _ hrw]; rfl
    have hbw : Below w.heap.size w W' := hb3.grown hgw hb3.size (fun k e => by cases e; omega)
    clear hit hgw
    gi_wp2
    refine ⟨by simp, .inl ⟨_, _, rfl, run_takeDeferred hd, ?_⟩⟩
    exact ⟨_, results_tmp rfl _ _ _, rfl, hbw.grown (grownBy_putObj' W' D _) hbw.size (fun k e => by cases e; omega)⟩
end Go.Proofs.YtjplcnbifcpebaaDoor
