/-
  Contracts: the cells of a set as a list of the call's own.
  A region that draws its order within a round of a range: walked as outside of rounds, if it defers nothing.
-/
import Derived.Test.YtnnonmpgkkpocaaGreatDoorE5
import Derived.Test.YtnnonmpgkkpocaaGreatDoorProg
import Derived.OrdersIn
import Derived.OrdersHeld
import Derived.Deep.RegionHeld
import Derived.BigRegionIn
import Derived.OwnWalkIn
namespace Go.Proofs.YtnnonmpgkkpocaaGreatDoor
open Go.RowKit Go.Shelf
attribute [local go_sem] Oper.semAt_some

/-- The list that has been gathered when the cells of pre have been handed over. -/
def CollG (w Wb : World) (q : Nat) (pre : List Int) (W' : World) : Prop :=
  Below w.heap.size w W' ∧ Wb.heap.size ≤ W'.heap.size ∧ ∃ A n c, W'.heap[q]? = some (.cells #[.slice A n c] 22 (0, 0)) ∧ OwnI 3 W' Wb.heap.size A n c pre
theorem collG_own {w Wb : World} {q : Nat} (hq : q < Wb.heap.size) (hw : w.heap.size ≤ Wb.heap.size) : OwnFrom Wb.heap.size (CollG w Wb q) := by
  rintro s W1 W2 row ⟨hb, hs, A, n, c, hqq, ho⟩ hgr hr
  have hne : ∀ k, k < Wb.heap.size → some k ≠ row := fun k hk e => by have := (hr k e.symm).1; omega
  refine ⟨hb.grown hgr (Nat.le_trans hw hs) (fun k e => Nat.le_trans hw (hr k e).1), Nat.le_trans hs hgr.size, A, n, c, (hgr.block q (by omega) (hne _ hq)).trans hqq, ho.other hgr ?_⟩
  intro ad e er
  obtain ⟨_, ob, h1, h2⟩ := hr _ er.symm
  rcases ho.2 with ⟨e1, _⟩ | ⟨g, cap, cur, e1, _, e2, _⟩
  · rw [e] at e1; cases e1
  · rw [e] at e1
    have : ad = ⟨g, 0, none⟩ := by injection e1 with e3; injection e3
    rw [this, e2] at h1
    cases h1
    cases h2
theorem bitsL_len (s : Nat) : (bitsL s).length ≤ 64 := by
  unfold bitsL
  rw [List.length_map]
  exact Nat.le_trans (List.length_filter_le _ _) (by simp)

set_option maxRecDepth 100000 in
set_option maxHeartbeats 1000000 in
theorem appendSeq_any (s : Nat) (hs : s < 18446744073709551616) (w : World) (hT : Tab64 w) (hgb : 0 < w.heap.size) :
    Calls Tryz.prog 107 #[.slice none 0 0, .func (.func 50) #[.int .u64 (s : Int)] #[]] w fun e w' => ∃ A n c, e = .returned (.slice A n c) ∧ OwnI 3 w' w.heap.size A n c (bitsL s) ∧ Below w.heap.size w w' := by
  refine (callsIn_wide (n := 9)).1 ?_
  refine callsIn_of_wp_marks Tryz.func107 rfl trivial ?_ rfl
  simp only [Tryz.ntmps107, List.size_toArray, List.length_cons, List.length_nil, Nat.reduceAdd, Nat.reduceSub, Array.replicate_succ, Array.replicate_zero, List.push_toArray, List.append_toArray, List.nil_append, List.cons_append]
  obtain ⟨i0, hi, hz0, hz1, hz2⟩ := info_parts infoI
  have HI := Lib.hid hi; have HZ0 := Lib.hid hz0; have HZ1 := Lib.hid hz1; have HZ2 := Lib.hid hz2
  clear hi hz0 hz1 hz2
  have HT := Lib.hid hT
  obtain ⟨Wb, hWb⟩ : ∃ Wb, Wb = w.alloc (.cells #[.slice none 0 0] 22) := ⟨_, rfl⟩
  have hsb : Wb.heap.size = w.heap.size + 1 := by rw [hWb]; simp
  have hbb : Below w.heap.size w Wb := by rw [hWb]; exact below_new (Below.refl _ _) _
  have hqb : Wb.heap[w.heap.size]? = some (.cells #[.slice none 0 0] 22 (0, 0)) := by rw [hWb]; exact World.alloc_heap_new _ _
  clear hT
  gi_wp2
  rw [← hWb]
  clear hWb
  have h0 : CollG w Wb w.heap.size [] Wb := ⟨hbb, Nat.le_refl _, none, 0, 0, hqb, OwnI.none_ _ _ _⟩
  have hit := each_hands (9 - 1) s hs
  refine wpIn_handsQ (q := 5) rfl (fun args w => by simp [go_sem]) hit (CollG w Wb w.heap.size) (fun pre w' h => HT.out.keep hgb h.1) (collG_own (by omega) (by omega)) h0 ?_ ?_ ?_
  · intro l x W' K hK
    gi_wp2
    exact hK
  · rintro l pre x rest W' hl hsp ⟨hb1, hs1, A1, n1, c1, hq1, ho1⟩
    have hqc : W'.cell? ⟨w.heap.size, 0, none⟩ = some (.slice A1 n1 c1) := by rw [cell_of_row _ _ _ _ _ _ hq1]; rfl
    have hn1 : n1 ≤ 64 := by
      have h1 := ho1.len
      have h3 := bitsL_len s
      rw [hsp, List.length_append] at h3
      omega
    have HO := Lib.hid ho1; have HQ1 := Lib.hid hq1; have HSP := Lib.hid hsp; have HB1 := Lib.hid hb1
    clear ho1 hq1 hsp hb1 hit h0 hqb
    gi_wp2_with (refine wpListIn_app1 rfl (.tmp 8) (.tmp 10) 22 3 rfl i0 Tryz.underlying22 HI.out HZ0.out HZ1.out HZ2.out Wb.heap.size A1 n1 c1 _ x rfl HO.out rfl (by omega) (by omega) ?_; intro A4 c4 w4 hown4 hb4 hk4; have hq4 := (hb4.block w.heap.size (by omega)).trans HQ1.out; have hqc4 : w4.cell? ⟨w.heap.size, 0, none⟩ = some (.slice A1 n1 c1) := (by rw [cell_of_row _ _ _ _ _ _ hq4]; rfl); have hqf4 : w4.frozen? ⟨w.heap.size, 0, none⟩ = false := frozen_of_row _ _ _ _ _ hq4; have HQ4 := Lib.hid hq4; have HO4 := Lib.hid hown4; have HB4 := Lib.hid hb4; have HK4 := Lib.hid hk4; clear hq4 hown4 hb4 hk4)
    have hgs := grown_set w4 w.heap.size 0 (.slice A4 (n1 + 1) c4)
    refine ⟨HK4.out.trans (KeepsFrom.of_grownBy hgs (fun j e => by cases e; omega)), trivial, ?_, ?_, A4, n1 + 1, c4, ?_, ?_⟩
    · exact (HB1.out.trans ((HB4.out.mono (by omega)))).grown hgs (by have := HB1.out.size; have := HB4.out.size; omega) (fun k e => by cases e; omega)
    · exact Nat.le_trans hs1 (Nat.le_trans HB4.out.size hgs.size)
    · rw [heap_set _ HQ4.out]; rfl
    · exact HO4.out.set_ (p := ⟨w.heap.size, 0, none⟩) (by show w.heap.size < _; omega) _
  · rintro D W' hD ⟨hb1, hs1, A1, n1, c1, hq1, ho1⟩ hd
    have hqc : W'.cell? ⟨w.heap.size, 0, none⟩ = some (.slice A1 n1 c1) := by rw [cell_of_row _ _ _ _ _ _ hq1]; rfl
    have HO := Lib.hid ho1; have HB1 := Lib.hid hb1
    clear ho1 hq1 hb1 hit h0 hqb
    gi_wp2
    refine ⟨by simp, .inl ⟨_, _, rfl, run_takeDeferred hd, ?_⟩⟩
    refine ⟨_, results_tmp rfl _ _ _, A1, n1, c1, rfl, ?_, ?_⟩
    · exact (HO.out.other (grownBy_putObj' W' D _) (own_ne HO.out hd rfl)).lower (by omega)
    · exact HB1.out.grown (grownBy_putObj' W' D _) (by omega) (fun k e => by cases e; omega)

theorem collect_any (s : Nat) (hs : s < 18446744073709551616) (w : World) (hT : Tab64 w) (hgb : 0 < w.heap.size) :
    Calls Tryz.prog 97 #[.func (.func 50) #[.int .u64 (s : Int)] #[]] w fun e w' => ∃ A n c, e = .returned (.slice A n c) ∧ OwnI 3 w' w.heap.size A n c (bitsL s) ∧ Below w.heap.size w w' := by
  go_enter Tryz.func97, Tryz.ntmps97
  go_wp2_with fail
  refine (appendSeq_any s hs _ hT hgb).mono ?_
  rintro e wv ⟨A, n, c, rfl, ho, hb⟩
  go_wp2
  go_ret
  exact ⟨A, n, c, rfl, ho, hb⟩

theorem cells_any (s : Nat) (hs : s < 18446744073709551616) (w : World) (hT : Tab64 w) (hgb : 0 < w.heap.size) :
    Calls Tryz.prog 78 #[.int .u64 (s : Int)] w fun e w' => ∃ A n c, e = .returned (.slice A n c) ∧ OwnI 3 w' w.heap.size A n c (bitsL s) ∧ Below w.heap.size w w' := by
  go_enter Tryz.func78, Tryz.ntmps78
  go_wp2_with fail
  refine (collect_any s hs _ hT hgb).mono ?_
  rintro e wv ⟨A, n, c, rfl, ho, hb⟩
  go_wp2
  go_ret
  exact ⟨A, n, c, rfl, ho, hb⟩
end Go.Proofs.YtnnonmpgkkpocaaGreatDoor

namespace Go.Proofs.YtnnonmpgkkpocaaGreatDoor

def noDefer (ops : Array Oper) : Bool := ops.all fun o => match o.op with | .defer _ => false | _ => true
theorem noDefer_at {ops : Array Oper} (h : noDefer ops = true) {i : Nat} {o : Oper} (ho : ops[i]? = some o) (c : Call) : o.op ≠ .defer c := by
  intro e
  have h1 := Array.all_eq_true_iff_forall_mem.1 h o (Array.mem_of_getElem? ho)
  rw [e] at h1
  cases h1
theorem wpIn_round_op {l n : Nat} {P : Program} {o : Oper} {a : Act} {w : World} {K : Act → World → Prop} {Q : Exit → Act → World → Prop} (hd : ∀ c, o.op ≠ .defer c)
    (h : o.wp P a w K Q) : o.wpIn (Fence.wide.inRound l) n P a w K Q := by
  refine ⟨fun _ _ => trivial, ?_⟩
  rw [Oper.semAt_plain _ _ _ hd]
  unfold Oper.wp at h
  generalize (execOp a.eval o).run P w = r at h
  cases r with
  | ok x w' =>
    cases x with
    | value v => exact h
    | skip => exact h
    | defer d => exact h
    | enter f args => exact ⟨(fun e => by cases e), callsIn_wide.2 h⟩
    | row row args =>
      refine ⟨(fun e => by cases e), fun c cs _ => ?_⟩
      obtain ⟨v, w2, h1, h2⟩ := h c cs
      exact ⟨v, w2, h1, stepsIn_wide.2 h2⟩
    | _ => exact h.elim
  | halt x w' =>
    cases x <;> exact h
theorem wpAnyIn_of_any {l n : Nat} {P : Program} {md : Region.Mode} {ops : Array Oper} {Q : Exit → Act → World → Prop} (hd : noDefer ops = true) (hL : ¬ LetsOut Q) :
    ∀ (fuel : Nat) (listed : Array Bool) (a : Act) (w : World), wpAny P md ops Q fuel listed a w → wpAnyIn (Fence.wide.inRound l) n P md ops Q fuel listed a w
  | 0, _, _, _, h => h
  | fuel + 1, listed, a, w, h => by
    refine ⟨h.1, fun i hi => ?_⟩
    have h2 : wpOp P ops Q i (wpAnyIn (Fence.wide.inRound l) n P md ops Q fuel (listed.setIfInBounds i true)) a w := wpOp_mono (fun a w => wpAnyIn_of_any hd hL fuel _ a w) (h.2 i hi)
    unfold wpOp at h2
    unfold wpOpIn
    cases ho : ops[i]? with
    | none => simpa [ho] using h2
    | some o =>
      simp only [ho] at h2 ⊢
      split
      · rename_i hw
        simp only [hw, if_true] at h2
        rcases h2 with h2 | h2
        · exact wpIn_round_op (noDefer_at hd ho) h2
        · exact absurd h2.2 hL
      · rename_i hw
        simp only [hw] at h2
        exact ⟨fun _ _ => trivial, h2⟩
/-- The beginning of a region's walk within a round: what S says is held behind every operation. -/
theorem wpIn_region_held_round {l n : Nat} {P : Program} {id : Nat} {ops : Array Oper} {Q : Exit → Act → World → Prop} {S : World → Prop} {a : Act} {w : World} (hm : P.follows .mixedOrders = true) (hd : noDefer ops = true) (hL : ¬ LetsOut Q)
    (hS : S w.drew) (h : S w.drew → wpAnyH P .any ops Q S ops.size (Array.replicate ops.size false) a w.drew) : (Code.region id ops true).wpIn (Fence.wide.inRound l) n P Q a w :=
  wpIn_region_any hm (wpAnyIn_of_any hd hL _ _ _ _ (wpAny_of_held _ _ _ _ (h hS)))
end Go.Proofs.YtnnonmpgkkpocaaGreatDoor
