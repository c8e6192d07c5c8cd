/-
  Contracts: the cells of a set as a list of the call's own.
  A region that draws its order within a round of a range: walked as outside of rounds, if it defers nothing.
  The cells of a set as an iterator whose caller may stop it; a range that may be left.
  Contracts: whether no two of some cells are near to each other.
  Contracts: the cells that are guarded, as words.
  Contracts: the cells that a set guards.
  Contracts: sets of cells.
  Guarded cells as lists; sets that are asked about.
  GuardedBy: the model's cells that are guarded.
  GuardedBy: what the law compares.
  ArePeaceful: what the law compares.
  ArePeaceful: both sides.
  The walk of the exact law on ArePeaceful: it answers true, and what was there stays.
-/
import Derived.Test.YtcfibfbenccimaaDoorE5
import Derived.Test.YtcfibfbenccimaaDoorProg
import Derived.OrdersIn
import Derived.OrdersHeld
import Derived.Deep.RegionHeld
import Derived.BigRegionIn
import Derived.OwnWalkIn
import Derived.Test.YtcfibfbenccimaaDoorE3
import Derived.Test.YtcfibfbenccimaaDoorE4
import Derived.Sort.QuietIn
import Derived.Test.YtcfibfbenccimaaDoorB5
import Derived.Test.YtcfibfbenccimaaDoorB9
import Derived.Test.YtcfibfbenccimaaDoorB11
import Derived.Test.YtcfibfbenccimaaDoorLaw0
namespace Go.Proofs.YtcfibfbenccimaaDoor
open Go.RowKit Go.Shelf
attribute [local go_sem] Oper.semAt_some

/-- The list that has been gathered when the cells of pre have been handed over. -/
def CollG (w Wb : World) (q : Nat) (pre : List Int) (W' : World) : Prop :=
  Below w.heap.size w W' ∧ Wb.heap.size ≤ W'.heap.size ∧ ∃ A n c, W'.heap[q]? = some (.cells #[.slice A n c] 22 (0, 0)) ∧ OwnI 3 W' Wb.heap.size A n c pre
theorem collG_own {w Wb : World} {q : Nat} (hq : q < Wb.heap.size) (hw : w.heap.size ≤ Wb.heap.size) : OwnFrom Wb.heap.size (CollG w Wb q) := by
  rintro s W1 W2 row ⟨hb, hs, A, n, c, hqq, ho⟩ hgr hr
  have hne : ∀ k, k < Wb.heap.size → some k ≠ row := fun k hk e => by have := (hr k e.symm).1; omega
  refine ⟨hb.grown hgr (Nat.le_trans hw hs) (fun k e => Nat.le_trans hw (hr k e).1), Nat.le_trans hs hgr.size, A, n, c, (hgr.block q (by omega) (hne _ hq)).trans hqq, ho.other hgr ?_⟩
  intro ad e er
  obtain ⟨_, ob, h1, h2⟩ := hr _ er.symm
  rcases ho.2 with ⟨e1, _⟩ | ⟨g, cap, cur, e1, _, e2, _⟩
  · rw [e] at e1; cases e1
  · rw [e] at e1
    have : ad = ⟨g, 0, none⟩ := by injection e1 with e3; injection e3
    rw [this, e2] at h1
    cases h1
    cases h2
theorem bitsL_len (s : Nat) : (bitsL s).length ≤ 64 := by
  unfold bitsL
  rw [List.length_map]
  exact Nat.le_trans (List.length_filter_le _ _) (by simp)

end Go.Proofs.YtcfibfbenccimaaDoor

namespace Go.Proofs.YtcfibfbenccimaaDoor

def noDefer (ops : Array Oper) : Bool := ops.all fun o => match o.op with | .defer _ => false | _ => true
theorem noDefer_at {ops : Array Oper} (h : noDefer ops = true) {i : Nat} {o : Oper} (ho : ops[i]? = some o) (c : Call) : o.op ≠ .defer c := by
  intro e
  have h1 := Array.all_eq_true_iff_forall_mem.1 h o (Array.mem_of_getElem? ho)
  rw [e] at h1
  cases h1
theorem wpIn_round_op {l n : Nat} {P : Program} {o : Oper} {a : Act} {w : World} {K : Act → World → Prop} {Q : Exit → Act → World → Prop} (hd : ∀ c, o.op ≠ .defer c)
    (h : o.wp P a w K Q) : o.wpIn (Fence.wide.inRound l) n P a w K Q := by
  refine ⟨fun _ _ => trivial, ?_⟩
  rw [Oper.semAt_plain _ _ _ hd]
  unfold Oper.wp at h
  generalize (execOp a.eval o).run P w = r at h
  cases r with
  | ok x w' =>
    cases x with
    | value v => exact h
    | skip => exact h
    | defer d => exact h
    | enter f args => exact ⟨(fun e => by cases e), callsIn_wide.2 h⟩
    | row row args =>
      refine ⟨(fun e => by cases e), fun c cs _ => ?_⟩
      obtain ⟨v, w2, h1, h2⟩ := h c cs
      exact ⟨v, w2, h1, stepsIn_wide.2 h2⟩
    | _ => exact h.elim
  | halt x w' =>
    cases x <;> exact h
theorem wpAnyIn_of_any {l n : Nat} {P : Program} {md : Region.Mode} {ops : Array Oper} {Q : Exit → Act → World → Prop} (hd : noDefer ops = true) (hL : ¬ LetsOut Q) :
    ∀ (fuel : Nat) (listed : Array Bool) (a : Act) (w : World), wpAny P md ops Q fuel listed a w → wpAnyIn (Fence.wide.inRound l) n P md ops Q fuel listed a w
  | 0, _, _, _, h => h
  | fuel + 1, listed, a, w, h => by
    refine ⟨h.1, fun i hi => ?_⟩
    have h2 : wpOp P ops Q i (wpAnyIn (Fence.wide.inRound l) n P md ops Q fuel (listed.setIfInBounds i true)) a w := wpOp_mono (fun a w => wpAnyIn_of_any hd hL fuel _ a w) (h.2 i hi)
    unfold wpOp at h2
    unfold wpOpIn
    cases ho : ops[i]? with
    | none => simpa [ho] using h2
    | some o =>
      simp only [ho] at h2 ⊢
      split
      · rename_i hw
        simp only [hw, if_true] at h2
        rcases h2 with h2 | h2
        · exact wpIn_round_op (noDefer_at hd ho) h2
        · exact absurd h2.2 hL
      · rename_i hw
        simp only [hw] at h2
        exact ⟨fun _ _ => trivial, h2⟩
/-- The beginning of a region's walk within a round: what S says is held behind every operation. -/
theorem wpIn_region_held_round {l n : Nat} {P : Program} {id : Nat} {ops : Array Oper} {Q : Exit → Act → World → Prop} {S : World → Prop} {a : Act} {w : World} (hm : P.follows .mixedOrders = true) (hd : noDefer ops = true) (hL : ¬ LetsOut Q)
    (hS : S w.drew) (h : S w.drew → wpAnyH P .any ops Q S ops.size (Array.replicate ops.size false) a w.drew) : (Code.region id ops true).wpIn (Fence.wide.inRound l) n P Q a w :=
  wpIn_region_any hm (wpAnyIn_of_any hd hL _ _ _ _ (wpAny_of_held _ _ _ _ (h hS)))
end Go.Proofs.YtcfibfbenccimaaDoor

namespace Go.Proofs.YtcfibfbenccimaaDoor
open Go.RowKit Go.Shelf
attribute [local go_sem] Oper.semAt_some

set_option maxRecDepth 100000 in
set_option maxHeartbeats 1000000 in
/-- 'each' yields the cells of a set, least first, so long as it is told to go on; it may be told to stop. -/
theorem each_inS (n l s : Nat) (hs : s < 18446744073709551616) (J Jx : List Int → World → Prop) (W : World) (hT : ∀ pre w, J pre w → Tab64 w)
    (hY : ∀ (pre : List Int) (x : Int) (rest : List Int) (w : World), bitsL s = pre ++ x :: rest → J pre w → YieldAt Fence.wide (n - 1) Tryd.prog l #[.int .i64 x] w fun e w' => (e = .returned (.bool true) ∧ J (pre ++ [x]) w') ∨ (e = .returned (.bool false) ∧ Jx (pre ++ [x]) w'))
    (h0 : J [] W) :
    CallsIn Fence.wide n Tryd.prog 45 #[.int .u64 (s : Int), .func (.yield l) #[] #[]] W fun e w' => (∃ v, e = .returned v) ∧ (J (bitsL s) w' ∨ ∃ pre, Jx pre w') := by
  refine callsIn_of_wp Tryd.func45 rfl trivial ?_ rfl
  simp only [Tryd.ntmps45, List.size_toArray, List.length_cons, List.length_nil, Nat.reduceAdd, Nat.reduceSub, Array.replicate_succ, Array.replicate_zero, List.push_toArray, List.append_toArray, List.nil_append, List.cons_append]
  gi_wp2
  gi_loopw [0] (fun v wr => ∃ (r : Nat) (pre : List Int), v = .int .u64 (r : Int) ∧ r < 18446744073709551616 ∧ bitsL s = pre ++ bitsL r ∧ J pre wr) (fun v _ => (intOf v).toNat)
  case atStart => exact ⟨s, [], rfl, hs, rfl, h0⟩
  case round =>
    obtain ⟨r, pre, rfl, hr, hsp, hJ⟩ := hrel
    by_cases hz : r = 0
    · subst hz
      have HF := Lib.hid (show bitsL s = pre by rw [hsp, bitsL_zero, List.append_nil])
      clear hsp
      have h00 : ((((0 : Nat) : Int)) != 0) = false := rfl
      gi_wp2
      refine ⟨trivial, ?_⟩
      gi_wp2
      refine ⟨fun _ h => (by cases h), ?_⟩
      gi_wp2
      go_end0
      exact ⟨⟨_, rfl⟩, .inl (by rw [HF.out]; exact hJ)⟩
    · have hz0 : ((r : Int) == 0) = false := by simp; omega
      have hz1 : ¬ ((r : Int) = 0) := by omega
      obtain ⟨hk, hb, hlow⟩ := ctz_facts hz hr
      have hst := bitsL_step hz hr
      have hL1 := least_any r hr wr (hT pre wr hJ)
      have hclt := clr_lt hk hb
      generalize hkd : Lib.ctz 64 r = k at hk hb hlow hst hL1 hclt
      have HK := Lib.hid hkd
      have HN := Lib.hid (show bitsL s = (pre ++ [(k : Int)]) ++ bitsL (clr r k) by rw [hsp, hst]; simp)
      obtain ⟨fn, tmps, assign, body, hy, hR⟩ := hY pre (k : Int) (bitsL (clr r k)) wr (by rw [hsp, hst]) hJ
      have HC := Lib.hid hclt
      have HR := Lib.hid (Nat.lt_of_lt_of_le hclt (Nat.le_of_lt hr))
      clear hsp hst hb hlow hkd hclt
      gi_wp2
      refine ⟨trivial, (fun h => by cases h), (callsIn_wide.2 hL1).mono ?_⟩
      rintro e w' ⟨rfl, rfl⟩
      clear hL1
      gi_wp2
      refine ⟨(fun h => by cases h), hR.mono ?_⟩
      rintro e w' (⟨rfl, hJ2⟩ | ⟨rfl, hJx⟩)
      rotate_left
      · clear hR hy
        gi_wp2
        go_end0
        exact ⟨⟨_, rfl⟩, .inr ⟨_, hJx⟩⟩
      clear hR hy
      have hL2 := least_any r hr w' (hT _ w' hJ2)
      have hW2 := without_any r k hr hk w'
      rw [HK.out] at hL2
      gi_wp2
      refine ⟨trivial, (fun h => by cases h), (callsIn_wide.2 hL2).mono ?_⟩
      rintro e w'' ⟨rfl, rfl⟩
      clear hL2
      gi_wp2
      refine ⟨trivial, (fun h => by cases h), (callsIn_wide.2 hW2).mono ?_⟩
      rintro e w'' ⟨rfl, rfl⟩
      clear hW2
      gi_wp2
      go_roundw
      case rel => exact ⟨clr r k, pre ++ [(k : Int)], rfl, HR.out, HN.out, hJ2⟩
      case measure => have := HC.out; simp [intOf]; omega
/-- What an iterator with a bound receiver promises that may be told to stop. -/
def HandsS (P : Program) (n gf : Nat) (sv : Value) (xs : List Int) (T : World → Prop) : Prop :=
  ∀ (l : Nat) (J Jx : List Int → World → Prop) (W : World), (∀ pre w, J pre w → T w) →
    (∀ (pre : List Int) (x : Int) (rest : List Int) (w : World), xs = pre ++ x :: rest → J pre w → YieldAt Fence.wide (n - 1) P l #[.int .i64 x] w fun e w' => (e = .returned (.bool true) ∧ J (pre ++ [x]) w') ∨ (e = .returned (.bool false) ∧ Jx (pre ++ [x]) w')) →
    J [] W → CallsIn Fence.wide n P gf #[sv, .func (.yield l) #[] #[]] W fun e w' => (∃ v, e = .returned v) ∧ (J xs w' ∨ ∃ pre, Jx pre w')

theorem each_handsS (n s : Nat) (hs : s < 18446744073709551616) : HandsS Tryd.prog n 45 (.int .u64 (s : Int)) (bitsL s) Tab64 :=
  fun l J Jx W hT hY h0 => each_inS n l s hs J Jx W hT hY h0

theorem wpIn_handsS {P : Program} {n : Nat} {g : Operand} {p : Tmp} {assign body : Code} {Q : Exit → Act → World → Prop} {a : Act} {w : World} {gf : Nat} {sv : Value}
    (hg : a.eval g = .func (.func gf) #[sv] #[]) (eg : ∀ args w, (callFunc gf args).run P w = .ok (.enter gf args) w)
    {xs : List Int} {T : World → Prop} (hit : HandsS P (n - 1) gf sv xs T)
    (I : List Int → World → Prop) (Ix : Code → List Int → World → Prop) (hT : ∀ pre w, I pre w → T w) (hI : OwnFrom w.heap.size I) (hIx : ∀ c, OwnFrom w.heap.size (Ix c)) (h0 : I [] w) (a₁ : Int → Act)
    (hassign : ∀ (l : Nat) (x : Int) (W : World) (K : Act → World → Prop), K (a₁ x) W →
      assign.wpIn (Fence.wide.inRound l) (n - 1 - 1) P (Exit.then K (fun _ _ _ => False)) { tmps := ((#[p] : Array Tmp).zip #[Value.int .i64 x]).foldl (fun t (p, v) => t.setIfInBounds p v) a.tmps, defers := [] } W)
    (hbody : ∀ (l : Nat) (pre : List Int) (x : Int) (rest : List Int) (W : World), w.heap.size ≤ l → xs = pre ++ x :: rest → I pre W →
      body.wpIn (Fence.wide.inRound l) (n - 1 - 1) P (ownPostG w.heap.size (fun _ _ => True) I Ix (pre ++ [x]) W) (a₁ x) W)
    (hdone : ∀ (D : Nat) (W : World), w.heap.size ≤ D → I xs W → W.heap[D]? = some (.deferred (some [])) → Q .normal { a with defers := { target := .collected D, args := #[] } :: a.defers } W)
    (hstop : ∀ (D : Nat) (c : Code) (pre : List Int) (W : World), w.heap.size ≤ D → Ix c pre W → W.heap[D]? = some (.deferred (some [])) → c.wpIn Fence.wide n P Q { a with defers := { target := .collected D, args := #[] } :: a.defers } W) :
    (Code.rangeFunc g #[p] assign body).wpIn Fence.wide n P Q a w := by
  refine wpIn_rangeFunc ?_
  intro fn _
  obtain ⟨rec, hrec⟩ : ∃ rec : LoopState → Option Code → Loop, rec = fun st pe => { state := st, pending := pe, fn, tmps := a.tmps, params := #[p], assign, body, defers := w.heap.size } := ⟨_, rfl⟩
  obtain ⟨W1, hW1⟩ : ∃ W1, W1 = (w.alloc (.deferred (some []))).alloc (.loop (rec .ready none)) := ⟨_, rfl⟩
  have hL1 : W1.heap[w.heap.size + 1]? = some (.loop (rec .ready none)) := by
    rw [hW1]
    have h := World.alloc_heap_new (w.alloc (.deferred (some []))) (.loop (rec .ready none))
    rw [World.size_alloc] at h
    exact h
  have hK1 : W1.heap[w.heap.size]? = some (.deferred (some [])) := by
    rw [hW1]
    exact (Below.heap_alloc _ _ _ (by simp)).trans (World.alloc_heap_new w _)
  have hI1 : I [] W1 := by rw [hW1]; exact hI.alloc _ (hI.alloc _ h0)
  refine ⟨w.heap.size + 1, [{ target := .collected w.heap.size, args := #[] }], W1, { target := .fn (.func gf) #[], args := #[sv, .func (.yield (w.heap.size + 1)) #[] #[]] }, W1, gf,
    #[sv, .func (.yield (w.heap.size + 1)) #[] #[]], W1, ?_, ?_, fun _ _ => trivial, ?_, (fun h => by cases h), ?_⟩
  · rw [hW1, hrec]; exact run_enterLoop_outer fn a.tmps #[p] assign body
  · simp only [resolve, hg]
    simp [go_sem]
  · simp [invoke, go_sem, eg]
  · refine (hit (w.heap.size + 1) (fun pre W => I pre W ∧ W.heap[w.heap.size + 1]? = some (.loop (rec .ready none)) ∧ W.heap[w.heap.size]? = some (.deferred (some [])))
      (fun pre W => ∃ c, Ix c pre W ∧ W.heap[w.heap.size + 1]? = some (.loop (rec .done (some c))) ∧ W.heap[w.heap.size]? = some (.deferred (some []))) W1
      (fun pre W h => hT pre W h.1) ?_ ⟨hI1, hL1, hK1⟩).mono ?_
    · rintro pre x rest W hsp ⟨hi, hl, hk⟩
      have hlt := (Array.getElem?_eq_some_iff.1 hl).1
      have hy := run_yield (P := P) (args := #[.int .i64 x]) hl (by rw [hrec]; rfl)
      have hbg := run_beginRound (P := P) hl (by rw [hrec])
      obtain ⟨busy, hbusy⟩ : ∃ busy : Loop, busy = { rec .ready none with state := .busy } := ⟨_, rfl⟩
      rw [← hbusy] at hbg
      have hl2 : (W.putObj (w.heap.size + 1) (.loop busy)).heap[w.heap.size + 1]? = some (.loop busy) := World.putObj_heap_same hlt
      have hk2 : (W.putObj (w.heap.size + 1) (.loop busy)).heap[w.heap.size]? = some (.deferred (some [])) := (World.putObj_heap_other (by omega)).trans hk
      rw [hrec] at hy
      refine ⟨fn, _, assign, body, hy, roundIn_of_wpIn trivial (hassign _ x W _ ⟨_, hbg, ?_⟩)⟩
      refine wpIn_mono (hbody (w.heap.size + 1) pre x rest _ (by omega) hsp (hI.putObj _ hi (by omega) hl rfl)) ?_
      have fin : ∀ (jump : Option Code) (W3 : World), KeepsFrom w.heap.size (W.putObj (w.heap.size + 1) (.loop busy)) W3 →
          (Instr.endRound (w.heap.size + 1) jump).run P W3 = .ok (.bool jump.isNone) (W3.putObj (w.heap.size + 1) (.loop (rec (if jump.isNone then .ready else .done) jump))) ∧
          W3.heap[w.heap.size + 1]? = some (.loop busy) ∧
          (W3.putObj (w.heap.size + 1) (.loop (rec (if jump.isNone then .ready else .done) jump))).heap[w.heap.size + 1]? = some (.loop (rec (if jump.isNone then .ready else .done) jump)) ∧
          (W3.putObj (w.heap.size + 1) (.loop (rec (if jump.isNone then .ready else .done) jump))).heap[w.heap.size]? = some (.deferred (some [])) := fun jump W3 hk3 => by
        have hl3 := hk3.same _ _ (by omega) hl2 rfl
        have hend := run_endRound (P := P) jump hl3
        have hre : ({ busy with state := if jump.isNone then .ready else .done, pending := jump } : Loop) = rec (if jump.isNone then .ready else .done) jump := by rw [hbusy, hrec]
        rw [hre] at hend
        exact ⟨hend, hl3, World.putObj_heap_same (Array.getElem?_eq_some_iff.1 hl3).1, (World.putObj_heap_other (by omega)).trans (hk3.same _ _ (Nat.le_refl _) hk2 rfl)⟩
      intro e a3 W3 hp
      cases e with
      | normal =>
        obtain ⟨hk3, _, hi3⟩ := hp
        obtain ⟨hr, hl3, hl4, hk4⟩ := fin none W3 hk3
        exact ⟨_, _, hr, .inl ⟨rfl, hI.putObj _ hi3 (by omega) hl3 rfl, hl4, hk4⟩⟩
      | ret =>
        obtain ⟨hk3, hi3⟩ := hp
        obtain ⟨hr, hl3, hl4, hk4⟩ := fin (some .ret) W3 hk3
        exact ⟨_, _, hr, .inr ⟨rfl, .ret, (hIx _).putObj _ hi3 (by omega) hl3 rfl, hl4, hk4⟩⟩
      | exit id =>
        obtain ⟨hk3, hi3⟩ := hp
        obtain ⟨hr, hl3, hl4, hk4⟩ := fin (some (.exit id)) W3 hk3
        exact ⟨_, _, hr, .inr ⟨rfl, .exit id, (hIx _).putObj _ hi3 (by omega) hl3 rfl, hl4, hk4⟩⟩
      | goto t =>
        obtain ⟨hk3, hi3⟩ := hp
        obtain ⟨hr, hl3, hl4, hk4⟩ := fin (some (.goto t)) W3 hk3
        exact ⟨_, _, hr, .inr ⟨rfl, .goto t, (hIx _).putObj _ hi3 (by omega) hl3 rfl, hl4, hk4⟩⟩
      | panic ch => exact hp.elim
      | outgrown => exact hp.elim
    · rintro e W2 ⟨⟨v, rfl⟩, (⟨hi, hl, hk⟩ | ⟨pre, c, hi, hl, hk⟩)⟩
      · have hend := run_endLoop (P := P) hl (by rw [hrec]; simp)
        exact ⟨none, _, by rw [hrec] at hend; exact hend, hdone _ _ (Nat.le_refl _) (hI.putObj _ hi (by omega) hl rfl) ((World.putObj_heap_other (by omega)).trans hk)⟩
      · have hend := run_endLoop (P := P) hl (by rw [hrec]; simp)
        exact ⟨some c, _, by rw [hrec] at hend; exact hend, hstop _ c pre _ (Nat.le_refl _) ((hIx c).putObj _ hi (by omega) hl rfl) ((World.putObj_heap_other (by omega)).trans hk)⟩
end Go.Proofs.YtcfibfbenccimaaDoor

namespace Go.Proofs.YtcfibfbenccimaaDoor
open Go.RowKit Go.Shelf
attribute [local go_sem] Oper.semAt_some

theorem wpIn_handsSQ {P : Program} {n : Nat} {g : Operand} {p q : Tmp} {assign body : Code} {Q : Exit → Act → World → Prop} {a : Act} {w : World} {gf : Nat} {sv : Value}
    (hg : a.eval g = .func (.func gf) #[sv] #[]) (eg : ∀ args w, (callFunc gf args).run P w = .ok (.enter gf args) w)
    {xs : List Int} {T : World → Prop} (hit : HandsS P (n - 1) gf sv xs T)
    (I : List Int → World → Prop) (Ix : Code → List Int → World → Prop) (hT : ∀ pre w, I pre w → T w) (hI : OwnFrom w.heap.size I) (hIx : ∀ c, OwnFrom w.heap.size (Ix c)) (h0 : I [] w)
    (hassign : ∀ (l : Nat) (x : Int) (W : World) (K : Act → World → Prop), K { tmps := (a.tmps.setIfInBounds p (.int .i64 x)).setIfInBounds q (.int .i64 x), defers := [] } W →
      assign.wpIn (Fence.wide.inRound l) (n - 1 - 1) P (Exit.then K (fun _ _ _ => False)) { tmps := ((#[p] : Array Tmp).zip #[Value.int .i64 x]).foldl (fun t (p, v) => t.setIfInBounds p v) a.tmps, defers := [] } W)
    (hbody : ∀ (l : Nat) (pre : List Int) (x : Int) (rest : List Int) (W : World), w.heap.size ≤ l → xs = pre ++ x :: rest → I pre W →
      body.wpIn (Fence.wide.inRound l) (n - 1 - 1) P (ownPostG w.heap.size (fun _ _ => True) I Ix (pre ++ [x]) W) { tmps := (a.tmps.setIfInBounds p (.int .i64 x)).setIfInBounds q (.int .i64 x), defers := [] } W)
    (hdone : ∀ (D : Nat) (W : World), w.heap.size ≤ D → I xs W → W.heap[D]? = some (.deferred (some [])) → Q .normal { a with defers := { target := .collected D, args := #[] } :: a.defers } W)
    (hstop : ∀ (D : Nat) (c : Code) (pre : List Int) (W : World), w.heap.size ≤ D → Ix c pre W → W.heap[D]? = some (.deferred (some [])) → c.wpIn Fence.wide n P Q { a with defers := { target := .collected D, args := #[] } :: a.defers } W) :
    (Code.rangeFunc g #[p] assign body).wpIn Fence.wide n P Q a w :=
  wpIn_handsS hg eg hit I Ix hT hI hIx h0 (fun x => { tmps := (a.tmps.setIfInBounds p (.int .i64 x)).setIfInBounds q (.int .i64 x), defers := [] }) hassign hbody hdone hstop
theorem results_cell_one {P : Program} {fn : Func} {p : Tmp} {ty : TypeId} (h : fn.results = #[.cell p ty]) (tmps : Array Value) (w : World) (a : Addr) (v : Value)
    (hp : tmps.getD p undef = .pointer (some a)) (hl : (loadVar ty a).run P w = .ok v w) : (results fn tmps).run P w = .ok v w := by
  have hp' : tmps[p]?.getD undef = .pointer (some a) := by simpa using hp
  simp [results, h, hp', asAddr, hl]

/-- No cell of a set is near to another one, by the ground's words. -/
def freeB (G : List Nat) (s : Nat) : Bool := (bitsL s).all fun x => (G.getD (1 + x.toNat) 0 &&& s) == 0

theorem load_bool {W : World} {p : Addr} {b : Bool} (h : W.cell? p = some (.bool b)) : (loadVar 4 p).run Tryd.prog W = .ok (.bool b) W := by
  have ha := Tryd.isAgg4
  simp [loadVar, Sem.run_bind, ha, go_sem, h]

def StopF (G : List Nat) (s : Nat) (c : Code) (_ : List Int) : Prop := c = .ret ∧ freeB G s = false
/-- One block in the midst of a range: what it holds, and a word on the cells that were handed over. -/
def MidC {α : Type} (W3 : World) (g : Nat) (t : TypeId) (C : α → Array Value) (p : α → Prop) (x : α) (W' : World) : Prop :=
  W3.grownBy W' (some g) ∧ W'.heap[g]? = some (.cells (C x) t (0, 0)) ∧ p x
theorem midC_own {α : Type} {W3 : World} {g : Nat} {t : TypeId} {C : α → Array Value} {p : α → Prop} (hg : g < W3.heap.size) : OwnFrom W3.heap.size (MidC W3 g t C p) := by
  intro s W W' row hs hgr hr
  have hne : some g ≠ row := fun e => by have := (hr g e.symm).1; omega
  refine ⟨⟨hgr.os.trans hs.1.os, hgr.tape.trans hs.1.tape, hgr.output.trans hs.1.output, Nat.le_trans hs.1.size hgr.size, fun k hk hkg => ?_⟩, ?_, hs.2.2⟩
  · refine (hgr.block k (Nat.lt_of_lt_of_le hk hs.1.size) (fun e => ?_)).trans (hs.1.block k hk hkg)
    have := (hr k e.symm).1
    omega
  · exact (hgr.block g (Array.getElem?_eq_some_iff.1 hs.2.1).1 hne).trans hs.2.1

set_option maxRecDepth 100000 in
set_option maxHeartbeats 1000000 in
theorem isFree_any (G : List Nat) (hG : G.length = 65) (hGb : ∀ x ∈ G, x < 18446744073709551616) (s : Nat) (hs : s < 18446744073709551616) (w : World) (hT : Tab64 w) (hgb : 0 < w.heap.size) :
    Calls Tryd.prog 34 #[.agg (words G).toArray, .int .u64 (s : Int)] w fun e w' => e = .returned (.bool (freeB G s)) ∧ Below w.heap.size w w' := by
  refine (callsIn_wide (n := 9)).1 ?_
  refine callsIn_of_wp_marks Tryd.func34 rfl trivial ?_ rfl
  simp only [Tryd.ntmps34, List.size_toArray, List.length_cons, List.length_nil, Nat.reduceAdd, Nat.reduceSub, Array.replicate_succ, Array.replicate_zero, List.push_toArray, List.append_toArray, List.nil_append, List.cons_append]
  have HT := Lib.hid hT
  have HGB := Lib.hid hGb
  obtain ⟨W3, hW3⟩ : ∃ W3, W3 = ((w.alloc (.cells (words G).toArray 62)).alloc (.cells #[.int .u64 (s : Int)] 50)).alloc (.cells #[.bool false] 4) := ⟨_, rfl⟩
  have hs3 : W3.heap.size = w.heap.size + 3 := by rw [hW3]; simp
  have hb3 : Below w.heap.size w W3 := by rw [hW3]; exact ((below_new (Below.refl _ _) _).alloc (by simp) _).alloc (by simp; omega) _
  have hg3 : W3.heap[w.heap.size]? = some (.cells (words G).toArray 62 (0, 0)) := by
    rw [hW3, Below.heap_alloc _ _ _ (by simp; omega), Below.heap_alloc _ _ _ (by simp)]; exact World.alloc_heap_new _ _
  have hc3 : W3.heap[w.heap.size + 1]? = some (.cells #[.int .u64 (s : Int)] 50 (0, 0)) := by
    have h := World.alloc_heap_new (w.alloc (.cells (words G).toArray 62)) (.cells #[.int .u64 (s : Int)] 50)
    rw [hW3, Below.heap_alloc _ _ _ (by simp)]; rw [World.size_alloc] at h; exact h
  have hr3 : W3.heap[w.heap.size + 1 + 1]? = some (.cells #[.bool false] 4 (0, 0)) := by
    have h := World.alloc_heap_new ((w.alloc (.cells (words G).toArray 62)).alloc (.cells #[.int .u64 (s : Int)] 50)) (.cells #[.bool false] 4)
    rw [hW3]; rw [World.size_alloc, World.size_alloc] at h; exact h
  clear hT hGb
  gi_wp2
  rw [← hW3]
  clear hW3
  have hit := each_handsS (9 - 1) s hs
  refine wpIn_handsSQ (q := 5) rfl (fun args w => by simp [go_sem]) hit (MidC W3 (w.heap.size + 1 + 1) 4 (fun _ => #[.bool false]) (fun pre => ∀ x ∈ pre, (G.getD (1 + x.toNat) 0 &&& s) = 0))
    (fun c => MidC W3 (w.heap.size + 1 + 1) 4 (fun _ => #[.bool false]) (StopF G s c)) (fun pre w' h => HT.out.keep hgb (hb3.grown h.1 hb3.size (fun k e => by cases e; omega)))
    (midC_own (by omega)) (fun c => midC_own (by omega)) ⟨World.grownBy.refl _ _, hr3, by simp⟩ ?_ ?_ ?_ ?_
  · intro l x W' K hK
    gi_wp2
    exact hK
  · rintro l pre x rest W' hl hsp ⟨hgw, hrw, hpre⟩
    have hx : x ∈ bitsL s := by rw [hsp]; simp
    obtain ⟨hx0, hx1, -⟩ := bitsL_mem.1 hx
    have h0x : 0 ≤ x := hx0
    have h1x : x < 64 := hx1
    obtain ⟨y, hy⟩ : ∃ y, y = G.getD (1 + x.toNat) 0 := ⟨_, rfl⟩
    have hyg : G[1 + x.toNat]? = some y := by rw [hy, List.getD_eq_getElem?_getD, List.getElem?_eq_getElem (by omega)]; rfl
    have hy9 : y < 18446744073709551616 := HGB.out y (List.mem_of_getElem? hyg)
    have HY := Lib.hid hy
    have HSP := Lib.hid hsp
    have hcell : W'.cell? ⟨w.heap.size, 1 + x.toNat, none⟩ = some (.int .u64 (y : Int)) := by
      rw [cell_of_row _ _ _ _ _ _ ((hgw.block w.heap.size (by omega) (by simp; omega)).trans hg3), List.getElem?_toArray, words, List.getElem?_map, hyg]; rfl
    have hsc : W'.cell? ⟨w.heap.size + 1, 0, none⟩ = some (.int .u64 (s : Int)) := by
      rw [cell_of_row _ _ _ _ _ _ ((hgw.block (w.heap.size + 1) (by omega) (by simp)).trans hc3)]; rfl
    have hrc : W'.cell? ⟨w.heap.size + 1 + 1, 0, none⟩ = some (.bool false) := by rw [cell_of_row _ _ _ _ _ _ hrw]; rfl
    have hrf : W'.frozen? ⟨w.heap.size + 1 + 1, 0, none⟩ = false := frozen_of_row _ _ _ _ _ hrw
    have hand := and_nat y s (y : Int) hy9 hs rfl
    have HGW := Lib.hid hgw
    have HRW := Lib.hid hrw
    have HPRE := Lib.hid hpre
    clear hy hgw hrw hpre hsp hx hit hyg hx0 hx1
    by_cases hz : y &&& s = 0
    · have hz0 : (((y &&& s : Nat) : Int) != 0) = false := by rw [hz]; rfl
      have HZ := Lib.hid hz
      clear hz
      have hgo : KeepsFrom W3.heap.size W' W'.drew ∧ True ∧ MidC W3 (w.heap.size + 1 + 1) 4 (fun _ => #[.bool false]) (fun pre => ∀ x ∈ pre, (G.getD (1 + x.toNat) 0 &&& s) = 0) (pre ++ [x]) W'.drew := by
        refine ⟨KeepsFrom.of_grownBy (row := none) ⟨rfl, rfl, rfl, Nat.le_refl _, fun _ _ _ => rfl⟩ (fun j e => by cases e), trivial, ⟨HGW.out.os, HGW.out.tape, HGW.out.output, HGW.out.size, HGW.out.block⟩, HRW.out, ?_⟩
        intro z hz
        rcases List.mem_append.1 hz with h | h
        · exact HPRE.out z h
        · simp at h; subst h; rw [← HY.out]; exact HZ.out
      gi_wp2
      gi_region
      all_goals gi_wp2
      all_goals exact hgo
    · have hz0 : (((y &&& s : Nat) : Int) != 0) = true := by simp; omega
      have HZ := Lib.hid hz
      clear hz
      have hfr : freeB G s = false := by
        rw [freeB, Bool.eq_false_iff]
        intro h
        have := List.all_eq_true.1 h x (by rw [HSP.out]; simp)
        rw [← HY.out] at this
        simp at this
        exact HZ.out this
      have hgs := grown_set W' (w.heap.size + 1 + 1) 0 (.bool false)
      have hgo : KeepsFrom W3.heap.size W' (W'.setCell ⟨w.heap.size + 1 + 1, 0, none⟩ (.bool false)).drew ∧ MidC W3 (w.heap.size + 1 + 1) 4 (fun _ => #[.bool false]) (StopF G s .ret) (pre ++ [x]) (W'.setCell ⟨w.heap.size + 1 + 1, 0, none⟩ (.bool false)).drew := by
        refine ⟨KeepsFrom.of_grownBy (row := some (w.heap.size + 1 + 1)) ⟨hgs.os, hgs.tape, hgs.output, hgs.size, hgs.block⟩ (fun j e => by cases e; omega), grown_next (b := W') ⟨HGW.out.os, HGW.out.tape, HGW.out.output, HGW.out.size, HGW.out.block⟩ ⟨hgs.os, hgs.tape, hgs.output, hgs.size, hgs.block⟩, ?_, rfl, hfr⟩
        have h := heap_set (W := W') (j := 0) (.bool false) HRW.out
        change (W'.setCell ⟨w.heap.size + 1 + 1, 0, none⟩ (.bool false)).heap[w.heap.size + 1 + 1]? = _
        simpa using h
      have HGO := Lib.hid hgo
      clear hgs hfr hgo
      gi_wp2
      gi_region
      all_goals gi_wp2
      all_goals exact HGO.out
  · rintro D W' hD ⟨hgw, hrw, hpre⟩ hd
    have hfr : freeB G s = true := by
      rw [freeB, List.all_eq_true]
      intro x hx
      rw [hpre x hx]; rfl
    have hrc : W'.cell? ⟨w.heap.size + 1 + 1, 0, none⟩ = some (.bool false) := by rw [cell_of_row _ _ _ _ _ _ hrw]; rfl
    have hrf : W'.frozen? ⟨w.heap.size + 1 + 1, 0, none⟩ = false := frozen_of_row _ _ _ _ _ hrw
    have hbw : Below w.heap.size w W' := hb3.grown hgw hb3.size (fun k e => by cases e; omega)
    have hgs := grown_set W' (w.heap.size + 1 + 1) 0 (.bool true)
    have hh2 := heap_set (W := W') (j := 0) (.bool true) hrw
    have hd2 := (hgs.block D (Array.getElem?_eq_some_iff.1 hd).1 (by simp; omega)).trans hd
    have hb4 : Below w.heap.size w (W'.setCell ⟨w.heap.size + 1 + 1, 0, none⟩ (.bool true)) := hbw.grown hgs hbw.size (fun k e => by cases e; omega)
    have HH := Lib.hid hh2
    clear hit hgs hh2 hgw hpre
    gi_wp2
    generalize W'.setCell ⟨w.heap.size + 1 + 1, 0, none⟩ (.bool true) = W4 at *
    refine ⟨by simp, .inl ⟨_, _, rfl, run_takeDeferred hd2, ?_⟩⟩
    have hne : w.heap.size + 1 + 1 ≠ D := by omega
    refine ⟨_, results_cell_one rfl _ _ _ (.bool true) rfl ?_, rfl, hb4.grown (grownBy_putObj' W4 D _) hb4.size (fun k e => by cases e; omega)⟩
    have hc : (W4.putObj D (.deferred none)).cell? ⟨w.heap.size + 1 + 1, 0, none⟩ = some (.bool true) := by
      rw [cell_of_row _ _ _ _ _ _ ((World.putObj_heap_other hne).trans HH.out)]; rfl
    exact load_bool hc
  · rintro D cd pre W' hD ⟨hgw, hrw, rfl, hfr⟩ hd
    have hbw : Below w.heap.size w W' := hb3.grown hgw hb3.size (fun k e => by cases e; omega)
    have HH := Lib.hid hrw
    have HF := Lib.hid hfr
    clear hit hgw hrw hfr
    gi_wp2
    refine ⟨by simp, .inl ⟨_, _, rfl, run_takeDeferred hd, ?_⟩⟩
    have hne : w.heap.size + 1 + 1 ≠ D := by omega
    have hc : (W'.putObj D (.deferred none)).cell? ⟨w.heap.size + 1 + 1, 0, none⟩ = some (.bool false) := by
      rw [cell_of_row _ _ _ _ _ _ ((World.putObj_heap_other hne).trans HH.out)]; rfl
    exact ⟨_, results_cell_one rfl _ _ _ (.bool false) rfl (load_bool hc), by rw [HF.out], hbw.grown (grownBy_putObj' W' D _) hbw.size (fun k e => by cases e; omega)⟩
end Go.Proofs.YtcfibfbenccimaaDoor

namespace Go.Proofs.YtcfibfbenccimaaDoor
open Go.RowKit Go.Shelf
attribute [local go_sem] Oper.semAt_some

/-- The cells that are guarded from one, by the ground's words. -/
def grdC (G : List Nat) (x : Int) : Nat := G.getD (1 + x.toNat) 0 ||| 2 ^ x.toNat
/-- The cells that are guarded from some. -/
def grdL (G : List Nat) (l : List Int) : Nat := l.foldl (fun acc x => acc ||| grdC G x) 0
theorem grdL_snoc (G : List Nat) (l : List Int) (x : Int) : grdL G (l ++ [x]) = grdL G l ||| grdC G x := by simp [grdL, List.foldl_append]
theorem or_lt64 {a b : Nat} (ha : a < 18446744073709551616) (hb : b < 18446744073709551616) : a ||| b < 18446744073709551616 := Nat.or_lt_two_pow (n := 64) ha hb
theorem getD_lt {G : List Nat} (hGb : ∀ x ∈ G, x < 18446744073709551616) (i : Nat) : G.getD i 0 < 18446744073709551616 := by
  rw [List.getD_eq_getElem?_getD]
  cases h : G[i]? with
  | none => decide
  | some y => exact hGb y (List.mem_of_getElem? h)
theorem grdC_lt {G : List Nat} (hGb : ∀ x ∈ G, x < 18446744073709551616) {x : Int} (h0 : 0 ≤ x) (h1 : x < 64) : grdC G x < 18446744073709551616 :=
  or_lt64 (getD_lt hGb _) (Nat.lt_of_lt_of_le (Nat.pow_lt_pow_right (by decide) (by omega : x.toNat < 64)) (by decide))
theorem grdL_lt' {G : List Nat} (hGb : ∀ x ∈ G, x < 18446744073709551616) : ∀ (l : List Int) (acc : Nat), acc < 18446744073709551616 → (∀ x ∈ l, 0 ≤ x ∧ x < 64) → l.foldl (fun acc x => acc ||| grdC G x) acc < 18446744073709551616
  | [], _, h, _ => h
  | x :: l, acc, ha, h => grdL_lt' hGb l _ (or_lt64 ha (grdC_lt hGb (h x (by simp)).1 (h x (by simp)).2)) (fun y hy => h y (by simp [hy]))
theorem grdL_lt {G : List Nat} (hGb : ∀ x ∈ G, x < 18446744073709551616) (l : List Int) (h : ∀ x ∈ l, 0 ≤ x ∧ x < 64) : grdL G l < 18446744073709551616 := grdL_lt' hGb l 0 (by decide) h
theorem grdL_bit' {G : List Nat} {i : Nat} : ∀ (l : List Int) (acc : Nat), (l.foldl (fun acc x => acc ||| grdC G x) acc).testBit i = true ↔ acc.testBit i = true ∨ ∃ x ∈ l, (grdC G x).testBit i = true
  | [], acc => by simp
  | x :: l, acc => by
    rw [List.foldl_cons, grdL_bit' l, Nat.testBit_or, Bool.or_eq_true]
    constructor
    · rintro ((h | h) | ⟨y, hy, h⟩)
      · exact .inl h
      · exact .inr ⟨x, by simp, h⟩
      · exact .inr ⟨y, by simp [hy], h⟩
    · rintro (h | ⟨y, hy, h⟩)
      · exact .inl (.inl h)
      · rcases List.mem_cons.1 hy with rfl | hy
        · exact .inl (.inr h)
        · exact .inr ⟨y, hy, h⟩
theorem grdL_bit {G : List Nat} {i : Nat} (l : List Int) : (grdL G l).testBit i = true ↔ ∃ x ∈ l, (grdC G x).testBit i = true := by
  rw [grdL, grdL_bit']
  simp
theorem grdC_bit {G : List Nat} {x : Int} {i : Nat} : (grdC G x).testBit i = true ↔ (G.getD (1 + x.toNat) 0).testBit i = true ∨ x.toNat = i := by
  rw [grdC, Nat.testBit_or, Bool.or_eq_true, Nat.testBit_two_pow, decide_eq_true_eq]

end Go.Proofs.YtcfibfbenccimaaDoor

namespace Go.Proofs.YtcfibfbenccimaaDoor
open Go.RowKit Go.Shelf
attribute [local go_sem] Oper.semAt_some

theorem yields_load {P : Program} {ops : Array Oper} {S : World → Prop} {o : Oper} {a : Act} {v : Value} (ty : TypeId) (x : Operand) (p : Value) (ho : o.op = .load ty x) (hw : Region.wanted o (yielded ops a.tmps) = true)
    (hx : a.eval x = p) (hr : ∀ w, S w → (Instr.loadAt ty p).run P w = .ok v w) : YieldsIf P ops S o v a := by
  refine Or.inl ⟨hw, fun w hS => ?_⟩
  unfold execOp
  simp only [ho, hx, Sem.run_bind, hr w hS, Sem.run_pure, Result.andThen_ok]
set_option maxRecDepth 100000 in
theorem load_groundW {G : List Nat} (hG : G.length = 65) {w : World} {g : Nat} (h : w.heap[g]? = some (.cells (words G).toArray 62 (0, 0))) :
    (Instr.loadAt 62 (.pointer (some ⟨g, 0, none⟩))).run Tryd.prog w = .ok (.agg (words G).toArray) w :=
  run_loadAt_mid (P := Tryd.prog) w g 0 62 (words G) (.struct _) (fun j v hv => by rw [Nat.zero_add, cell_of_row _ _ _ _ _ _ h]; simpa using hv) rfl rfl (by rw [info_ground]; simp [words, hG])

end Go.Proofs.YtcfibfbenccimaaDoor

namespace Go.Proofs.YtcfibfbenccimaaDoor
open Go.RowKit

/-- Cells that are there, increasing, the first one greater than a number. -/
def setGo (W H : Int) (xs : List Int) : Int → List Int → Bool
  | _, [] => true
  | b, c :: t => decide (b < c) && hasB W H xs c && setGo W H xs c t
def setB (W H : Int) (xs ps : List Int) : Bool := setGo W H xs (-1) ps
theorem setGo_facts {W H : Int} {xs : List Int} : ∀ (ps : List Int) (b : Int), setGo W H xs b ps = true → (∀ x ∈ ps, b < x ∧ hasB W H xs x = true) ∧ ps.Pairwise (· < ·)
  | [], b, _ => ⟨(fun x h => by cases h), List.Pairwise.nil⟩
  | c :: t, b, h => by
    simp only [setGo, Bool.and_eq_true, decide_eq_true_eq] at h
    obtain ⟨h1, h2⟩ := setGo_facts t c h.2
    refine ⟨fun x hx => ?_, List.Pairwise.cons (fun x hx => (h1 x hx).1) h2⟩
    rcases List.mem_cons.1 hx with rfl | hx
    · exact h.1
    · exact ⟨by have := (h1 x hx).1; omega, (h1 x hx).2⟩
theorem setGo_len {W H : Int} {xs : List Int} (hN : W * H ≤ 64) : ∀ (ps : List Int) (b : Int), -1 ≤ b → setGo W H xs b ps = true → ps ≠ [] → (ps.length : Int) ≤ 63 - b
  | [], b, _, _, h => absurd rfl h
  | c :: t, b, hb, h, _ => by
    simp only [setGo, Bool.and_eq_true, decide_eq_true_eq] at h
    have hc := (hasB_iff.1 h.1.2).1
    rw [List.length_cons]
    by_cases ht : t = []
    · subst ht; simp; omega
    · have := setGo_len hN t c (by omega) h.2 ht
      omega
theorem setB_len {W H : Int} {xs ps : List Int} (hN : W * H ≤ 64) (h : setB W H xs ps = true) : ps.length ≤ 64 := by
  by_cases hp : ps = []
  · subst hp; simp
  · have := setGo_len hN ps (-1) (by omega) h hp; omega
theorem setGo_drop {W H : Int} {xs ps : List Int} {k : Nat} {x b : Int} (hx : ps[k]? = some x) : setGo W H xs b (ps.drop k) = (decide (b < x) && hasB W H xs x && setGo W H xs x (ps.drop (k + 1))) := by
  have hk : k < ps.length := (List.getElem?_eq_some_iff.1 hx).1
  rw [List.drop_eq_getElem_cons hk, (List.getElem?_eq_some_iff.1 hx).2]
  rfl
theorem setGo_nil {W H : Int} {xs ps : List Int} {k : Nat} {b : Int} (hk : ps.length ≤ k) : setGo W H xs b (ps.drop k) = true := by
  rw [List.drop_of_length_le hk]; rfl

set_option maxRecDepth 100000 in
set_option maxHeartbeats 1000000 in
theorem isSet_any (W H : Int) (A : Option Addr) (n c : Nat) (xs : List Int) (A2 : Option Addr) (m c2 : Nat) (ps : List Int) (w : World) (ha : Rd w A n xs) (hp : Rd w A2 m ps) (hg : goodB W H xs = true) :
    Calls Tryd.prog 50 #[brd W H A n c, .slice A2 m c2] w fun e w' => e = .returned (.bool (setB W H xs ps)) ∧ Below w.heap.size w w' := by
  have HG := Lib.hid hg
  have HPL := Lib.hid hp.1
  have m9 := hp.2.1
  go_enter Tryd.func50, Tryd.ntmps50
  obtain ⟨W1, hW1⟩ : ∃ W1, W1 = w.alloc (.cells #[.int .i64 W, .int .i64 H, .slice A n c] 28) := ⟨_, rfl⟩
  have B := Lib.hid (show Below w.heap.size w W1 by rw [hW1]; exact below_new (Below.refl _ _) _)
  have a0 : W1.cell? ⟨w.heap.size, 0, none⟩ = some (.int .i64 W) := by rw [hW1]; go_simp
  have a1 : W1.cell? ⟨w.heap.size, 1, none⟩ = some (.int .i64 H) := by rw [hW1]; go_simp
  have a2 : W1.cell? ⟨w.heap.size, 2, none⟩ = some (.slice A n c) := by rw [hW1]; go_simp
  have al : w.heap.size < W1.heap.size := by rw [hW1]; simp
  have R := Lib.hid (ha.keep B.out); have RP := Lib.hid (hp.keep B.out)
  have HA := Lib.hid (⟨a0, a1, a2⟩ : W1.cell? ⟨w.heap.size, 0, none⟩ = some (.int .i64 W) ∧ W1.cell? ⟨w.heap.size, 1, none⟩ = some (.int .i64 H) ∧ W1.cell? ⟨w.heap.size, 2, none⟩ = some (.slice A n c))
  clear a0 a1 a2 hg ha hp
  go_wp2
  rw [← hW1]
  clear hW1
  go_loopw [5, 10] (fun bv i wr => ∃ (k : Nat) (bf : Int), k ≤ m ∧ i = .int .i64 k ∧ bv = .int .i64 bf ∧ setB W H xs ps = setGo W H xs bf (ps.drop k) ∧ Below W1.heap.size W1 wr) (fun _ i _ => m - (intOf i).toNat)
  case atStart => exact ⟨0, -1, Nat.zero_le _, rfl, rfl, by rw [List.drop_zero]; rfl, Below.refl _ _⟩
  case round =>
    obtain ⟨k, bf, hk, rfl, rfl, hall, hbw⟩ := hrel
    by_cases hlt : k < m
    · obtain ⟨bb, oo, x, rfl, hg1, hx, x0⟩ := RP.out.at_ hlt
      rw [setGo_drop hx] at hall
      have HALL := Lib.hid hall
      replace x0 := cell_keep x0 hg1 hbw
      have a0 := cell_keep HA.out.1 al hbw; have a1 := cell_keep HA.out.2.1 al hbw; have a2 := cell_keep HA.out.2.2 al hbw
      have HB := Lib.hid hbw
      have RR := Lib.hid (R.out.keep hbw)
      clear hx hbw hall
      by_cases hbx : x ≤ bf
      · have HV := Lib.hid (show setB W H xs ps = false by rw [HALL.out]; simp; omega)
        go_wp2
        go_ret
        exact ⟨ret_bool HV.out.symm, B.out.trans (HB.out.mono B.out.size)⟩
      · have hbx2 : bf < x := by omega
        cases hs : hasB W H xs x with
        | true =>
          have HS := Lib.hid hs
          have HV := Lib.hid (show setB W H xs ps = setGo W H xs x (ps.drop (k + 1)) by rw [HALL.out, hs]; simp [hbx2])
          clear hs
          go_wp2_with fail
          refine (isThere_any W H A n c x xs _ RR.out HG.out).mono ?_
          rw [HS.out]
          rintro e wz ⟨rfl, hb⟩
          replace HB := Lib.hid (below_next HB.out hb)
          clear hb
          go_wp2
          go_roundw
          case rel => exact ⟨k + 1, x, by omega, by go_num, rfl, HV.out, HB.out⟩
          case measure => simp [intOf]; omega
        | false =>
          have HS := Lib.hid hs
          have HV := Lib.hid (show setB W H xs ps = false by rw [HALL.out, hs]; simp)
          clear hs
          go_wp2_with fail
          refine (isThere_any W H A n c x xs _ RR.out HG.out).mono ?_
          rw [HS.out]
          rintro e wz ⟨rfl, hb⟩
          replace HB := Lib.hid (below_next HB.out hb)
          clear hb
          go_wp2
          go_ret
          exact ⟨ret_bool HV.out.symm, B.out.trans (HB.out.mono B.out.size)⟩
    · have HV := Lib.hid (show setB W H xs ps = true by rw [hall]; exact setGo_nil (by have := HPL.out; omega))
      have HB := Lib.hid hbw
      clear hall hbw
      go_wp2
      go_ret
      exact ⟨ret_bool HV.out.symm, B.out.trans (HB.out.mono B.out.size)⟩

set_option maxRecDepth 100000 in
set_option maxHeartbeats 1000000 in
theorem guSet_any (W H : Int) (A : Option Addr) (n c : Nat) (xs : List Int) (A2 : Option Addr) (m c2 : Nat) (ps : List Int) (w : World) (ha : Rd w A n xs) (hp : Rd w A2 m ps) (hg : goodB W H xs = true) :
    Calls Tryd.prog 47 #[brd W H A n c, .slice A2 m c2] w fun e w' => e = .returned (.bool (setB W H xs ps)) ∧ Below w.heap.size w w' := by
  obtain ⟨hW, hH, _, _⟩ := goodB_iff.1 hg
  have HN := Lib.hid (cells_le hW hH)
  have HPL := Lib.hid hp.1
  have m9 := hp.2.1
  clear hW hH
  go_enter Tryd.func47, Tryd.ntmps47
  obtain ⟨W1, hW1⟩ : ∃ W1, W1 = w.alloc (.cells #[.int .i64 W, .int .i64 H, .slice A n c] 28) := ⟨_, rfl⟩
  have B := Lib.hid (show Below w.heap.size w W1 by rw [hW1]; exact below_new (Below.refl _ _) _)
  have a0 : W1.cell? ⟨w.heap.size, 0, none⟩ = some (.int .i64 W) := by rw [hW1]; go_simp
  have a1 : W1.cell? ⟨w.heap.size, 1, none⟩ = some (.int .i64 H) := by rw [hW1]; go_simp
  have a2 : W1.cell? ⟨w.heap.size, 2, none⟩ = some (.slice A n c) := by rw [hW1]; go_simp
  have al : w.heap.size < W1.heap.size := by rw [hW1]; simp
  have R := Lib.hid (ha.keep B.out); have RP := Lib.hid (hp.keep B.out)
  have HA := Lib.hid (⟨a0, a1, a2⟩ : W1.cell? ⟨w.heap.size, 0, none⟩ = some (.int .i64 W) ∧ W1.cell? ⟨w.heap.size, 1, none⟩ = some (.int .i64 H) ∧ W1.cell? ⟨w.heap.size, 2, none⟩ = some (.slice A n c))
  clear a0 a1 a2 hg ha hp
  by_cases hm : m ≤ 64
  rotate_left
  · have HV := Lib.hid (show setB W H xs ps = false by
      rw [Bool.eq_false_iff]; intro h
      have := setB_len HN.out.2 h; have := HPL.out; omega)
    go_wp2
    go_ret
    rw [← hW1]
    exact ⟨ret_bool HV.out.symm, B.out⟩
  go_wp2
  rw [← hW1]
  clear hW1
  go_loopw [12] (fun i wr => ∃ (k : Nat) (bf : Int), k ≤ m ∧ i = .int .i64 k ∧ (k = 0 ∧ bf = -1 ∨ 0 < k ∧ ps[k - 1]? = some bf) ∧ setB W H xs ps = setGo W H xs bf (ps.drop k) ∧ Below W1.heap.size W1 wr) (fun i _ => m - (intOf i).toNat)
  case atStart => exact ⟨0, -1, Nat.zero_le _, rfl, .inl ⟨rfl, rfl⟩, by rw [List.drop_zero]; rfl, Below.refl _ _⟩
  case round =>
    obtain ⟨k, bf, hk, rfl, hbf, hall, hbw⟩ := hrel
    by_cases hlt : k < m
    · obtain ⟨bb, oo, x, hAe, hg1, hx, x0⟩ := RP.out.at_ hlt
      rw [setGo_drop hx] at hall
      have HX := Lib.hid hx
      have HALL := Lib.hid hall
      replace x0 := cell_keep x0 hg1 hbw
      have a0 := cell_keep HA.out.1 al hbw; have a1 := cell_keep HA.out.2.1 al hbw; have a2 := cell_keep HA.out.2.2 al hbw
      have HB := Lib.hid hbw
      have RR := Lib.hid (R.out.keep hbw)
      have gb := lt_keep hg1 hbw
      cases hs : hasB W H xs x with
      | false =>
        have HS := Lib.hid hs
        have HV := Lib.hid (show setB W H xs ps = false by rw [HALL.out, hs]; simp)
        subst hAe
        clear hs hx hbw hall hbf
        go_wp2_with fail
        refine (boHas_any W H A n c x xs _ RR.out HN.out).mono ?_
        rw [HS.out]
        rintro e wz ⟨rfl, hb⟩
        replace HB := Lib.hid (below_next HB.out hb)
        clear hb
        go_wp2
        go_ret
        exact ⟨ret_bool HV.out.symm, B.out.trans (HB.out.mono B.out.size)⟩
      | true =>
        have HS := Lib.hid hs
        rcases hbf with ⟨rfl, rfl⟩ | ⟨hk0, hbf⟩
        · have hx0 := (hasB_iff.1 hs).1.1
          have HV := Lib.hid (show setB W H xs ps = setGo W H xs x (ps.drop (0 + 1)) by rw [HALL.out, hs]; simp; omega)
          subst hAe
          have x00 : wr.cell? ⟨bb, oo, none⟩ = some (.int .i64 x) := by simpa using x0
          clear hs hx hbw hall x0
          go_wp2_with fail
          refine (boHas_any W H A n c x xs _ RR.out HN.out).mono ?_
          rw [HS.out]
          rintro e wz ⟨rfl, hb⟩
          replace HB := Lib.hid (below_next HB.out hb)
          clear hb
          go_wp2
          go_roundw
          case rel => exact ⟨1, x, by omega, by go_num, .inr ⟨by omega, HX.out⟩, HV.out, HB.out⟩
          case measure => simp [intOf]; omega
        · obtain ⟨bb2, oo2, y, hAe2, hg2, hy, y0⟩ := RP.out.at_ (show k - 1 < m by omega)
          obtain rfl : bf = y := Option.some.inj (hbf.symm.trans hy)
          subst hAe
          cases hAe2
          replace y0 := cell_keep y0 hg2 hbw
          obtain ⟨j, rfl⟩ : ∃ j, k = j + 1 := ⟨k - 1, by omega⟩
          rw [show j + 1 - 1 = j by omega] at y0
          have hj1 : ((j + 1 : Nat) : Int) - 1 = (j : Int) := by omega
          clear hs hx hbw hall hy hbf hg2
          by_cases hbx : x ≤ bf
          · have HV := Lib.hid (show setB W H xs ps = false by rw [HALL.out]; simp; omega)
            go_wp2_with fail
            refine (boHas_any W H A n c x xs _ RR.out HN.out).mono ?_
            rw [HS.out]
            rintro e wz ⟨rfl, hb⟩
            replace HB := Lib.hid (below_next HB.out hb)
            replace y0 := cell_keep y0 gb hb
            clear hb
            go_wp2
            go_ret
            exact ⟨ret_bool HV.out.symm, B.out.trans (HB.out.mono B.out.size)⟩
          · have hbx2 : bf < x := by omega
            have HV := Lib.hid (show setB W H xs ps = setGo W H xs x (ps.drop (j + 1 + 1)) by rw [HALL.out, HS.out]; simp [hbx2])
            go_wp2_with fail
            refine (boHas_any W H A n c x xs _ RR.out HN.out).mono ?_
            rw [HS.out]
            rintro e wz ⟨rfl, hb⟩
            replace HB := Lib.hid (below_next HB.out hb)
            replace y0 := cell_keep y0 gb hb
            clear hb
            go_wp2
            go_roundw
            case rel => exact ⟨j + 1 + 1, x, by omega, by go_num, .inr ⟨by omega, HX.out⟩, HV.out, HB.out⟩
            case measure => simp [intOf]; omega
    · have HV := Lib.hid (show setB W H xs ps = true by rw [hall]; exact setGo_nil (by have := HPL.out; omega))
      have HB := Lib.hid hbw
      clear hall hbw hbf
      go_wp2
      go_ret
      exact ⟨ret_bool HV.out.symm, B.out.trans (HB.out.mono B.out.size)⟩
end Go.Proofs.YtcfibfbenccimaaDoor

namespace Go.Proofs.YtcfibfbenccimaaDoor
open Go.RowKit Go.Shelf

def glG (W H : Int) (xs : List Int) (a b : Int) : List Nat := gl W H xs a b (cellsL W H xs)
theorem glG_len (W H : Int) (xs : List Int) (a b : Int) : (glG W H xs a b).length = 65 := gl_len _ _ _ _ _ _
theorem cells_64 {W H : Int} {xs : List Int} (hg : goodB W H xs = true) : ∀ x ∈ cellsL W H xs, 0 ≤ x ∧ x < 64 := fun x hx => by
  have h1 := (hasB_iff.1 (cellsL_mem.1 hx)).1
  obtain ⟨hW, hH, _, _⟩ := goodB_iff.1 hg
  have := cells_le hW hH
  omega
theorem leaps_64 {W H a b x : Int} {xs : List Int} (hg : goodB W H xs = true) : ∀ y ∈ leapsL W H xs a b x, 0 ≤ y ∧ y < 64 := fun y hy => cells_64 hg y (List.mem_filter.1 hy).1
theorem glG_lt {W H a b : Int} {xs : List Int} (hg : goodB W H xs = true) : ∀ x ∈ glG W H xs a b, x < 18446744073709551616 := by
  intro x hx
  rw [glG, gl, List.mem_cons, List.mem_map] at hx
  rcases hx with rfl | ⟨c, _, rfl⟩
  · exact set_lt (cells_64 hg)
  · split
    · exact set_lt (leaps_64 hg)
    · decide
theorem glG_at {W H a b x : Int} {xs : List Int} (h0 : 0 ≤ x) (h1 : x < 64) (hx : x ∈ cellsL W H xs) : (glG W H xs a b).getD (1 + x.toNat) 0 = nearS W H xs a b x := by
  rw [glG, gl, show 1 + x.toNat = x.toNat + 1 by omega, List.getD_cons_succ, List.getD_eq_getElem?_getD, List.getElem?_map, List.getElem?_range (by omega)]
  simp [show ((x.toNat : Nat) : Int) = x by omega, hx]
theorem near_bit {W H a b x : Int} {xs : List Int} (hg : goodB W H xs = true) (i : Nat) : (nearS W H xs a b x).testBit i = true ↔ hasB W H xs (i : Int) = true ∧ leapB W a b x (i : Int) = true := by
  rw [nearS, setBits_test _ _ _ rfl, List.mem_map]
  constructor
  · rintro ⟨y, hy, e⟩
    have h1 := leaps_64 hg y hy
    rw [leapsL, List.mem_filter, cellsL_mem] at hy
    rw [show (i : Int) = y by omega]
    exact hy
  · rintro ⟨h1, h2⟩
    exact ⟨(i : Int), by rw [leapsL, List.mem_filter, cellsL_mem]; exact ⟨h1, h2⟩, by omega⟩
theorem has_64 {W H x : Int} {xs : List Int} (hg : goodB W H xs = true) (h : hasB W H xs x = true) : 0 ≤ x ∧ x < 64 := cells_64 hg x (cellsL_mem.2 h)

/-- The cells that some cells guard. -/
def guardL (W H : Int) (xs : List Int) (a b : Int) (ps : List Int) : List Int := (cellsL W H xs).filter fun c => ps.contains c || ps.any fun f => leapB W a b f c
theorem guard_bit {W H a b : Int} {xs ps : List Int} (hg : goodB W H xs = true) (hp : ∀ x ∈ ps, hasB W H xs x = true) (i : Nat) :
    (grdL (glG W H xs a b) ps).testBit i = true ↔ hasB W H xs (i : Int) = true ∧ ((i : Int) ∈ ps ∨ ∃ f ∈ ps, leapB W a b f (i : Int) = true) := by
  rw [grdL_bit]
  constructor
  · rintro ⟨x, hx, h⟩
    have h64 := has_64 hg (hp x hx)
    rw [grdC_bit, glG_at h64.1 h64.2 (cellsL_mem.2 (hp x hx)), near_bit hg] at h
    rcases h with h | h
    · exact ⟨h.1, .inr ⟨x, hx, h.2⟩⟩
    · have : (i : Int) = x := by omega
      rw [this]
      exact ⟨hp x hx, .inl hx⟩
  · rintro ⟨h, (hm | ⟨f, hf, hl⟩)⟩
    · exact ⟨(i : Int), hm, by rw [grdC_bit]; right; omega⟩
    · have h64 := has_64 hg (hp f hf)
      exact ⟨f, hf, by rw [grdC_bit, glG_at h64.1 h64.2 (cellsL_mem.2 (hp f hf)), near_bit hg]; exact .inl ⟨h, hl⟩⟩
theorem guard_bits {W H a b : Int} {xs ps : List Int} (hg : goodB W H xs = true) (hp : ∀ x ∈ ps, hasB W H xs x = true) : bitsL (grdL (glG W H xs a b) ps) = guardL W H xs a b ps := by
  refine rise_unique (bitsL_rise _) ((cellsL_rise W H xs).filter _) fun x => ?_
  rw [bitsL_mem, guardL, List.mem_filter, cellsL_mem]
  constructor
  · rintro ⟨h0, h1, h2⟩
    rw [guard_bit hg hp, show ((x.toNat : Nat) : Int) = x by omega] at h2
    exact ⟨h2.1, by simpa using h2.2⟩
  · rintro ⟨h1, h2⟩
    have h64 := has_64 hg h1
    refine ⟨h64.1, h64.2, ?_⟩
    rw [guard_bit hg hp, show ((x.toNat : Nat) : Int) = x by omega]
    exact ⟨h1, by simpa using h2⟩
theorem setB_facts {W H : Int} {xs ps : List Int} (h : setB W H xs ps = true) : (∀ x ∈ ps, hasB W H xs x = true) ∧ ps.Pairwise (· < ·) :=
  ⟨fun x hx => ((setGo_facts ps _ h).1 x hx).2, (setGo_facts ps _ h).2⟩
theorem setB_bits {W H : Int} {xs ps : List Int} (hg : goodB W H xs = true) (h : setB W H xs ps = true) : bitsL (setBits (ps.map Int.toNat)) = ps :=
  set_bits (setB_facts h).2 (fun x hx => has_64 hg ((setB_facts h).1 x hx))
def askB (W H : Int) (xs : List Int) (a b : Int) (ps : List Int) : Bool := twoV W H xs a b && setB W H xs ps
theorem ask_parts {W H a b : Int} {xs ps : List Int} (h : askB W H xs a b ps = true) : goodB W H xs = true ∧ leaperB a b = true ∧ setB W H xs ps = true := by
  simp only [askB, twoV, Bool.and_eq_true] at h
  exact ⟨h.1.1, h.1.2, h.2⟩

set_option maxRecDepth 100000 in
theorem isSetOn_any (W H : Int) (A : Option Addr) (n c : Nat) (xs : List Int) (a b : Int) (A2 : Option Addr) (m c2 : Nat) (ps : List Int) (w : World) (ha : Rd w A n xs) (hp : Rd w A2 m ps) :
    Calls Tryd.prog 32 #[brd W H A n c, lpr a b, .slice A2 m c2] w fun e w' => e = .returned (.bool (askB W H xs a b ps)) ∧ Below w.heap.size w w' := by
  cases ht : twoV W H xs a b with
  | true =>
    have HG := Lib.hid (two_gK ht)
    go_enter Tryd.func32, Tryd.ntmps32
    go_wp2_with fail
    refine (isOnE_any W H A n c xs a b _ ((ha.alloc _).alloc _)).mono ?_
    rw [ht]
    rintro e wv ⟨rfl, hb⟩
    have hbx0 := below_box hb
    have a0 : wv.cell? ⟨w.heap.size, 0, none⟩ = some (.int .i64 W) := by simpa using newbox hbx0 0
    have a1 : wv.cell? ⟨w.heap.size, 1, none⟩ = some (.int .i64 H) := by simpa using newbox hbx0 1
    have a2 : wv.cell? ⟨w.heap.size, 2, none⟩ = some (.slice A n c) := by simpa using newbox hbx0 2
    have B := Lib.hid (below_box hbx0)
    have HT := Lib.hid ht
    clear hb hbx0 ht
    go_wp2_with fail
    refine (isSet_any W H A n c xs A2 m c2 ps _ (ha.keep B.out) (hp.keep B.out) HG.out).mono ?_
    rintro e wv ⟨rfl, hb⟩
    replace B := Lib.hid (below_next B.out hb)
    clear hb
    go_wp2
    go_ret
    exact ⟨by rw [askB, HT.out, Bool.true_and]; rfl, B.out⟩
  | false =>
    go_enter Tryd.func32, Tryd.ntmps32
    go_wp2_with fail
    refine (isOnE_any W H A n c xs a b _ ((ha.alloc _).alloc _)).mono ?_
    rw [ht]
    rintro e wv ⟨rfl, hb⟩
    have B := Lib.hid (below_box (below_box hb))
    clear hb
    go_wp2
    go_ret
    exact ⟨by rw [askB, ht, Bool.false_and]; rfl, B.out⟩

set_option maxRecDepth 100000 in
theorem guAsked_any (W H : Int) (A : Option Addr) (n c : Nat) (xs : List Int) (a b : Int) (A2 : Option Addr) (m c2 : Nat) (ps : List Int) (w : World) (ha : Rd w A n xs) (hp : Rd w A2 m ps) :
    Calls Tryd.prog 30 #[brd W H A n c, lpr a b, .slice A2 m c2] w fun e w' => e = .returned (.bool (askB W H xs a b ps)) ∧ Below w.heap.size w w' := by
  cases ht : twoV W H xs a b with
  | true =>
    have HG := Lib.hid (two_gK ht)
    go_enter Tryd.func30, Tryd.ntmps30
    go_wp2_with fail
    refine (boTwo_any W H A n c xs a b _ ((ha.alloc _).alloc _)).mono ?_
    rw [show (goodB W H xs && leaperB a b) = true from ht]
    rintro e wv ⟨rfl, hb⟩
    have hbx0 := below_box hb
    have a0 : wv.cell? ⟨w.heap.size, 0, none⟩ = some (.int .i64 W) := by simpa using newbox hbx0 0
    have a1 : wv.cell? ⟨w.heap.size, 1, none⟩ = some (.int .i64 H) := by simpa using newbox hbx0 1
    have a2 : wv.cell? ⟨w.heap.size, 2, none⟩ = some (.slice A n c) := by simpa using newbox hbx0 2
    have B := Lib.hid (below_box hbx0)
    have HT := Lib.hid ht
    clear hb hbx0 ht
    go_wp2_with fail
    refine (guSet_any W H A n c xs A2 m c2 ps _ (ha.keep B.out) (hp.keep B.out) HG.out).mono ?_
    rintro e wv ⟨rfl, hb⟩
    replace B := Lib.hid (below_next B.out hb)
    clear hb
    go_wp2
    go_ret
    exact ⟨by rw [askB, HT.out, Bool.true_and]; rfl, B.out⟩
  | false =>
    go_enter Tryd.func30, Tryd.ntmps30
    go_wp2_with fail
    refine (boTwo_any W H A n c xs a b _ ((ha.alloc _).alloc _)).mono ?_
    rw [show (goodB W H xs && leaperB a b) = false from ht]
    rintro e wv ⟨rfl, hb⟩
    have B := Lib.hid (below_box (below_box hb))
    clear hb
    go_wp2
    go_ret
    exact ⟨by rw [askB, ht, Bool.false_and]; rfl, B.out⟩
end Go.Proofs.YtcfibfbenccimaaDoor

namespace Go.Proofs.YtcfibfbenccimaaDoor
open Go.RowKit

def guardB (W a b : Int) (ps : List Int) (x : Int) (j : Nat) : Bool := ps.contains x || (ps.take j).any fun f => leapB W a b f x
theorem guardB_succ {W a b x y : Int} {ps : List Int} {j : Nat} (hy : ps[j]? = some y) : guardB W a b ps x (j + 1) = (guardB W a b ps x j || leapB W a b y x) := by
  rw [guardB, guardB, List.take_add_one, hy, List.any_append, Bool.or_assoc]
  simp
theorem guardB_end {W a b x : Int} {ps : List Int} {m : Nat} (h : ps.length ≤ m) : guardB W a b ps x m = (ps.contains x || ps.any fun f => leapB W a b f x) := by rw [guardB, List.take_of_length_le h]

end Go.Proofs.YtcfibfbenccimaaDoor

namespace Go.Proofs.YtcfibfbenccimaaDoor
open Go.RowKit Go.Shelf

def guardV (W H : Int) (xs : List Int) (a b : Int) (ps : List Int) : List Int := if askB W H xs a b ps then guardL W H xs a b ps else []
theorem len_GuardedBy (W H : Int) (xs : List Int) (a b : Int) (ps : List Int) : (guardV W H xs a b ps).length ≤ 1000000 := by
  unfold guardV
  split
  · rename_i h
    have h3 : (cellsL W H xs).length ≤ (W * H).toNat := cellsTo_len _
    have h4 := List.length_filter_le (fun c => ps.contains c || ps.any fun f => leapB W a b f c) (cellsL W H xs)
    obtain ⟨hW, hH, _, _⟩ := goodB_iff.1 (ask_parts h).1
    have := cells_le hW hH
    rw [guardL]; omega
  · simp
theorem set_lt64 {W H : Int} {xs ps : List Int} (hg : goodB W H xs = true) (h : setB W H xs ps = true) : ∀ x ∈ ps, 0 ≤ x ∧ x < 64 := fun x hx => has_64 hg ((setB_facts h).1 x hx)

end Go.Proofs.YtcfibfbenccimaaDoor

namespace Go.Proofs.YtcfibfbenccimaaDoor
open Go.RowKit Go.Shelf

def peaceB (W a b : Int) (ps : List Int) : Bool := decide (ps.Pairwise fun y x => leapB W a b x y = false)
theorem and_zero {s t : Nat} : s &&& t = 0 ↔ ∀ i, ¬ (s.testBit i = true ∧ t.testBit i = true) := by
  constructor
  · intro h i ⟨h1, h2⟩
    have := Nat.testBit_and s t i
    rw [h, h1, h2] at this
    simp at this
  · intro h
    apply Nat.eq_of_testBit_eq
    intro i
    rw [Nat.testBit_and, Nat.zero_testBit]
    have := h i
    cases h1 : s.testBit i <;> cases h2 : t.testBit i <;> simp_all
theorem peaceB_iff {W H a b : Int} {xs ps : List Int} (hg : goodB W H xs = true) (hl : leaperB a b = true) (hs : setB W H xs ps = true) : freeB (glG W H xs a b) (setBits (ps.map Int.toNat)) = peaceB W a b ps := by
  have h64 := set_lt64 hg hs
  rw [Bool.eq_iff_iff, freeB, setB_bits hg hs, List.all_eq_true, peaceB, decide_eq_true_eq]
  have key : (∀ x ∈ ps, ((glG W H xs a b).getD (1 + x.toNat) 0 &&& setBits (ps.map Int.toNat) == 0) = true) ↔ ∀ x ∈ ps, ∀ y ∈ ps, leapB W a b x y = false := by
    constructor
    · intro h x hx y hy
      have h1 := h x hx
      rw [beq_iff_eq, and_zero, glG_at (h64 x hx).1 (h64 x hx).2 (cellsL_mem.2 ((setB_facts hs).1 x hx))] at h1
      have h2 := h1 y.toNat
      have hy64 := h64 y hy
      rw [near_bit hg, setBits_test _ _ _ rfl, show ((y.toNat : Nat) : Int) = y by omega] at h2
      cases hq : leapB W a b x y with
      | false => rfl
      | true => exact absurd ⟨⟨(setB_facts hs).1 y hy, hq⟩, List.mem_map.2 ⟨y, hy, rfl⟩⟩ h2
    · intro h x hx
      rw [beq_iff_eq, and_zero, glG_at (h64 x hx).1 (h64 x hx).2 (cellsL_mem.2 ((setB_facts hs).1 x hx))]
      rintro i ⟨h1, h2⟩
      rw [near_bit hg] at h1
      rw [setBits_test _ _ _ rfl, List.mem_map] at h2
      obtain ⟨y, hy, e⟩ := h2
      have hy64 := h64 y hy
      have : (i : Int) = y := by omega
      rw [this, h x hx y hy] at h1
      simp at h1
  rw [key]
  constructor
  · intro h
    rw [List.pairwise_iff_forall_sublist]
    intro y x hsub
    exact h x (hsub.subset (by simp)) y (hsub.subset (by simp))
  · intro h x hx y hy
    have hall : ∀ (l : List Int), l.Pairwise (fun y x => leapB W a b x y = false) → ∀ x ∈ l, ∀ y ∈ l, leapB W a b x y = false := by
      intro l
      induction l with
      | nil => intro _ x hx; cases hx
      | cons z t ih =>
        intro hp x hx y hy
        rw [List.pairwise_cons] at hp
        rcases List.mem_cons.1 hx with rfl | hx' <;> rcases List.mem_cons.1 hy with rfl | hy'
        · exact leapB_irr hl
        · rw [leapB_comm]; exact hp.1 y hy'
        · exact hp.1 x hx'
        · exact ih hp.2 x hx' y hy'
    exact hall ps h x hx y hy
def peaceV (W H : Int) (xs : List Int) (a b : Int) (ps : List Int) : Bool := askB W H xs a b ps && peaceB W a b ps

set_option maxRecDepth 100000 in
set_option maxHeartbeats 2000000 in
theorem guPeace_any (W H : Int) (A : Option Addr) (n c : Nat) (xs : List Int) (a b : Int) (A2 : Option Addr) (m c2 : Nat) (ps : List Int) (w : World) (hp : Rd w A2 m ps) (hcap : m ≤ c2) (hg : goodB W H xs = true) (hps : ∀ x ∈ ps, hasB W H xs x = true) :
    Calls Tryd.prog 31 #[brd W H A n c, lpr a b, .slice A2 m c2] w fun e w' => e = .returned (.bool (peaceB W a b ps)) ∧ Below w.heap.size w w' := by
  obtain ⟨hW, hH, _, _⟩ := goodB_iff.1 hg
  have HN := Lib.hid (cells_le hW hH)
  have HW := Lib.hid hW
  have HPS := Lib.hid hps
  have HPL := Lib.hid hp.1
  have m9 := hp.2.1
  clear hW hH hg hps
  go_enter Tryd.func31, Tryd.ntmps31
  obtain ⟨W1, hW1⟩ : ∃ W1, W1 = (w.alloc (.cells #[.int .i64 W, .int .i64 H, .slice A n c] 28)).alloc (.cells #[.int .i64 a, .int .i64 b] 39) := ⟨_, rfl⟩
  have B := Lib.hid (show Below w.heap.size w W1 by rw [hW1]; exact (below_new (Below.refl _ _) _).alloc (by simp) _)
  have a0 : W1.cell? ⟨w.heap.size, 0, none⟩ = some (.int .i64 W) := by rw [hW1]; go_simp
  have a1 : W1.cell? ⟨w.heap.size, 1, none⟩ = some (.int .i64 H) := by rw [hW1]; go_simp
  have a2 : W1.cell? ⟨w.heap.size, 2, none⟩ = some (.slice A n c) := by rw [hW1]; go_simp
  have l0 : W1.cell? ⟨w.heap.size + 1, 0, none⟩ = some (.int .i64 a) := by rw [hW1]; go_simp
  have l1 : W1.cell? ⟨w.heap.size + 1, 1, none⟩ = some (.int .i64 b) := by rw [hW1]; go_simp
  have ga : w.heap.size < W1.heap.size := by rw [hW1]; simp; omega
  have gl : w.heap.size + 1 < W1.heap.size := by rw [hW1]; simp
  have RP := Lib.hid (hp.keep B.out)
  clear hp
  go_wp2
  rw [← hW1]
  clear hW1
  go_loopw [13] (fun i wr => ∃ k : Nat, k ≤ m ∧ i = .int .i64 k ∧ (ps.take k).Pairwise (fun y x => leapB W a b x y = false) ∧ Below W1.heap.size W1 wr) (fun i _ => m - (intOf i).toNat)
  case atStart => exact ⟨0, Nat.zero_le _, rfl, by simp, Below.refl _ _⟩
  case round =>
    obtain ⟨k, hk, rfl, hpw, hbw⟩ := hrel
    have HPW := Lib.hid hpw
    clear hpw
    by_cases hlt : k < m
    · obtain ⟨bb, oo, x, rfl, hg1, hx, x0⟩ := RP.out.at_ hlt
      have HX := Lib.hid hx
      have HXR := Lib.hid (range_of HN.out (HPS.out x (List.mem_of_getElem? hx)))
      have RR := Lib.hid (RP.out.keep hbw)
      replace x0 := cell_keep x0 hg1 hbw
      have b0 := cell_keep a0 ga hbw; have b1 := cell_keep a1 ga hbw; have b2 := cell_keep a2 ga hbw; have m0 := cell_keep l0 gl hbw; have m1 := cell_keep l1 gl hbw
      have gb := lt_keep ga hbw; have gm := lt_keep gl hbw
      have HB := Lib.hid hbw
      have hsw := hbw.size
      have hkc : (k : Int) ≤ (c2 : Int) := by omega
      clear hx hbw
      go_wp2
      go_loopw [22] (fun i wz => ∃ j : Nat, j ≤ k ∧ i = .int .i64 j ∧ (∀ y ∈ ps.take j, leapB W a b x y = false) ∧ Below wr.heap.size wr wz) (fun i _ => k - (intOf i).toNat)
      case atStart => exact ⟨0, Nat.zero_le _, rfl, by simp, Below.refl _ _⟩
      case round =>
        obtain ⟨j, hj, rfl, hfree, hbi⟩ := hrel
        have HFR := Lib.hid hfree
        clear hfree
        by_cases hjk : j < k
        · obtain ⟨b3, o3, y, hAe, hg3, hy, y0⟩ := RR.out.at_ (Nat.lt_trans hjk hlt)
          cases hAe
          have HY := Lib.hid hy
          have HYR := Lib.hid (range_of HN.out (HPS.out y (List.mem_of_getElem? hy)))
          replace y0 := cell_keep y0 hg3 hbi
          have d0 := cell_keep b0 gb hbi; have d1 := cell_keep b1 gb hbi; have d2 := cell_keep b2 gb hbi; have e0 := cell_keep m0 gm hbi; have e1 := cell_keep m1 gm hbi
          have HBI := Lib.hid hbi
          clear hy hbi hg3
          cases hq : leapB W a b x y with
          | true =>
            have HQ := Lib.hid hq
            clear hq
            go_wp2_with fail
            refine (boIs_any W H A n c a b x y _ HW.out HXR.out HYR.out).mono ?_
            rw [HQ.out]
            rintro e wz ⟨rfl, hb⟩
            replace HBI := Lib.hid (below_next HBI.out hb)
            clear hb
            go_wp2
            go_ret
            refine ⟨ret_bool ?_, B.out.trans ((HB.out.trans (HBI.out.mono hsw)).mono B.out.size)⟩
            symm
            rw [peaceB]
            refine decide_eq_false fun hall => ?_
            have h1 : (ps.take (k + 1)).Pairwise (fun y x => leapB W a b x y = false) := hall.sublist (List.take_sublist _ _)
            rw [List.take_add_one, HX.out, List.pairwise_append] at h1
            have h2 := h1.2.2 y (List.mem_of_getElem? (by rw [List.getElem?_take, if_pos hjk]; exact HY.out)) x (by simp)
            rw [HQ.out] at h2
            cases h2
          | false =>
            have HQ := Lib.hid hq
            clear hq
            go_wp2_with fail
            refine (boIs_any W H A n c a b x y _ HW.out HXR.out HYR.out).mono ?_
            rw [HQ.out]
            rintro e wz ⟨rfl, hb⟩
            replace HBI := Lib.hid (below_next HBI.out hb)
            clear hb
            go_wp2
            go_roundw
            case rel => exact ⟨j + 1, by omega, by go_num, by
              intro z hz
              rw [List.take_add_one, HY.out] at hz
              rcases List.mem_append.1 hz with hz | hz
              · exact HFR.out z hz
              · simp at hz; subst hz; exact HQ.out, HBI.out⟩
            case measure => simp [intOf]; omega
        · obtain rfl : j = k := by omega
          have HB2 := Lib.hid (HB.out.trans (hbi.mono hsw))
          clear hbi HB hsw b0 b1 b2 m0 m1 gb gm RR
          go_wp2
          go_roundw
          case rel => exact ⟨j + 1, by omega, by go_num, by
            rw [List.take_add_one, HX.out, List.pairwise_append]
            refine ⟨HPW.out, by simp, fun y hy z hz => ?_⟩
            simp at hz; subst hz
            exact HFR.out y hy, HB2.out⟩
          case measure => simp [intOf]; omega
    · have HV := Lib.hid (show peaceB W a b ps = true by
        rw [peaceB]; refine decide_eq_true ?_
        have h := HPW.out
        rwa [List.take_of_length_le (by have := HPL.out; omega)] at h)
      have HB := Lib.hid hbw
      clear hbw
      go_wp2
      go_ret
      exact ⟨ret_bool HV.out.symm, B.out.trans (HB.out.mono B.out.size)⟩
end Go.Proofs.YtcfibfbenccimaaDoor

namespace Go.Proofs.YtcfibfbenccimaaDoor
open Go.RowKit Go.Shelf

set_option maxRecDepth 100000 in
set_option maxHeartbeats 1000000 in
theorem spec_ArePeaceful (W H : Int) (A : Option Addr) (n c : Nat) (xs : List Int) (a b : Int) (A2 : Option Addr) (m c2 : Nat) (ps : List Int) (w : World) (ha : Rd w A n xs) (hp : Rd w A2 m ps) (hcap : m ≤ c2) :
    Calls Tryd.prog 14 #[brd W H A n c, lpr a b, .slice A2 m c2] w fun e w' => e = .returned (.tuple #[.bool (peaceV W H xs a b ps), .bool (askB W H xs a b ps)]) ∧ Below w.heap.size w w' := by
  cases ht : askB W H xs a b ps with
  | true =>
    have HT := Lib.hid ht
    go_enter Tryd.func14, Tryd.ntmps14
    go_wp2_with fail
    refine (guAsked_any W H A n c xs a b A2 m c2 ps _ ((ha.alloc _).alloc _) ((hp.alloc _).alloc _)).mono ?_
    rw [ht]
    rintro e wv ⟨rfl, hb⟩
    have hbx0 := below_box hb
    have a0 : wv.cell? ⟨w.heap.size, 0, none⟩ = some (.int .i64 W) := by simpa using newbox hbx0 0
    have a1 : wv.cell? ⟨w.heap.size, 1, none⟩ = some (.int .i64 H) := by simpa using newbox hbx0 1
    have a2 : wv.cell? ⟨w.heap.size, 2, none⟩ = some (.slice A n c) := by simpa using newbox hbx0 2
    have l0 : wv.cell? ⟨w.heap.size + 1, 0, none⟩ = some (.int .i64 a) := by simpa using newbox hb 0
    have l1 : wv.cell? ⟨w.heap.size + 1, 1, none⟩ = some (.int .i64 b) := by simpa using newbox hb 1
    have B := Lib.hid (below_box hbx0)
    clear hb hbx0 ht
    go_wp2_with fail
    refine (guPeace_any W H A n c xs a b A2 m c2 ps _ (hp.keep B.out) hcap (ask_parts HT.out).1 (setB_facts (ask_parts HT.out).2.2).1).mono ?_
    rintro e wv ⟨rfl, hb⟩
    replace B := Lib.hid (below_next B.out hb)
    clear hb
    go_wp2
    go_ret2
    exact ⟨by rw [peaceV, HT.out, Bool.true_and]; rfl, B.out⟩
  | false =>
    go_enter Tryd.func14, Tryd.ntmps14
    go_wp2_with fail
    refine (guAsked_any W H A n c xs a b A2 m c2 ps _ ((ha.alloc _).alloc _) ((hp.alloc _).alloc _)).mono ?_
    rw [ht]
    rintro e wv ⟨rfl, hb⟩
    have B := Lib.hid (below_box (below_box hb))
    clear hb
    go_wp2
    go_ret2
    exact ⟨by rw [peaceV, ht, Bool.false_and]; rfl, B.out⟩

set_option maxRecDepth 100000 in
set_option maxHeartbeats 1000000 in
theorem impl_ArePeaceful (W H : Int) (A : Option Addr) (n c : Nat) (xs : List Int) (a b : Int) (A2 : Option Addr) (m c2 : Nat) (ps : List Int) (w : World) (ha : Rd w A n xs) (hp : Rd w A2 m ps) (_ : m ≤ c2) (hT : Tab64 w ∧ 0 < w.heap.size) :
    Calls Tryd.prog 17 #[brd W H A n c, lpr a b, .slice A2 m c2] w fun e w' => e = .returned (.tuple #[.bool (peaceV W H xs a b ps), .bool (askB W H xs a b ps)]) ∧ Below w.heap.size w w' := by
  cases ht : askB W H xs a b ps with
  | true =>
    have HT := Lib.hid ht
    obtain ⟨hg, hl, hsb⟩ := ask_parts ht
    have HG := Lib.hid hg; have HL := Lib.hid hl; have HS := Lib.hid hsb
    have HTab := Lib.hid hT
    clear hg hl hsb hT
    go_enter Tryd.func17, Tryd.ntmps17
    go_wp2_with fail
    refine (isSetOn_any W H A n c xs a b A2 m c2 ps _ ((ha.alloc _).alloc _) ((hp.alloc _).alloc _)).mono ?_
    rw [ht]
    rintro e wv ⟨rfl, hb⟩
    have hbx0 := below_box hb
    have a0 : wv.cell? ⟨w.heap.size, 0, none⟩ = some (.int .i64 W) := by simpa using newbox hbx0 0
    have a1 : wv.cell? ⟨w.heap.size, 1, none⟩ = some (.int .i64 H) := by simpa using newbox hbx0 1
    have a2 : wv.cell? ⟨w.heap.size, 2, none⟩ = some (.slice A n c) := by simpa using newbox hbx0 2
    have l0 : wv.cell? ⟨w.heap.size + 1, 0, none⟩ = some (.int .i64 a) := by simpa using newbox hb 0
    have l1 : wv.cell? ⟨w.heap.size + 1, 1, none⟩ = some (.int .i64 b) := by simpa using newbox hb 1
    have B := Lib.hid (below_box hbx0)
    clear hb hbx0 ht
    go_wp2_with fail
    refine (groundOf_any W H A n c xs a b _ (ha.keep B.out) HG.out HL.out (tab_keep HTab.out B.out).1 (tab_keep HTab.out B.out).2).mono ?_
    rintro e wv ⟨rfl, hb⟩
    replace B := Lib.hid (below_next B.out hb)
    clear hb a0 a1 a2 l0 l1
    obtain ⟨G, hG⟩ : ∃ G, G = glG W H xs a b := ⟨_, rfl⟩
    rw [show gl W H xs a b (cellsL W H xs) = G from hG.symm]
    have HGG := Lib.hid hG
    clear hG
    go_wp2_with fail
    refine (setOf_any A2 m c2 ps _ (hp.keep B.out) (set_lt64 HG.out HS.out)).mono ?_
    rintro e wv ⟨rfl, hb⟩
    replace B := Lib.hid (below_next B.out hb)
    clear hb
    have hG65 : Hid (G.length = 65) := Lib.hid (by rw [HGG.out]; exact glG_len _ _ _ _ _)
    have hGlt : Hid (∀ x ∈ G, x < 18446744073709551616) := Lib.hid (by rw [HGG.out]; exact glG_lt HG.out)
    have HV := Lib.hid (show freeB G (setBits (ps.map Int.toNat)) = peaceB W a b ps by rw [HGG.out]; exact peaceB_iff HG.out HL.out HS.out)
    obtain ⟨s, hs⟩ : ∃ s, s = setBits (ps.map Int.toNat) := ⟨_, rfl⟩
    rw [← hs] at HV ⊢
    have hs64 : Hid (s < 18446744073709551616) := Lib.hid (by rw [hs]; exact set_lt (set_lt64 HG.out HS.out))
    clear hs
    go_wp2_with fail
    refine (isFree_any G hG65.out hGlt.out s hs64.out _ (tab_keep HTab.out B.out).1 (tab_keep HTab.out B.out).2).mono ?_
    rw [HV.out]
    rintro e wv ⟨rfl, hb⟩
    replace B := Lib.hid (below_next B.out hb)
    clear hb
    go_wp2
    go_ret2
    exact ⟨by rw [peaceV, HT.out, Bool.true_and]; rfl, B.out⟩
  | false =>
    clear hT
    go_enter Tryd.func17, Tryd.ntmps17
    go_wp2_with fail
    refine (isSetOn_any W H A n c xs a b A2 m c2 ps _ ((ha.alloc _).alloc _) ((hp.alloc _).alloc _)).mono ?_
    rw [ht]
    rintro e wv ⟨rfl, hb⟩
    have B := Lib.hid (below_box (below_box hb))
    clear hb
    go_wp2
    go_ret2
    exact ⟨by rw [peaceV, ht, Bool.false_and]; rfl, B.out⟩
end Go.Proofs.YtcfibfbenccimaaDoor

namespace Go.Proofs.YtcfibfbenccimaaDoor
open Go.RowKit

set_option maxHeartbeats 4000000 in
set_option maxRecDepth 100000 in
theorem law_ArePeaceful (w : World) (V0 G0 : Int) (A0 : Option Addr) (n0 c0 : Nat) (xs0 : List Int) (ha0 : Rd w A0 n0 xs0) (la1 lb1 : Int) (A2 : Option Addr) (n2 c2 : Nat) (xs2 : List Int) (ha2 : Rd w A2 n2 xs2) (hT : Tab64 w ∧ 0 < w.heap.size) :
    Calls Tryd.prog 4 #[brd V0 G0 A0 n0 c0, lpr la1 lb1, .slice A2 n2 c2] w fun e w' => e = .returned (.bool true) ∧ Below w.heap.size w w' := by
  have hn9 := ha0.2.1
  have hp9 := ha2.2.1
  by_cases hnP : (n2 : Int) ≤ 1048576
  rotate_left
  · go_enter Tryd.func4, Tryd.ntmps4
    go_wp2
    go_ret
    exact ⟨rfl, (below_new (below_new (Below.refl _ _) _) _)⟩
  by_cases hnB : (n0 : Int) ≤ 1048576
  rotate_left
  · go_enter Tryd.func4, Tryd.ntmps4
    go_wp2_with fail
    refine (szBoard_any _ _ _ _ _ _ _ hn9 (by omega) (by omega)).mono ?_
    rintro e wv ⟨rfl, hb⟩
    have B := Lib.hid (below_box (below_box hb))
    clear hb
    go_wp2
    go_ret
    exact ⟨rfl, B.out⟩
  · have HPn := Lib.hid (show n2 ≤ 17179869184 by omega)
    go_enter Tryd.func4, Tryd.ntmps4
    go_wp2_with fail
    refine (szBoard_any _ _ _ _ _ _ _ hn9 (by omega) (by omega)).mono ?_
    rintro e wv ⟨rfl, hb⟩
    have hbx0 := below_box hb
    have a0 : wv.cell? ⟨w.heap.size, 0, none⟩ = some (.int .i64 V0) := by simpa using newbox hbx0 0
    have a1 : wv.cell? ⟨w.heap.size, 1, none⟩ = some (.int .i64 G0) := by simpa using newbox hbx0 1
    have a2 : wv.cell? ⟨w.heap.size, 2, none⟩ = some (.slice A0 n0 c0) := by simpa using newbox hbx0 2
    have al : w.heap.size < wv.heap.size := by simpa using newbox_lt hbx0
    have l0 : wv.cell? ⟨w.heap.size + 1, 0, none⟩ = some (.int .i64 la1) := by simpa using newbox hb 0
    have l1 : wv.cell? ⟨w.heap.size + 1, 1, none⟩ = some (.int .i64 lb1) := by simpa using newbox hb 1
    have ll : w.heap.size + 1 < wv.heap.size := by simpa using newbox_lt hb
    have B := Lib.hid (below_box hbx0)
    have hs1 := Lib.hid (below_box hbx0).size
    have hz := Lib.hid ll
    clear hb hbx0
    go_wp2_with fail
    go_region_held3 (fun w' => w'.cell? ⟨w.heap.size, 0, none⟩ = some (.int .i64 V0) ∧ w'.cell? ⟨w.heap.size, 1, none⟩ = some (.int .i64 G0) ∧ w'.cell? ⟨w.heap.size, 2, none⟩ = some (.slice A0 n0 c0) ∧ w'.cell? ⟨w.heap.size + 1, 0, none⟩ = some (.int .i64 la1) ∧ w'.cell? ⟨w.heap.size + 1, 1, none⟩ = some (.int .i64 lb1)) (first | exact ⟨a0, a1, a2, l0, l1⟩)
      (first
        | (go_at_call 7; refine (toBoard_any _ _ _ _ _ _ _ (by exact (ha0.keep B.out).drew1) (by omega)).mono ?_; rintro e wv ⟨gs, rfl, owns, hb⟩; (try replace hb := below_undrew hb); replace a0 := cell_keep a0 al hb; replace a1 := cell_keep a1 al hb; replace a2 := cell_keep a2 al hb; replace al := lt_keep al hb; replace l0 := cell_keep l0 ll hb; replace l1 := cell_keep l1 ll hb; replace ll := lt_keep ll hb; (try replace Os := Lib.hid (Os.out.keep hb)); (try replace Op := Lib.hid (Op.out.keep hb)); have hs2 := Lib.hid hb.size; replace B := Lib.hid (below_next B.out hb); have Os := Lib.hid owns; have SPs := Lib.hid owns.span; clear owns; clear hb)
        | (go_at_call 15; refine (toLeaper_any _ _ _).mono ?_; rintro e wv ⟨rfl, hb⟩; (try replace hb := below_undrew hb); replace a0 := cell_keep a0 al hb; replace a1 := cell_keep a1 al hb; replace a2 := cell_keep a2 al hb; replace al := lt_keep al hb; replace l0 := cell_keep l0 ll hb; replace l1 := cell_keep l1 ll hb; replace ll := lt_keep ll hb; (try replace Os := Lib.hid (Os.out.keep hb)); (try replace Op := Lib.hid (Op.out.keep hb)); have hs3 := Lib.hid hb.size; replace B := Lib.hid (below_next B.out hb); clear hb)
        | (go_at_call 16; refine (toIntS_any A2 n2 c2 xs2 _ ?_ ?_).mono ?_; (first | exact (ha2.keep B.out) | exact (ha2.keep B.out).drew1); (exact HPn.out); rintro e wv ⟨gp, rfl, ownp, hb⟩; (try replace hb := below_undrew hb); replace a0 := cell_keep a0 al hb; replace a1 := cell_keep a1 al hb; replace a2 := cell_keep a2 al hb; replace al := lt_keep al hb; replace l0 := cell_keep l0 ll hb; replace l1 := cell_keep l1 ll hb; replace ll := lt_keep ll hb; (try replace Os := Lib.hid (Os.out.keep hb)); have hs4 := Lib.hid hb.size; replace B := Lib.hid (below_next B.out hb); have Op := Lib.hid ownp; have SPp := Lib.hid ownp.span; clear ownp; clear hb)
        | (go_at_call 14; refine (spec_ArePeaceful _ _ _ _ _ _ _ _ _ _ _ _ _ (by exact Os.out.rd) (by exact Op.out.rd) (by exact Op.out.cap)).mono ?_; rintro e wv ⟨rfl, hb⟩; (try replace hb := below_undrew hb); replace a0 := cell_keep a0 al hb; replace a1 := cell_keep a1 al hb; replace a2 := cell_keep a2 al hb; replace al := lt_keep al hb; replace l0 := cell_keep l0 ll hb; replace l1 := cell_keep l1 ll hb; replace ll := lt_keep ll hb; have hs5 := Lib.hid hb.size; replace B := Lib.hid (below_next B.out hb); clear hb))
    all_goals
      clear Os SPs Op SPp
      go_wp2_with fail
      refine (toBoard_any _ _ _ _ _ _ _ (ha0.keep B.out) (by omega)).mono ?_
      rintro e wv ⟨gx, rfl, ownx, hb⟩
      replace a0 := cell_keep a0 al hb
      replace a1 := cell_keep a1 al hb
      replace a2 := cell_keep a2 al hb
      replace al := lt_keep al hb
      replace l0 := cell_keep l0 ll hb
      replace l1 := cell_keep l1 ll hb
      replace ll := lt_keep ll hb
      have hs6 := Lib.hid hb.size
      replace B := Lib.hid (below_next B.out hb)
      have Ox := Lib.hid ownx; have SPx := Lib.hid ownx.span; clear ownx; clear hb
      obtain ⟨wx, hwx⟩ : ∃ wx, wx = wv := ⟨_, rfl⟩
      subst hwx
      go_wp2_with fail
      have hb := Below.refl (wx.alloc (.cells #[.int .i64 V0, .int .i64 G0, .slice (some ⟨gx, 0, none⟩) n0 n0] 28)).heap.size (wx.alloc (.cells #[.int .i64 V0, .int .i64 G0, .slice (some ⟨gx, 0, none⟩) n0 n0] 28))
      have x0 : (wx.alloc (.cells #[.int .i64 V0, .int .i64 G0, .slice (some ⟨gx, 0, none⟩) n0 n0] 28)).cell? ⟨wx.heap.size, 0, none⟩ = some (.int .i64 V0) := by simp
      have x1 : (wx.alloc (.cells #[.int .i64 V0, .int .i64 G0, .slice (some ⟨gx, 0, none⟩) n0 n0] 28)).cell? ⟨wx.heap.size, 1, none⟩ = some (.int .i64 G0) := by simp
      have x2 : (wx.alloc (.cells #[.int .i64 V0, .int .i64 G0, .slice (some ⟨gx, 0, none⟩) n0 n0] 28)).cell? ⟨wx.heap.size, 2, none⟩ = some (.slice (some ⟨gx, 0, none⟩) n0 n0) := by simp
      have xl := newbox_lt hb
      have hzx := Lib.hid xl
      replace hb := below_box hb
      replace a0 := cell_keep a0 al hb
      replace a1 := cell_keep a1 al hb
      replace a2 := cell_keep a2 al hb
      replace al := lt_keep al hb
      replace l0 := cell_keep l0 ll hb
      replace l1 := cell_keep l1 ll hb
      replace ll := lt_keep ll hb
      replace Ox := Lib.hid (Ox.out.keep hb)
      have hs7 := Lib.hid hb.size
      replace B := Lib.hid (below_next B.out hb)
      clear hb
      have hx0 : gx < wx.heap.size := (SPx.out _ rfl).2
      generalize wx.alloc (.cells #[.int .i64 V0, .int .i64 G0, .slice (some ⟨gx, 0, none⟩) n0 n0] 28) = wv at *
      generalize hx : wx.heap.size = x at *
      refine (toIntS_any _ _ _ _ _ (ha2.keep B.out) (by omega)).mono ?_
      rintro e wv ⟨gq, rfl, ownq, hb⟩
      replace a0 := cell_keep a0 al hb
      replace a1 := cell_keep a1 al hb
      replace a2 := cell_keep a2 al hb
      replace al := lt_keep al hb
      replace l0 := cell_keep l0 ll hb
      replace l1 := cell_keep l1 ll hb
      replace ll := lt_keep ll hb
      replace x0 := cell_keep x0 xl hb
      replace x1 := cell_keep x1 xl hb
      replace x2 := cell_keep x2 xl hb
      replace xl := lt_keep xl hb
      replace Ox := Lib.hid (Ox.out.keep hb)
      have hs8 := Lib.hid hb.size
      replace B := Lib.hid (below_next B.out hb)
      have Oq := Lib.hid ownq; have SPq := Lib.hid ownq.span; clear ownq; clear hb
      go_wp2_with fail
      go_region_held3 (fun w' => w'.cell? ⟨w.heap.size, 0, none⟩ = some (.int .i64 V0) ∧ w'.cell? ⟨w.heap.size, 1, none⟩ = some (.int .i64 G0) ∧ w'.cell? ⟨w.heap.size, 2, none⟩ = some (.slice A0 n0 c0) ∧ w'.cell? ⟨w.heap.size + 1, 0, none⟩ = some (.int .i64 la1) ∧ w'.cell? ⟨w.heap.size + 1, 1, none⟩ = some (.int .i64 lb1) ∧ w'.cell? ⟨x, 0, none⟩ = some (.int .i64 V0) ∧ w'.cell? ⟨x, 1, none⟩ = some (.int .i64 G0) ∧ w'.cell? ⟨x, 2, none⟩ = some (.slice (some ⟨gx, 0, none⟩) n0 n0)) (first | exact ⟨a0, a1, a2, l0, l1, x0, x1, x2⟩)
        (first
          | (go_at_call 15; refine (toLeaper_any _ _ _).mono ?_; rintro e wv ⟨rfl, hb⟩; (try replace hb := below_undrew hb); replace a0 := cell_keep a0 al hb; replace a1 := cell_keep a1 al hb; replace a2 := cell_keep a2 al hb; replace al := lt_keep al hb; replace l0 := cell_keep l0 ll hb; replace l1 := cell_keep l1 ll hb; replace ll := lt_keep ll hb; replace x0 := cell_keep x0 xl hb; replace x1 := cell_keep x1 xl hb; replace x2 := cell_keep x2 xl hb; replace xl := lt_keep xl hb; replace Ox := Lib.hid (Ox.out.keep hb); replace Oq := Lib.hid (Oq.out.keep hb); have hs9 := Lib.hid hb.size; replace B := Lib.hid (below_next B.out hb); clear hb)
          | (go_at_call 17; refine (impl_ArePeaceful _ _ _ _ _ _ _ _ _ _ _ _ _ (by exact Ox.out.rd) (by exact Oq.out.rd) (by exact Oq.out.cap) (by exact tab_keep hT B.out)).mono ?_; rintro e wv ⟨rfl, hb⟩; (try replace hb := below_undrew hb); replace a0 := cell_keep a0 al hb; replace a1 := cell_keep a1 al hb; replace a2 := cell_keep a2 al hb; replace al := lt_keep al hb; replace l0 := cell_keep l0 ll hb; replace l1 := cell_keep l1 ll hb; replace ll := lt_keep ll hb; replace x0 := cell_keep x0 xl hb; replace x1 := cell_keep x1 xl hb; replace x2 := cell_keep x2 xl hb; replace xl := lt_keep xl hb; replace Ox := Lib.hid (Ox.out.keep hb); replace Oq := Lib.hid (Oq.out.keep hb); have hs10 := Lib.hid hb.size; replace B := Lib.hid (below_next B.out hb); clear hb))
      go_wp2_with fail
      go_region_held3 (fun w' => w'.cell? ⟨w.heap.size, 0, none⟩ = some (.int .i64 V0) ∧ w'.cell? ⟨w.heap.size, 1, none⟩ = some (.int .i64 G0) ∧ w'.cell? ⟨w.heap.size, 2, none⟩ = some (.slice A0 n0 c0) ∧ w'.cell? ⟨w.heap.size + 1, 0, none⟩ = some (.int .i64 la1) ∧ w'.cell? ⟨w.heap.size + 1, 1, none⟩ = some (.int .i64 lb1) ∧ w'.cell? ⟨x, 0, none⟩ = some (.int .i64 V0) ∧ w'.cell? ⟨x, 1, none⟩ = some (.int .i64 G0) ∧ w'.cell? ⟨x, 2, none⟩ = some (.slice (some ⟨gx, 0, none⟩) n0 n0)) (first | exact ⟨a0, a1, a2, l0, l1, x0, x1, x2⟩)
        (first
          | (go_at_call 7; refine (toBoard_any _ _ _ _ _ _ _ (by exact (ha0.keep B.out).drew1) (by omega)).mono ?_; rintro e wv ⟨gy, rfl, owny, hb⟩; (try replace hb := below_undrew hb); replace a0 := cell_keep a0 al hb; replace a1 := cell_keep a1 al hb; replace a2 := cell_keep a2 al hb; replace al := lt_keep al hb; replace l0 := cell_keep l0 ll hb; replace l1 := cell_keep l1 ll hb; replace ll := lt_keep ll hb; replace x0 := cell_keep x0 xl hb; replace x1 := cell_keep x1 xl hb; replace x2 := cell_keep x2 xl hb; replace xl := lt_keep xl hb; replace Ox := Lib.hid (Ox.out.keep hb); replace Oq := Lib.hid (Oq.out.keep hb); have hs11 := Lib.hid hb.size; replace B := Lib.hid (below_next B.out hb); have Oy := Lib.hid owny; have SPy := Lib.hid owny.span; clear owny; clear hb)
          | (go_at_call 10; refine (eqBoard_any _ _ _ _ _ _ _ _ _ _ _ Ox.out.rd Oy.out.rd).mono ?_; simp only [decide_true]; rintro e wv ⟨rfl, hb⟩; (try replace hb := below_undrew hb); replace a0 := cell_keep a0 al hb; replace a1 := cell_keep a1 al hb; replace a2 := cell_keep a2 al hb; replace al := lt_keep al hb; replace l0 := cell_keep l0 ll hb; replace l1 := cell_keep l1 ll hb; replace ll := lt_keep ll hb; replace x0 := cell_keep x0 xl hb; replace x1 := cell_keep x1 xl hb; replace x2 := cell_keep x2 xl hb; replace xl := lt_keep xl hb; replace Ox := Lib.hid (Ox.out.keep hb); replace Oq := Lib.hid (Oq.out.keep hb); have hs12 := Lib.hid hb.size; replace B := Lib.hid (below_next B.out hb); clear hb Oy SPy))
      go_wp2_with fail
      refine (toIntS_any _ _ _ _ _ (ha2.keep B.out) (by omega)).mono ?_
      rintro e wv ⟨gy, rfl, owny, hb⟩
      replace a0 := cell_keep a0 al hb
      replace a1 := cell_keep a1 al hb
      replace a2 := cell_keep a2 al hb
      replace al := lt_keep al hb
      replace l0 := cell_keep l0 ll hb
      replace l1 := cell_keep l1 ll hb
      replace ll := lt_keep ll hb
      replace x0 := cell_keep x0 xl hb
      replace x1 := cell_keep x1 xl hb
      replace x2 := cell_keep x2 xl hb
      replace xl := lt_keep xl hb
      replace Ox := Lib.hid (Ox.out.keep hb)
      replace Oq := Lib.hid (Oq.out.keep hb)
      have hs13 := Lib.hid hb.size
      replace B := Lib.hid (below_next B.out hb)
      have Oy := Lib.hid owny; have SPy := Lib.hid owny.span; clear owny; clear hb
      go_wp2_with fail
      refine (eqIntS_any _ _ _ _ _ _ _ _ _ Oq.out.rd Oy.out.rd).mono ?_
      simp only [decide_true]
      rintro e wv ⟨rfl, hb⟩
      replace a0 := cell_keep a0 al hb
      replace a1 := cell_keep a1 al hb
      replace a2 := cell_keep a2 al hb
      replace al := lt_keep al hb
      replace l0 := cell_keep l0 ll hb
      replace l1 := cell_keep l1 ll hb
      replace ll := lt_keep ll hb
      replace x0 := cell_keep x0 xl hb
      replace x1 := cell_keep x1 xl hb
      replace x2 := cell_keep x2 xl hb
      replace xl := lt_keep xl hb
      replace Ox := Lib.hid (Ox.out.keep hb)
      replace Oq := Lib.hid (Oq.out.keep hb)
      have hs14 := Lib.hid hb.size
      replace B := Lib.hid (below_next B.out hb)
      clear hb Oy SPy
      go_wp2
      go_ret
      exact ⟨rfl, B.out⟩

end Go.Proofs.YtcfibfbenccimaaDoor
