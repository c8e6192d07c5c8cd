/-
  Pure: the walk by fewest leaps onward.
  Contracts: the cells of a set as a list of the call's own.
  A region that draws its order within a round of a range: walked as outside of rounds, if it defers nothing.
  The cells of a set as an iterator whose caller may stop it; a range that may be left.
  Contracts: whether no two of some cells are near to each other.
  Contracts: the cells that are guarded, as words.
  Contracts: the cells that a set guards.
  Contracts: sets of cells.
  Guarded cells as lists; sets that are asked about.
  Contracts: slices.MinFunc by the number of leaps onward; what is left of a ground behind a path.
  Pure: how many of the walks over a board's cells a plan allows is what the program counts.
  A map whose keys are positions: what its keys read as; what a count keeps.
  Contracts: whether a set has a cell.
  Ranges over a method value: the outer law whose body knows of its record, and the law within a round.
  Contracts: the counting of the ways that a plan allows (the program's closure that calls itself).
-/
import Derived.Test.YtnmmgalidkambaaGreatDoorQ1
import Derived.Test.YtnmmgalidkambaaGreatDoorB15
import Derived.Test.YtnmmgalidkambaaGreatDoorE5
import Derived.Test.YtnmmgalidkambaaGreatDoorProg
import Derived.OrdersIn
import Derived.OrdersHeld
import Derived.Deep.RegionHeld
import Derived.BigRegionIn
import Derived.OwnWalkIn
import Derived.Test.YtnmmgalidkambaaGreatDoorE3
import Derived.Test.YtnmmgalidkambaaGreatDoorE4
import Derived.Sort.QuietIn
import Derived.Test.YtnmmgalidkambaaGreatDoorB5
import Derived.Test.YtnmmgalidkambaaGreatDoorB9
import Derived.Test.YtnmmgalidkambaaGreatDoorB11
import Derived.Test.YtnmmgalidkambaaGreatDoorK1
import Derived.Test.YtnmmgalidkambaaGreatDoorBunHCountToursFrom1
import Derived.Test.YtnmmgalidkambaaGreatDoorRows
import Derived.ScopeJumps
import Derived.Maps.OwnIn
import Derived.DeepKeys4
import Derived.Laws.ShiftsVar
import Derived.RangeFuncNested
namespace Go.Proofs.YtnmmgalidkambaaGreatDoor
open Go.RowKit

/-- The cells to which a leap leads and that the path doesn't have. -/
def onL (W H : Int) (xs : List Int) (a b : Int) (path : List Int) (x : Int) : List Int := (leapsL W H xs a b x).filter fun y => !path.contains y
def onN (W H : Int) (xs : List Int) (a b : Int) (path : List Int) (x : Int) : Nat := (onL W H xs a b path x).length
def better (N : Int → Nat) (best x : Int) : Int := if N x < N best then x else best
def fewestOf (N : Int → Nat) : List Int → Option Int
  | [] => none
  | x :: t => some (t.foldl (better N) x)
def lastOf (path : List Int) : Int := path.getD (path.length - 1) 0
def fewW (W H : Int) (xs : List Int) (a b : Int) : Nat → List Int → List Int
  | 0, path => path
  | k + 1, path => match fewestOf (onN W H xs a b path) (onL W H xs a b path (lastOf path)) with
    | none => path
    | some x => fewW W H xs a b k (path ++ [x])
theorem fewW_none {W H a b : Int} {xs path : List Int} (h : onL W H xs a b path (lastOf path) = []) : ∀ k, fewW W H xs a b k path = path
  | 0 => rfl
  | k + 1 => by rw [fewW, h]; rfl
theorem fewestOf_mem {N : Int → Nat} : ∀ {l : List Int} {x : Int}, fewestOf N l = some x → x ∈ l
  | [], _, h => by cases h
  | y :: t, x, h => by
    have key : ∀ (t : List Int) (y : Int), t.foldl (better N) y ∈ y :: t := by
      intro t
      induction t with
      | nil => intro y; simp
      | cons z t ih =>
        intro y
        rw [List.foldl_cons]
        have h9 := ih (better N y z)
        rcases List.mem_cons.1 h9 with h9 | h9
        · rw [h9, better]; split <;> simp
        · exact List.mem_cons_of_mem _ (List.mem_cons_of_mem _ h9)
    rw [← Option.some.inj (show some (t.foldl (better N) y) = some x from h)]
    exact key t y
theorem fewestOf_some {N : Int → Nat} {l : List Int} (h : l ≠ []) : ∃ x, fewestOf N l = some x := by
  cases l with
  | nil => exact absurd rfl h
  | cons y t => exact ⟨_, rfl⟩
theorem fewW_some {W H a b x : Int} {xs path : List Int} {k : Nat} (h : fewestOf (onN W H xs a b path) (onL W H xs a b path (lastOf path)) = some x) : fewW W H xs a b (k + 1) path = fewW W H xs a b k (path ++ [x]) := by
  rw [fewW, h]
theorem lastOf_snoc (path : List Int) (x : Int) : lastOf (path ++ [x]) = x := by
  rw [lastOf, List.length_append, show path.length + [x].length - 1 = path.length by simp, List.getD_eq_getElem?_getD, List.getElem?_append_right (Nat.le_refl _)]
  simp
/-- The state of a search for the fewest: the best one so far, or -1, and its number. -/
def scan (N : Int → Nat) (st : Int × Int) (x : Int) : Int × Int := if st.1 < 0 ∨ (N x : Int) < st.2 then (x, (N x : Int)) else st
theorem scan_pos {N : Int → Nat} : ∀ (l : List Int) (y : Int), (∀ x ∈ l, 0 ≤ x) → 0 ≤ y → l.foldl (scan N) (y, (N y : Int)) = (l.foldl (better N) y, (N (l.foldl (better N) y) : Int))
  | [], _, _, _ => rfl
  | z :: t, y, h, hy => by
    rw [List.foldl_cons, List.foldl_cons]
    have hz := h z List.mem_cons_self
    have ht : ∀ x ∈ t, 0 ≤ x := fun x hx => h x (List.mem_cons_of_mem _ hx)
    by_cases e : N z < N y
    · rw [show scan N (y, (N y : Int)) z = (z, (N z : Int)) by rw [scan, if_pos (Or.inr (by simp only; omega))], show better N y z = z by rw [better, if_pos e]]
      exact scan_pos t z ht hz
    · rw [show scan N (y, (N y : Int)) z = (y, (N y : Int)) by rw [scan, if_neg (by simp only; omega)], show better N y z = y by rw [better, if_neg e]]
      exact scan_pos t y ht hy
theorem scan_few {N : Int → Nat} {l : List Int} (h : ∀ x ∈ l, 0 ≤ x) : (fewestOf N l = none ∧ l.foldl (scan N) (-1, 0) = (-1, 0)) ∨ ∃ x, fewestOf N l = some x ∧ l.foldl (scan N) (-1, 0) = (x, (N x : Int)) := by
  cases l with
  | nil => exact .inl ⟨rfl, rfl⟩
  | cons y t =>
    refine .inr ⟨t.foldl (better N) y, rfl, ?_⟩
    rw [List.foldl_cons, show scan N (-1, 0) y = (y, (N y : Int)) by rw [scan, if_pos (Or.inl (by simp))]]
    exact scan_pos t y (fun x hx => h x (List.mem_cons_of_mem _ hx)) (h y List.mem_cons_self)

end Go.Proofs.YtnmmgalidkambaaGreatDoor

namespace Go.Proofs.YtnmmgalidkambaaGreatDoor
open Go.RowKit Go.Shelf
attribute [local go_sem] Oper.semAt_some

/-- The list that has been gathered when the cells of pre have been handed over. -/
def CollG (w Wb : World) (q : Nat) (pre : List Int) (W' : World) : Prop :=
  Below w.heap.size w W' ∧ Wb.heap.size ≤ W'.heap.size ∧ ∃ A n c, W'.heap[q]? = some (.cells #[.slice A n c] 22 (0, 0)) ∧ OwnI 3 W' Wb.heap.size A n c pre
theorem collG_own {w Wb : World} {q : Nat} (hq : q < Wb.heap.size) (hw : w.heap.size ≤ Wb.heap.size) : OwnFrom Wb.heap.size (CollG w Wb q) := by
  rintro s W1 W2 row ⟨hb, hs, A, n, c, hqq, ho⟩ hgr hr
  have hne : ∀ k, k < Wb.heap.size → some k ≠ row := fun k hk e => by have := (hr k e.symm).1; omega
  refine ⟨hb.grown hgr (Nat.le_trans hw hs) (fun k e => Nat.le_trans hw (hr k e).1), Nat.le_trans hs hgr.size, A, n, c, (hgr.block q (by omega) (hne _ hq)).trans hqq, ho.other hgr ?_⟩
  intro ad e er
  obtain ⟨_, ob, h1, h2⟩ := hr _ er.symm
  rcases ho.2 with ⟨e1, _⟩ | ⟨g, cap, cur, e1, _, e2, _⟩
  · rw [e] at e1; cases e1
  · rw [e] at e1
    have : ad = ⟨g, 0, none⟩ := by injection e1 with e3; injection e3
    rw [this, e2] at h1
    cases h1
    cases h2
theorem bitsL_len (s : Nat) : (bitsL s).length ≤ 64 := by
  unfold bitsL
  rw [List.length_map]
  exact Nat.le_trans (List.length_filter_le _ _) (by simp)

end Go.Proofs.YtnmmgalidkambaaGreatDoor

namespace Go.Proofs.YtnmmgalidkambaaGreatDoor

def noDefer (ops : Array Oper) : Bool := ops.all fun o => match o.op with | .defer _ => false | _ => true
theorem noDefer_at {ops : Array Oper} (h : noDefer ops = true) {i : Nat} {o : Oper} (ho : ops[i]? = some o) (c : Call) : o.op ≠ .defer c := by
  intro e
  have h1 := Array.all_eq_true_iff_forall_mem.1 h o (Array.mem_of_getElem? ho)
  rw [e] at h1
  cases h1
theorem wpIn_round_op {l n : Nat} {P : Program} {o : Oper} {a : Act} {w : World} {K : Act → World → Prop} {Q : Exit → Act → World → Prop} (hd : ∀ c, o.op ≠ .defer c)
    (h : o.wp P a w K Q) : o.wpIn (Fence.wide.inRound l) n P a w K Q := by
  refine ⟨fun _ _ => trivial, ?_⟩
  rw [Oper.semAt_plain _ _ _ hd]
  unfold Oper.wp at h
  generalize (execOp a.eval o).run P w = r at h
  cases r with
  | ok x w' =>
    cases x with
    | value v => exact h
    | skip => exact h
    | defer d => exact h
    | enter f args => exact ⟨(fun e => by cases e), callsIn_wide.2 h⟩
    | row row args =>
      refine ⟨(fun e => by cases e), fun c cs _ => ?_⟩
      obtain ⟨v, w2, h1, h2⟩ := h c cs
      exact ⟨v, w2, h1, stepsIn_wide.2 h2⟩
    | _ => exact h.elim
  | halt x w' =>
    cases x <;> exact h
theorem wpAnyIn_of_any {l n : Nat} {P : Program} {md : Region.Mode} {ops : Array Oper} {Q : Exit → Act → World → Prop} (hd : noDefer ops = true) (hL : ¬ LetsOut Q) :
    ∀ (fuel : Nat) (listed : Array Bool) (a : Act) (w : World), wpAny P md ops Q fuel listed a w → wpAnyIn (Fence.wide.inRound l) n P md ops Q fuel listed a w
  | 0, _, _, _, h => h
  | fuel + 1, listed, a, w, h => by
    refine ⟨h.1, fun i hi => ?_⟩
    have h2 : wpOp P ops Q i (wpAnyIn (Fence.wide.inRound l) n P md ops Q fuel (listed.setIfInBounds i true)) a w := wpOp_mono (fun a w => wpAnyIn_of_any hd hL fuel _ a w) (h.2 i hi)
    unfold wpOp at h2
    unfold wpOpIn
    cases ho : ops[i]? with
    | none => simpa [ho] using h2
    | some o =>
      simp only [ho] at h2 ⊢
      split
      · rename_i hw
        simp only [hw, if_true] at h2
        rcases h2 with h2 | h2
        · exact wpIn_round_op (noDefer_at hd ho) h2
        · exact absurd h2.2 hL
      · rename_i hw
        simp only [hw] at h2
        exact ⟨fun _ _ => trivial, h2⟩
/-- The beginning of a region's walk within a round: what S says is held behind every operation. -/
theorem wpIn_region_held_round {l n : Nat} {P : Program} {id : Nat} {ops : Array Oper} {Q : Exit → Act → World → Prop} {S : World → Prop} {a : Act} {w : World} (hm : P.follows .mixedOrders = true) (hd : noDefer ops = true) (hL : ¬ LetsOut Q)
    (hS : S w.drew) (h : S w.drew → wpAnyH P .any ops Q S ops.size (Array.replicate ops.size false) a w.drew) : (Code.region id ops true).wpIn (Fence.wide.inRound l) n P Q a w :=
  wpIn_region_any hm (wpAnyIn_of_any hd hL _ _ _ _ (wpAny_of_held _ _ _ _ (h hS)))
end Go.Proofs.YtnmmgalidkambaaGreatDoor

namespace Go.Proofs.YtnmmgalidkambaaGreatDoor
open Go.RowKit Go.Shelf
attribute [local go_sem] Oper.semAt_some

set_option maxRecDepth 100000 in
set_option maxHeartbeats 1000000 in
/-- 'each' yields the cells of a set, least first, so long as it is told to go on; it may be told to stop. -/
theorem each_inS (n l s : Nat) (hs : s < 18446744073709551616) (J Jx : List Int → World → Prop) (W : World) (hT : ∀ pre w, J pre w → Tab64 w)
    (hY : ∀ (pre : List Int) (x : Int) (rest : List Int) (w : World), bitsL s = pre ++ x :: rest → J pre w → YieldAt Fence.wide (n - 1) Tryz.prog l #[.int .i64 x] w fun e w' => (e = .returned (.bool true) ∧ J (pre ++ [x]) w') ∨ (e = .returned (.bool false) ∧ Jx (pre ++ [x]) w'))
    (h0 : J [] W) :
    CallsIn Fence.wide n Tryz.prog 40 #[.int .u64 (s : Int), .func (.yield l) #[] #[]] W fun e w' => (∃ v, e = .returned v) ∧ (J (bitsL s) w' ∨ ∃ pre, Jx pre w') := by
  refine callsIn_of_wp Tryz.func40 rfl trivial ?_ rfl
  simp only [Tryz.ntmps40, List.size_toArray, List.length_cons, List.length_nil, Nat.reduceAdd, Nat.reduceSub, Array.replicate_succ, Array.replicate_zero, List.push_toArray, List.append_toArray, List.nil_append, List.cons_append]
  gi_wp2
  gi_loopw [0] (fun v wr => ∃ (r : Nat) (pre : List Int), v = .int .u64 (r : Int) ∧ r < 18446744073709551616 ∧ bitsL s = pre ++ bitsL r ∧ J pre wr) (fun v _ => (intOf v).toNat)
  case atStart => exact ⟨s, [], rfl, hs, rfl, h0⟩
  case round =>
    obtain ⟨r, pre, rfl, hr, hsp, hJ⟩ := hrel
    by_cases hz : r = 0
    · subst hz
      have HF := Lib.hid (show bitsL s = pre by rw [hsp, bitsL_zero, List.append_nil])
      clear hsp
      have h00 : ((((0 : Nat) : Int)) != 0) = false := rfl
      gi_wp2
      refine ⟨trivial, ?_⟩
      gi_wp2
      refine ⟨fun _ h => (by cases h), ?_⟩
      gi_wp2
      go_end0
      exact ⟨⟨_, rfl⟩, .inl (by rw [HF.out]; exact hJ)⟩
    · have hz0 : ((r : Int) == 0) = false := by simp; omega
      have hz1 : ¬ ((r : Int) = 0) := by omega
      obtain ⟨hk, hb, hlow⟩ := ctz_facts hz hr
      have hst := bitsL_step hz hr
      have hL1 := least_any r hr wr (hT pre wr hJ)
      have hclt := clr_lt hk hb
      generalize hkd : Lib.ctz 64 r = k at hk hb hlow hst hL1 hclt
      have HK := Lib.hid hkd
      have HN := Lib.hid (show bitsL s = (pre ++ [(k : Int)]) ++ bitsL (clr r k) by rw [hsp, hst]; simp)
      obtain ⟨fn, tmps, assign, body, hy, hR⟩ := hY pre (k : Int) (bitsL (clr r k)) wr (by rw [hsp, hst]) hJ
      have HC := Lib.hid hclt
      have HR := Lib.hid (Nat.lt_of_lt_of_le hclt (Nat.le_of_lt hr))
      clear hsp hst hb hlow hkd hclt
      gi_wp2
      refine ⟨trivial, (fun h => by cases h), (callsIn_wide.2 hL1).mono ?_⟩
      rintro e w' ⟨rfl, rfl⟩
      clear hL1
      gi_wp2
      refine ⟨(fun h => by cases h), hR.mono ?_⟩
      rintro e w' (⟨rfl, hJ2⟩ | ⟨rfl, hJx⟩)
      rotate_left
      · clear hR hy
        gi_wp2
        go_end0
        exact ⟨⟨_, rfl⟩, .inr ⟨_, hJx⟩⟩
      clear hR hy
      have hL2 := least_any r hr w' (hT _ w' hJ2)
      have hW2 := without_any r k hr hk w'
      rw [HK.out] at hL2
      gi_wp2
      refine ⟨trivial, (fun h => by cases h), (callsIn_wide.2 hL2).mono ?_⟩
      rintro e w'' ⟨rfl, rfl⟩
      clear hL2
      gi_wp2
      refine ⟨trivial, (fun h => by cases h), (callsIn_wide.2 hW2).mono ?_⟩
      rintro e w'' ⟨rfl, rfl⟩
      clear hW2
      gi_wp2
      go_roundw
      case rel => exact ⟨clr r k, pre ++ [(k : Int)], rfl, HR.out, HN.out, hJ2⟩
      case measure => have := HC.out; simp [intOf]; omega
/-- What an iterator with a bound receiver promises that may be told to stop. -/
def HandsS (P : Program) (n gf : Nat) (sv : Value) (xs : List Int) (T : World → Prop) : Prop :=
  ∀ (l : Nat) (J Jx : List Int → World → Prop) (W : World), (∀ pre w, J pre w → T w) →
    (∀ (pre : List Int) (x : Int) (rest : List Int) (w : World), xs = pre ++ x :: rest → J pre w → YieldAt Fence.wide (n - 1) P l #[.int .i64 x] w fun e w' => (e = .returned (.bool true) ∧ J (pre ++ [x]) w') ∨ (e = .returned (.bool false) ∧ Jx (pre ++ [x]) w')) →
    J [] W → CallsIn Fence.wide n P gf #[sv, .func (.yield l) #[] #[]] W fun e w' => (∃ v, e = .returned v) ∧ (J xs w' ∨ ∃ pre, Jx pre w')

theorem each_handsS (n s : Nat) (hs : s < 18446744073709551616) : HandsS Tryz.prog n 40 (.int .u64 (s : Int)) (bitsL s) Tab64 :=
  fun l J Jx W hT hY h0 => each_inS n l s hs J Jx W hT hY h0

theorem wpIn_handsS {P : Program} {n : Nat} {g : Operand} {p : Tmp} {assign body : Code} {Q : Exit → Act → World → Prop} {a : Act} {w : World} {gf : Nat} {sv : Value}
    (hg : a.eval g = .func (.func gf) #[sv] #[]) (eg : ∀ args w, (callFunc gf args).run P w = .ok (.enter gf args) w)
    {xs : List Int} {T : World → Prop} (hit : HandsS P (n - 1) gf sv xs T)
    (I : List Int → World → Prop) (Ix : Code → List Int → World → Prop) (hT : ∀ pre w, I pre w → T w) (hI : OwnFrom w.heap.size I) (hIx : ∀ c, OwnFrom w.heap.size (Ix c)) (h0 : I [] w) (a₁ : Int → Act)
    (hassign : ∀ (l : Nat) (x : Int) (W : World) (K : Act → World → Prop), K (a₁ x) W →
      assign.wpIn (Fence.wide.inRound l) (n - 1 - 1) P (Exit.then K (fun _ _ _ => False)) { tmps := ((#[p] : Array Tmp).zip #[Value.int .i64 x]).foldl (fun t (p, v) => t.setIfInBounds p v) a.tmps, defers := [] } W)
    (hbody : ∀ (l : Nat) (pre : List Int) (x : Int) (rest : List Int) (W : World), w.heap.size ≤ l → xs = pre ++ x :: rest → I pre W →
      body.wpIn (Fence.wide.inRound l) (n - 1 - 1) P (ownPostG w.heap.size (fun _ _ => True) I Ix (pre ++ [x]) W) (a₁ x) W)
    (hdone : ∀ (D : Nat) (W : World), w.heap.size ≤ D → I xs W → W.heap[D]? = some (.deferred (some [])) → Q .normal { a with defers := { target := .collected D, args := #[] } :: a.defers } W)
    (hstop : ∀ (D : Nat) (c : Code) (pre : List Int) (W : World), w.heap.size ≤ D → Ix c pre W → W.heap[D]? = some (.deferred (some [])) → c.wpIn Fence.wide n P Q { a with defers := { target := .collected D, args := #[] } :: a.defers } W) :
    (Code.rangeFunc g #[p] assign body).wpIn Fence.wide n P Q a w := by
  refine wpIn_rangeFunc ?_
  intro fn _
  obtain ⟨rec, hrec⟩ : ∃ rec : LoopState → Option Code → Loop, rec = fun st pe => { state := st, pending := pe, fn, tmps := a.tmps, params := #[p], assign, body, defers := w.heap.size } := ⟨_, rfl⟩
  obtain ⟨W1, hW1⟩ : ∃ W1, W1 = (w.alloc (.deferred (some []))).alloc (.loop (rec .ready none)) := ⟨_, rfl⟩
  have hL1 : W1.heap[w.heap.size + 1]? = some (.loop (rec .ready none)) := by
    rw [hW1]
    have h := World.alloc_heap_new (w.alloc (.deferred (some []))) (.loop (rec .ready none))
    rw [World.size_alloc] at h
    exact h
  have hK1 : W1.heap[w.heap.size]? = some (.deferred (some [])) := by
    rw [hW1]
    exact (Below.heap_alloc _ _ _ (by simp)).trans (World.alloc_heap_new w _)
  have hI1 : I [] W1 := by rw [hW1]; exact hI.alloc _ (hI.alloc _ h0)
  refine ⟨w.heap.size + 1, [{ target := .collected w.heap.size, args := #[] }], W1, { target := .fn (.func gf) #[], args := #[sv, .func (.yield (w.heap.size + 1)) #[] #[]] }, W1, gf,
    #[sv, .func (.yield (w.heap.size + 1)) #[] #[]], W1, ?_, ?_, fun _ _ => trivial, ?_, (fun h => by cases h), ?_⟩
  · rw [hW1, hrec]; exact run_enterLoop_outer fn a.tmps #[p] assign body
  · simp only [resolve, hg]
    simp [go_sem]
  · simp [invoke, go_sem, eg]
  · refine (hit (w.heap.size + 1) (fun pre W => I pre W ∧ W.heap[w.heap.size + 1]? = some (.loop (rec .ready none)) ∧ W.heap[w.heap.size]? = some (.deferred (some [])))
      (fun pre W => ∃ c, Ix c pre W ∧ W.heap[w.heap.size + 1]? = some (.loop (rec .done (some c))) ∧ W.heap[w.heap.size]? = some (.deferred (some []))) W1
      (fun pre W h => hT pre W h.1) ?_ ⟨hI1, hL1, hK1⟩).mono ?_
    · rintro pre x rest W hsp ⟨hi, hl, hk⟩
      have hlt := (Array.getElem?_eq_some_iff.1 hl).1
      have hy := run_yield (P := P) (args := #[.int .i64 x]) hl (by rw [hrec]; rfl)
      have hbg := run_beginRound (P := P) hl (by rw [hrec])
      obtain ⟨busy, hbusy⟩ : ∃ busy : Loop, busy = { rec .ready none with state := .busy } := ⟨_, rfl⟩
      rw [← hbusy] at hbg
      have hl2 : (W.putObj (w.heap.size + 1) (.loop busy)).heap[w.heap.size + 1]? = some (.loop busy) := World.putObj_heap_same hlt
      have hk2 : (W.putObj (w.heap.size + 1) (.loop busy)).heap[w.heap.size]? = some (.deferred (some [])) := (World.putObj_heap_other (by omega)).trans hk
      rw [hrec] at hy
      refine ⟨fn, _, assign, body, hy, roundIn_of_wpIn trivial (hassign _ x W _ ⟨_, hbg, ?_⟩)⟩
      refine wpIn_mono (hbody (w.heap.size + 1) pre x rest _ (by omega) hsp (hI.putObj _ hi (by omega) hl rfl)) ?_
      have fin : ∀ (jump : Option Code) (W3 : World), KeepsFrom w.heap.size (W.putObj (w.heap.size + 1) (.loop busy)) W3 →
          (Instr.endRound (w.heap.size + 1) jump).run P W3 = .ok (.bool jump.isNone) (W3.putObj (w.heap.size + 1) (.loop (rec (if jump.isNone then .ready else .done) jump))) ∧
          W3.heap[w.heap.size + 1]? = some (.loop busy) ∧
          (W3.putObj (w.heap.size + 1) (.loop (rec (if jump.isNone then .ready else .done) jump))).heap[w.heap.size + 1]? = some (.loop (rec (if jump.isNone then .ready else .done) jump)) ∧
          (W3.putObj (w.heap.size + 1) (.loop (rec (if jump.isNone then .ready else .done) jump))).heap[w.heap.size]? = some (.deferred (some [])) := fun jump W3 hk3 => by
        have hl3 := hk3.same _ _ (by omega) hl2 rfl
        have hend := run_endRound (P := P) jump hl3
        have hre : ({ busy with state := if jump.isNone then .ready else .done, pending := jump } : Loop) = rec (if jump.isNone then .ready else .done) jump := by rw [hbusy, hrec]
        rw [hre] at hend
        exact ⟨hend, hl3, World.putObj_heap_same (Array.getElem?_eq_some_iff.1 hl3).1, (World.putObj_heap_other (by omega)).trans (hk3.same _ _ (Nat.le_refl _) hk2 rfl)⟩
      intro e a3 W3 hp
      cases e with
      | normal =>
        obtain ⟨hk3, _, hi3⟩ := hp
        obtain ⟨hr, hl3, hl4, hk4⟩ := fin none W3 hk3
        exact ⟨_, _, hr, .inl ⟨rfl, hI.putObj _ hi3 (by omega) hl3 rfl, hl4, hk4⟩⟩
      | ret =>
        obtain ⟨hk3, hi3⟩ := hp
        obtain ⟨hr, hl3, hl4, hk4⟩ := fin (some .ret) W3 hk3
        exact ⟨_, _, hr, .inr ⟨rfl, .ret, (hIx _).putObj _ hi3 (by omega) hl3 rfl, hl4, hk4⟩⟩
      | exit id =>
        obtain ⟨hk3, hi3⟩ := hp
        obtain ⟨hr, hl3, hl4, hk4⟩ := fin (some (.exit id)) W3 hk3
        exact ⟨_, _, hr, .inr ⟨rfl, .exit id, (hIx _).putObj _ hi3 (by omega) hl3 rfl, hl4, hk4⟩⟩
      | goto t =>
        obtain ⟨hk3, hi3⟩ := hp
        obtain ⟨hr, hl3, hl4, hk4⟩ := fin (some (.goto t)) W3 hk3
        exact ⟨_, _, hr, .inr ⟨rfl, .goto t, (hIx _).putObj _ hi3 (by omega) hl3 rfl, hl4, hk4⟩⟩
      | panic ch => exact hp.elim
      | outgrown => exact hp.elim
    · rintro e W2 ⟨⟨v, rfl⟩, (⟨hi, hl, hk⟩ | ⟨pre, c, hi, hl, hk⟩)⟩
      · have hend := run_endLoop (P := P) hl (by rw [hrec]; simp)
        exact ⟨none, _, by rw [hrec] at hend; exact hend, hdone _ _ (Nat.le_refl _) (hI.putObj _ hi (by omega) hl rfl) ((World.putObj_heap_other (by omega)).trans hk)⟩
      · have hend := run_endLoop (P := P) hl (by rw [hrec]; simp)
        exact ⟨some c, _, by rw [hrec] at hend; exact hend, hstop _ c pre _ (Nat.le_refl _) ((hIx c).putObj _ hi (by omega) hl rfl) ((World.putObj_heap_other (by omega)).trans hk)⟩
end Go.Proofs.YtnmmgalidkambaaGreatDoor

namespace Go.Proofs.YtnmmgalidkambaaGreatDoor
open Go.RowKit Go.Shelf
attribute [local go_sem] Oper.semAt_some

theorem wpIn_handsSQ {P : Program} {n : Nat} {g : Operand} {p q : Tmp} {assign body : Code} {Q : Exit → Act → World → Prop} {a : Act} {w : World} {gf : Nat} {sv : Value}
    (hg : a.eval g = .func (.func gf) #[sv] #[]) (eg : ∀ args w, (callFunc gf args).run P w = .ok (.enter gf args) w)
    {xs : List Int} {T : World → Prop} (hit : HandsS P (n - 1) gf sv xs T)
    (I : List Int → World → Prop) (Ix : Code → List Int → World → Prop) (hT : ∀ pre w, I pre w → T w) (hI : OwnFrom w.heap.size I) (hIx : ∀ c, OwnFrom w.heap.size (Ix c)) (h0 : I [] w)
    (hassign : ∀ (l : Nat) (x : Int) (W : World) (K : Act → World → Prop), K { tmps := (a.tmps.setIfInBounds p (.int .i64 x)).setIfInBounds q (.int .i64 x), defers := [] } W →
      assign.wpIn (Fence.wide.inRound l) (n - 1 - 1) P (Exit.then K (fun _ _ _ => False)) { tmps := ((#[p] : Array Tmp).zip #[Value.int .i64 x]).foldl (fun t (p, v) => t.setIfInBounds p v) a.tmps, defers := [] } W)
    (hbody : ∀ (l : Nat) (pre : List Int) (x : Int) (rest : List Int) (W : World), w.heap.size ≤ l → xs = pre ++ x :: rest → I pre W →
      body.wpIn (Fence.wide.inRound l) (n - 1 - 1) P (ownPostG w.heap.size (fun _ _ => True) I Ix (pre ++ [x]) W) { tmps := (a.tmps.setIfInBounds p (.int .i64 x)).setIfInBounds q (.int .i64 x), defers := [] } W)
    (hdone : ∀ (D : Nat) (W : World), w.heap.size ≤ D → I xs W → W.heap[D]? = some (.deferred (some [])) → Q .normal { a with defers := { target := .collected D, args := #[] } :: a.defers } W)
    (hstop : ∀ (D : Nat) (c : Code) (pre : List Int) (W : World), w.heap.size ≤ D → Ix c pre W → W.heap[D]? = some (.deferred (some [])) → c.wpIn Fence.wide n P Q { a with defers := { target := .collected D, args := #[] } :: a.defers } W) :
    (Code.rangeFunc g #[p] assign body).wpIn Fence.wide n P Q a w :=
  wpIn_handsS hg eg hit I Ix hT hI hIx h0 (fun x => { tmps := (a.tmps.setIfInBounds p (.int .i64 x)).setIfInBounds q (.int .i64 x), defers := [] }) hassign hbody hdone hstop
theorem results_cell_one {P : Program} {fn : Func} {p : Tmp} {ty : TypeId} (h : fn.results = #[.cell p ty]) (tmps : Array Value) (w : World) (a : Addr) (v : Value)
    (hp : tmps.getD p undef = .pointer (some a)) (hl : (loadVar ty a).run P w = .ok v w) : (results fn tmps).run P w = .ok v w := by
  have hp' : tmps[p]?.getD undef = .pointer (some a) := by simpa using hp
  simp [results, h, hp', asAddr, hl]

/-- No cell of a set is near to another one, by the ground's words. -/
def freeB (G : List Nat) (s : Nat) : Bool := (bitsL s).all fun x => (G.getD (1 + x.toNat) 0 &&& s) == 0

theorem load_bool {W : World} {p : Addr} {b : Bool} (h : W.cell? p = some (.bool b)) : (loadVar 4 p).run Tryz.prog W = .ok (.bool b) W := by
  have ha := Tryz.isAgg4
  simp [loadVar, Sem.run_bind, ha, go_sem, h]

def StopF (G : List Nat) (s : Nat) (c : Code) (_ : List Int) : Prop := c = .ret ∧ freeB G s = false
/-- One block in the midst of a range: what it holds, and a word on the cells that were handed over. -/
def MidC {α : Type} (W3 : World) (g : Nat) (t : TypeId) (C : α → Array Value) (p : α → Prop) (x : α) (W' : World) : Prop :=
  W3.grownBy W' (some g) ∧ W'.heap[g]? = some (.cells (C x) t (0, 0)) ∧ p x
theorem midC_own {α : Type} {W3 : World} {g : Nat} {t : TypeId} {C : α → Array Value} {p : α → Prop} (hg : g < W3.heap.size) : OwnFrom W3.heap.size (MidC W3 g t C p) := by
  intro s W W' row hs hgr hr
  have hne : some g ≠ row := fun e => by have := (hr g e.symm).1; omega
  refine ⟨⟨hgr.os.trans hs.1.os, hgr.tape.trans hs.1.tape, hgr.output.trans hs.1.output, Nat.le_trans hs.1.size hgr.size, fun k hk hkg => ?_⟩, ?_, hs.2.2⟩
  · refine (hgr.block k (Nat.lt_of_lt_of_le hk hs.1.size) (fun e => ?_)).trans (hs.1.block k hk hkg)
    have := (hr k e.symm).1
    omega
  · exact (hgr.block g (Array.getElem?_eq_some_iff.1 hs.2.1).1 hne).trans hs.2.1

end Go.Proofs.YtnmmgalidkambaaGreatDoor

namespace Go.Proofs.YtnmmgalidkambaaGreatDoor
open Go.RowKit Go.Shelf
attribute [local go_sem] Oper.semAt_some

/-- The cells that are guarded from one, by the ground's words. -/
def grdC (G : List Nat) (x : Int) : Nat := G.getD (1 + x.toNat) 0 ||| 2 ^ x.toNat
/-- The cells that are guarded from some. -/
def grdL (G : List Nat) (l : List Int) : Nat := l.foldl (fun acc x => acc ||| grdC G x) 0
theorem grdL_snoc (G : List Nat) (l : List Int) (x : Int) : grdL G (l ++ [x]) = grdL G l ||| grdC G x := by simp [grdL, List.foldl_append]
theorem or_lt64 {a b : Nat} (ha : a < 18446744073709551616) (hb : b < 18446744073709551616) : a ||| b < 18446744073709551616 := Nat.or_lt_two_pow (n := 64) ha hb
theorem getD_lt {G : List Nat} (hGb : ∀ x ∈ G, x < 18446744073709551616) (i : Nat) : G.getD i 0 < 18446744073709551616 := by
  rw [List.getD_eq_getElem?_getD]
  cases h : G[i]? with
  | none => decide
  | some y => exact hGb y (List.mem_of_getElem? h)
theorem grdC_lt {G : List Nat} (hGb : ∀ x ∈ G, x < 18446744073709551616) {x : Int} (h0 : 0 ≤ x) (h1 : x < 64) : grdC G x < 18446744073709551616 :=
  or_lt64 (getD_lt hGb _) (Nat.lt_of_lt_of_le (Nat.pow_lt_pow_right (by decide) (by omega : x.toNat < 64)) (by decide))
theorem grdL_lt' {G : List Nat} (hGb : ∀ x ∈ G, x < 18446744073709551616) : ∀ (l : List Int) (acc : Nat), acc < 18446744073709551616 → (∀ x ∈ l, 0 ≤ x ∧ x < 64) → l.foldl (fun acc x => acc ||| grdC G x) acc < 18446744073709551616
  | [], _, h, _ => h
  | x :: l, acc, ha, h => grdL_lt' hGb l _ (or_lt64 ha (grdC_lt hGb (h x (by simp)).1 (h x (by simp)).2)) (fun y hy => h y (by simp [hy]))
theorem grdL_lt {G : List Nat} (hGb : ∀ x ∈ G, x < 18446744073709551616) (l : List Int) (h : ∀ x ∈ l, 0 ≤ x ∧ x < 64) : grdL G l < 18446744073709551616 := grdL_lt' hGb l 0 (by decide) h
theorem grdL_bit' {G : List Nat} {i : Nat} : ∀ (l : List Int) (acc : Nat), (l.foldl (fun acc x => acc ||| grdC G x) acc).testBit i = true ↔ acc.testBit i = true ∨ ∃ x ∈ l, (grdC G x).testBit i = true
  | [], acc => by simp
  | x :: l, acc => by
    rw [List.foldl_cons, grdL_bit' l, Nat.testBit_or, Bool.or_eq_true]
    constructor
    · rintro ((h | h) | ⟨y, hy, h⟩)
      · exact .inl h
      · exact .inr ⟨x, by simp, h⟩
      · exact .inr ⟨y, by simp [hy], h⟩
    · rintro (h | ⟨y, hy, h⟩)
      · exact .inl (.inl h)
      · rcases List.mem_cons.1 hy with rfl | hy
        · exact .inl (.inr h)
        · exact .inr ⟨y, hy, h⟩
theorem grdL_bit {G : List Nat} {i : Nat} (l : List Int) : (grdL G l).testBit i = true ↔ ∃ x ∈ l, (grdC G x).testBit i = true := by
  rw [grdL, grdL_bit']
  simp
theorem grdC_bit {G : List Nat} {x : Int} {i : Nat} : (grdC G x).testBit i = true ↔ (G.getD (1 + x.toNat) 0).testBit i = true ∨ x.toNat = i := by
  rw [grdC, Nat.testBit_or, Bool.or_eq_true, Nat.testBit_two_pow, decide_eq_true_eq]

end Go.Proofs.YtnmmgalidkambaaGreatDoor

namespace Go.Proofs.YtnmmgalidkambaaGreatDoor
open Go.RowKit Go.Shelf
attribute [local go_sem] Oper.semAt_some

theorem yields_load {P : Program} {ops : Array Oper} {S : World → Prop} {o : Oper} {a : Act} {v : Value} (ty : TypeId) (x : Operand) (p : Value) (ho : o.op = .load ty x) (hw : Region.wanted o (yielded ops a.tmps) = true)
    (hx : a.eval x = p) (hr : ∀ w, S w → (Instr.loadAt ty p).run P w = .ok v w) : YieldsIf P ops S o v a := by
  refine Or.inl ⟨hw, fun w hS => ?_⟩
  unfold execOp
  simp only [ho, hx, Sem.run_bind, hr w hS, Sem.run_pure, Result.andThen_ok]
set_option maxRecDepth 100000 in
theorem load_groundW {G : List Nat} (hG : G.length = 65) {w : World} {g : Nat} (h : w.heap[g]? = some (.cells (words G).toArray 58 (0, 0))) :
    (Instr.loadAt 58 (.pointer (some ⟨g, 0, none⟩))).run Tryz.prog w = .ok (.agg (words G).toArray) w :=
  run_loadAt_mid (P := Tryz.prog) w g 0 58 (words G) (.struct _) (fun j v hv => by rw [Nat.zero_add, cell_of_row _ _ _ _ _ _ h]; simpa using hv) rfl rfl (by rw [info_ground]; simp [words, hG])

end Go.Proofs.YtnmmgalidkambaaGreatDoor

namespace Go.Proofs.YtnmmgalidkambaaGreatDoor
open Go.RowKit

/-- Cells that are there, increasing, the first one greater than a number. -/
def setGo (W H : Int) (xs : List Int) : Int → List Int → Bool
  | _, [] => true
  | b, c :: t => decide (b < c) && hasB W H xs c && setGo W H xs c t
def setB (W H : Int) (xs ps : List Int) : Bool := setGo W H xs (-1) ps
theorem setGo_facts {W H : Int} {xs : List Int} : ∀ (ps : List Int) (b : Int), setGo W H xs b ps = true → (∀ x ∈ ps, b < x ∧ hasB W H xs x = true) ∧ ps.Pairwise (· < ·)
  | [], b, _ => ⟨(fun x h => by cases h), List.Pairwise.nil⟩
  | c :: t, b, h => by
    simp only [setGo, Bool.and_eq_true, decide_eq_true_eq] at h
    obtain ⟨h1, h2⟩ := setGo_facts t c h.2
    refine ⟨fun x hx => ?_, List.Pairwise.cons (fun x hx => (h1 x hx).1) h2⟩
    rcases List.mem_cons.1 hx with rfl | hx
    · exact h.1
    · exact ⟨by have := (h1 x hx).1; omega, (h1 x hx).2⟩
theorem setGo_len {W H : Int} {xs : List Int} (hN : W * H ≤ 64) : ∀ (ps : List Int) (b : Int), -1 ≤ b → setGo W H xs b ps = true → ps ≠ [] → (ps.length : Int) ≤ 63 - b
  | [], b, _, _, h => absurd rfl h
  | c :: t, b, hb, h, _ => by
    simp only [setGo, Bool.and_eq_true, decide_eq_true_eq] at h
    have hc := (hasB_iff.1 h.1.2).1
    rw [List.length_cons]
    by_cases ht : t = []
    · subst ht; simp; omega
    · have := setGo_len hN t c (by omega) h.2 ht
      omega
theorem setB_len {W H : Int} {xs ps : List Int} (hN : W * H ≤ 64) (h : setB W H xs ps = true) : ps.length ≤ 64 := by
  by_cases hp : ps = []
  · subst hp; simp
  · have := setGo_len hN ps (-1) (by omega) h hp; omega
theorem setGo_drop {W H : Int} {xs ps : List Int} {k : Nat} {x b : Int} (hx : ps[k]? = some x) : setGo W H xs b (ps.drop k) = (decide (b < x) && hasB W H xs x && setGo W H xs x (ps.drop (k + 1))) := by
  have hk : k < ps.length := (List.getElem?_eq_some_iff.1 hx).1
  rw [List.drop_eq_getElem_cons hk, (List.getElem?_eq_some_iff.1 hx).2]
  rfl
theorem setGo_nil {W H : Int} {xs ps : List Int} {k : Nat} {b : Int} (hk : ps.length ≤ k) : setGo W H xs b (ps.drop k) = true := by
  rw [List.drop_of_length_le hk]; rfl

end Go.Proofs.YtnmmgalidkambaaGreatDoor

namespace Go.Proofs.YtnmmgalidkambaaGreatDoor
open Go.RowKit Go.Shelf

def glG (W H : Int) (xs : List Int) (a b : Int) : List Nat := gl W H xs a b (cellsL W H xs)
theorem glG_len (W H : Int) (xs : List Int) (a b : Int) : (glG W H xs a b).length = 65 := gl_len _ _ _ _ _ _
theorem cells_64 {W H : Int} {xs : List Int} (hg : goodB W H xs = true) : ∀ x ∈ cellsL W H xs, 0 ≤ x ∧ x < 64 := fun x hx => by
  have h1 := (hasB_iff.1 (cellsL_mem.1 hx)).1
  obtain ⟨hW, hH, _, _⟩ := goodB_iff.1 hg
  have := cells_le hW hH
  omega
theorem leaps_64 {W H a b x : Int} {xs : List Int} (hg : goodB W H xs = true) : ∀ y ∈ leapsL W H xs a b x, 0 ≤ y ∧ y < 64 := fun y hy => cells_64 hg y (List.mem_filter.1 hy).1
theorem glG_lt {W H a b : Int} {xs : List Int} (hg : goodB W H xs = true) : ∀ x ∈ glG W H xs a b, x < 18446744073709551616 := by
  intro x hx
  rw [glG, gl, List.mem_cons, List.mem_map] at hx
  rcases hx with rfl | ⟨c, _, rfl⟩
  · exact set_lt (cells_64 hg)
  · split
    · exact set_lt (leaps_64 hg)
    · decide
theorem glG_at {W H a b x : Int} {xs : List Int} (h0 : 0 ≤ x) (h1 : x < 64) (hx : x ∈ cellsL W H xs) : (glG W H xs a b).getD (1 + x.toNat) 0 = nearS W H xs a b x := by
  rw [glG, gl, show 1 + x.toNat = x.toNat + 1 by omega, List.getD_cons_succ, List.getD_eq_getElem?_getD, List.getElem?_map, List.getElem?_range (by omega)]
  simp [show ((x.toNat : Nat) : Int) = x by omega, hx]
theorem near_bit {W H a b x : Int} {xs : List Int} (hg : goodB W H xs = true) (i : Nat) : (nearS W H xs a b x).testBit i = true ↔ hasB W H xs (i : Int) = true ∧ leapB W a b x (i : Int) = true := by
  rw [nearS, setBits_test _ _ _ rfl, List.mem_map]
  constructor
  · rintro ⟨y, hy, e⟩
    have h1 := leaps_64 hg y hy
    rw [leapsL, List.mem_filter, cellsL_mem] at hy
    rw [show (i : Int) = y by omega]
    exact hy
  · rintro ⟨h1, h2⟩
    exact ⟨(i : Int), by rw [leapsL, List.mem_filter, cellsL_mem]; exact ⟨h1, h2⟩, by omega⟩
theorem has_64 {W H x : Int} {xs : List Int} (hg : goodB W H xs = true) (h : hasB W H xs x = true) : 0 ≤ x ∧ x < 64 := cells_64 hg x (cellsL_mem.2 h)

/-- The cells that some cells guard. -/
def guardL (W H : Int) (xs : List Int) (a b : Int) (ps : List Int) : List Int := (cellsL W H xs).filter fun c => ps.contains c || ps.any fun f => leapB W a b f c
theorem guard_bit {W H a b : Int} {xs ps : List Int} (hg : goodB W H xs = true) (hp : ∀ x ∈ ps, hasB W H xs x = true) (i : Nat) :
    (grdL (glG W H xs a b) ps).testBit i = true ↔ hasB W H xs (i : Int) = true ∧ ((i : Int) ∈ ps ∨ ∃ f ∈ ps, leapB W a b f (i : Int) = true) := by
  rw [grdL_bit]
  constructor
  · rintro ⟨x, hx, h⟩
    have h64 := has_64 hg (hp x hx)
    rw [grdC_bit, glG_at h64.1 h64.2 (cellsL_mem.2 (hp x hx)), near_bit hg] at h
    rcases h with h | h
    · exact ⟨h.1, .inr ⟨x, hx, h.2⟩⟩
    · have : (i : Int) = x := by omega
      rw [this]
      exact ⟨hp x hx, .inl hx⟩
  · rintro ⟨h, (hm | ⟨f, hf, hl⟩)⟩
    · exact ⟨(i : Int), hm, by rw [grdC_bit]; right; omega⟩
    · have h64 := has_64 hg (hp f hf)
      exact ⟨f, hf, by rw [grdC_bit, glG_at h64.1 h64.2 (cellsL_mem.2 (hp f hf)), near_bit hg]; exact .inl ⟨h, hl⟩⟩
theorem guard_bits {W H a b : Int} {xs ps : List Int} (hg : goodB W H xs = true) (hp : ∀ x ∈ ps, hasB W H xs x = true) : bitsL (grdL (glG W H xs a b) ps) = guardL W H xs a b ps := by
  refine rise_unique (bitsL_rise _) ((cellsL_rise W H xs).filter _) fun x => ?_
  rw [bitsL_mem, guardL, List.mem_filter, cellsL_mem]
  constructor
  · rintro ⟨h0, h1, h2⟩
    rw [guard_bit hg hp, show ((x.toNat : Nat) : Int) = x by omega] at h2
    exact ⟨h2.1, by simpa using h2.2⟩
  · rintro ⟨h1, h2⟩
    have h64 := has_64 hg h1
    refine ⟨h64.1, h64.2, ?_⟩
    rw [guard_bit hg hp, show ((x.toNat : Nat) : Int) = x by omega]
    exact ⟨h1, by simpa using h2⟩
theorem setB_facts {W H : Int} {xs ps : List Int} (h : setB W H xs ps = true) : (∀ x ∈ ps, hasB W H xs x = true) ∧ ps.Pairwise (· < ·) :=
  ⟨fun x hx => ((setGo_facts ps _ h).1 x hx).2, (setGo_facts ps _ h).2⟩
theorem setB_bits {W H : Int} {xs ps : List Int} (hg : goodB W H xs = true) (h : setB W H xs ps = true) : bitsL (setBits (ps.map Int.toNat)) = ps :=
  set_bits (setB_facts h).2 (fun x hx => has_64 hg ((setB_facts h).1 x hx))
def askB (W H : Int) (xs : List Int) (a b : Int) (ps : List Int) : Bool := twoV W H xs a b && setB W H xs ps
theorem ask_parts {W H a b : Int} {xs ps : List Int} (h : askB W H xs a b ps = true) : goodB W H xs = true ∧ leaperB a b = true ∧ setB W H xs ps = true := by
  simp only [askB, twoV, Bool.and_eq_true] at h
  exact ⟨h.1.1, h.1.2, h.2⟩

end Go.Proofs.YtnmmgalidkambaaGreatDoor

namespace Go.Proofs.YtnmmgalidkambaaGreatDoor
open Go.RowKit

/-! ### Pure: the rest behind a path -/
def RestOf (W H : Int) (xs path : List Int) (r : Nat) : Prop := r < 18446744073709551616 ∧ ∀ i : Nat, r.testBit i = true ↔ hasB W H xs (i : Int) = true ∧ (i : Int) ∉ path
theorem onL_rise (W H : Int) (xs : List Int) (a b : Int) (path : List Int) (x : Int) : (onL W H xs a b path x).Pairwise (· < ·) := ((cellsL_pairwise W H xs).filter _).filter _
theorem onL_mem {W H a b x y : Int} {xs path : List Int} : y ∈ onL W H xs a b path x ↔ hasB W H xs y = true ∧ leapB W a b x y = true ∧ y ∉ path := by
  rw [onL, List.mem_filter, leapsL, List.mem_filter, cellsL_mem]
  simp only [Bool.not_eq_true', List.contains_eq_mem, decide_eq_false_iff_not]
  exact ⟨fun h => ⟨h.1.1, h.1.2, h.2⟩, fun h => ⟨⟨h.1, h.2.1⟩, h.2.2⟩⟩
theorem cell_64 {W H x : Int} {xs : List Int} (hN : 1 ≤ W * H ∧ W * H ≤ 64) (h : hasB W H xs x = true) : 0 ≤ x ∧ x < 64 := by have := (hasB_iff.1 h).1; omega
theorem near_rest {W H a b x : Int} {xs path : List Int} {r : Nat} (hg : goodB W H xs = true) (hN : 1 ≤ W * H ∧ W * H ≤ 64) (hr : RestOf W H xs path r) : nearS W H xs a b x &&& r = setBits ((onL W H xs a b path x).map Int.toNat) := by
  refine Nat.eq_of_testBit_eq fun i => ?_
  rw [Bool.eq_iff_iff, Nat.testBit_and, Bool.and_eq_true, near_bit hg, hr.2, setBits_test _ _ _ rfl, List.mem_map]
  constructor
  · rintro ⟨⟨h1, h2⟩, _, h3⟩
    exact ⟨(i : Int), onL_mem.2 ⟨h1, h2, h3⟩, by simp⟩
  · rintro ⟨y, hy, rfl⟩
    obtain ⟨h1, h2, h3⟩ := onL_mem.1 hy
    have := cell_64 hN h1
    rw [show ((y.toNat : Nat) : Int) = y by omega]
    exact ⟨⟨h1, h2⟩, h1, h3⟩
theorem near_rest_list {W H a b x : Int} {xs path : List Int} {r : Nat} (hg : goodB W H xs = true) (hN : 1 ≤ W * H ∧ W * H ≤ 64) (hr : RestOf W H xs path r) : bitsL (nearS W H xs a b x &&& r) = onL W H xs a b path x := by
  rw [near_rest hg hN hr]
  refine rise_unique (bitsL_rise _) (onL_rise _ _ _ _ _ _ _) fun y => ?_
  rw [bitsL_mem, setBits_test _ _ _ rfl, List.mem_map]
  constructor
  · rintro ⟨h0, h1, z, hz, e⟩
    have := cell_64 hN (onL_mem.1 hz).1
    rw [show y = z by omega]; exact hz
  · intro hy
    have := cell_64 hN (onL_mem.1 hy).1
    exact ⟨this.1, this.2, y, hy, rfl⟩
theorem near_rest_pop {W H a b x : Int} {xs path : List Int} {r : Nat} (hg : goodB W H xs = true) (hN : 1 ≤ W * H ∧ W * H ≤ 64) (hr : RestOf W H xs path r) : popN 64 (nearS W H xs a b x &&& r) = onN W H xs a b path x := by
  rw [near_rest hg hN hr, onN]
  have h := (popN_set _ ((onL W H xs a b path x).map Int.toNat) rfl (fun c hc => by
    obtain ⟨y, hy, rfl⟩ := List.mem_map.1 hc
    have := cell_64 hN (onL_mem.1 hy).1; omega)).2
  rw [List.length_map] at h
  refine h.2 ?_
  rw [List.Nodup, List.pairwise_map]
  refine ((onL_rise W H xs a b path x).imp_of_mem ?_)
  intro u v hu hv huv
  have h1 := cell_64 hN (onL_mem.1 hu).1
  have h2 := cell_64 hN (onL_mem.1 hv).1
  omega
theorem rest_lt {r s : Nat} (h : r < 18446744073709551616) : s &&& r < 18446744073709551616 := Nat.lt_of_le_of_lt Nat.and_le_right h
theorem rest_start {W H q : Int} {xs : List Int} (hN : 1 ≤ W * H ∧ W * H ≤ 64) (hq : hasB W H xs q = true) : RestOf W H xs [q] (clr (allS W H xs) q.toNat) := by
  have hq6 := cell_64 hN hq
  have hb : ∀ i, (allS W H xs).testBit i = true ↔ hasB W H xs (i : Int) = true := fun i => by
    rw [allS, setBits_test _ _ _ rfl, List.mem_map]
    constructor
    · rintro ⟨y, hy, rfl⟩
      have := cell_64 hN (cellsL_mem.1 hy)
      rw [show ((y.toNat : Nat) : Int) = y by omega]; exact cellsL_mem.1 hy
    · intro h; exact ⟨(i : Int), cellsL_mem.2 h, by simp⟩
  refine ⟨Nat.lt_of_le_of_lt (clr_le _ _) (by unfold allS; exact setBits_lt _ (fun i hi => by obtain ⟨y, hy, rfl⟩ := List.mem_map.1 hi; have := cell_64 hN (cellsL_mem.1 hy); omega)), fun i => ?_⟩
  rw [clr_bit (by omega), Bool.and_eq_true, Bool.and_eq_true, hb, decide_eq_true_eq, decide_eq_true_eq]
  constructor
  · rintro ⟨h1, h2, h3⟩; exact ⟨h1, by simp; omega⟩
  · rintro ⟨h1, h2⟩
    have := cell_64 hN h1
    simp at h2
    exact ⟨h1, by omega, by omega⟩
theorem rest_next {W H z : Int} {xs path : List Int} {r : Nat} (hN : 1 ≤ W * H ∧ W * H ≤ 64) (hr : RestOf W H xs path r) (hz : hasB W H xs z = true) : RestOf W H xs (path ++ [z]) (clr r z.toNat) := by
  have hq6 := cell_64 hN hz
  refine ⟨Nat.lt_of_le_of_lt (clr_le _ _) hr.1, fun i => ?_⟩
  rw [clr_bit (by omega), Bool.and_eq_true, Bool.and_eq_true, hr.2, decide_eq_true_eq, decide_eq_true_eq]
  constructor
  · rintro ⟨⟨h1, h2⟩, h3, h4⟩; exact ⟨h1, by rw [List.mem_append]; simp; exact ⟨h2, by omega⟩⟩
  · rintro ⟨h1, h2⟩
    have := cell_64 hN h1
    rw [List.mem_append] at h2; simp at h2
    exact ⟨⟨h1, h2.1⟩, by omega, by omega⟩
theorem fewest_step {N : Int → Nat} {xs : List Int} {k : Nat} {y z : Int} (h : fewestOf N (xs.take k) = some z) (hy : xs[k]? = some y) : fewestOf N (xs.take (k + 1)) = some (better N z y) := by
  rw [List.take_add_one, hy]
  cases ht : xs.take k with
  | nil => rw [ht] at h; cases h
  | cons u t =>
    rw [ht] at h
    have h' : t.foldl (better N) u = z := Option.some.inj h
    show some ((t ++ [y]).foldl (better N) u) = _
    rw [List.foldl_append, h']; rfl
theorem cmp_less {m n : Nat} (h : m < n) : Lib.compareInt (m : Int) (n : Int) < 0 := by rw [Lib.compareInt, if_pos (by omega)]; decide
theorem cmp_not {m n : Nat} (h : ¬ m < n) : ¬ Lib.compareInt (m : Int) (n : Int) < 0 := by
  rw [Lib.compareInt, if_neg (by omega)]; split <;> decide

end Go.Proofs.YtnmmgalidkambaaGreatDoor

namespace Go.Proofs.YtnmmgalidkambaaGreatDoor
open Go.RowKit

theorem endOf_eq (path : List Int) : endOf path = lastOf path := rfl
theorem onL_eq (W H : Int) (xs : List Int) (a b : Int) (path : List Int) (x : Int) : onL W H xs a b path x = nextL (leapsL W H xs a b) path x := rfl
def okT (P : Nat → Nat) (i : Nat) (t : List Int) : Bool := (List.range (t.length - i)).all fun j => (P (i + j)).testBit (t.getD (i + j) 0).toNat
theorem okT_step {P : Nat → Nat} {i : Nat} {t : List Int} (h : i < t.length) : okT P i t = ((P i).testBit (t.getD i 0).toNat && okT P (i + 1) t) := by
  unfold okT
  rw [show t.length - i = (t.length - (i + 1)) + 1 by omega, List.range_succ_eq_map, List.all_cons, List.all_map]
  congr 1
  refine congrArg _ (funext fun j => ?_)
  rw [Function.comp, show i + j.succ = i + 1 + j by omega]
theorem okT_end {P : Nat → Nat} {t : List Int} : okT P t.length t = true := by unfold okT; simp
theorem cnt_all {W H a b : Int} {xs : List Int} (G P : Nat → Nat) (last : Nat) (hg : goodB W H xs = true) (hN : 1 ≤ W * H ∧ W * H ≤ 64)
    (hG : ∀ y, hasB W H xs y = true → G y.toNat = nearS W H xs a b y) : ∀ (k : Nat) (path : List Int) (r : Nat), RestOf W H xs path r → path ≠ [] → path.length + k = last + 1 → hasB W H xs (endOf path) = true →
    cntR G P last k (endOf path).toNat r = ((allW (leapsL W H xs a b) k path).filter (okT P (path.length - 1))).length
  | 0, path, r, hr, hne, hl, hq => by
    have hlen : 0 < path.length := by cases path with | nil => exact absurd rfl hne | cons => simp
    rw [cntR, allW, List.filter_cons, okT_step (by omega), show path.length - 1 + 1 = path.length by omega, okT_end, Bool.and_true, show path.getD (path.length - 1) 0 = endOf path from rfl, show last = path.length - 1 by omega]
    split <;> simp
  | k + 1, path, r, hr, hne, hl, hq => by
    have hlen : 0 < path.length := by cases path with | nil => exact absurd rfl hne | cons => simp
    rw [cntR, hG _ hq, near_rest_list hg hN hr, show last - (k + 1) = path.length - 1 by omega, allW_succ, onL_eq]
    by_cases hp : (P (path.length - 1)).testBit (endOf path).toNat = true
    · rw [if_pos hp, List.filter_flatMap, List.length_flatMap]
      refine congrArg List.sum (List.map_congr_left fun y hy => ?_)
      obtain ⟨h1, h2, h3⟩ := onL_mem.1 hy
      have ih := cnt_all (a := a) (b := b) G P last hg hN hG k (path ++ [y]) (clr r y.toNat) (rest_next hN hr h1) (by simp) (by simp; omega) (by rw [endOf_snoc]; exact h1)
      rw [endOf_snoc, show (path ++ [y]).length - 1 = path.length by simp] at ih
      rw [ih]
      refine congrArg List.length (List.filter_congr fun t ht => ?_)
      obtain ⟨s, rfl, hs⟩ := allW_form ht
      rw [okT_step (i := path.length - 1) (by simp; omega), show path.length - 1 + 1 = path.length by omega, List.append_assoc, endOf_pre hne, hp, Bool.true_and]
    · rw [if_neg hp, List.filter_flatMap]
      symm
      rw [List.length_eq_zero_iff, List.flatMap_eq_nil_iff]
      intro y hy
      rw [List.filter_eq_nil_iff]
      intro t ht
      obtain ⟨s, rfl, hs⟩ := allW_form ht
      rw [okT_step (i := path.length - 1) (by simp; omega), List.append_assoc, endOf_pre hne]
      rw [Bool.not_eq_true] at hp
      rw [hp]; simp
end Go.Proofs.YtnmmgalidkambaaGreatDoor

namespace Go.Proofs.YtnmmgalidkambaaGreatDoor
open Go.RowKit
open Go.Maps (Keyed)

theorem laidOutP : laidOutB Tryz.prog = true := by kernel_rfl
theorem rowPos : (98 : TypeId) < Tryz.prog.types.size := of_decide_eq_true (by kernel_rfl)
theorem keyPos : Tryz.prog.keyTypeAt 3 98 = true := by kernel_rfl
theorem keyTypePos : Tryz.prog.keyType 98 = true := by kernel_rfl
theorem lawPos : Keyed Tryz.prog 98 := Keyed.of_law (deep_law_laid laidOutP (m := 3) (by omega) rowPos keyPos (by rw [Tryz.underlying98]))
def pairV (c r : Nat) : Value := .agg #[.int .i64 (c : Int), .int .u64 (r : Int)]
def pairL (c r : Nat) : Lit := .string (keyBytes [.int .i64 (c : Int), .int .u64 (r : Int)])
theorem cells_pos : Tryz.prog.cellsOf 98 = 2 := by kernel_rfl
theorem cells_int1 : Tryz.prog.cellsOf 3 = 1 := by kernel_rfl
theorem cells_set1 : Tryz.prog.cellsOf 55 = 1 := by kernel_rfl
theorem types_pos : ∃ m, Tryz.prog.types.size = m + 2 := ⟨Tryz.prog.types.size - 2, by have h := rowPos; have h2 : (98 : Nat) < Tryz.prog.types.size := h; omega⟩
set_option maxHeartbeats 1000000 in
theorem keyOfPos {c r : Nat} (hc : c < 64) (hr : r < 18446744073709551616) : keyOf Tryz.prog 98 (pairV c r) = some (pairL c r) := by
  obtain ⟨m, hm⟩ := types_pos
  have wc : (Lit.int .i64 (c : Int)).wf = true := by simp [Lit.wf, IntKind.min, IntKind.max, IntKind.signed, IntKind.bits]; omega
  have wr : (Lit.int .u64 (r : Int)).wf = true := by simp [Lit.wf, IntKind.min, IntKind.max, IntKind.signed, IntKind.bits]; omega
  unfold keyOf pairV pairL
  simp only [Tryz.underlying98]
  rw [if_pos (by simp [keyTypePos, Value.formed, Tryz.underlying98, cells_pos]), hm]
  unfold Program.keyLits
  simp only [Tryz.underlying98, Value.cells]
  rw [if_pos ⟨by rw [cells_pos]; rfl, by kernel_rfl⟩]
  simp [Program.keyLits, Tryz.underlying3, Tryz.underlying55, cells_int1, cells_set1, wc, wr]
theorem pair_isKey {c r : Nat} (hc : c < 64) (hr : r < 18446744073709551616) : WideAt.IsKeyLit (pairL c r) := lawPos.key (keyOfPos hc hr)
theorem pair_inj {c r c' r' : Nat} (hc : c < 64) (hr : r < 18446744073709551616) (hc' : c' < 64) (hr' : r' < 18446744073709551616) (h : pairL c r = pairL c' r') : c = c' ∧ r = r' := by
  have h1 := keyOfPos hc' hr'
  rw [← h] at h1
  have h2 := lawPos.inj (keyOfPos hc hr) h1
  unfold pairV at h2
  simp at h2
  omega
/-- What is kept is what F tells. -/
def Known (D : DataW Unit) (F : Nat → Nat → Nat) : Prop := ∀ c r, c < 64 → r < 18446744073709551616 → Maps.has D (pairL c r) = true → D.atKey (pairL c r) (.lit (.int .i64 0)) = .lit (.int .i64 (F c r : Int))
theorem known_nil (F : Nat → Nat → Nat) : Known (.map []) F := fun c r _ _ h => by cases h
theorem known_put {D : DataW Unit} {F : Nat → Nat → Nat} (hD : Maps.IsMap D) (h : Known D F) {c r : Nat} (hc : c < 64) (hr : r < 18446744073709551616) : Known (D.put (pairL c r) (.lit (.int .i64 (F c r : Int)))) F := fun c' r' hc' hr' hh => by
  by_cases e : pairL c' r' = pairL c r
  · obtain ⟨rfl, rfl⟩ := pair_inj hc' hr' hc hr e
    rw [Maps.atKey_put_same hD (pair_isKey hc hr)]
  · rw [Maps.has_put_other e] at hh
    rw [Maps.atKey_put_other e]; exact h c' r' hc' hr' hh
theorem wpIn_scope_jumpsW {P : Program} {n : Nat} {Q : Exit → Act → World → Prop} {a : Act} {w : World} {c rest : Code} (l : Nat) (J : Act → World → Prop) (μ : Act → World → Nat) (hf : findLabel c l = some rest)
    (first : c.wpIn Fence.wide n P (Exit.jump l J Q) a w)
    (pass : ∀ a w, J a w → rest.wpIn Fence.wide n P (Exit.jump l (fun a' w' => J a' w' ∧ μ a' w' < μ a w) Q) a w) : (Code.scope c).wpIn Fence.wide n P Q a w :=
  wpIn_wide.2 (wp_scope_jumps l J μ hf (wpIn_wide.1 first) (fun a w h => wpIn_wide.1 (pass a w h)))
end Go.Proofs.YtnmmgalidkambaaGreatDoor

namespace Go.Proofs.YtnmmgalidkambaaGreatDoor
open Go.RowKit
set_option maxRecDepth 100000 in
set_option maxHeartbeats 1000000 in
theorem has_any (s c : Nat) (hs : s < 18446744073709551616) (hc : c < 64) (w : World) :
    Calls Tryz.prog 79 #[.int .u64 (s : Int), .int .i64 (c : Int)] w fun e w' => e = .returned (.bool (s.testBit c)) ∧ w = w' := by
  go_enter Tryz.func79, Tryz.ntmps79
  go_wp2
  go_ret
  refine ⟨ret_bool ?_, rfl⟩
  have e : ((s : Int) / 2 ^ c) = ((s / 2 ^ c : Nat) : Int) := by simp
  have hlt : s / 2 ^ c < 18446744073709551616 := Nat.lt_of_le_of_lt (Nat.div_le_self _ _) hs
  have h := bits_and_u64_nat (s / 2 ^ c) 1 hlt (by decide)
  show (bits BinOp.and IntKind.u64 ((s : Int) / 2 ^ c) 1 == 1) = s.testBit c
  rw [e, show (1 : Int) = ((1 : Nat) : Int) from rfl, h, Nat.testBit_eq_decide_div_mod_eq, Nat.and_one_is_mod]
  rw [Bool.eq_iff_iff]
  simp
  omega
end Go.Proofs.YtnmmgalidkambaaGreatDoor

namespace Go.Proofs.YtnmmgalidkambaaGreatDoor
open Go.RowKit Go.Shelf

theorem wpIn_handsL {P : Program} {n : Nat} {g : Operand} {p : Tmp} {assign body : Code} {Q : Exit → Act → World → Prop} {a : Act} {w : World} {gf : Nat} {sv : Value}
    (hg : a.eval g = .func (.func gf) #[sv] #[]) (eg : ∀ args w, (callFunc gf args).run P w = .ok (.enter gf args) w)
    {xs : List Int} {T : World → Prop} (hit : Hands P (n - 1) gf sv xs T)
    (I : List Int → World → Prop) (hT : ∀ pre w, I pre w → T w) (hI : OwnFrom w.heap.size I) (h0 : I [] w) (Ax : Int → Act → World → Prop) (hAx : ∀ x a', OwnFrom w.heap.size (fun (_ : Unit) W => Ax x a' W))
    (hassign : ∀ (l : Nat) (pre : List Int) (x : Int) (W : World) (K : Act → World → Prop), I pre W → (∀ a' W', KeepsFrom w.heap.size W W' → I pre W' → Ax x a' W' → K a' W') →
      assign.wpIn (Fence.wide.inRound l) (n - 1 - 1) P (Exit.then K (fun _ _ _ => False)) { tmps := ((#[p] : Array Tmp).zip #[Value.int .i64 x]).foldl (fun t (p, v) => t.setIfInBounds p v) a.tmps, defers := [] } W)
    (hbody : ∀ (l : Nat) (pre : List Int) (x : Int) (rest : List Int) (a' : Act) (W : World), w.heap.size ≤ l → (∃ r, W.heap[l]? = some (.loop r)) → xs = pre ++ x :: rest → I pre W → Ax x a' W →
      body.wpIn (Fence.wide.inRound l) (n - 1 - 1) P (ownPostG w.heap.size (fun _ _ => True) I (fun _ _ _ => False) (pre ++ [x]) W) a' W)
    (hdone : ∀ (D : Nat) (W : World), w.heap.size ≤ D → I xs W → W.heap[D]? = some (.deferred (some [])) → Q .normal { a with defers := { target := .collected D, args := #[] } :: a.defers } W) :
    (Code.rangeFunc g #[p] assign body).wpIn Fence.wide n P Q a w := by
  refine wpIn_rangeFunc ?_
  intro fn _
  obtain ⟨rec, hrec⟩ : ∃ rec : LoopState → Loop, rec = fun st => { state := st, pending := none, fn, tmps := a.tmps, params := #[p], assign, body, defers := w.heap.size } := ⟨_, rfl⟩
  obtain ⟨W1, hW1⟩ : ∃ W1, W1 = (w.alloc (.deferred (some []))).alloc (.loop (rec .ready)) := ⟨_, rfl⟩
  have hL1 : W1.heap[w.heap.size + 1]? = some (.loop (rec .ready)) := by
    rw [hW1]
    have h := World.alloc_heap_new (w.alloc (.deferred (some []))) (.loop (rec .ready))
    rw [World.size_alloc] at h
    exact h
  have hK1 : W1.heap[w.heap.size]? = some (.deferred (some [])) := by
    rw [hW1]
    exact (Below.heap_alloc _ _ _ (by simp)).trans (World.alloc_heap_new w _)
  have hI1 : I [] W1 := by rw [hW1]; exact hI.alloc _ (hI.alloc _ h0)
  refine ⟨w.heap.size + 1, [{ target := .collected w.heap.size, args := #[] }], W1, { target := .fn (.func gf) #[], args := #[sv, .func (.yield (w.heap.size + 1)) #[] #[]] }, W1, gf,
    #[sv, .func (.yield (w.heap.size + 1)) #[] #[]], W1, ?_, ?_, fun _ _ => trivial, ?_, (fun h => by cases h), ?_⟩
  · rw [hW1, hrec]; exact run_enterLoop_outer fn a.tmps #[p] assign body
  · simp only [resolve, hg]
    simp [go_sem]
  · simp [invoke, go_sem, eg]
  · refine (hit (w.heap.size + 1) (fun pre W => I pre W ∧ W.heap[w.heap.size + 1]? = some (.loop (rec .ready)) ∧ W.heap[w.heap.size]? = some (.deferred (some []))) W1
      (fun pre W h => hT pre W h.1) ?_ ⟨hI1, hL1, hK1⟩).mono ?_
    · rintro pre x rest W hsp ⟨hi, hl, hk⟩
      have hy := run_yield (P := P) (args := #[.int .i64 x]) hl (by rw [hrec]; rfl)
      rw [hrec] at hy
      refine ⟨fn, _, assign, body, hy, roundIn_of_wpIn trivial (hassign _ pre x W _ hi ?_)⟩
      clear hy
      intro a' Wa hkfa hia hax
      replace hl := hkfa.same _ _ (by omega) hl rfl
      replace hk := hkfa.same _ _ (Nat.le_refl _) hk rfl
      replace hi := hia
      clear hia hkfa
      have hlt := (Array.getElem?_eq_some_iff.1 hl).1
      have hbg := run_beginRound (P := P) hl (by rw [hrec])
      obtain ⟨busy, hbusy⟩ : ∃ busy : Loop, busy = { rec .ready with state := .busy } := ⟨_, rfl⟩
      rw [← hbusy] at hbg
      have hl2 : (Wa.putObj (w.heap.size + 1) (.loop busy)).heap[w.heap.size + 1]? = some (.loop busy) := World.putObj_heap_same hlt
      have hk2 : (Wa.putObj (w.heap.size + 1) (.loop busy)).heap[w.heap.size]? = some (.deferred (some [])) := (World.putObj_heap_other (by omega)).trans hk
      refine ⟨_, hbg, ?_⟩
      refine wpIn_mono (hbody (w.heap.size + 1) pre x rest a' _ (by omega) ⟨_, hl2⟩ hsp (hI.putObj _ hi (by omega) hl rfl) ((hAx x a').putObj (s := ()) _ hax (by omega) hl rfl)) ?_
      intro e a3 W3 hp
      cases e with
      | normal =>
        obtain ⟨hk3, _, hi3⟩ := hp
        have hl3 := hk3.same _ _ (by omega) hl2 rfl
        have hd3 := hk3.same _ _ (Nat.le_refl _) hk2 rfl
        have hend := run_endRound (P := P) none hl3
        have hre : ({ busy with state := if (none : Option Code).isNone then .ready else .done, pending := none } : Loop) = rec .ready := by rw [hbusy, hrec]; rfl
        rw [hre] at hend
        exact ⟨_, _, hend, rfl, hI.putObj _ hi3 (by omega) hl3 rfl, World.putObj_heap_same (Array.getElem?_eq_some_iff.1 hl3).1, (World.putObj_heap_other (by omega)).trans hd3⟩
      | ret => exact hp.2.elim
      | exit id => exact hp.2.elim
      | goto t => exact hp.2.elim
      | panic ch => exact hp.elim
      | outgrown => exact hp.elim
    · rintro e W2 ⟨⟨v, rfl⟩, hi, hl, hk⟩
      have hend := run_endLoop (P := P) hl (by rw [hrec]; simp)
      exact ⟨none, _, by rw [hrec] at hend; exact hend, hdone _ _ (Nat.le_refl _) (hI.putObj _ hi (by omega) hl rfl) ((World.putObj_heap_other (by omega)).trans hk)⟩
theorem wpIn_handsN {P : Program} {n : Nat} {g : Operand} {p : Tmp} {assign body : Code} {Q : Exit → Act → World → Prop} {a : Act} {w : World} {gf : Nat} {sv : Value} {l₀ : Nat} {r₀ : Loop} (hl₀ : w.heap[l₀]? = some (.loop r₀))
    (hg : a.eval g = .func (.func gf) #[sv] #[]) (eg : ∀ args w, (callFunc gf args).run P w = .ok (.enter gf args) w)
    {xs : List Int} {T : World → Prop} (hit : Hands P (n - 1) gf sv xs T)
    (I : List Int → World → Prop) (hT : ∀ pre w, I pre w → T w) (hI : OwnFrom w.heap.size I) (h0 : I [] w) (Ax : Int → Act → World → Prop) (hAx : ∀ x a', OwnFrom w.heap.size (fun (_ : Unit) W => Ax x a' W))
    (hassign : ∀ (l : Nat) (pre : List Int) (x : Int) (W : World) (K : Act → World → Prop), I pre W → (∀ a' W', KeepsFrom w.heap.size W W' → I pre W' → Ax x a' W' → K a' W') →
      assign.wpIn (Fence.wide.inRound l) (n - 1 - 1) P (Exit.then K (fun _ _ _ => False)) { tmps := ((#[p] : Array Tmp).zip #[Value.int .i64 x]).foldl (fun t (p, v) => t.setIfInBounds p v) a.tmps, defers := [] } W)
    (hbody : ∀ (l : Nat) (pre : List Int) (x : Int) (rest : List Int) (a' : Act) (W : World), w.heap.size ≤ l → (∃ r, W.heap[l]? = some (.loop r)) → xs = pre ++ x :: rest → I pre W → Ax x a' W →
      body.wpIn (Fence.wide.inRound l) (n - 1 - 1) P (ownPostG w.heap.size (fun _ _ => True) I (fun _ _ _ => False) (pre ++ [x]) W) a' W)
    (hdone : ∀ (W : World), I xs W → Q .normal a W) :
    (Code.rangeFunc g #[p] assign body).wpIn (Fence.wide.inRound l₀) n P Q a w := by
  refine wpIn_rangeFunc ?_
  intro fn _
  obtain ⟨rec, hrec⟩ : ∃ rec : LoopState → Loop, rec = fun st => { state := st, pending := none, fn, tmps := a.tmps, params := #[p], assign, body, defers := r₀.defers } := ⟨_, rfl⟩
  obtain ⟨W1, hW1⟩ : ∃ W1, W1 = w.alloc (.loop (rec .ready)) := ⟨_, rfl⟩
  have hL1 : W1.heap[w.heap.size]? = some (.loop (rec .ready)) := by rw [hW1]; exact World.alloc_heap_new w _
  have hI1 : I [] W1 := by rw [hW1]; exact hI.alloc _ h0
  refine ⟨w.heap.size, [], W1, { target := .fn (.func gf) #[], args := #[sv, .func (.yield (w.heap.size)) #[] #[]] }, W1, gf,
    #[sv, .func (.yield (w.heap.size)) #[] #[]], W1, ?_, ?_, fun _ _ => trivial, ?_, (fun h => by cases h), ?_⟩
  · rw [hW1, hrec]; exact run_enterLoop_inner hl₀ fn a.tmps #[p] assign body
  · simp only [resolve, hg]
    simp [go_sem]
  · simp [invoke, go_sem, eg]
  · refine (CallsIn.inRound l₀ (hit (w.heap.size) (fun pre W => I pre W ∧ W.heap[w.heap.size]? = some (.loop (rec .ready))) W1
      (fun pre W h => hT pre W h.1) ?_ ⟨hI1, hL1⟩)).mono ?_
    · rintro pre x rest W hsp ⟨hi, hl⟩
      have hy := run_yield (P := P) (args := #[.int .i64 x]) hl (by rw [hrec]; rfl)
      rw [hrec] at hy
      refine ⟨fn, _, assign, body, hy, roundIn_of_wpIn trivial (hassign _ pre x W _ hi ?_)⟩
      clear hy
      intro a' Wa hkfa hia hax
      replace hl := hkfa.same _ _ (by omega) hl rfl
      replace hi := hia
      clear hia hkfa
      have hlt := (Array.getElem?_eq_some_iff.1 hl).1
      have hbg := run_beginRound (P := P) hl (by rw [hrec])
      obtain ⟨busy, hbusy⟩ : ∃ busy : Loop, busy = { rec .ready with state := .busy } := ⟨_, rfl⟩
      rw [← hbusy] at hbg
      have hl2 : (Wa.putObj (w.heap.size) (.loop busy)).heap[w.heap.size]? = some (.loop busy) := World.putObj_heap_same hlt
      refine ⟨_, hbg, ?_⟩
      refine wpIn_mono (hbody (w.heap.size) pre x rest a' _ (by omega) ⟨_, hl2⟩ hsp (hI.putObj _ hi (by omega) hl rfl) ((hAx x a').putObj (s := ()) _ hax (by omega) hl rfl)) ?_
      intro e a3 W3 hp
      cases e with
      | normal =>
        obtain ⟨hk3, _, hi3⟩ := hp
        have hl3 := hk3.same _ _ (by omega) hl2 rfl
        have hend := run_endRound (P := P) none hl3
        have hre : ({ busy with state := if (none : Option Code).isNone then .ready else .done, pending := none } : Loop) = rec .ready := by rw [hbusy, hrec]; rfl
        rw [hre] at hend
        exact ⟨_, _, hend, rfl, hI.putObj _ hi3 (by omega) hl3 rfl, World.putObj_heap_same (Array.getElem?_eq_some_iff.1 hl3).1⟩
      | ret => exact hp.2.elim
      | exit id => exact hp.2.elim
      | goto t => exact hp.2.elim
      | panic ch => exact hp.elim
      | outgrown => exact hp.elim
    · rintro e W2 ⟨⟨v, rfl⟩, hi, hl⟩
      have hend := run_endLoop (P := P) hl (by rw [hrec]; simp)
      exact ⟨none, _, by rw [hrec] at hend; exact hend, hdone _ (hI.putObj _ hi (by omega) hl rfl)⟩
theorem wpIn_handsLB {P : Program} {n : Nat} {g : Operand} {p q : Tmp} {assign body : Code} {Q : Exit → Act → World → Prop} {a : Act} {w : World} {gf : Nat} {sv : Value}
    (hg : a.eval g = .func (.func gf) #[sv] #[]) (eg : ∀ args w, (callFunc gf args).run P w = .ok (.enter gf args) w)
    {xs : List Int} {T : World → Prop} (hit : Hands P (n - 1) gf sv xs T)
    (I : List Int → World → Prop) (hT : ∀ pre w, I pre w → T w) (hI : OwnFrom w.heap.size I) (h0 : I [] w)
    (hassign : ∀ (l : Nat) (pre : List Int) (x : Int) (W : World) (K : Act → World → Prop), I pre W → (∀ bx W', KeepsFrom w.heap.size W W' → I pre W' → w.heap.size ≤ bx → W'.heap[bx]? = some (.cells #[.int .i64 x] 3 (0, 0)) → K { tmps := (a.tmps.setIfInBounds p (.int .i64 x)).setIfInBounds q (.pointer (some ⟨bx, 0, none⟩)), defers := [] } W') →
      assign.wpIn (Fence.wide.inRound l) (n - 1 - 1) P (Exit.then K (fun _ _ _ => False)) { tmps := ((#[p] : Array Tmp).zip #[Value.int .i64 x]).foldl (fun t (p, v) => t.setIfInBounds p v) a.tmps, defers := [] } W)
    (hbody : ∀ (l : Nat) (pre : List Int) (x : Int) (rest : List Int) (bx : Nat) (W : World), w.heap.size ≤ l → (∃ r, W.heap[l]? = some (.loop r)) → xs = pre ++ x :: rest → I pre W → w.heap.size ≤ bx → W.heap[bx]? = some (.cells #[.int .i64 x] 3 (0, 0)) →
      body.wpIn (Fence.wide.inRound l) (n - 1 - 1) P (ownPostG w.heap.size (fun _ _ => True) I (fun _ _ _ => False) (pre ++ [x]) W) { tmps := (a.tmps.setIfInBounds p (.int .i64 x)).setIfInBounds q (.pointer (some ⟨bx, 0, none⟩)), defers := [] } W)
    (hdone : ∀ (D : Nat) (W : World), w.heap.size ≤ D → I xs W → W.heap[D]? = some (.deferred (some [])) → Q .normal { a with defers := { target := .collected D, args := #[] } :: a.defers } W) :
    (Code.rangeFunc g #[p] assign body).wpIn Fence.wide n P Q a w := by
  refine wpIn_handsL hg eg hit I hT hI h0 (fun x a' W => ∃ bx, a' = { tmps := (a.tmps.setIfInBounds p (.int .i64 x)).setIfInBounds q (.pointer (some ⟨bx, 0, none⟩)), defers := [] } ∧ w.heap.size ≤ bx ∧ W.heap[bx]? = some (.cells #[.int .i64 x] 3 (0, 0))) ?_
    (fun l pre x W K hi hK => hassign l pre x W K hi (fun bx W' h1 h2 h3 h4 => hK _ _ h1 h2 ⟨bx, rfl, h3, h4⟩)) ?_ hdone
  · rintro x a' _ W W' row ⟨bx, e, h1, h2⟩ hgr hr
    refine ⟨bx, e, h1, (hgr.block bx (Array.getElem?_eq_some_iff.1 h2).1 (fun e2 => ?_)).trans h2⟩
    obtain ⟨_, o, ho, hc⟩ := hr bx e2.symm
    rw [h2] at ho; cases ho; cases hc
  · rintro l pre x rest a' W h1 h2 h3 h4 ⟨bx, rfl, h5, h6⟩
    exact hbody l pre x rest bx W h1 h2 h3 h4 h5 h6
theorem wpIn_handsNQ {P : Program} {n : Nat} {g : Operand} {p q : Tmp} {assign body : Code} {Q : Exit → Act → World → Prop} {a : Act} {w : World} {gf : Nat} {sv : Value} {l₀ : Nat} {r₀ : Loop} (hl₀ : w.heap[l₀]? = some (.loop r₀))
    (hg : a.eval g = .func (.func gf) #[sv] #[]) (eg : ∀ args w, (callFunc gf args).run P w = .ok (.enter gf args) w)
    {xs : List Int} {T : World → Prop} (hit : Hands P (n - 1) gf sv xs T)
    (I : List Int → World → Prop) (hT : ∀ pre w, I pre w → T w) (hI : OwnFrom w.heap.size I) (h0 : I [] w)
    (hassign : ∀ (l : Nat) (x : Int) (W : World) (K : Act → World → Prop), K { tmps := (a.tmps.setIfInBounds p (.int .i64 x)).setIfInBounds q (.int .i64 x), defers := [] } W →
      assign.wpIn (Fence.wide.inRound l) (n - 1 - 1) P (Exit.then K (fun _ _ _ => False)) { tmps := ((#[p] : Array Tmp).zip #[Value.int .i64 x]).foldl (fun t (p, v) => t.setIfInBounds p v) a.tmps, defers := [] } W)
    (hbody : ∀ (l : Nat) (pre : List Int) (x : Int) (rest : List Int) (W : World), w.heap.size ≤ l → xs = pre ++ x :: rest → I pre W →
      body.wpIn (Fence.wide.inRound l) (n - 1 - 1) P (ownPostG w.heap.size (fun _ _ => True) I (fun _ _ _ => False) (pre ++ [x]) W) { tmps := (a.tmps.setIfInBounds p (.int .i64 x)).setIfInBounds q (.int .i64 x), defers := [] } W)
    (hdone : ∀ (W : World), I xs W → Q .normal a W) :
    (Code.rangeFunc g #[p] assign body).wpIn (Fence.wide.inRound l₀) n P Q a w :=
  wpIn_handsN hl₀ hg eg hit I hT hI h0 (fun x a' _ => a' = { tmps := (a.tmps.setIfInBounds p (.int .i64 x)).setIfInBounds q (.int .i64 x), defers := [] }) (fun _ _ _ _ _ _ h _ _ => h)
    (fun l _ x W K hi hK => hassign l x W K (hK _ _ (KeepsFrom.refl _ _) hi rfl)) (fun l pre x rest a' W h1 _ h3 h4 h5 => by subst h5; exact hbody l pre x rest W h1 h3 h4) hdone


end Go.Proofs.YtnmmgalidkambaaGreatDoor

namespace Go.Proofs.YtnmmgalidkambaaGreatDoor
open Go.RowKit Go.Shelf
attribute [local go_sem] Oper.semAt_some

def cntV (gb pb lb kb cb : Nat) : Value := .func (.func 78) #[] #[.pointer (some ⟨gb, 0, none⟩), .pointer (some ⟨pb, 0, none⟩), .pointer (some ⟨lb, 0, none⟩), .pointer (some ⟨kb, 0, none⟩), .pointer (some ⟨cb, 0, none⟩)]
def cntF (G P : List Nat) (last k c r : Nat) : Nat := cntR (fun c => G.getD (1 + c) 0) (fun j => P.getD j 0) last k c r
structure CntAt (w : World) (gb pb lb kb cb B : Nat) (G P : List Nat) (last n : Nat) : Prop where
  g : w.heap[gb]? = some (.cells (words G).toArray 58 (0, 0))
  p : w.heap[pb]? = some (.cells (words P).toArray 76 (0, 0))
  l : w.heap[lb]? = some (.cells #[.int .i64 (last : Int)] 3 (0, 0))
  k : w.heap[kb]? = some (.cells #[.map (some B)] 96 (0, 0))
  c : w.heap[cb]? = some (.cells #[cntV gb pb lb kb cb] 61 (0, 0))
  memo : ∃ D : DataW Unit, w.ownsMap Tryz.prog 98 (plainElem Tryz.prog 3) B n D ∧ Known D (fun c r => cntF G P last (popN 64 r) c r)
  tab : Tab64 w
  tl : 0 < w.heap.size
  tb : B ≠ 0
theorem map_ne {w : World} {B b : Nat} {k : TypeId} {R : Value → Option (DataW Unit × List MemPlace)} {n : Nat} {D : DataW Unit} {cs : Array Value} {t : TypeId} {s : Nat × Nat} (h : w.ownsMap Tryz.prog k R B n D) (hb : w.heap[b]? = some (.cells cs t s)) : b ≠ B := by
  rintro rfl
  obtain ⟨es, clock, h1, _⟩ := h
  rw [h1] at hb; cases hb
theorem CntAt.ne {w : World} {gb pb lb kb cb B : Nat} {G P : List Nat} {last n : Nat} (h : CntAt w gb pb lb kb cb B G P last n) : gb ≠ B ∧ pb ≠ B ∧ lb ≠ B ∧ kb ≠ B ∧ cb ≠ B ∧ B < w.heap.size := by
  obtain ⟨D, h1, _⟩ := h.memo
  exact ⟨map_ne h1 h.g, map_ne h1 h.p, map_ne h1 h.l, map_ne h1 h.k, map_ne h1 h.c, h1.lt⟩
theorem lt_of_at {w : World} {b : Nat} {o : Obj} (h : w.heap[b]? = some o) : b < w.heap.size := (Array.getElem?_eq_some_iff.1 h).1
/-- What turns the map's block alone, and leaves it a memory of the same counts. -/
theorem CntAt.turned {w w' : World} {gb pb lb kb cb B : Nat} {G P : List Nat} {last n n' : Nat} (h : CntAt w gb pb lb kb cb B G P last n) (hg : w.grownBy w' (some B))
    (hm : ∃ D : DataW Unit, w'.ownsMap Tryz.prog 98 (plainElem Tryz.prog 3) B n' D ∧ Known D (fun c r => cntF G P last (popN 64 r) c r)) : CntAt w' gb pb lb kb cb B G P last n' := by
  obtain ⟨n1, n2, n3, n4, n5, _⟩ := h.ne
  have kp : ∀ {b : Nat} {o : Obj}, w.heap[b]? = some o → b ≠ B → w'.heap[b]? = some o := fun {b o} h1 hne => (hg.block b (lt_of_at h1) (by simpa using hne)).trans h1
  exact ⟨kp h.g n1, kp h.p n2, kp h.l n3, kp h.k n4, kp h.c n5, hm, fun j hj => hg.cell (h.tab j hj) (by simpa using h.tb.symm), Nat.lt_of_lt_of_le h.tl hg.size, h.tb⟩
theorem CntAt.kept {w w' : World} {row : Option Nat} {gb pb lb kb cb B : Nat} {G P : List Nat} {last n : Nat} (h : CntAt w gb pb lb kb cb B G P last n) (hg : w.grownBy w' row) (hr : ∀ q, row = some q → q ≠ gb ∧ q ≠ pb ∧ q ≠ lb ∧ q ≠ kb ∧ q ≠ cb ∧ q ≠ B ∧ q ≠ 0) : CntAt w' gb pb lb kb cb B G P last n := by
  have kp : ∀ {b : Nat} {o : Obj}, w.heap[b]? = some o → (∀ q, row = some q → q ≠ b) → w'.heap[b]? = some o := fun {b o} h1 hne => (hg.block b (lt_of_at h1) (fun e => hne b e.symm rfl)).trans h1
  obtain ⟨D, h1, h2⟩ := h.memo
  exact ⟨kp h.g (fun q e => (hr q e).1), kp h.p (fun q e => (hr q e).2.1), kp h.l (fun q e => (hr q e).2.2.1), kp h.k (fun q e => (hr q e).2.2.2.1), kp h.c (fun q e => (hr q e).2.2.2.2.1),
    ⟨D, h1.kept hg (fun e => (hr B e.symm).2.2.2.2.2.1 rfl), h2⟩, fun j hj => hg.cell (h.tab j hj) (fun e => (hr _ e.symm).2.2.2.2.2.2 rfl), Nat.lt_of_lt_of_le h.tl hg.size, h.tb⟩
theorem CntAt.keep {w w' : World} {gb pb lb kb cb B : Nat} {G P : List Nat} {last n : Nat} (h : CntAt w gb pb lb kb cb B G P last n) (hb : Below w.heap.size w w') : CntAt w' gb pb lb kb cb B G P last n :=
  h.kept (grown_of_below hb none) (fun q e => by cases e)

def CntI (w : World) (gb pb lb kb cb B rb wb : Nat) (G P : List Nat) (last n m r S : Nat) (f : Int → Nat) (pre : List Int) (W' : World) : Prop :=
  w.grownBy W' (some B) ∧ S ≤ W'.heap.size ∧ W'.heap[rb]? = some (.cells #[.int .u64 (r : Int)] 55 (0, 0)) ∧ W'.heap[wb]? = some (.cells #[.int .i64 ((pre.map f).sum : Nat)] 3 (0, 0)) ∧ ∃ n', CntAt W' gb pb lb kb cb B G P last n' ∧ n' ≤ n + pre.length * kept m
theorem CntAt.below {w : World} {gb pb lb kb cb B : Nat} {G P : List Nat} {last n : Nat} (h : CntAt w gb pb lb kb cb B G P last n) {q S : Nat} (hS : w.heap.size ≤ S) (hq : S ≤ q) : q ≠ gb ∧ q ≠ pb ∧ q ≠ lb ∧ q ≠ kb ∧ q ≠ cb ∧ q ≠ B ∧ q ≠ 0 := by
  have h1 := lt_of_at h.g; have h2 := lt_of_at h.p; have h3 := lt_of_at h.l; have h4 := lt_of_at h.k; have h5 := lt_of_at h.c; have h6 := h.ne.2.2.2.2.2; have h7 := h.tl
  omega
theorem cntI_own {w : World} {gb pb lb kb cb B rb wb : Nat} {G P : List Nat} {last n m r S n0 : Nat} {f : Int → Nat} (hat : CntAt w gb pb lb kb cb B G P last n0) (hS : w.heap.size ≤ S) (hrb : rb < S) (hwb : wb < S) : OwnFrom S (CntI w gb pb lb kb cb B rb wb G P last n m r S f) := by
  rintro pre W W' row ⟨h1, h2, h3, h4, n', h5, h6⟩ hgr hr
  have ne : ∀ k, k < S → some k ≠ row := fun k hk e => by have := (hr k e.symm).1; omega
  refine ⟨⟨hgr.os.trans h1.os, hgr.tape.trans h1.tape, hgr.output.trans h1.output, Nat.le_trans h1.size hgr.size, fun k hk hkB => (hgr.block k (Nat.lt_of_lt_of_le hk h1.size) (ne k (by omega))).trans (h1.block k hk hkB)⟩, Nat.le_trans h2 hgr.size,
    (hgr.block rb (lt_of_at h3) (ne _ hrb)).trans h3, (hgr.block wb (lt_of_at h4) (ne _ hwb)).trans h4, n', h5.kept hgr (fun q e => hat.below hS (hr q e).1), h6⟩
theorem CntAt.drew {w : World} {gb pb lb kb cb B : Nat} {G P : List Nat} {last n : Nat} (h : CntAt w gb pb lb kb cb B G P last n) : CntAt w.drew gb pb lb kb cb B G P last n := ⟨h.g, h.p, h.l, h.k, h.c, h.memo, h.tab, h.tl, h.tb⟩
def noPanic (Q : Exit → Act → World → Prop) : Exit → Act → World → Prop
  | .panic _, _, _ => False
  | e, a, w => Q e a w
theorem noPanic_le {Q : Exit → Act → World → Prop} (e : Exit) (a : Act) (w : World) (h : noPanic Q e a w) : Q e a w := by cases e <;> first | exact h | exact h.elim
theorem post_ret {F : Fence} {n : Nat} {P : Program} {fn : Func} {R : Ending → World → Prop} {tmps : Array Value} {w : World} (h : ∃ v, (results fn tmps).run P w = .ok v w ∧ R (.returned v) w) :
    noPanic (bodyPostM F n P fn R) .ret { tmps := tmps, defers := [] } w := h
theorem post_retD {F : Fence} {n : Nat} {P : Program} {fn : Func} {R : Ending → World → Prop} {tmps : Array Value} {w : World} {D : Nat} {args : Array Value} (hd : w.heap[D]? = some (.deferred (some [])))
    (h : ∃ v, (results fn tmps).run P (w.putObj D (.deferred none)) = .ok v (w.putObj D (.deferred none)) ∧ R (.returned v) (w.putObj D (.deferred none))) :
    noPanic (bodyPostM F n P fn R) .ret { tmps := tmps, defers := [{ target := .collected D, args := args }] } w := ⟨by simp, .inl ⟨_, _, rfl, run_takeDeferred hd, h⟩⟩
theorem atKey_none {D : DataW Unit} {k : Lit} (h : Maps.has D k = false) (z : DataW Unit) : D.atKey k z = z := by
  cases D with
  | map es =>
    rw [Maps.has_eq, List.any_eq_false] at h
    simp only [DataW.atKey]
    rw [List.find?_eq_none.2 (fun p hp => by simpa using h p hp)]
  | _ => rfl
theorem lit_inj {a b : Int} (h : (DataW.lit (.int .i64 a) : DataW Unit) = .lit (.int .i64 b)) : a = b := by injection h with h; injection h
theorem zeroI (w : World) : (zeroValue 3).run Tryz.prog w = .ok (.int .i64 0) w := by kernel_rfl
def setAt (w : World) (b : Nat) : Nat := match w.cell? ⟨b, 0, none⟩ with | some (.int _ v) => v.toNat | _ => 0
theorem wp_scope_label {P : Program} {rest : Code} {Q : Exit → Act → World → Prop} {a : Act} {w : World} (l : Nat) (J : Act → World → Prop) (μ : Act → World → Nat) (h0 : J a w)
    (pass : ∀ a w, J a w → rest.wp P (Exit.jump l (fun a' w' => J a' w' ∧ μ a' w' < μ a w) Q) a w) : (Code.scope ((Code.label l).seq rest)).wp P Q a w :=
  wp_scope_jumps l J μ (by simp [findLabel])
    (wp_seq (wp_label (wp_mono (pass a w h0) (fun e a' w' h => by
      cases e with
      | goto l' => exact ⟨h.1, h.2.1⟩
      | _ => exact h))))
    (fun a w h => wp_seq (wp_skip (pass a w h)))

set_option maxRecDepth 100000 in
set_option maxHeartbeats 4000000 in
theorem count_any (gb pb lb kb cb B : Nat) (G P : List Nat) (last : Nat) (hG : G.length = 65) (hGb : ∀ x ∈ G, x < 18446744073709551616) (hP : P.length = 20) (hPb : ∀ x ∈ P, x < 18446744073709551616) (hlast : last < 20) (k : Nat) :
    ∀ (c r n : Nat) (w : World), c < 64 → r < 18446744073709551616 → popN 64 r = k → k ≤ last → CntAt w gb pb lb kb cb B G P last n → n + kept k ≤ 9223372036854775000 →
    Calls Tryz.prog 78 #[.int .i64 (c : Int), .int .u64 (r : Int), .pointer (some ⟨gb, 0, none⟩), .pointer (some ⟨pb, 0, none⟩), .pointer (some ⟨lb, 0, none⟩), .pointer (some ⟨kb, 0, none⟩), .pointer (some ⟨cb, 0, none⟩)] w
      fun e w' => ∃ n', e = .returned (.int .i64 (cntF G P last k c r : Int)) ∧ w.grownBy w' (some B) ∧ CntAt w' gb pb lb kb cb B G P last n' ∧ n' ≤ n + kept k := by
  induction k using Nat.strongRecOn with
  | _ k ih =>
  intro c r n w hc hr hk hkl hat hn
  have IH := Lib.hid ih
  clear ih
  refine (callsIn_wide (n := 9)).1 ?_
  refine callsIn_of_wp_marks Tryz.func78 rfl trivial ?_ rfl
  simp only [Tryz.ntmps78, List.size_toArray, List.length_cons, List.length_nil, Nat.reduceAdd, Nat.reduceSub, Array.replicate_succ, Array.replicate_zero, List.push_toArray, List.append_toArray, List.nil_append, List.cons_append]
  refine wpIn_wide.2 (wp_mono (Q := noPanic _) ?_ noPanic_le)
  obtain ⟨QF, hQF⟩ : ∃ QF, QF = noPanic (bodyPostM Fence.wide 9 Tryz.prog Tryz.f78 (fun e w' => ∃ n', e = .returned (.int .i64 (cntF G P last k c r : Int)) ∧ w.grownBy w' (some B) ∧ CntAt w' gb pb lb kb cb B G P last n' ∧ n' ≤ n + kept k)) := ⟨_, rfl⟩
  have HPAN := Lib.hid (show ∀ ch a V, QF (.panic ch) a V → False from fun ch a V h => by rw [hQF] at h; exact h)
  have HRET := Lib.hid (show ∀ tmps V v, tmps.getD 9 undef = .int .i64 v → (∃ n', Ending.returned (.int .i64 v) = .returned (.int .i64 (cntF G P last k c r : Int)) ∧ w.grownBy V (some B) ∧ CntAt V gb pb lb kb cb B G P last n' ∧ n' ≤ n + kept k) → QF .ret { tmps := tmps, defers := [] } V from fun tmps V v hv h => by
    rw [hQF]; exact post_ret ⟨_, results_tmp rfl _ _ _, by show ∃ n', Ending.returned (tmps.getD 9 undef) = _ ∧ _; rw [hv]; exact h⟩)
  have HRETD := Lib.hid (show ∀ tmps V v D args, V.heap[D]? = some (.deferred (some [])) → tmps.getD 9 undef = .int .i64 v → (∃ n', Ending.returned (.int .i64 v) = .returned (.int .i64 (cntF G P last k c r : Int)) ∧ w.grownBy (V.putObj D (.deferred none)) (some B) ∧ CntAt (V.putObj D (.deferred none)) gb pb lb kb cb B G P last n' ∧ n' ≤ n + kept k) → QF .ret { tmps := tmps, defers := [{ target := .collected D, args := args }] } V from fun tmps V v D args hd hv h => by
    rw [hQF]; exact post_retD hd ⟨_, results_tmp rfl _ _ _, by show ∃ n', Ending.returned (tmps.getD 9 undef) = _ ∧ _; rw [hv]; exact h⟩)
  rw [← hQF]
  clear hQF
  obtain ⟨rb, hrb⟩ : ∃ rb, rb = w.heap.size := ⟨_, rfl⟩
  have HRB := Lib.hid hrb
  go_wp2_with fail
  have HAT0 := Lib.hid hat
  have HRNE0 := Lib.hid (show rb ≠ gb ∧ rb ≠ pb ∧ rb ≠ lb ∧ rb ≠ kb ∧ rb ≠ cb ∧ rb ≠ B ∧ rb ≠ 0 from by
    have h1 := lt_of_at hat.g; have h2 := lt_of_at hat.p; have h3 := lt_of_at hat.l; have h4 := lt_of_at hat.k; have h5 := lt_of_at hat.c; have h6 := hat.ne.2.2.2.2.2; have h7 := hat.tl
    omega)
  obtain ⟨JF, hJF⟩ : ∃ JF : Act → World → Prop, JF = (fun a' w' => ∃ (k' c' r' : Nat) (u : Nat → Value), a' = { tmps := #[.int .i64 (c' : Int), u 1, .pointer (some ⟨gb, 0, none⟩), .pointer (some ⟨pb, 0, none⟩), .pointer (some ⟨lb, 0, none⟩), .pointer (some ⟨kb, 0, none⟩), .pointer (some ⟨cb, 0, none⟩), u 7, .pointer (some ⟨rb, 0, none⟩), u 9, u 10, u 11, u 12, u 13, u 14, u 15, u 16, u 17, u 18, u 19, u 20, u 21, u 22, u 23, u 24, u 25, u 26, u 27, u 28, u 29, u 30, u 31, u 32, u 33, u 34, u 35, u 36, u 37, u 38, u 39, u 40, u 41, u 42, u 43, u 44, u 45, u 46, u 47, u 48, u 49, u 50, u 51, u 52, u 53, u 54, u 55, u 56, u 57, u 58, u 59, u 60, u 61, u 62, u 63, u 64, u 65, u 66, u 67, u 68, u 69, u 70, u 71], defers := [] } ∧ k' ≤ k ∧ c' < 64 ∧ r' < 18446744073709551616 ∧ popN 64 r' = k' ∧ cntF G P last k' c' r' = cntF G P last k c r ∧ w'.heap[rb]? = some (.cells #[.int .u64 (r' : Int)] 55 (0, 0)) ∧ CntAt w' gb pb lb kb cb B G P last n ∧ Below w.heap.size w w') := ⟨_, rfl⟩
  have HJI := Lib.hid (show ∀ a' w', (fun a' w' => ∃ (k' c' r' : Nat) (u : Nat → Value), a' = { tmps := #[.int .i64 (c' : Int), u 1, .pointer (some ⟨gb, 0, none⟩), .pointer (some ⟨pb, 0, none⟩), .pointer (some ⟨lb, 0, none⟩), .pointer (some ⟨kb, 0, none⟩), .pointer (some ⟨cb, 0, none⟩), u 7, .pointer (some ⟨rb, 0, none⟩), u 9, u 10, u 11, u 12, u 13, u 14, u 15, u 16, u 17, u 18, u 19, u 20, u 21, u 22, u 23, u 24, u 25, u 26, u 27, u 28, u 29, u 30, u 31, u 32, u 33, u 34, u 35, u 36, u 37, u 38, u 39, u 40, u 41, u 42, u 43, u 44, u 45, u 46, u 47, u 48, u 49, u 50, u 51, u 52, u 53, u 54, u 55, u 56, u 57, u 58, u 59, u 60, u 61, u 62, u 63, u 64, u 65, u 66, u 67, u 68, u 69, u 70, u 71], defers := [] } ∧ k' ≤ k ∧ c' < 64 ∧ r' < 18446744073709551616 ∧ popN 64 r' = k' ∧ cntF G P last k' c' r' = cntF G P last k c r ∧ w'.heap[rb]? = some (.cells #[.int .u64 (r' : Int)] 55 (0, 0)) ∧ CntAt w' gb pb lb kb cb B G P last n ∧ Below w.heap.size w w') a' w' → JF a' w' from fun a' w' h => by rw [hJF]; exact h)
  have HJO := Lib.hid (show ∀ a' w', JF a' w' → (fun a' w' => ∃ (k' c' r' : Nat) (u : Nat → Value), a' = { tmps := #[.int .i64 (c' : Int), u 1, .pointer (some ⟨gb, 0, none⟩), .pointer (some ⟨pb, 0, none⟩), .pointer (some ⟨lb, 0, none⟩), .pointer (some ⟨kb, 0, none⟩), .pointer (some ⟨cb, 0, none⟩), u 7, .pointer (some ⟨rb, 0, none⟩), u 9, u 10, u 11, u 12, u 13, u 14, u 15, u 16, u 17, u 18, u 19, u 20, u 21, u 22, u 23, u 24, u 25, u 26, u 27, u 28, u 29, u 30, u 31, u 32, u 33, u 34, u 35, u 36, u 37, u 38, u 39, u 40, u 41, u 42, u 43, u 44, u 45, u 46, u 47, u 48, u 49, u 50, u 51, u 52, u 53, u 54, u 55, u 56, u 57, u 58, u 59, u 60, u 61, u 62, u 63, u 64, u 65, u 66, u 67, u 68, u 69, u 70, u 71], defers := [] } ∧ k' ≤ k ∧ c' < 64 ∧ r' < 18446744073709551616 ∧ popN 64 r' = k' ∧ cntF G P last k' c' r' = cntF G P last k c r ∧ w'.heap[rb]? = some (.cells #[.int .u64 (r' : Int)] 55 (0, 0)) ∧ CntAt w' gb pb lb kb cb B G P last n ∧ Below w.heap.size w w') a' w' from fun a' w' h => by rw [hJF] at h; exact h)
  clear hJF
  have HJT := Lib.hid (show ∀ (T : Array Value) (w' : World) (k' c' r' : Nat), T = #[.int .i64 (c' : Int), T.getD 1 undef, .pointer (some ⟨gb, 0, none⟩), .pointer (some ⟨pb, 0, none⟩), .pointer (some ⟨lb, 0, none⟩), .pointer (some ⟨kb, 0, none⟩), .pointer (some ⟨cb, 0, none⟩), T.getD 7 undef, .pointer (some ⟨rb, 0, none⟩), T.getD 9 undef, T.getD 10 undef, T.getD 11 undef, T.getD 12 undef, T.getD 13 undef, T.getD 14 undef, T.getD 15 undef, T.getD 16 undef, T.getD 17 undef, T.getD 18 undef, T.getD 19 undef, T.getD 20 undef, T.getD 21 undef, T.getD 22 undef, T.getD 23 undef, T.getD 24 undef, T.getD 25 undef, T.getD 26 undef, T.getD 27 undef, T.getD 28 undef, T.getD 29 undef, T.getD 30 undef, T.getD 31 undef, T.getD 32 undef, T.getD 33 undef, T.getD 34 undef, T.getD 35 undef, T.getD 36 undef, T.getD 37 undef, T.getD 38 undef, T.getD 39 undef, T.getD 40 undef, T.getD 41 undef, T.getD 42 undef, T.getD 43 undef, T.getD 44 undef, T.getD 45 undef, T.getD 46 undef, T.getD 47 undef, T.getD 48 undef, T.getD 49 undef, T.getD 50 undef, T.getD 51 undef, T.getD 52 undef, T.getD 53 undef, T.getD 54 undef, T.getD 55 undef, T.getD 56 undef, T.getD 57 undef, T.getD 58 undef, T.getD 59 undef, T.getD 60 undef, T.getD 61 undef, T.getD 62 undef, T.getD 63 undef, T.getD 64 undef, T.getD 65 undef, T.getD 66 undef, T.getD 67 undef, T.getD 68 undef, T.getD 69 undef, T.getD 70 undef, T.getD 71 undef] → (k' ≤ k ∧ c' < 64 ∧ r' < 18446744073709551616 ∧ popN 64 r' = k' ∧ cntF G P last k' c' r' = cntF G P last k c r ∧ w'.heap[rb]? = some (.cells #[.int .u64 (r' : Int)] 55 (0, 0)) ∧ CntAt w' gb pb lb kb cb B G P last n ∧ Below w.heap.size w w') → JF { tmps := T, defers := [] } w' from fun T w' k' c' r' h1 h2 => HJI.out _ _ ⟨k', c', r', fun i => T.getD i undef, by rw [← h1], h2⟩)
  refine wp_scope_label 0 JF (fun _ w' => popN 64 (setAt w' rb)) ?_ ?_
  · exact HJI.out _ _ ⟨k, c, r, fun i => (#[.int .i64 (c : Int), .int .u64 (r : Int), .pointer (some ⟨gb, 0, none⟩), .pointer (some ⟨pb, 0, none⟩), .pointer (some ⟨lb, 0, none⟩), .pointer (some ⟨kb, 0, none⟩), .pointer (some ⟨cb, 0, none⟩), undef, .pointer (some ⟨rb, 0, none⟩), .int .i64 0, undef, undef, undef, undef, undef, undef, undef, undef, undef, undef, undef, undef, undef, undef, undef, undef, undef, undef, undef, undef, undef, undef, undef, undef, undef, undef, undef, undef, undef, undef, undef, undef, undef, undef, undef, undef, undef, undef, undef, undef, undef, undef, undef, undef, undef, undef, undef, undef, undef, undef, undef, undef, undef, undef, undef, undef, undef, undef, undef, undef, undef, undef] : Array Value).getD i undef, by rw [hrb]; rfl, Nat.le_refl _, hc, hr, hk, rfl, by rw [hrb]; exact World.alloc_heap_new _ _, hat.keep (below_new (Below.refl _ _) _), below_new (Below.refl _ _) _⟩
  · clear hat hc hr hk hrb
    intro a' w' hJ
    obtain ⟨k', c', r', u, rfl, hk', hc', hr', hpop, hcnt, hrb', hat, hbw⟩ := HJO.out _ _ hJ
    clear hJ HJO
    have HRNE := Lib.hid (show rb ≠ gb ∧ rb ≠ pb ∧ rb ≠ lb ∧ rb ≠ kb ∧ rb ≠ cb ∧ rb ≠ B ∧ rb ≠ 0 from HRNE0.out)
    have HRS := Lib.hid (show popN 64 (setAt w' rb) = k' by
      rw [setAt, cell_of_row _ _ _ _ _ _ hrb']
      show popN 64 (Int.toNat (r' : Int)) = k'
      rw [Int.toNat_natCast, hpop])
    have HCNT := Lib.hid hcnt; have RB := Lib.hid hrb'; have HAT := Lib.hid hat; have BW := Lib.hid hbw; have HPOP := Lib.hid hpop
    have lr := lt_of_at hrb'
    have lg := lt_of_at hat.g
    have ll := lt_of_at hat.l
    have lp := lt_of_at hat.p
    have c2 : w'.cell? ⟨rb, 0, none⟩ = some (.int .u64 (r' : Int)) := by rw [cell_of_row _ _ _ _ _ _ hrb']; rfl
    have c3 : w'.cell? ⟨lb, 0, none⟩ = some (.int .i64 (last : Int)) := by rw [cell_of_row _ _ _ _ _ _ hat.l]; rfl
    obtain ⟨x, hx⟩ : ∃ x, x = G.getD (1 + c') 0 := ⟨_, rfl⟩
    have c1 : w'.cell? ⟨gb, 1 + c', none⟩ = some (.int .u64 (x : Int)) := by
      rw [cell_of_row _ _ _ _ _ _ hat.g, List.getElem?_toArray, words, List.getElem?_map, hx, List.getD_eq_getElem?_getD, List.getElem?_eq_getElem (by omega)]; rfl
    have hx64 : x < 18446744073709551616 := by rw [hx, List.getD_eq_getElem?_getD, List.getElem?_eq_getElem (by omega)]; exact hGb _ (List.getElem_mem _)
    obtain ⟨j, hj⟩ : ∃ j, j = last - k' := ⟨_, rfl⟩
    obtain ⟨pj, hpj⟩ : ∃ pj, pj = P.getD j 0 := ⟨_, rfl⟩
    have hj20 : j < 20 := by omega
    have c4 : w'.cell? ⟨pb, j, none⟩ = some (.int .u64 (pj : Int)) := by
      rw [cell_of_row _ _ _ _ _ _ hat.p, List.getElem?_toArray, words, List.getElem?_map, hpj, List.getD_eq_getElem?_getD, List.getElem?_eq_getElem (by omega)]; rfl
    have hpj64 : pj < 18446744073709551616 := by rw [hpj, List.getD_eq_getElem?_getD, List.getElem?_eq_getElem (by omega)]; exact hPb _ (List.getElem_mem _)
    obtain ⟨bt, hbt⟩ : ∃ bt, bt = pj.testBit c' := ⟨_, rfl⟩
    obtain ⟨ch, hch⟩ : ∃ ch, ch = x &&& r' := ⟨_, rfl⟩
    have HCHE := Lib.hid hch; have HBT := Lib.hid hbt
    have HCH64 := Lib.hid (show ch < 18446744073709551616 by rw [hch]; exact and_lt hr')
    have HX := Lib.hid hx; have HPJ := Lib.hid hpj; have HJ := Lib.hid hj
    have HZ1 := Lib.hid (fun V => size_any r' hr' V)
    rw [hpop] at HZ1
    have HHAS := Lib.hid (fun V => has_any pj c' hpj64 hc' V)
    rw [← hbt] at HHAS
    have ha1 := bits_and_u64_nat x r' hx64 hr'
    rw [← hch] at ha1
    have c0 : (0 : Int) ≤ (c' : Int) := by omega
    have c64 : (c' : Int) < 64 := by omega
    have hsub : IntKind.i64.wrap ((last : Int) - (k' : Int)) = (j : Int) := by rw [show (last : Int) - (k' : Int) = (j : Int) by omega]; rw [IntKind.wrap_i64]; omega
    clear hcnt hrb' hat hbw hpop hx hj hpj hbt hch
    go_wp2_with fail
    refine wp_region_held_drew (S := fun w' => w'.cell? ⟨gb, 1 + c', none⟩ = some (.int .u64 (x : Int)) ∧ w'.cell? ⟨rb, 0, none⟩ = some (.int .u64 (r' : Int))) (by kernel_rfl) ?_ (fun hHeld => ?_)
    · (try dsimp only)
      exact ⟨c1, c2⟩
    refine wpAnyH_take (i := 0) (oi := ⟨_, _, _, _, _, _⟩) (v := ?_) rfl (by kernel_rfl) (by kernel_rfl) (by kernel_rfl) (fun _ _ _ h => (HPAN.out _ _ _ h).elim) (Or.inl ⟨by rfl, ?_⟩) (by assumption) ?_
    rotate_left
    · intro w hSw
      (try dsimp only at hSw)
      go_simp
      (try with_reducible rfl)
    (try simp only [Act.put, List.setIfInBounds_toArray, List.set_cons_zero, List.set_cons_succ])
    refine wpAnyH_take (i := 1) (oi := ⟨_, _, _, _, _, _⟩) (v := ?_) rfl (by kernel_rfl) (by kernel_rfl) (by kernel_rfl) (fun _ _ _ h => (HPAN.out _ _ _ h).elim) (Or.inl ⟨by rfl, ?_⟩) (by assumption) ?_
    rotate_left
    · intro w hSw
      (try dsimp only at hSw)
      go_simp
      (try with_reducible rfl)
    (try simp only [Act.put, List.setIfInBounds_toArray, List.set_cons_zero, List.set_cons_succ])
    refine wpAnyH_take (i := 2) (oi := ⟨_, _, _, _, _, _⟩) (v := ?_) rfl (by kernel_rfl) (by kernel_rfl) (by kernel_rfl) (fun _ _ _ h => (HPAN.out _ _ _ h).elim) (Or.inl ⟨by rfl, ?_⟩) (by assumption) ?_
    rotate_left
    · intro w hSw
      (try dsimp only at hSw)
      go_simp
      (try with_reducible rfl)
    (try simp only [Act.put, List.setIfInBounds_toArray, List.set_cons_zero, List.set_cons_succ])
    refine wpAnyH_take (i := 3) (oi := ⟨_, _, _, _, _, _⟩) (v := ?_) rfl (by kernel_rfl) (by kernel_rfl) (by kernel_rfl) (fun _ _ _ h => (HPAN.out _ _ _ h).elim) (Or.inl ⟨by rfl, ?_⟩) (by assumption) ?_
    rotate_left
    · intro w hSw
      (try dsimp only at hSw)
      go_simp
      (try with_reducible rfl)
    (try simp only [Act.put, List.setIfInBounds_toArray, List.set_cons_zero, List.set_cons_succ])
    refine wpAnyH_take (i := 4) (oi := ⟨_, _, _, _, _, _⟩) (v := ?_) rfl (by kernel_rfl) (by kernel_rfl) (by kernel_rfl) (fun _ _ _ h => (HPAN.out _ _ _ h).elim) (Or.inl ⟨by rfl, ?_⟩) (by assumption) ?_
    rotate_left
    · intro w hSw
      (try dsimp only at hSw)
      go_simp
      (try with_reducible rfl)
    (try simp only [Act.put, List.setIfInBounds_toArray, List.set_cons_zero, List.set_cons_succ])
    refine wpAnyH_take (i := 5) (oi := ⟨_, _, _, _, _, _⟩) (v := ?_) rfl (by kernel_rfl) (by kernel_rfl) (by kernel_rfl) (fun _ _ _ h => (HPAN.out _ _ _ h).elim) (Or.inl ⟨by rfl, ?_⟩) (by assumption) ?_
    rotate_left
    · intro w hSw
      (try dsimp only at hSw)
      go_simp
      (try with_reducible rfl)
    (try simp only [Act.put, List.setIfInBounds_toArray, List.set_cons_zero, List.set_cons_succ])
    refine wpAnyH_take (i := 6) (oi := ⟨_, _, _, _, _, _⟩) (v := ?_) rfl (by kernel_rfl) (by kernel_rfl) (by kernel_rfl) (fun _ _ _ h => (HPAN.out _ _ _ h).elim) (Or.inl ⟨by rfl, ?_⟩) (by assumption) ?_
    rotate_left
    · intro w hSw
      (try dsimp only at hSw)
      go_simp
      (try with_reducible rfl)
    (try simp only [Act.put, List.setIfInBounds_toArray, List.set_cons_zero, List.set_cons_succ])
    refine wpAnyH_done (by kernel_rfl) ?_ _
    clear hHeld
    have h0 : (0:Int) ≤ (j : Int) := by omega
    have h20 : (j : Int) < 20 := by omega
    go_wp2_with fail
    refine wp_region_held_drew (S := fun w' => w'.cell? ⟨rb, 0, none⟩ = some (.int .u64 (r' : Int)) ∧ w'.cell? ⟨lb, 0, none⟩ = some (.int .i64 (last : Int)) ∧ w'.cell? ⟨pb, j, none⟩ = some (.int .u64 (pj : Int))) (by kernel_rfl) ?_ (fun hHeld => ?_)
    · (try dsimp only)
      exact ⟨c2, c3, c4⟩
    refine wpAnyH_take (i := 0) (oi := ⟨_, _, _, _, _, _⟩) (v := ?_) rfl (by kernel_rfl) (by kernel_rfl) (by kernel_rfl) (fun _ _ _ h => (HPAN.out _ _ _ h).elim) (Or.inl ⟨by rfl, ?_⟩) (by assumption) ?_
    rotate_left
    · intro w hSw
      (try dsimp only at hSw)
      go_simp
      (try with_reducible rfl)
    (try simp only [Act.put, List.setIfInBounds_toArray, List.set_cons_zero, List.set_cons_succ])
    refine wpAnyH_take (i := 1) (oi := ⟨_, _, _, _, _, _⟩) (v := ?_) rfl (by kernel_rfl) (by kernel_rfl) (by kernel_rfl) (fun _ _ _ h => (HPAN.out _ _ _ h).elim) (Or.inl ⟨by rfl, ?_⟩) (by assumption) ?_
    rotate_left
    · intro w hSw
      (try dsimp only at hSw)
      go_simp
      (try with_reducible rfl)
    (try simp only [Act.put, List.setIfInBounds_toArray, List.set_cons_zero, List.set_cons_succ])
    refine wpAnyH_take (i := 6) (oi := ⟨_, _, _, _, _, _⟩) (v := ?_) rfl (by kernel_rfl) (by kernel_rfl) (by kernel_rfl) (fun _ _ _ h => (HPAN.out _ _ _ h).elim) (Or.inl ⟨by rfl, ?_⟩) (by assumption) ?_
    rotate_left
    · intro w hSw
      (try dsimp only at hSw)
      go_simp
      (try with_reducible rfl)
    (try simp only [Act.put, List.setIfInBounds_toArray, List.set_cons_zero, List.set_cons_succ])
    refine wpAnyH_ready (rs := [2]) (by kernel_rfl) (by simp) ?_
    refine AllReadyH.cons (o := ⟨_, _, _, _, _, _⟩) rfl (fun K hK => ?_) AllReadyH.nil
    go_simp
    (go_at_call 61; refine (HZ1.out _).mono ?_; rintro e wv ⟨rfl, hb⟩; (repeat (first | replace hb := below_undrew hb | replace hb := below_undrewN hb)); replace c1 := cell_keep c1 lg hb; replace c2 := cell_keep c2 lr hb; replace c3 := cell_keep c3 ll hb; replace c4 := cell_keep c4 lp hb; replace RB := Lib.hid ((hb.block rb lr).trans RB.out); replace lg := lt_keep lg hb; replace lr := lt_keep lr hb; replace ll := lt_keep ll hb; replace lp := lt_keep lp hb; replace HAT := Lib.hid (HAT.out.keep hb); replace BW := Lib.hid (below_next BW.out hb); clear hb)
    (try go_wp2_with fail)
    refine hK.out _ _ ?_ (fun hHeld => ?_)
    · (try dsimp only)
      (try dsimp only)
      exact ⟨c2, c3, c4⟩
    clear hK K
    (try simp only [Act.put, List.setIfInBounds_toArray, List.set_cons_zero, List.set_cons_succ])
    refine wpAnyH_take (i := 3) (oi := ⟨_, _, _, _, _, _⟩) (v := ?_) rfl (by kernel_rfl) (by kernel_rfl) (by kernel_rfl) (fun _ _ _ h => (HPAN.out _ _ _ h).elim) (Or.inl ⟨by rfl, ?_⟩) (by assumption) ?_
    rotate_left
    · intro w hSw
      (try dsimp only at hSw)
      go_simp
      (try with_reducible rfl)
    (try simp only [Act.put, List.setIfInBounds_toArray, List.set_cons_zero, List.set_cons_succ])
    refine wpAnyH_take (i := 4) (oi := ⟨_, _, _, _, _, _⟩) (v := ?_) rfl (by kernel_rfl) (by kernel_rfl) (by kernel_rfl) (fun _ _ _ h => (HPAN.out _ _ _ h).elim) (Or.inl ⟨by rfl, ?_⟩) (by assumption) ?_
    rotate_left
    · intro w hSw
      (try dsimp only at hSw)
      go_simp
      (try with_reducible rfl)
    (try simp only [Act.put, List.setIfInBounds_toArray, List.set_cons_zero, List.set_cons_succ])
    refine wpAnyH_take (i := 5) (oi := ⟨_, _, _, _, _, _⟩) (v := ?_) rfl (by kernel_rfl) (by kernel_rfl) (by kernel_rfl) (fun _ _ _ h => (HPAN.out _ _ _ h).elim) (Or.inl ⟨by rfl, ?_⟩) (by assumption) ?_
    rotate_left
    · intro w hSw
      (try dsimp only at hSw)
      go_simp
      (try with_reducible rfl)
    (try simp only [Act.put, List.setIfInBounds_toArray, List.set_cons_zero, List.set_cons_succ])
    refine wpAnyH_ready (rs := [7]) (by kernel_rfl) (by simp) ?_
    refine AllReadyH.cons (o := ⟨_, _, _, _, _, _⟩) rfl (fun K hK => ?_) AllReadyH.nil
    go_simp
    (go_at_call 79; refine (HHAS.out _).mono ?_; rintro e wv ⟨rfl, hww⟩; subst hww)
    (try go_wp2_with fail)
    refine hK.out _ _ ?_ (fun hHeld => ?_)
    · (try dsimp only)
      (try dsimp only)
      exact ⟨c2, c3, c4⟩
    clear hK K
    (try simp only [Act.put, List.setIfInBounds_toArray, List.set_cons_zero, List.set_cons_succ])
    refine wpAnyH_take (i := 8) (oi := ⟨_, _, _, _, _, _⟩) (v := ?_) rfl (by kernel_rfl) (by kernel_rfl) (by kernel_rfl) (fun _ _ _ h => (HPAN.out _ _ _ h).elim) (Or.inl ⟨by rfl, ?_⟩) (by assumption) ?_
    rotate_left
    · intro w hSw
      (try dsimp only at hSw)
      go_simp
      (try with_reducible rfl)
    (try simp only [Act.put, List.setIfInBounds_toArray, List.set_cons_zero, List.set_cons_succ])
    refine wpAnyH_take (i := 9) (oi := ⟨_, _, _, _, _, _⟩) (v := ?_) rfl (by kernel_rfl) (by kernel_rfl) (by kernel_rfl) (fun _ _ _ h => (HPAN.out _ _ _ h).elim) (Or.inl ⟨by rfl, ?_⟩) (by assumption) ?_
    rotate_left
    · intro w hSw
      (try dsimp only at hSw)
      go_simp
      (try with_reducible rfl)
    (try simp only [Act.put, List.setIfInBounds_toArray, List.set_cons_zero, List.set_cons_succ])
    refine wpAnyH_done (by kernel_rfl) ?_ _
    clear hHeld hsub h0 h20 HHAS HZ1
    have HFIN := Lib.hid (show ∀ (V : World) (n' : Nat) (v : Int), w.grownBy V (some B) → CntAt V gb pb lb kb cb B G P last n' → n' ≤ n + kept k → v = (cntF G P last k' c' r' : Int) → (∃ n', Ending.returned (.int .i64 v) = Ending.returned (.int .i64 (cntF G P last k c r : Int)) ∧ w.grownBy V (some B) ∧ CntAt V gb pb lb kb cb B G P last n' ∧ n' ≤ n + kept k) from fun V n' v h1 h2 h3 h4 => ⟨n', by rw [h4, HCNT.out], h1, h2, h3⟩)
    cases bt with
    | false =>
      go_simp
      have HEND := Lib.hid (HFIN.out wv n 0 (grown_of_below BW.out _) HAT.out (Nat.le_add_right _ _) (by
        rw [cntF, cntR_no (by rw [← HJ.out, ← HPJ.out]; exact HBT.out.symm)]; first | done | rfl))
      go_wp2_with fail
      exact HRET.out _ _ _ rfl HEND.out
    | true =>
      go_simp
      by_cases hr0 : r' = 0
      · have hz : ((r' : Int) == 0) = true := by simp; omega
        have HR0 := Lib.hid hr0
        clear hr0
        have HEND := Lib.hid (HFIN.out wv n 1 (grown_of_below BW.out _) HAT.out (Nat.le_add_right _ _) (by
          have hk0 : k' = 0 := by rw [← HPOP.out]; exact (pop_zero hr').2 HR0.out
          have hjl := HJ.out
          rw [hk0] at hjl ⊢
          rw [cntF, cntR_end (by rw [← hjl, ← HPJ.out]; exact HBT.out.symm)]; first | done | rfl))
        go_wp2_with fail
        exact HRET.out _ _ _ rfl HEND.out
      · have hz : ((r' : Int) == 0) = false := by simp; omega
        have HR0 := Lib.hid hr0
        clear hr0
        obtain ⟨m, hm⟩ : ∃ m, k' = m + 1 := ⟨k' - 1, by have := HPOP.out; have h9 := (not_congr (pop_zero hr')).2 HR0.out; omega⟩
        have HM := Lib.hid hm
        clear hm
        have HPB := Lib.hid (show ((fun j => P.getD j 0) (last - (m + 1))).testBit c' = true by show (P.getD (last - (m + 1)) 0).testBit c' = true; rw [← HM.out, ← HJ.out, ← HPJ.out]; exact HBT.out.symm)
        by_cases hc0 : ch = 0
        · have hz2 : ((ch : Int) == 0) = true := by simp; omega
          have HC0 := Lib.hid hc0
          clear hc0
          have HEND := Lib.hid (HFIN.out wv n 0 (grown_of_below BW.out _) HAT.out (Nat.le_add_right _ _) (by
            rw [HM.out, cntF, cntR_dead (by rw [← HX.out, ← HCHE.out]; exact HC0.out)]; first | done | rfl))
          go_wp2_with fail
          exact HRET.out _ _ _ rfl HEND.out
        · have hz2 : ((ch : Int) == 0) = false := by simp; omega
          have HC0 := Lib.hid hc0
          clear hc0
          obtain ⟨pc, hpc⟩ : ∃ pc, pc = popN 64 ch := ⟨_, rfl⟩
          have HPC := Lib.hid hpc
          have HZ2 := Lib.hid (fun V => size_any ch HCH64.out V)
          rw [← hpc] at HZ2
          clear hpc
          by_cases h1 : pc = 1
          · have hz3 : ((pc : Int) == 1) = true := by simp; omega
            have H1 := Lib.hid h1
            clear h1
            go_wp2_with fail
            refine (HZ2.out _).mono ?_
            rintro e wv ⟨rfl, hb⟩
            (repeat (first | replace hb := below_undrew hb | replace hb := below_undrewN hb))
            replace c1 := cell_keep c1 lg hb
            replace c2 := cell_keep c2 lr hb
            replace c3 := cell_keep c3 ll hb
            replace c4 := cell_keep c4 lp hb
            replace RB := Lib.hid ((hb.block rb lr).trans RB.out)
            replace lg := lt_keep lg hb
            replace lr := lt_keep lr hb
            replace ll := lt_keep ll hb
            replace lp := lt_keep lp hb
            replace HAT := Lib.hid (HAT.out.keep hb)
            replace BW := Lib.hid (below_next BW.out hb)
            clear hb
            obtain ⟨t, ht⟩ : ∃ t, t = Lib.ctz 64 ch := ⟨_, rfl⟩
            have HT := Lib.hid ht
            have HTIN := Lib.hid (show t < 64 ∧ r'.testBit t = true by rw [ht, HCHE.out]; exact ctz_in hr' (by rw [← HCHE.out]; exact HC0.out))
            have HLE := Lib.hid (fun (V : World) (h : Tab64 V) => least_any ch HCH64.out V h)
            rw [← ht] at HLE
            have HWO := Lib.hid (fun V => without_any r' t hr' HTIN.out.1 V)
            clear ht
            go_wp2_with fail
            refine (HLE.out _ HAT.out.tab).mono ?_
            rintro e wv2 ⟨rfl, hww⟩
            subst hww
            go_wp2_with fail
            refine (HWO.out _).mono ?_
            rintro e wv2 ⟨rfl, hww⟩
            subst hww
            have f2 : wv.frozen? ⟨rb, 0, none⟩ = false := frozen_of_row _ _ _ _ _ RB.out
            go_wp2_with fail
            have HW2 := Lib.hid (show (wv.setCell ⟨rb, 0, none⟩ (.int .u64 ((clr r' t : Nat) : Int))).heap[rb]? = some (.cells #[.int .u64 ((clr r' t : Nat) : Int)] 55 (0, 0)) by rw [heap_set _ RB.out]; rfl)
            have HBS := Lib.hid (show Below w.heap.size w (wv.setCell ⟨rb, 0, none⟩ (.int .u64 ((clr r' t : Nat) : Int))) from BW.out.grown (grown_set _ _ _ _) BW.out.size (fun q e => by cases e; rw [HRB.out]; exact Nat.le_refl _))
            have HAT2 := Lib.hid (HAT.out.kept (grown_set wv rb 0 (.int .u64 ((clr r' t : Nat) : Int))) (fun q e => by cases e; exact HRNE.out))
            have HP2 := Lib.hid (show popN 64 (clr r' t) = m from by have h1 := pop_clr hr' HTIN.out.2; have h2 := HPOP.out; have h3 := HM.out; omega)
            go_step3
            refine And.intro rfl (And.intro (HJT.out _ _ m t (clr r' t) rfl ⟨ by have := HM.out; omega, HTIN.out.1, clr_lt64 hr', HP2.out, ?_, HW2.out, HAT2.out, HBS.out⟩) ?_)
            · rw [← HCNT.out, HM.out, cntF, cntF, cntR_one hr' HPB.out (by rw [← HX.out, ← HCHE.out, ← HPC.out]; exact H1.out), HT.out, HCHE.out, HX.out]
            · rw [HRS.out, setAt, cell_of_row _ _ _ _ _ _ HW2.out]
              show popN 64 (Int.toNat ((clr r' t : Nat) : Int)) < k'
              rw [Int.toNat_natCast, HP2.out]; have := HM.out; omega
          · have hz3 : ((pc : Int) == 1) = false := by simp; omega
            have H1 := Lib.hid h1
            clear h1
            go_wp2_with fail
            refine (HZ2.out _).mono ?_
            rintro e wv ⟨rfl, hb⟩
            (repeat (first | replace hb := below_undrew hb | replace hb := below_undrewN hb))
            replace c1 := cell_keep c1 lg hb
            replace c2 := cell_keep c2 lr hb
            replace c3 := cell_keep c3 ll hb
            replace c4 := cell_keep c4 lp hb
            replace RB := Lib.hid ((hb.block rb lr).trans RB.out)
            replace lg := lt_keep lg hb
            replace lr := lt_keep lr hb
            replace ll := lt_keep ll hb
            replace lp := lt_keep lp hb
            replace HAT := Lib.hid (HAT.out.keep hb)
            replace BW := Lib.hid (below_next BW.out hb)
            clear hb
            obtain ⟨D, hown, hkn⟩ := HAT.out.memo
            have HKN := Lib.hid hkn
            have c5 : wv.cell? ⟨kb, 0, none⟩ = some (.map (some B)) := by rw [cell_of_row _ _ _ _ _ _ HAT.out.k]; rfl
            clear hkn
            cases hbh : Maps.has D (pairL c' r') with
            | true =>
              have HBH := Lib.hid hbh
              go_wp2_with (at_lookup; refine wpList_lookup_own_ok_int _ rfl _ _ 96 rfl 98 3 .i64 lawPos Tryz.underlying96 Tryz.underlying3 (zeroI _) B n D rfl hown _ _ rfl (keyOfPos hc' hr') ?_; intro cv hatk hwc; have HATK := Lib.hid hatk; clear hatk hwc)
              have HCV := Lib.hid (show cv = (cntF G P last k' c' r' : Int) from by
                have h1 : D.atKey (pairL c' r') (.lit (.int .i64 0)) = .lit (.int .i64 (cntF G P last (popN 64 r') c' r' : Int)) := HKN.out c' r' hc' hr' HBH.out
                rw [HATK.out, HPOP.out] at h1
                exact lit_inj h1)
              exact HRET.out _ _ _ rfl (HFIN.out _ n _ (grown_of_below (below_new BW.out _) _) (HAT.out.keep (below_new (Below.refl _ _) _)) (Nat.le_add_right _ _) HCV.out)
            | false =>
              have HBH := Lib.hid hbh
              go_wp2_with (at_lookup; refine wpList_lookup_own_ok_int _ rfl _ _ 96 rfl 98 3 .i64 lawPos Tryz.underlying96 Tryz.underlying3 (zeroI _) B n D rfl hown _ _ rfl (keyOfPos hc' hr') ?_; intro cv hatk hwc; obtain rfl : cv = 0 := (by rw [atKey_none HBH.out] at hatk; exact (lit_inj hatk).symm); clear hatk hwc)
              obtain ⟨wb, hwb⟩ : ∃ wb, wb = wv.heap.size := ⟨_, rfl⟩
              have HWB := Lib.hid hwb
              obtain ⟨W3, hW3⟩ : ∃ W3, W3 = wv.alloc (.cells #[.int .i64 0] 3) := ⟨_, rfl⟩
              have HW3 := Lib.hid (show W3.heap[wb]? = some (.cells #[.int .i64 0] 3 (0, 0)) by rw [hW3, hwb]; exact World.alloc_heap_new _ _)
              have HS3 := Lib.hid (show W3.heap.size = wb + 1 by rw [hW3, hwb]; simp)
              have HB3 := Lib.hid (show Below w.heap.size w W3 by rw [hW3]; exact below_new BW.out _)
              have HB4 := Lib.hid (show Below wv.heap.size wv W3 by rw [hW3]; exact below_new (Below.refl _ _) _)
              rw [← hW3, ← hwb]
              clear hW3 hwb
              have HAT3 := Lib.hid (HAT.out.keep HB4.out)
              have HRB3 := Lib.hid ((HB4.out.block rb lr).trans RB.out)
              have HWW := Lib.hid (show w.heap.size ≤ wb from by rw [HWB.out]; exact BW.out.size)
              have HRW := Lib.hid (show rb < wb from by rw [HWB.out]; exact lr)
              obtain ⟨f, hf⟩ : ∃ f : Int → Nat, f = fun y => cntF G P last m y.toNat (clr r' y.toNat) := ⟨_, rfl⟩
              have HF := Lib.hid hf
              have HSUM := Lib.hid (show ((bitsL ch).map f).sum = cntF G P last k' c' r' from by
                rw [HM.out, cntF, cntR_sum HPB.out, hf, HCHE.out, HX.out]; rfl)
              have HPL := Lib.hid (show (bitsL ch).length ≤ m + 1 from by rw [HCHE.out, ← HM.out, ← HPOP.out]; exact pop_and hr')
              have HFB := Lib.hid (show ∀ y ∈ bitsL ch, f y ≤ fac m from fun y hy => by
                rw [HCHE.out] at hy
                have h := near_in hy
                have h2 := pop_clr hr' h.2.2.1
                rw [hf]; exact cntR_le _ _ _ _ _ _ (clr_lt64 hr') (by have := HPOP.out; have := HM.out; omega))
              have HKM := Lib.hid (show (m + 1) * kept m + 1 ≤ kept k from Nat.le_trans (by rw [← Nat.add_comm 1]; exact Nat.le_refl (kept (m + 1))) (kept_mono (by have := HM.out; omega)))
              have HM19 := Lib.hid (show m + 1 ≤ 19 from by have := HM.out; omega)
              clear hf
              have hit := each_hands (9 - 1) ch HCH64.out
              refine wpIn_wide.1 (wpIn_handsQ (n := 9) (q := 13) rfl (fun args w => by simp [go_sem]) hit (CntI w gb pb lb kb cb B rb wb G P last n m r' W3.heap.size f) ?_ (cntI_own HAT0.out ?_ ?_ ?_) ?_ ?_ ?_ ?_)
              · rintro pre V ⟨_, _, _, _, n', h5, _⟩; exact h5.tab
              · exact HB3.out.size
              · rw [HS3.out]; have := HRW.out; omega
              · rw [HS3.out]; omega
              · exact ⟨grown_of_below HB3.out _, Nat.le_refl _, HRB3.out, HW3.out, n, HAT3.out, by simp⟩
              · intro l y V K hK
                gi_wp2
                exact hK
              · rintro l pre y rest V hl hsp ⟨hi1, hi2, hi3, hi4, n1, hi5, hi6⟩
                have hyb : y ∈ bitsL ch := by rw [hsp]; simp
                have HYI := Lib.hid (show 0 ≤ y ∧ y < 64 ∧ r'.testBit y.toNat = true ∧ x.testBit y.toNat = true from near_in (by rw [← HCHE.out]; exact hyb))
                have HPRE := Lib.hid (show pre.length + 1 ≤ m + 1 from by have h := HPL.out; rw [hsp, List.length_append, List.length_cons] at h; omega)
                obtain ⟨s0, hs0⟩ : ∃ s0, s0 = (pre.map f).sum := ⟨_, rfl⟩
                have HS0 := Lib.hid hs0
                obtain ⟨fy, hfy⟩ : ∃ fy, fy = f y := ⟨_, rfl⟩
                have HFY := Lib.hid hfy
                have hfac := fac_19 HM19.out
                have hsb : s0 + fy ≤ fac (m + 1) := by
                  have h1 := sum_bd (f := f) (B := fac m) (l := pre ++ [y]) (fun z hz => HFB.out z (by
                      rw [hsp]
                      rcases List.mem_append.1 hz with h | h
                      · exact List.mem_append_left _ h
                      · rw [List.mem_singleton.1 h]; simp))
                  rw [List.map_append, List.sum_append, ← hs0] at h1
                  simp only [List.map_cons, List.map_nil, List.sum_cons, List.sum_nil, Nat.add_zero, List.length_append, List.length_cons, List.length_nil] at h1
                  rw [← hfy] at h1
                  refine Nat.le_trans h1 ?_
                  rw [fac]; exact Nat.mul_le_mul_right _ (by have := HPRE.out; omega)
                have hadd : IntKind.i64.wrap ((s0 : Int) + (fy : Int)) = ((s0 + fy : Nat) : Int) := by rw [IntKind.wrap_i64]; omega
                have HWO := Lib.hid (show ∀ V : World, Calls Tryz.prog 42 #[.int .u64 (r' : Int), .int .i64 y] V fun e w' => e = .returned (.int .u64 (clr r' y.toNat : Int)) ∧ V = w' from fun V => by
                  have h := without_any r' y.toNat hr' (by have := HYI.out; omega) V
                  rw [Int.toNat_of_nonneg HYI.out.1] at h
                  exact h)
                have HCC := Lib.hid (show ∀ U : World, CntAt U gb pb lb kb cb B G P last n1 → Calls Tryz.prog 78 #[.int .i64 y, .int .u64 (clr r' y.toNat : Int), .pointer (some ⟨gb, 0, none⟩), .pointer (some ⟨pb, 0, none⟩), .pointer (some ⟨lb, 0, none⟩), .pointer (some ⟨kb, 0, none⟩), .pointer (some ⟨cb, 0, none⟩)] U fun e w' => ∃ n', e = .returned (.int .i64 (fy : Int)) ∧ U.grownBy w' (some B) ∧ CntAt w' gb pb lb kb cb B G P last n' ∧ n' ≤ n1 + kept m from fun U hU => by
                  have hbnd : n1 + kept m ≤ 9223372036854775000 := by
                    have h1 : (pre.length + 1) * kept m ≤ (m + 1) * kept m := Nat.mul_le_mul_right _ HPRE.out
                    rw [Nat.succ_mul] at h1
                    have := HKM.out; omega
                  have h := IH.out m (by have := HM.out; omega) y.toNat (clr r' y.toNat) n1 U (by have := HYI.out; omega) (clr_lt64 hr') (by have h2 := pop_clr hr' HYI.out.2.2.1; have := HPOP.out; have := HM.out; omega) (by have := HM.out; omega) hU hbnd
                  rw [Int.toNat_of_nonneg HYI.out.1] at h
                  rw [hfy, HF.out]; exact h)
                have cwb : V.drew.cell? ⟨wb, 0, none⟩ = some (.int .i64 (s0 : Int)) := by
                  show V.cell? ⟨wb, 0, none⟩ = _
                  rw [cell_of_row _ _ _ _ _ _ hi4, hs0]; rfl
                have fwb : V.drew.frozen? ⟨wb, 0, none⟩ = false := (show V.frozen? ⟨wb, 0, none⟩ = false from frozen_of_row _ _ _ _ _ hi4)
                have HCUR := Lib.hid (show V.drew.cell? ⟨rb, 0, none⟩ = some (.int .u64 (r' : Int)) ∧ V.drew.cell? ⟨cb, 0, none⟩ = some (cntV gb pb lb kb cb) from ⟨by show V.cell? _ = _; rw [cell_of_row _ _ _ _ _ _ hi3]; rfl, by show V.cell? _ = _; rw [cell_of_row _ _ _ _ _ _ hi5.c]; rfl⟩)
                have HNE := Lib.hid (show B < wb ∧ rb ≠ B ∧ cb ≠ B ∧ wb ≠ cb ∧ wb ≠ rb ∧ wb ≠ B from by
                  have h1 := HAT.out.ne.2.2.2.2.2; have h2 := HWB.out; have h3 := HRW.out; have h4 := HRNE.out; have h5 := HAT.out.ne; have h6 := lt_of_at HAT.out.c
                  omega)
                have HA5 := Lib.hid hi5.drew
                have HI4V := Lib.hid (show V.drew.heap[wb]? = some (.cells #[.int .i64 ((pre.map f).sum : Nat)] 3 (0, 0)) from hi4)
                have CFIN := Lib.hid (show ∀ (U : World) (n2 : Nat), V.drew.grownBy U (some B) → CntAt U gb pb lb kb cb B G P last n2 → n2 ≤ n1 + kept m → ownPostG W3.heap.size (fun _ _ => True) (CntI w gb pb lb kb cb B rb wb G P last n m r' W3.heap.size f) (fun _ _ _ => False) (pre ++ [y]) V .normal { tmps := #[], defers := [] } (U.setCell ⟨wb, 0, none⟩ (.int .i64 ((s0 + fy : Nat) : Int))) from fun U n2 hg2 ha2 hn2 => by
                  have hg : V.grownBy U (some B) := (show V.grownBy V.drew (some B) from ⟨rfl, rfl, rfl, Nat.le_refl _, fun _ _ _ => rfl⟩).trans hg2
                  have hset := grown_set U wb 0 (.int .i64 ((s0 + fy : Nat) : Int))
                  have hwbU : U.heap[wb]? = some (.cells #[.int .i64 ((pre.map f).sum : Nat)] 3 (0, 0)) := (hg.block wb (lt_of_at hi4) (by have := HNE.out; simp; omega)).trans hi4
                  have hrbU : U.heap[rb]? = some (.cells #[.int .u64 (r' : Int)] 55 (0, 0)) := (hg.block rb (lt_of_at hi3) (by have := HNE.out; simp; omega)).trans hi3
                  have hws := HS3.out
                  have hne := HNE.out
                  refine ⟨⟨Nat.le_trans hg.size hset.size, fun q o hB hq ho => ?_⟩, trivial, ?_, ?_, ?_, ?_, n2, ?_, ?_⟩
                  · have h1 := (hg.block q (lt_of_at hq) (by simp; omega)).trans hq
                    exact (hset.block q (lt_of_at h1) (by simp; omega)).trans h1
                  · have h1 := hi1.trans hg
                    have hww := HWW.out
                    exact ⟨hset.os.trans h1.os, hset.tape.trans h1.tape, hset.output.trans h1.output, Nat.le_trans h1.size hset.size, fun q hq hqB => (hset.block q (Nat.lt_of_lt_of_le hq h1.size) (by simp; omega)).trans (h1.block q hq hqB)⟩
                  · exact Nat.le_trans hi2 (Nat.le_trans hg.size hset.size)
                  · exact (hset.block rb (lt_of_at hrbU) (by simp; omega)).trans hrbU
                  · rw [heap_set _ hwbU, List.map_append, List.sum_append, ← HS0.out, HFY.out]; simp
                  · exact ha2.kept hset (fun q e => by cases e; exact HAT0.out.below HWW.out (Nat.le_refl _))
                  · rw [List.length_append, List.length_cons, List.length_nil, Nat.zero_add, Nat.succ_mul]; omega)
                clear hyb hs0 hfy hfac hsb hit hsp hi1 hi2 hi3 hi4 hi5 hi6
                gi_wp2
                refine wpIn_region_held_round (S := fun w' => w'.cell? ⟨rb, 0, none⟩ = some (.int .u64 (r' : Int)) ∧ w'.cell? ⟨cb, 0, none⟩ = some (cntV gb pb lb kb cb)) (by kernel_rfl) (by kernel_rfl) (fun ⟨_, _, h⟩ => h) HCUR.out (fun hHeld => ?_)
                refine wpAnyH_take (i := 1) (oi := ⟨_, _, _, _, _, _⟩) (v := ?_) rfl (by kernel_rfl) (by kernel_rfl) (by kernel_rfl) (fun _ _ _ h => h) (Or.inl ⟨by rfl, ?_⟩) (by assumption) ?_
                rotate_left
                · intro w hSw
                  (try dsimp only at hSw)
                  obtain ⟨hSa, hSb⟩ := hSw
                  go_simp
                  (try with_reducible rfl)
                (try simp only [Act.put, List.setIfInBounds_toArray, List.set_cons_zero, List.set_cons_succ])
                refine wpAnyH_take (i := 2) (oi := ⟨_, _, _, _, _, _⟩) (v := ?_) rfl (by kernel_rfl) (by kernel_rfl) (by kernel_rfl) (fun _ _ _ h => h) (Or.inl ⟨by rfl, ?_⟩) (by assumption) ?_
                rotate_left
                · intro w hSw
                  (try dsimp only at hSw)
                  obtain ⟨hSa, hSb⟩ := hSw
                  go_simp
                  (try with_reducible rfl)
                (try simp only [Act.put, List.setIfInBounds_toArray, List.set_cons_zero, List.set_cons_succ])
                refine wpAnyH_take (i := 3) (oi := ⟨_, _, _, _, _, _⟩) (v := ?_) rfl (by kernel_rfl) (by kernel_rfl) (by kernel_rfl) (fun _ _ _ h => h) (Or.inl ⟨by rfl, ?_⟩) (by assumption) ?_
                rotate_left
                · intro w hSw
                  (try dsimp only at hSw)
                  obtain ⟨hSa, hSb⟩ := hSw
                  go_simp
                  (try with_reducible rfl)
                (try simp only [Act.put, List.setIfInBounds_toArray, List.set_cons_zero, List.set_cons_succ])
                refine wpAnyH_take (i := 4) (oi := ⟨_, _, _, _, _, _⟩) (v := ?_) rfl (by kernel_rfl) (by kernel_rfl) (by kernel_rfl) (fun _ _ _ h => h) (Or.inl ⟨by rfl, ?_⟩) (by assumption) ?_
                rotate_left
                · intro w hSw
                  (try dsimp only at hSw)
                  obtain ⟨hSa, hSb⟩ := hSw
                  go_simp
                  (try with_reducible rfl)
                (try simp only [Act.put, List.setIfInBounds_toArray, List.set_cons_zero, List.set_cons_succ])
                refine wpAnyH_ready (rs := [0, 5]) (by kernel_rfl) (by simp) ?_
                refine AllReadyH.cons (o := ⟨_, _, _, _, _, _⟩) rfl (fun K hK => ?_) ?_
                · go_simp
                  skip
                  refine hK.out _ _ ?_ (fun hHeld => ?_)
                  · (try dsimp only)
                    first | exact hHeld | exact ⟨HG6.out.cell hHeld.1 (by have := HNE.out; simp; omega), HG6.out.cell hHeld.2 (by have := HNE.out; simp; omega)⟩ | exact ⟨(grown_set _ _ _ _).cell hHeld.1 (by have := HNE.out; simp; omega), (grown_set _ _ _ _).cell hHeld.2 (by have := HNE.out; simp; omega)⟩
                  clear hK K
                  (try simp only [Act.put, List.setIfInBounds_toArray, List.set_cons_zero, List.set_cons_succ])
                  refine wpAnyH_ready (rs := [5]) (by kernel_rfl) (by simp) ?_
                  refine AllReadyH.cons (o := ⟨_, _, _, _, _, _⟩) rfl (fun K hK => ?_) AllReadyH.nil
                  go_simp
                  refine (HWO.out _).mono ?_
                  rintro e w5 ⟨rfl, hww⟩
                  subst hww
                  dsimp only
                  refine hK.out _ _ ?_ (fun hHeld => ?_)
                  · (try dsimp only)
                    first | exact hHeld | exact ⟨HG6.out.cell hHeld.1 (by have := HNE.out; simp; omega), HG6.out.cell hHeld.2 (by have := HNE.out; simp; omega)⟩ | exact ⟨(grown_set _ _ _ _).cell hHeld.1 (by have := HNE.out; simp; omega), (grown_set _ _ _ _).cell hHeld.2 (by have := HNE.out; simp; omega)⟩
                  clear hK K
                  (try simp only [Act.put, List.setIfInBounds_toArray, List.set_cons_zero, List.set_cons_succ])
                  refine wpAnyH_ready (rs := [6]) (by kernel_rfl) (by simp) ?_
                  refine AllReadyH.cons (o := ⟨_, _, _, _, _, _⟩) rfl (fun K hK => ?_) AllReadyH.nil
                  go_simp
                  refine (HCC.out _ (by first | exact HA5.out | exact HA5.out.drew)).mono ?_
                  rintro e w6 ⟨n2, rfl, hg6, hat6, hn6⟩
                  have HG6 := Lib.hid hg6; have HA6 := Lib.hid hat6; have HN6 := Lib.hid hn6
                  have cwb6 : w6.cell? ⟨wb, 0, none⟩ = some (.int .i64 (s0 : Int)) := hg6.cell cwb (by have := HNE.out; simp; omega)
                  have fwb6 : w6.frozen? ⟨wb, 0, none⟩ = false := frozen_of_row _ _ _ _ _ ((hg6.block wb (lt_of_at HI4V.out) (by have := HNE.out; simp; omega)).trans HI4V.out)
                  clear hg6 hat6 hn6
                  dsimp only
                  refine hK.out _ _ ?_ (fun hHeld => ?_)
                  · (try dsimp only)
                    first | exact hHeld | exact ⟨HG6.out.cell hHeld.1 (by have := HNE.out; simp; omega), HG6.out.cell hHeld.2 (by have := HNE.out; simp; omega)⟩ | exact ⟨(grown_set _ _ _ _).cell hHeld.1 (by have := HNE.out; simp; omega), (grown_set _ _ _ _).cell hHeld.2 (by have := HNE.out; simp; omega)⟩
                  clear hK K
                  (try simp only [Act.put, List.setIfInBounds_toArray, List.set_cons_zero, List.set_cons_succ])
                  refine wpAnyH_take (i := 7) (oi := ⟨_, _, _, _, _, _⟩) (v := ?_) rfl (by kernel_rfl) (by kernel_rfl) (by kernel_rfl) (fun _ _ _ h => h) (Or.inl ⟨by rfl, ?_⟩) (by assumption) ?_
                  rotate_left
                  · intro w hSw
                    (try dsimp only at hSw)
                    obtain ⟨hSa, hSb⟩ := hSw
                    go_simp
                    (try with_reducible rfl)
                  (try simp only [Act.put, List.setIfInBounds_toArray, List.set_cons_zero, List.set_cons_succ])
                  refine wpAnyH_ready (rs := [8]) (by kernel_rfl) (by simp) ?_
                  refine AllReadyH.cons (o := ⟨_, _, _, _, _, _⟩) rfl (fun K hK => ?_) AllReadyH.nil
                  go_simp
                  skip
                  refine hK.out _ _ ?_ (fun hHeld => ?_)
                  · (try dsimp only)
                    first | exact hHeld | exact ⟨HG6.out.cell hHeld.1 (by have := HNE.out; simp; omega), HG6.out.cell hHeld.2 (by have := HNE.out; simp; omega)⟩ | exact ⟨(grown_set _ _ _ _).cell hHeld.1 (by have := HNE.out; simp; omega), (grown_set _ _ _ _).cell hHeld.2 (by have := HNE.out; simp; omega)⟩
                  clear hK K
                  (try simp only [Act.put, List.setIfInBounds_toArray, List.set_cons_zero, List.set_cons_succ])
                  refine wpAnyH_done (by kernel_rfl) ?_ _
                  exact CFIN.out w6 n2 HG6.out HA6.out HN6.out
                refine AllReadyH.cons (o := ⟨_, _, _, _, _, _⟩) rfl (fun K hK => ?_) AllReadyH.nil
                go_simp
                refine (HWO.out _).mono ?_
                rintro e w5 ⟨rfl, hww⟩
                subst hww
                dsimp only
                refine hK.out _ _ ?_ (fun hHeld => ?_)
                · (try dsimp only)
                  first | exact hHeld | exact ⟨HG6.out.cell hHeld.1 (by have := HNE.out; simp; omega), HG6.out.cell hHeld.2 (by have := HNE.out; simp; omega)⟩ | exact ⟨(grown_set _ _ _ _).cell hHeld.1 (by have := HNE.out; simp; omega), (grown_set _ _ _ _).cell hHeld.2 (by have := HNE.out; simp; omega)⟩
                clear hK K
                (try simp only [Act.put, List.setIfInBounds_toArray, List.set_cons_zero, List.set_cons_succ])
                refine wpAnyH_ready (rs := [0, 6]) (by kernel_rfl) (by simp) ?_
                refine AllReadyH.cons (o := ⟨_, _, _, _, _, _⟩) rfl (fun K hK => ?_) ?_
                · go_simp
                  skip
                  refine hK.out _ _ ?_ (fun hHeld => ?_)
                  · (try dsimp only)
                    first | exact hHeld | exact ⟨HG6.out.cell hHeld.1 (by have := HNE.out; simp; omega), HG6.out.cell hHeld.2 (by have := HNE.out; simp; omega)⟩ | exact ⟨(grown_set _ _ _ _).cell hHeld.1 (by have := HNE.out; simp; omega), (grown_set _ _ _ _).cell hHeld.2 (by have := HNE.out; simp; omega)⟩
                  clear hK K
                  (try simp only [Act.put, List.setIfInBounds_toArray, List.set_cons_zero, List.set_cons_succ])
                  refine wpAnyH_ready (rs := [6]) (by kernel_rfl) (by simp) ?_
                  refine AllReadyH.cons (o := ⟨_, _, _, _, _, _⟩) rfl (fun K hK => ?_) AllReadyH.nil
                  go_simp
                  refine (HCC.out _ (by first | exact HA5.out | exact HA5.out.drew)).mono ?_
                  rintro e w6 ⟨n2, rfl, hg6, hat6, hn6⟩
                  have HG6 := Lib.hid hg6; have HA6 := Lib.hid hat6; have HN6 := Lib.hid hn6
                  have cwb6 : w6.cell? ⟨wb, 0, none⟩ = some (.int .i64 (s0 : Int)) := hg6.cell cwb (by have := HNE.out; simp; omega)
                  have fwb6 : w6.frozen? ⟨wb, 0, none⟩ = false := frozen_of_row _ _ _ _ _ ((hg6.block wb (lt_of_at HI4V.out) (by have := HNE.out; simp; omega)).trans HI4V.out)
                  clear hg6 hat6 hn6
                  dsimp only
                  refine hK.out _ _ ?_ (fun hHeld => ?_)
                  · (try dsimp only)
                    first | exact hHeld | exact ⟨HG6.out.cell hHeld.1 (by have := HNE.out; simp; omega), HG6.out.cell hHeld.2 (by have := HNE.out; simp; omega)⟩ | exact ⟨(grown_set _ _ _ _).cell hHeld.1 (by have := HNE.out; simp; omega), (grown_set _ _ _ _).cell hHeld.2 (by have := HNE.out; simp; omega)⟩
                  clear hK K
                  (try simp only [Act.put, List.setIfInBounds_toArray, List.set_cons_zero, List.set_cons_succ])
                  refine wpAnyH_take (i := 7) (oi := ⟨_, _, _, _, _, _⟩) (v := ?_) rfl (by kernel_rfl) (by kernel_rfl) (by kernel_rfl) (fun _ _ _ h => h) (Or.inl ⟨by rfl, ?_⟩) (by assumption) ?_
                  rotate_left
                  · intro w hSw
                    (try dsimp only at hSw)
                    obtain ⟨hSa, hSb⟩ := hSw
                    go_simp
                    (try with_reducible rfl)
                  (try simp only [Act.put, List.setIfInBounds_toArray, List.set_cons_zero, List.set_cons_succ])
                  refine wpAnyH_ready (rs := [8]) (by kernel_rfl) (by simp) ?_
                  refine AllReadyH.cons (o := ⟨_, _, _, _, _, _⟩) rfl (fun K hK => ?_) AllReadyH.nil
                  go_simp
                  skip
                  refine hK.out _ _ ?_ (fun hHeld => ?_)
                  · (try dsimp only)
                    first | exact hHeld | exact ⟨HG6.out.cell hHeld.1 (by have := HNE.out; simp; omega), HG6.out.cell hHeld.2 (by have := HNE.out; simp; omega)⟩ | exact ⟨(grown_set _ _ _ _).cell hHeld.1 (by have := HNE.out; simp; omega), (grown_set _ _ _ _).cell hHeld.2 (by have := HNE.out; simp; omega)⟩
                  clear hK K
                  (try simp only [Act.put, List.setIfInBounds_toArray, List.set_cons_zero, List.set_cons_succ])
                  refine wpAnyH_done (by kernel_rfl) ?_ _
                  exact CFIN.out w6 n2 HG6.out HA6.out HN6.out
                refine AllReadyH.cons (o := ⟨_, _, _, _, _, _⟩) rfl (fun K hK => ?_) AllReadyH.nil
                go_simp
                refine (HCC.out _ (by first | exact HA5.out | exact HA5.out.drew)).mono ?_
                rintro e w6 ⟨n2, rfl, hg6, hat6, hn6⟩
                have HG6 := Lib.hid hg6; have HA6 := Lib.hid hat6; have HN6 := Lib.hid hn6
                have cwb6 : w6.cell? ⟨wb, 0, none⟩ = some (.int .i64 (s0 : Int)) := hg6.cell cwb (by have := HNE.out; simp; omega)
                have fwb6 : w6.frozen? ⟨wb, 0, none⟩ = false := frozen_of_row _ _ _ _ _ ((hg6.block wb (lt_of_at HI4V.out) (by have := HNE.out; simp; omega)).trans HI4V.out)
                clear hg6 hat6 hn6
                dsimp only
                refine hK.out _ _ ?_ (fun hHeld => ?_)
                · (try dsimp only)
                  first | exact hHeld | exact ⟨HG6.out.cell hHeld.1 (by have := HNE.out; simp; omega), HG6.out.cell hHeld.2 (by have := HNE.out; simp; omega)⟩ | exact ⟨(grown_set _ _ _ _).cell hHeld.1 (by have := HNE.out; simp; omega), (grown_set _ _ _ _).cell hHeld.2 (by have := HNE.out; simp; omega)⟩
                clear hK K
                (try simp only [Act.put, List.setIfInBounds_toArray, List.set_cons_zero, List.set_cons_succ])
                refine wpAnyH_ready (rs := [0]) (by kernel_rfl) (by simp) ?_
                refine AllReadyH.cons (o := ⟨_, _, _, _, _, _⟩) rfl (fun K hK => ?_) AllReadyH.nil
                go_simp
                skip
                refine hK.out _ _ ?_ (fun hHeld => ?_)
                · (try dsimp only)
                  first | exact hHeld | exact ⟨HG6.out.cell hHeld.1 (by have := HNE.out; simp; omega), HG6.out.cell hHeld.2 (by have := HNE.out; simp; omega)⟩ | exact ⟨(grown_set _ _ _ _).cell hHeld.1 (by have := HNE.out; simp; omega), (grown_set _ _ _ _).cell hHeld.2 (by have := HNE.out; simp; omega)⟩
                clear hK K
                (try simp only [Act.put, List.setIfInBounds_toArray, List.set_cons_zero, List.set_cons_succ])
                refine wpAnyH_take (i := 7) (oi := ⟨_, _, _, _, _, _⟩) (v := ?_) rfl (by kernel_rfl) (by kernel_rfl) (by kernel_rfl) (fun _ _ _ h => h) (Or.inl ⟨by rfl, ?_⟩) (by assumption) ?_
                rotate_left
                · intro w hSw
                  (try dsimp only at hSw)
                  obtain ⟨hSa, hSb⟩ := hSw
                  go_simp
                  (try with_reducible rfl)
                (try simp only [Act.put, List.setIfInBounds_toArray, List.set_cons_zero, List.set_cons_succ])
                refine wpAnyH_ready (rs := [8]) (by kernel_rfl) (by simp) ?_
                refine AllReadyH.cons (o := ⟨_, _, _, _, _, _⟩) rfl (fun K hK => ?_) AllReadyH.nil
                go_simp
                skip
                refine hK.out _ _ ?_ (fun hHeld => ?_)
                · (try dsimp only)
                  first | exact hHeld | exact ⟨HG6.out.cell hHeld.1 (by have := HNE.out; simp; omega), HG6.out.cell hHeld.2 (by have := HNE.out; simp; omega)⟩ | exact ⟨(grown_set _ _ _ _).cell hHeld.1 (by have := HNE.out; simp; omega), (grown_set _ _ _ _).cell hHeld.2 (by have := HNE.out; simp; omega)⟩
                clear hK K
                (try simp only [Act.put, List.setIfInBounds_toArray, List.set_cons_zero, List.set_cons_succ])
                refine wpAnyH_done (by kernel_rfl) ?_ _
                exact CFIN.out w6 n2 HG6.out HA6.out HN6.out
              · have HNE2 := Lib.hid (show B < wb from by have h1 := HAT.out.ne.2.2.2.2.2; have h2 := HWB.out; omega)
                rintro Dd V hD ⟨hi1, hi2, hi3, hi4, n1, hi5, hi6⟩ hd
                obtain ⟨D2, hown2, hkn2⟩ := hi5.memo
                have c5 : V.cell? ⟨kb, 0, none⟩ = some (.map (some B)) := by rw [cell_of_row _ _ _ _ _ _ hi5.k]; rfl
                have c6 : V.cell? ⟨rb, 0, none⟩ = some (.int .u64 (r' : Int)) := by rw [cell_of_row _ _ _ _ _ _ hi3]; rfl
                obtain ⟨v, hv⟩ : ∃ v, v = cntF G P last k' c' r' := ⟨_, rfl⟩
                have HV := Lib.hid hv
                have HVB := Lib.hid (show v ≤ 121645100408832000 from by rw [hv]; exact Nat.le_trans (cntR_le _ _ _ _ _ _ hr' HPOP.out) (fac_19 (by have := HM.out; have := HM19.out; omega)))
                have c7 : V.cell? ⟨wb, 0, none⟩ = some (.int .i64 (v : Int)) := by rw [cell_of_row _ _ _ _ _ _ hi4, HSUM.out, hv]; rfl
                have HWF := Lib.hid (show (Lit.int .i64 (v : Int)).wf = true from by have := HVB.out; simp [Lit.wf, IntKind.min, IntKind.max, IntKind.signed, IntKind.bits]; omega)
                have HN1 := Lib.hid (show n1 + 1 ≤ n + kept k from by
                  have h1 : (bitsL ch).length * kept m ≤ (m + 1) * kept m := Nat.mul_le_mul_right _ HPL.out
                  have := HKM.out; omega)
                have hnm : n1 < maxLen := by have := HN1.out; unfold maxLen; omega
                have HI1 := Lib.hid hi1; have HI2 := Lib.hid hi2; have HI4 := Lib.hid hi4; have HI5 := Lib.hid hi5; have HD := Lib.hid hd; have HKN2 := Lib.hid hkn2
                clear hv hi1 hi2 hi3 hi4 hi5 hi6 hd hkn2 hit
                go_simp
                go_wp2_with (at_mapUpdate; refine wpList_mapUpdate_own _ rfl _ _ _ 96 rfl 98 3 lawPos Tryz.underlying96 _ B n1 D2 rfl hown2 hnm _ _ _ rfl rfl (keyOfPos hc' hr') _ [] (plainElem_int Tryz.underlying3 HWF.out) ?_; intro w1 hown3 hg3; have HO3 := Lib.hid hown3; have HG3 := Lib.hid hg3; clear hown3 hg3; have c8 : w1.cell? ⟨wb, 0, none⟩ = some (.int .i64 (v : Int)) := HG3.out.cell c7 (by have h1 := HAT.out.ne.2.2.2.2.2; have h2 := HWB.out; simp; omega))
                have hne := HNE2.out
                have hDw : wb < Dd := by have := HS3.out; omega
                have hd1 : w1.heap[Dd]? = some (.deferred (some [])) := (HG3.out.block Dd (lt_of_at HD.out) (by simp; omega)).trans HD.out
                have hgP := grownBy_putObj' w1 Dd (.deferred none)
                have hg1 := HI1.out.trans HG3.out
                have hww := HWW.out
                have hat1 : CntAt w1 gb pb lb kb cb B G P last (n1 + 1) := HI5.out.turned HG3.out ⟨_, HO3.out, by
                  have h := known_put (c := c') (r := r') hown2.isMap HKN2.out (by omega) hr'
                  have e : ((cntF G P last (popN 64 r') c' r' : Nat) : Int) = (v : Int) := by rw [HPOP.out, HV.out]
                  rw [← e]; exact h⟩
                exact HRETD.out _ _ _ Dd _ hd1 rfl (HFIN.out _ (n1 + 1) v ⟨hgP.os.trans hg1.os, hgP.tape.trans hg1.tape, hgP.output.trans hg1.output, Nat.le_trans hg1.size hgP.size, fun q hq hqB => (hgP.block q (Nat.lt_of_lt_of_le hq hg1.size) (by simp; omega)).trans (hg1.block q hq hqB)⟩ (hat1.kept hgP (fun q e => by cases e; exact HAT0.out.below HWW.out (Nat.le_of_lt hDw))) HN1.out (by rw [HV.out]))
end Go.Proofs.YtnmmgalidkambaaGreatDoor
