/-
  Ranges over a method value: the outer law whose body knows of its record, and the law within a round.
  Contracts: isForced; ForcedLeaps in plain terms.
  append of one slice onto a row of slices, within a fence.
  Contracts: the program's ForcedLeaps.
  ForcedLeaps: what the law compares.
  DeadEnds: what the law compares.
  ForcedLeaps: the contracts as the law's walk wants them.
  The walk of the exact law on ForcedLeaps: it answers true, and what was there stays.
-/
import Derived.Test.YtnnonmpgkkpocaaGreatDoorE3
import Derived.RangeFuncNested
import Derived.Test.YtnnonmpgkkpocaaGreatDoorE5
import Derived.Test.YtnnonmpgkkpocaaGreatDoorP6
import Derived.Test.YtnnonmpgkkpocaaGreatDoorP0
import Derived.Test.YtnnonmpgkkpocaaGreatDoorS9
import Derived.LoopNIn
import Derived.Test.YtnnonmpgkkpocaaGreatDoorLaw0
namespace Go.Proofs.YtnnonmpgkkpocaaGreatDoor
open Go.RowKit Go.Shelf

theorem wpIn_handsL {P : Program} {n : Nat} {g : Operand} {p : Tmp} {assign body : Code} {Q : Exit → Act → World → Prop} {a : Act} {w : World} {gf : Nat} {sv : Value}
    (hg : a.eval g = .func (.func gf) #[sv] #[]) (eg : ∀ args w, (callFunc gf args).run P w = .ok (.enter gf args) w)
    {xs : List Int} {T : World → Prop} (hit : Hands P (n - 1) gf sv xs T)
    (I : List Int → World → Prop) (hT : ∀ pre w, I pre w → T w) (hI : OwnFrom w.heap.size I) (h0 : I [] w) (Ax : Int → Act → World → Prop) (hAx : ∀ x a', OwnFrom w.heap.size (fun (_ : Unit) W => Ax x a' W))
    (hassign : ∀ (l : Nat) (pre : List Int) (x : Int) (W : World) (K : Act → World → Prop), I pre W → (∀ a' W', KeepsFrom w.heap.size W W' → I pre W' → Ax x a' W' → K a' W') →
      assign.wpIn (Fence.wide.inRound l) (n - 1 - 1) P (Exit.then K (fun _ _ _ => False)) { tmps := ((#[p] : Array Tmp).zip #[Value.int .i64 x]).foldl (fun t (p, v) => t.setIfInBounds p v) a.tmps, defers := [] } W)
    (hbody : ∀ (l : Nat) (pre : List Int) (x : Int) (rest : List Int) (a' : Act) (W : World), w.heap.size ≤ l → (∃ r, W.heap[l]? = some (.loop r)) → xs = pre ++ x :: rest → I pre W → Ax x a' W →
      body.wpIn (Fence.wide.inRound l) (n - 1 - 1) P (ownPostG w.heap.size (fun _ _ => True) I (fun _ _ _ => False) (pre ++ [x]) W) a' W)
    (hdone : ∀ (D : Nat) (W : World), w.heap.size ≤ D → I xs W → W.heap[D]? = some (.deferred (some [])) → Q .normal { a with defers := { target := .collected D, args := #[] } :: a.defers } W) :
    (Code.rangeFunc g #[p] assign body).wpIn Fence.wide n P Q a w := by
  refine wpIn_rangeFunc ?_
  intro fn _
  obtain ⟨rec, hrec⟩ : ∃ rec : LoopState → Loop, rec = fun st => { state := st, pending := none, fn, tmps := a.tmps, params := #[p], assign, body, defers := w.heap.size } := ⟨_, rfl⟩
  obtain ⟨W1, hW1⟩ : ∃ W1, W1 = (w.alloc (.deferred (some []))).alloc (.loop (rec .ready)) := ⟨_, rfl⟩
  have hL1 : W1.heap[w.heap.size + 1]? = some (.loop (rec .ready)) := by
    rw [hW1]
    have h := World.alloc_heap_new (w.alloc (.deferred (some []))) (.loop (rec .ready))
    rw [World.size_alloc] at h
    exact h
  have hK1 : W1.heap[w.heap.size]? = some (.deferred (some [])) := by
    rw [hW1]
    exact (Below.heap_alloc _ _ _ (by simp)).trans (World.alloc_heap_new w _)
  have hI1 : I [] W1 := by rw [hW1]; exact hI.alloc _ (hI.alloc _ h0)
  refine ⟨w.heap.size + 1, [{ target := .collected w.heap.size, args := #[] }], W1, { target := .fn (.func gf) #[], args := #[sv, .func (.yield (w.heap.size + 1)) #[] #[]] }, W1, gf,
    #[sv, .func (.yield (w.heap.size + 1)) #[] #[]], W1, ?_, ?_, fun _ _ => trivial, ?_, (fun h => by cases h), ?_⟩
  · rw [hW1, hrec]; exact run_enterLoop_outer fn a.tmps #[p] assign body
  · simp only [resolve, hg]
    simp [go_sem]
  · simp [invoke, go_sem, eg]
  · refine (hit (w.heap.size + 1) (fun pre W => I pre W ∧ W.heap[w.heap.size + 1]? = some (.loop (rec .ready)) ∧ W.heap[w.heap.size]? = some (.deferred (some []))) W1
      (fun pre W h => hT pre W h.1) ?_ ⟨hI1, hL1, hK1⟩).mono ?_
    · rintro pre x rest W hsp ⟨hi, hl, hk⟩
      have hy := run_yield (P := P) (args := #[.int .i64 x]) hl (by rw [hrec]; rfl)
      rw [hrec] at hy
      refine ⟨fn, _, assign, body, hy, roundIn_of_wpIn trivial (hassign _ pre x W _ hi ?_)⟩
      clear hy
      intro a' Wa hkfa hia hax
      replace hl := hkfa.same _ _ (by omega) hl rfl
      replace hk := hkfa.same _ _ (Nat.le_refl _) hk rfl
      replace hi := hia
      clear hia hkfa
      have hlt := (Array.getElem?_eq_some_iff.1 hl).1
      have hbg := run_beginRound (P := P) hl (by rw [hrec])
      obtain ⟨busy, hbusy⟩ : ∃ busy : Loop, busy = { rec .ready with state := .busy } := ⟨_, rfl⟩
      rw [← hbusy] at hbg
      have hl2 : (Wa.putObj (w.heap.size + 1) (.loop busy)).heap[w.heap.size + 1]? = some (.loop busy) := World.putObj_heap_same hlt
      have hk2 : (Wa.putObj (w.heap.size + 1) (.loop busy)).heap[w.heap.size]? = some (.deferred (some [])) := (World.putObj_heap_other (by omega)).trans hk
      refine ⟨_, hbg, ?_⟩
      refine wpIn_mono (hbody (w.heap.size + 1) pre x rest a' _ (by omega) ⟨_, hl2⟩ hsp (hI.putObj _ hi (by omega) hl rfl) ((hAx x a').putObj (s := ()) _ hax (by omega) hl rfl)) ?_
      intro e a3 W3 hp
      cases e with
      | normal =>
        obtain ⟨hk3, _, hi3⟩ := hp
        have hl3 := hk3.same _ _ (by omega) hl2 rfl
        have hd3 := hk3.same _ _ (Nat.le_refl _) hk2 rfl
        have hend := run_endRound (P := P) none hl3
        have hre : ({ busy with state := if (none : Option Code).isNone then .ready else .done, pending := none } : Loop) = rec .ready := by rw [hbusy, hrec]; rfl
        rw [hre] at hend
        exact ⟨_, _, hend, rfl, hI.putObj _ hi3 (by omega) hl3 rfl, World.putObj_heap_same (Array.getElem?_eq_some_iff.1 hl3).1, (World.putObj_heap_other (by omega)).trans hd3⟩
      | ret => exact hp.2.elim
      | exit id => exact hp.2.elim
      | goto t => exact hp.2.elim
      | panic ch => exact hp.elim
      | outgrown => exact hp.elim
    · rintro e W2 ⟨⟨v, rfl⟩, hi, hl, hk⟩
      have hend := run_endLoop (P := P) hl (by rw [hrec]; simp)
      exact ⟨none, _, by rw [hrec] at hend; exact hend, hdone _ _ (Nat.le_refl _) (hI.putObj _ hi (by omega) hl rfl) ((World.putObj_heap_other (by omega)).trans hk)⟩
theorem wpIn_handsN {P : Program} {n : Nat} {g : Operand} {p : Tmp} {assign body : Code} {Q : Exit → Act → World → Prop} {a : Act} {w : World} {gf : Nat} {sv : Value} {l₀ : Nat} {r₀ : Loop} (hl₀ : w.heap[l₀]? = some (.loop r₀))
    (hg : a.eval g = .func (.func gf) #[sv] #[]) (eg : ∀ args w, (callFunc gf args).run P w = .ok (.enter gf args) w)
    {xs : List Int} {T : World → Prop} (hit : Hands P (n - 1) gf sv xs T)
    (I : List Int → World → Prop) (hT : ∀ pre w, I pre w → T w) (hI : OwnFrom w.heap.size I) (h0 : I [] w) (Ax : Int → Act → World → Prop) (hAx : ∀ x a', OwnFrom w.heap.size (fun (_ : Unit) W => Ax x a' W))
    (hassign : ∀ (l : Nat) (pre : List Int) (x : Int) (W : World) (K : Act → World → Prop), I pre W → (∀ a' W', KeepsFrom w.heap.size W W' → I pre W' → Ax x a' W' → K a' W') →
      assign.wpIn (Fence.wide.inRound l) (n - 1 - 1) P (Exit.then K (fun _ _ _ => False)) { tmps := ((#[p] : Array Tmp).zip #[Value.int .i64 x]).foldl (fun t (p, v) => t.setIfInBounds p v) a.tmps, defers := [] } W)
    (hbody : ∀ (l : Nat) (pre : List Int) (x : Int) (rest : List Int) (a' : Act) (W : World), w.heap.size ≤ l → (∃ r, W.heap[l]? = some (.loop r)) → xs = pre ++ x :: rest → I pre W → Ax x a' W →
      body.wpIn (Fence.wide.inRound l) (n - 1 - 1) P (ownPostG w.heap.size (fun _ _ => True) I (fun _ _ _ => False) (pre ++ [x]) W) a' W)
    (hdone : ∀ (W : World), I xs W → Q .normal a W) :
    (Code.rangeFunc g #[p] assign body).wpIn (Fence.wide.inRound l₀) n P Q a w := by
  refine wpIn_rangeFunc ?_
  intro fn _
  obtain ⟨rec, hrec⟩ : ∃ rec : LoopState → Loop, rec = fun st => { state := st, pending := none, fn, tmps := a.tmps, params := #[p], assign, body, defers := r₀.defers } := ⟨_, rfl⟩
  obtain ⟨W1, hW1⟩ : ∃ W1, W1 = w.alloc (.loop (rec .ready)) := ⟨_, rfl⟩
  have hL1 : W1.heap[w.heap.size]? = some (.loop (rec .ready)) := by rw [hW1]; exact World.alloc_heap_new w _
  have hI1 : I [] W1 := by rw [hW1]; exact hI.alloc _ h0
  refine ⟨w.heap.size, [], W1, { target := .fn (.func gf) #[], args := #[sv, .func (.yield (w.heap.size)) #[] #[]] }, W1, gf,
    #[sv, .func (.yield (w.heap.size)) #[] #[]], W1, ?_, ?_, fun _ _ => trivial, ?_, (fun h => by cases h), ?_⟩
  · rw [hW1, hrec]; exact run_enterLoop_inner hl₀ fn a.tmps #[p] assign body
  · simp only [resolve, hg]
    simp [go_sem]
  · simp [invoke, go_sem, eg]
  · refine (CallsIn.inRound l₀ (hit (w.heap.size) (fun pre W => I pre W ∧ W.heap[w.heap.size]? = some (.loop (rec .ready))) W1
      (fun pre W h => hT pre W h.1) ?_ ⟨hI1, hL1⟩)).mono ?_
    · rintro pre x rest W hsp ⟨hi, hl⟩
      have hy := run_yield (P := P) (args := #[.int .i64 x]) hl (by rw [hrec]; rfl)
      rw [hrec] at hy
      refine ⟨fn, _, assign, body, hy, roundIn_of_wpIn trivial (hassign _ pre x W _ hi ?_)⟩
      clear hy
      intro a' Wa hkfa hia hax
      replace hl := hkfa.same _ _ (by omega) hl rfl
      replace hi := hia
      clear hia hkfa
      have hlt := (Array.getElem?_eq_some_iff.1 hl).1
      have hbg := run_beginRound (P := P) hl (by rw [hrec])
      obtain ⟨busy, hbusy⟩ : ∃ busy : Loop, busy = { rec .ready with state := .busy } := ⟨_, rfl⟩
      rw [← hbusy] at hbg
      have hl2 : (Wa.putObj (w.heap.size) (.loop busy)).heap[w.heap.size]? = some (.loop busy) := World.putObj_heap_same hlt
      refine ⟨_, hbg, ?_⟩
      refine wpIn_mono (hbody (w.heap.size) pre x rest a' _ (by omega) ⟨_, hl2⟩ hsp (hI.putObj _ hi (by omega) hl rfl) ((hAx x a').putObj (s := ()) _ hax (by omega) hl rfl)) ?_
      intro e a3 W3 hp
      cases e with
      | normal =>
        obtain ⟨hk3, _, hi3⟩ := hp
        have hl3 := hk3.same _ _ (by omega) hl2 rfl
        have hend := run_endRound (P := P) none hl3
        have hre : ({ busy with state := if (none : Option Code).isNone then .ready else .done, pending := none } : Loop) = rec .ready := by rw [hbusy, hrec]; rfl
        rw [hre] at hend
        exact ⟨_, _, hend, rfl, hI.putObj _ hi3 (by omega) hl3 rfl, World.putObj_heap_same (Array.getElem?_eq_some_iff.1 hl3).1⟩
      | ret => exact hp.2.elim
      | exit id => exact hp.2.elim
      | goto t => exact hp.2.elim
      | panic ch => exact hp.elim
      | outgrown => exact hp.elim
    · rintro e W2 ⟨⟨v, rfl⟩, hi, hl⟩
      have hend := run_endLoop (P := P) hl (by rw [hrec]; simp)
      exact ⟨none, _, by rw [hrec] at hend; exact hend, hdone _ (hI.putObj _ hi (by omega) hl rfl)⟩
theorem wpIn_handsLB {P : Program} {n : Nat} {g : Operand} {p q : Tmp} {assign body : Code} {Q : Exit → Act → World → Prop} {a : Act} {w : World} {gf : Nat} {sv : Value}
    (hg : a.eval g = .func (.func gf) #[sv] #[]) (eg : ∀ args w, (callFunc gf args).run P w = .ok (.enter gf args) w)
    {xs : List Int} {T : World → Prop} (hit : Hands P (n - 1) gf sv xs T)
    (I : List Int → World → Prop) (hT : ∀ pre w, I pre w → T w) (hI : OwnFrom w.heap.size I) (h0 : I [] w)
    (hassign : ∀ (l : Nat) (pre : List Int) (x : Int) (W : World) (K : Act → World → Prop), I pre W → (∀ bx W', KeepsFrom w.heap.size W W' → I pre W' → w.heap.size ≤ bx → W'.heap[bx]? = some (.cells #[.int .i64 x] 3 (0, 0)) → K { tmps := (a.tmps.setIfInBounds p (.int .i64 x)).setIfInBounds q (.pointer (some ⟨bx, 0, none⟩)), defers := [] } W') →
      assign.wpIn (Fence.wide.inRound l) (n - 1 - 1) P (Exit.then K (fun _ _ _ => False)) { tmps := ((#[p] : Array Tmp).zip #[Value.int .i64 x]).foldl (fun t (p, v) => t.setIfInBounds p v) a.tmps, defers := [] } W)
    (hbody : ∀ (l : Nat) (pre : List Int) (x : Int) (rest : List Int) (bx : Nat) (W : World), w.heap.size ≤ l → (∃ r, W.heap[l]? = some (.loop r)) → xs = pre ++ x :: rest → I pre W → w.heap.size ≤ bx → W.heap[bx]? = some (.cells #[.int .i64 x] 3 (0, 0)) →
      body.wpIn (Fence.wide.inRound l) (n - 1 - 1) P (ownPostG w.heap.size (fun _ _ => True) I (fun _ _ _ => False) (pre ++ [x]) W) { tmps := (a.tmps.setIfInBounds p (.int .i64 x)).setIfInBounds q (.pointer (some ⟨bx, 0, none⟩)), defers := [] } W)
    (hdone : ∀ (D : Nat) (W : World), w.heap.size ≤ D → I xs W → W.heap[D]? = some (.deferred (some [])) → Q .normal { a with defers := { target := .collected D, args := #[] } :: a.defers } W) :
    (Code.rangeFunc g #[p] assign body).wpIn Fence.wide n P Q a w := by
  refine wpIn_handsL hg eg hit I hT hI h0 (fun x a' W => ∃ bx, a' = { tmps := (a.tmps.setIfInBounds p (.int .i64 x)).setIfInBounds q (.pointer (some ⟨bx, 0, none⟩)), defers := [] } ∧ w.heap.size ≤ bx ∧ W.heap[bx]? = some (.cells #[.int .i64 x] 3 (0, 0))) ?_
    (fun l pre x W K hi hK => hassign l pre x W K hi (fun bx W' h1 h2 h3 h4 => hK _ _ h1 h2 ⟨bx, rfl, h3, h4⟩)) ?_ hdone
  · rintro x a' _ W W' row ⟨bx, e, h1, h2⟩ hgr hr
    refine ⟨bx, e, h1, (hgr.block bx (Array.getElem?_eq_some_iff.1 h2).1 (fun e2 => ?_)).trans h2⟩
    obtain ⟨_, o, ho, hc⟩ := hr bx e2.symm
    rw [h2] at ho; cases ho; cases hc
  · rintro l pre x rest a' W h1 h2 h3 h4 ⟨bx, rfl, h5, h6⟩
    exact hbody l pre x rest bx W h1 h2 h3 h4 h5 h6
theorem wpIn_handsNQ {P : Program} {n : Nat} {g : Operand} {p q : Tmp} {assign body : Code} {Q : Exit → Act → World → Prop} {a : Act} {w : World} {gf : Nat} {sv : Value} {l₀ : Nat} {r₀ : Loop} (hl₀ : w.heap[l₀]? = some (.loop r₀))
    (hg : a.eval g = .func (.func gf) #[sv] #[]) (eg : ∀ args w, (callFunc gf args).run P w = .ok (.enter gf args) w)
    {xs : List Int} {T : World → Prop} (hit : Hands P (n - 1) gf sv xs T)
    (I : List Int → World → Prop) (hT : ∀ pre w, I pre w → T w) (hI : OwnFrom w.heap.size I) (h0 : I [] w)
    (hassign : ∀ (l : Nat) (x : Int) (W : World) (K : Act → World → Prop), K { tmps := (a.tmps.setIfInBounds p (.int .i64 x)).setIfInBounds q (.int .i64 x), defers := [] } W →
      assign.wpIn (Fence.wide.inRound l) (n - 1 - 1) P (Exit.then K (fun _ _ _ => False)) { tmps := ((#[p] : Array Tmp).zip #[Value.int .i64 x]).foldl (fun t (p, v) => t.setIfInBounds p v) a.tmps, defers := [] } W)
    (hbody : ∀ (l : Nat) (pre : List Int) (x : Int) (rest : List Int) (W : World), w.heap.size ≤ l → xs = pre ++ x :: rest → I pre W →
      body.wpIn (Fence.wide.inRound l) (n - 1 - 1) P (ownPostG w.heap.size (fun _ _ => True) I (fun _ _ _ => False) (pre ++ [x]) W) { tmps := (a.tmps.setIfInBounds p (.int .i64 x)).setIfInBounds q (.int .i64 x), defers := [] } W)
    (hdone : ∀ (W : World), I xs W → Q .normal a W) :
    (Code.rangeFunc g #[p] assign body).wpIn (Fence.wide.inRound l₀) n P Q a w :=
  wpIn_handsN hl₀ hg eg hit I hT hI h0 (fun x a' _ => a' = { tmps := (a.tmps.setIfInBounds p (.int .i64 x)).setIfInBounds q (.int .i64 x), defers := [] }) (fun _ _ _ _ _ _ h _ _ => h)
    (fun l _ x W K hi hK => hassign l x W K (hK _ _ (KeepsFrom.refl _ _) hi rfl)) (fun l pre x rest a' W h1 _ h3 h4 h5 => by subst h5; exact hbody l pre x rest W h1 h3 h4) hdone


end Go.Proofs.YtnnonmpgkkpocaaGreatDoor

namespace Go.Proofs.YtnnonmpgkkpocaaGreatDoor
open Go.RowKit Go.Shelf
attribute [local go_sem] Oper.semAt_some

def forcedB (W H : Int) (xs : List Int) (a b c : Int) : Bool := decide ((leapsL W H xs a b c).length = 2)

set_option maxRecDepth 100000 in
set_option maxHeartbeats 1000000 in
theorem isForced_any (W H : Int) (xs : List Int) (a b x : Int) (w : World) (hg : goodB W H xs = true) (hx : x ∈ cellsL W H xs) :
    Calls Tryz.prog 56 #[.agg (words (gl W H xs a b (cellsL W H xs))).toArray, .int .i64 x] w fun e w' => e = .returned (.bool (forcedB W H xs a b x)) ∧ Below w.heap.size w w' := by
  have hcl : ∀ y ∈ cellsL W H xs, 0 ≤ y ∧ y < 64 := fun y hy => by
    have h1 := (hasB_iff.1 (cellsL_mem.1 hy)).1
    obtain ⟨hW, hH, _, _⟩ := goodB_iff.1 hg
    have := cells_le hW hH
    omega
  have h0x : 0 ≤ x := (hcl x hx).1
  have h1x : x < 64 := (hcl x hx).2
  have hlb : ∀ y ∈ leapsL W H xs a b x, 0 ≤ y ∧ y < 64 := fun y hy => hcl y (List.mem_filter.1 hy).1
  have hpop := leaps_pop hlb
  refine (callsIn_wide (n := 5)).1 ?_
  refine callsIn_of_wp_marks Tryz.func56 rfl trivial ?_ rfl
  simp only [Tryz.ntmps56, List.size_toArray, List.length_cons, List.length_nil, Nat.reduceAdd, Nat.reduceSub, Array.replicate_succ, Array.replicate_zero, List.push_toArray, List.append_toArray, List.nil_append, List.cons_append]
  have hget : (words (gl W H xs a b (cellsL W H xs)))[1 + x.toNat]? = some (.int .u64 ((nearS W H xs a b x : Nat) : Int)) := by
    have := gl_get (W := W) (H := H) (a := a) (b := b) (xs := xs) h0x h1x hx
    rwa [List.getElem?_toArray] at this
  have hS := size_any (nearS W H xs a b x) (set_lt hlb) (w.alloc (.cells (words (gl W H xs a b (cellsL W H xs))).toArray 62))
  rw [hpop] at hS
  clear hcl hpop hlb
  gi_wp2
  refine ⟨trivial, (callsIn_wide.2 hS).mono ?_⟩
  rintro e w2 ⟨rfl, hb⟩
  gi_wp2
  refine ⟨_, results_tmp rfl _ _ _, ?_, below_box hb⟩
  show Ending.returned (.bool (decide (((leapsL W H xs a b x).length : Int) = 2))) = _
  rw [forcedB, show decide (((leapsL W H xs a b x).length : Int) = 2) = decide ((leapsL W H xs a b x).length = 2) from decide_eq_decide.2 (by omega)]

/-- The leaps that the cells of pre (all of them) and of a last one's first neighbours pre2 give. -/
def pickB (W H : Int) (xs : List Int) (a b c d : Int) : Bool := decide (c < d) && (forcedB W H xs a b c || forcedB W H xs a b d)
def rowF (W H : Int) (xs : List Int) (a b c : Int) (ds : List Int) : List (List Int) := (ds.filter (pickB W H xs a b c)).map fun d => [c, d]
def forcedL (W H : Int) (xs : List Int) (a b : Int) (cs : List Int) : List (List Int) := cs.flatMap fun c => rowF W H xs a b c (leapsL W H xs a b c)
def forcedV (W H : Int) (xs : List Int) (a b : Int) : List (List Int) := if twoV W H xs a b then forcedL W H xs a b (cellsL W H xs) else []

end Go.Proofs.YtnnonmpgkkpocaaGreatDoor

namespace Go.Proofs.YtnnonmpgkkpocaaGreatDoor
open Go.RowKit

section
variable {α : Type} {enc : α → List Value} {k : Nat} {E : TypeId} {w w' : World} {lo : Nat} {A : Option Addr} {n c : Nat} {xs : List α}
theorem wpListIn_appK {P : Program} {F : Fence} {nF : Nat} {w : World} {ops : Array Oper} {rest : List Oper} {o : Oper} {a : Act} {Q : Exit → Act → World → Prop} (hgd : o.guard = none) (s x : Operand) (T : TypeId)
    (ho : o.op = .call { callee := .builtin .append, args := #[s, x], argTypes := #[T, T] }) (i0 : TypeInfo) (z : Value) (bytes : Nat)
    (hT : P.underlying T = some (.slice E)) (hi : P.info? E = some i0) (hz0 : i0.zero = some z) (hz1 : i0.size = k) (hz2 : i0.bytes = bytes) (hzs : z.cells.size = k) (hk0 : 0 < k) (hby : bytes ≤ 64)
    (hk : ∀ x, (enc x).length = k) (h1 : ∀ x, ∀ u ∈ enc x, u.oneCell' = true)
    (ys : List α) (ad : Addr) (m cy : Nat) (hs : a.eval s = .slice A n c) (hown : OwnK enc k E w lo A n c xs) (hx : a.eval x = .slice (some ad) m cy) (hm : ys.length = m)
    (hy : ∀ j u, (ys.flatMap enc)[j]? = some u → w.cell? (ad.add j) = some u)
    (hn : n + m ≤ 1000000) (hlo : lo ≤ w.heap.size)
    (h : ∀ A' c' w', OwnK enc k E w' lo A' (n + m) c' (xs ++ ys) → w.grownBy w' (match A with | some b => some b.block | none => none) → Below lo w w' → wpListIn F nF P ops Q rest (a.put o.dst (.slice A' (n + m) c')) w') :
    wpListIn F nF P ops Q (o :: rest) a w := by
  refine wpListIn_append_own w hgd s x T ho lo E i0 z k bytes hT hi hz0 hz1 hz2 hzs hk0 (.slice A n c) n (xs.flatMap enc) hs hown.2 ad m cy (ys.flatMap enc) hx (by rw [flat_len hk, hm]) hy ?_ (by unfold maxLen; omega) ?_ hlo ?_
  · intro u hu
    obtain ⟨y, _, hu⟩ := List.mem_flatMap.1 hu
    exact h1 y u hu
  · have := Nat.mul_le_mul hn hby; omega
  · intro v' w' hown' hgrow _
    rw [← List.flatMap_append] at hown'
    obtain ⟨A', c', rfl, hO⟩ := OwnK.of_row (by rw [List.length_append, hown.1, hm]) hown'
    refine h A' c' w' hO ?_ ((Below.refl _ _).grown hgrow hlo (fun k hk => (World.ownsRow.lt hown.2 k hk).1))
    rcases A with _ | b
    · exact hgrow
    · exact hgrow
end
theorem wpListIn_appS {ops : Array Oper} {rest : List Oper} {o : Oper} {a : Act} {Q : Exit → Act → World → Prop} {w : World} {F : Fence} {nF : Nat} (hgd : o.guard = none) (s x : Operand)
    (ho : o.op = .call { callee := .builtin .append, args := #[s, x], argTypes := #[44, 44] }) (lo top : Nat) (A : Option Addr) (n c : Nat) (ps : List (List Int)) (A3 : Option Addr) (n3 c3 : Nat) (p : List Int)
    (hs : a.eval s = .slice A n c) (hown : PartsAt w lo top A n c ps) (hp : OwnI 3 w lo A3 n3 c3 p) (hpn : ∀ y, A3 = some y → top ≤ y.block) (htop : top ≤ w.heap.size)
    (hx : a.eval x = .slice (some ⟨w.heap.size, 0, none⟩) 1 1)
    (hn : n ≤ 100000) (hlo : lo ≤ w.heap.size)
    (h : ∀ A' c' w', PartsAt w' lo w.heap.size A' (n + 1) c' (ps ++ [p]) → Below lo w w' → (∀ (gb lo' m k : Nat) (bs : List Bool), OwnB 4 w lo' (some ⟨gb, 0, none⟩) m k bs → OwnB 4 w' lo' (some ⟨gb, 0, none⟩) m k bs) →
      (∀ (P : Program) (kt : TypeId) (mb m : Nat) (z : Value) (f : Int → Value), MapI P kt w mb m z f → MapI P kt w' mb m z f) → (∀ (lo' : Nat) (a' : Addr) (m k : Nat) (q : List Int), OwnI 3 w lo' (some a') m k q → OwnI 3 w' lo' (some a') m k q) → w.grownBy w' (rowOf A) →
      wpListIn F nF Tryz.prog ops Q rest (a.put o.dst (.slice A' (n + 1) c')) w') :
    wpListIn F nF Tryz.prog ops Q (o :: rest) a (w.alloc (.cells #[.slice A3 n3 c3] 22)) := by
  obtain ⟨vs, h1, h2, h3, h4, h5⟩ := hown
  have hal : Below w.heap.size w (w.alloc (.cells #[.slice A3 n3 c3] 22)) := below_new (Below.refl _ _) _
  have hz : (Tryz.prog.info? 22).map (fun i => (i.zero, i.size, i.bytes)) = some (some (.slice none 0 0), 1, 24) := by kernel_rfl
  obtain ⟨i0, hi, hz0, hz1, hz2⟩ := info_parts hz
  refine wpListIn_appK (enc := encS) (k := 1) (E := 22) hgd s x 44 ho i0 (.slice none 0 0) 24 Tryz.underlying44 hi hz0 hz1 hz2 rfl (by decide) (by decide) (fun _ => rfl) (fun v u hu => ?_) [(A3, n3, c3)] ⟨w.heap.size, 0, none⟩ 1 1 hs (h1.keep hal) hx rfl (fun j u hj => ?_) (by omega) (by simp; omega) ?_
  · simp [encS] at hu; subst hu; rfl
  · match j, hj with
    | 0, hj =>
      simp [encS] at hj; subst hj
      exact cell_of_row (w.alloc (.cells #[.slice A3 n3 c3] 22)) w.heap.size 0 #[.slice A3 n3 c3] 22 (0, 0) (heap_alloc_new w _)
    | j + 1, hj => simp [encS] at hj
  · intro A' c' w' hK hgr hbl
    have hgw : w.grownBy w' (rowOf A) := grown_next (grown_of_below hal _) (by rcases A with _ | b <;> exact hgr)
    have keepI : ∀ (lo' : Nat) (a' : Addr) (m k : Nat) (q : List Int), OwnI 3 w lo' (some a') m k q → OwnI 3 w' lo' (some a') m k q := fun lo' a' m k q hq => hq.other hgw (fun a ha => by
      injection ha with ha
      subst ha
      rcases A with _ | b
      · simp [rowOf]
      · have := rows_apart (by decide : 3 ≠ 22) hq h1.2
        simpa [rowOf] using this)
    have keepN : ∀ (lo' : Nat) (v : Option Addr) (m k : Nat) (q : List Int), OwnI 3 w lo' v m k q → OwnI 3 w' lo' v m k q := fun lo' v m k q hq => by
      rcases v with _ | v
      · exact hq.other hgw (fun a ha => by cases ha)
      · exact keepI lo' v m k q hq
    refine h A' c' w' ⟨vs ++ [(A3, n3, c3)], hK, by rw [List.length_append, h2]; rfl, fun i v q hv hq => ?_, fun i j v u hij hv hu y z hy hz => ?_, fun i v hv y hy => ?_⟩ ((Below.refl _ _).alloc hlo _ |>.trans hbl) (fun gb lo' m k bs hB => hB.other hgw (fun a ha => ?_)) (fun P kt mb m z f hM => hM.other hgw ?_) keepI hgw
    · have hvl : vs.length = n := h1.len
      by_cases e : i < n
      · rw [List.getElem?_append_left (by omega)] at hv
        rw [List.getElem?_append_left (by omega)] at hq
        exact keepN _ _ _ _ _ (h3 i v q hv hq)
      · rw [List.getElem?_append_right (by omega)] at hv
        rw [List.getElem?_append_right (by omega)] at hq
        have e0 : i - n = 0 := by
          rcases Nat.eq_zero_or_pos (i - n) with h | h
          · exact h
          · rw [hvl, List.getElem?_eq_none (by simp; omega)] at hv; cases hv
        rw [hvl, e0] at hv
        rw [h2, e0] at hq
        simp at hv hq
        subst hv; subst hq
        exact keepN _ _ _ _ _ hp
    · have hvl : vs.length = n := h1.len
      have hj : j < (vs ++ [(A3, n3, c3)]).length := (List.getElem?_eq_some_iff.1 hu).1
      rw [List.length_append, hvl] at hj
      simp only [List.length_cons, List.length_nil] at hj
      rw [List.getElem?_append_left (by omega)] at hv
      by_cases e : j < n
      · rw [List.getElem?_append_left (by omega)] at hu
        exact h4 i j v u hij hv hu y z hy hz
      · rw [List.getElem?_append_right (by omega), hvl, show j - n = 0 by omega] at hu
        simp at hu; subst hu
        have := h5 i v hv y hy
        have := hpn z hz
        omega
    · have hvl : vs.length = n := h1.len
      by_cases e : i < n
      · rw [List.getElem?_append_left (by omega)] at hv
        have := h5 i v hv y hy
        omega
      · have hj : i < (vs ++ [(A3, n3, c3)]).length := (List.getElem?_eq_some_iff.1 hv).1
        rw [List.length_append, hvl] at hj
        simp only [List.length_cons, List.length_nil] at hj
        rw [List.getElem?_append_right (by omega), hvl, show i - n = 0 by omega] at hv
        simp at hv; subst hv
        rcases hp.form with ⟨h, _⟩ | ⟨g, h, _, h2, _⟩
        · rw [h] at hy; cases hy
        · rw [h] at hy; injection hy with hy; rw [← hy]; exact h2
    · injection ha with ha
      subst ha
      rcases A with _ | b
      · simp [rowOf]
      · have := rows_apart (by decide : 4 ≠ 22) hB h1.2
        simpa [rowOf] using this
    · rcases A with _ | b
      · simp [rowOf]
      · have := map_apart h1.2 hM
        intro e; injection e with e; exact this e.symm

end Go.Proofs.YtnnonmpgkkpocaaGreatDoor

namespace Go.Proofs.YtnnonmpgkkpocaaGreatDoor
open Go.RowKit Go.Shelf
attribute [local go_sem] Oper.semAt_some

theorem undef_bool {b : Bool} {R : Prop} (h : some undef = some (Value.bool b)) : R := by simp [undef] at h
/-- The answer's rows so far. -/
def RowsG (w Wb : World) (gb q : Nat) (C : Array Value) (ps : List (List Int)) (W' : World) : Prop :=
  Below w.heap.size w W' ∧ Wb.heap.size ≤ W'.heap.size ∧ W'.heap[gb]? = some (.cells C 62 (0, 0)) ∧
    ∃ top A n c, top ≤ W'.heap.size ∧ W'.heap[q]? = some (.cells #[.slice A n c] 44 (0, 0)) ∧ PartsAt W' Wb.heap.size top A n c ps
theorem rowsG_turn {w Wb W1 W2 : World} {gb q : Nat} {C : Array Value} {ps : List (List Int)} {row : Option Nat} (hg : gb < Wb.heap.size) (hq : q < Wb.heap.size) (hw : w.heap.size ≤ Wb.heap.size) (h : RowsG w Wb gb q C ps W1)
    (hgr : W1.grownBy W2 row) (hr : ∀ r, row = some r → Wb.heap.size ≤ r ∧ ∃ o : Obj, W1.heap[r]? = some o ∧ o.isCells = false) : RowsG w Wb gb q C ps W2 := by
  obtain ⟨hb, hs, hc, top, A, n, c, ht, hqq, ho⟩ := h
  have hne : ∀ k, k < Wb.heap.size → some k ≠ row := fun k hk e => by have := (hr k e.symm).1; omega
  have hcl : ∀ (k : Nat) cur E, W1.heap[k]? = some (.cells cur E (0, 0)) → some k ≠ row := fun k cur E hk e => by
    obtain ⟨_, o, h1, h2⟩ := hr k e.symm
    rw [hk] at h1; cases h1; cases h2
  refine ⟨hb.grown hgr (Nat.le_trans hw hs) (fun k e => Nat.le_trans hw (hr k e).1), Nat.le_trans hs hgr.size, (hgr.block gb (by omega) (hne _ hg)).trans hc, top, A, n, c, Nat.le_trans ht hgr.size, (hgr.block q (by omega) (hne _ hq)).trans hqq, ho.other hgr (fun ad e => ?_) (fun ad m k p hp => ?_)⟩
  · obtain ⟨vs, h1, _⟩ := ho
    subst e
    obtain ⟨cur, hcur⟩ := row_block h1.2
    exact hcl _ _ _ hcur
  · obtain ⟨cur, hcur⟩ := row_block hp
    exact hcl _ _ _ hcur
theorem wpListIn_load_w {F : Fence} {n : Nat} {P : Program} {ops : Array Oper} {rest : List Oper} {op : Oper} {a : Act} {w : World} {Q : Exit → Act → World → Prop} (ty : TypeId) (x : Operand) (p v : Value) (ho : op.op = .load ty x)
    (hx : a.eval x = p) (hw : Region.wanted op (yielded ops a.tmps) = true) (hr : (Instr.loadAt ty p).run P w = .ok v w) (h : wpListIn F n P ops Q rest (a.put op.dst v) w) : wpListIn F n P ops Q (op :: rest) a w :=
  wpListIn_step fun K hK => by rw [if_pos hw]; exact wpIn_load_run ty x p v ho hx hr (hK _ _ h)

theorem rowF_snoc (W H : Int) (xs : List Int) (a b c : Int) (ds : List Int) (d : Int) : rowF W H xs a b c (ds ++ [d]) = rowF W H xs a b c ds ++ (if pickB W H xs a b c d then [[c, d]] else []) := by
  rw [rowF, rowF, List.filter_append, List.map_append, List.filter_cons, List.filter_nil]
  cases pickB W H xs a b c d <;> rfl
theorem rowF_len (W H : Int) (xs : List Int) (a b c : Int) (ds : List Int) : (rowF W H xs a b c ds).length ≤ ds.length := by
  rw [rowF, List.length_map]; exact List.length_filter_le _ _
theorem forcedL_len (W H : Int) (xs : List Int) (a b : Int) (hN : 1 ≤ W * H ∧ W * H ≤ 64) : ∀ cs : List Int, (forcedL W H xs a b cs).length ≤ 64 * cs.length
  | [] => by simp [forcedL]
  | c :: t => by
    have ih := forcedL_len W H xs a b hN t
    have h1 := rowF_len W H xs a b c (leapsL W H xs a b c)
    have h2 := leapsL_len64 (W := W) (H := H) (xs := xs) (a := a) (b := b) (q := c) hN
    rw [forcedL, List.flatMap_cons, List.length_append, List.length_cons]
    rw [forcedL] at ih
    omega
/-- A row of two numbers in a new block. -/
theorem own_two (w : World) (lo : Nat) (x y : Int) (h : lo ≤ w.heap.size) : OwnI 3 (w.alloc (.cells #[.int .i64 x, .int .i64 y] 3)) lo (some ⟨w.heap.size, 0, none⟩) 2 2 [x, y] :=
  ⟨rfl, .inr ⟨w.heap.size, 2, #[.int .i64 x, .int .i64 y], rfl, h, World.alloc_heap_new _ _, Nat.le_refl _, by decide, rfl, rfl⟩⟩
theorem parts_keeps {w w' : World} {lo top n c B : Nat} {A : Option Addr} {ps : List (List Int)} (h : PartsAt w lo top A n c ps) (hg : w.grownBy w' (rowOf A)) : KeepsFrom B w w' := by
  refine ⟨hg.size, fun k o _ ho hc => (hg.block k (Array.getElem?_eq_some_iff.1 ho).1 (fun e => ?_)).trans ho⟩
  obtain ⟨vs, h1, _⟩ := h
  rcases A with _ | ad
  · simp [rowOf] at e
  · obtain ⟨cur, hcur⟩ := row_block h1.2
    have : k = ad.block := by simpa [rowOf] using e
    rw [this, hcur] at ho; cases ho; cases hc
theorem parts_ne {w : World} {lo top n c bx : Nat} {A : Option Addr} {ps : List (List Int)} {cs : Array Value} (h : PartsAt w lo top A n c ps) (hb : w.heap[bx]? = some (.cells cs 3 (0, 0))) : some bx ≠ rowOf A := by
  obtain ⟨vs, h1, _⟩ := h
  rcases A with _ | ad
  · simp [rowOf]
  · obtain ⟨cur, hcur⟩ := row_block h1.2
    intro e
    have : bx = ad.block := by simpa [rowOf] using e
    rw [this, hcur] at hb
    injection hb with hb
    injection hb with _ hb _
    exact absurd hb (by decide)
theorem parts_set {w : World} {lo top n c q : Nat} {A : Option Addr} {ps : List (List Int)} (h : PartsAt w lo top A n c ps) (hq : q < lo) (v : Value) : PartsAt (w.setCell ⟨q, 0, none⟩ v) lo top A n c ps := by
  refine h.other (grown_set w q 0 v) (fun ad e => ?_) (fun ad m k p hp => ?_)
  · obtain ⟨vs, h1, _⟩ := h
    subst e
    have := own_lo h1.2
    simp; omega
  · have := own_lo hp
    simp; omega

set_option maxRecDepth 100000 in
set_option maxHeartbeats 2000000 in
theorem forcedLeaps_any (W H : Int) (A : Option Addr) (n c : Nat) (xs : List Int) (a b : Int) (w : World) (ha : Rd w A n xs) (hT : Tab64 w) (hgb : 0 < w.heap.size) :
    Calls Tryz.prog 32 #[brd W H A n c, lpr a b] w fun e w' => ∃ A' n' c', e = .returned (.tuple #[.slice A' n' c', .bool (twoV W H xs a b)]) ∧ PartsAt w' w.heap.size w'.heap.size A' n' c' (forcedV W H xs a b) ∧ Below w.heap.size w w' := by
  refine (callsIn_wide (n := 9)).1 ?_
  refine callsIn_of_wp_marks Tryz.func32 rfl trivial ?_ rfl
  simp only [Tryz.ntmps32, List.size_toArray, List.length_cons, List.length_nil, Nat.reduceAdd, Nat.reduceSub, Array.replicate_succ, Array.replicate_zero, List.push_toArray, List.append_toArray, List.nil_append, List.cons_append]
  by_cases ht : twoV W H xs a b = true
  · have hg := two_gK ht
    have hl := two_lp ht
    have HT := Lib.hid hT; have HG := Lib.hid hg; have HLp := Lib.hid hl; have HTw := Lib.hid ht
    clear hT hg hl
    gi_wp2
    refine ⟨trivial, (callsIn_wide.2 (isOnE_any W H A n c xs a b _ ((ha.alloc _).alloc _))).mono ?_⟩
    rw [ht]
    clear ht
    rintro e wv ⟨rfl, hb⟩
    have hbx0 := below_box hb
    have a0 : wv.cell? ⟨w.heap.size, 0, none⟩ = some (.int .i64 W) := by simpa using newbox hbx0 0
    have a1 : wv.cell? ⟨w.heap.size, 1, none⟩ = some (.int .i64 H) := by simpa using newbox hbx0 1
    have a2 : wv.cell? ⟨w.heap.size, 2, none⟩ = some (.slice A n c) := by simpa using newbox hbx0 2
    have l0 : wv.cell? ⟨w.heap.size + 1, 0, none⟩ = some (.int .i64 a) := by simpa using newbox hb 0
    have l1 : wv.cell? ⟨w.heap.size + 1, 1, none⟩ = some (.int .i64 b) := by simpa using newbox hb 1
    have B := below_box hbx0
    clear hb hbx0
    have hG := groundOf_any W H A n c xs a b wv (ha.keep B) HG.out HLp.out (HT.out.keep hgb B) (Nat.lt_of_lt_of_le hgb B.size)
    gi_wp2
    refine ⟨trivial, (callsIn_wide.2 hG).mono ?_⟩
    rintro e w2 ⟨rfl, hB2⟩
    clear hG a0 a1 a2 l0 l1
    have hst : (Instr.storeAt 62 (.pointer (some ⟨w2.heap.size, 0, none⟩)) (.agg (words (gl W H xs a b (cellsL W H xs))).toArray)).run Tryz.prog (w2.alloc (.cells Tryz.zeroCells62 62)) = .ok () (w2.alloc (.cells (words (gl W H xs a b (cellsL W H xs))).toArray 62)) :=
      run_storeAt_new _ _ _ _ (by rw [info_ground]; simp [words, gl]) (by rw [zero_ground]; simp [words, gl]) (all_oneCell_toArray (words_one _))
    obtain ⟨Wa, hWa⟩ : ∃ Wa, Wa = w2.alloc (.cells (words (gl W H xs a b (cellsL W H xs))).toArray 62) := ⟨_, rfl⟩
    have hha : Wa.heap[w2.heap.size]? = some (.cells (words (gl W H xs a b (cellsL W H xs))).toArray 62 (0, 0)) := by rw [hWa]; exact World.alloc_heap_new _ _
    have hca : Wa.cell? ⟨w2.heap.size, 0, none⟩ = some (.int .u64 ((allS W H xs : Nat) : Int)) := by
      rw [cell_of_row _ _ 0 _ _ _ hha]; simp [words, gl, allS]
    have hsa : Wa.heap.size = w2.heap.size + 1 := by rw [hWa]; simp
    have hba : Below w.heap.size w Wa := by
      rw [hWa]; exact (B.trans (hB2.mono B.size)).alloc (Nat.le_trans B.size hB2.size) _
    rw [← hWa] at hst
    have hle : w.heap.size ≤ w2.heap.size := Nat.le_trans B.size hB2.size
    clear hWa hB2 B
    have HHA := Lib.hid hha
    clear hha
    gi_wp2_with (refine wpIn_store_run 62 _ _ _ _ rfl rfl rfl hst ?_)
    obtain ⟨hW9, hH9, _, _⟩ := goodB_iff.1 HG.out
    have HN := Lib.hid (cells_le hW9 hH9)
    clear hW9 hH9
    have hcl : ∀ x ∈ cellsL W H xs, 0 ≤ x ∧ x < 64 := fun x hx => by
      have h1 := (hasB_iff.1 (cellsL_mem.1 hx)).1
      obtain ⟨hW, hH, _, _⟩ := goodB_iff.1 HG.out
      have := cells_le hW hH
      omega
    have hlt : allS W H xs < 18446744073709551616 := set_lt hcl
    have hit := each_hands (9 - 1) _ hlt
    rw [show bitsL (allS W H xs) = cellsL W H xs from set_bits (cellsL_rise W H xs) hcl] at hit
    obtain ⟨Wb, hWb⟩ : ∃ Wb, Wb = Wa.alloc (.cells #[.slice none 0 0] 44) := ⟨_, rfl⟩
    have hsb : Wb.heap.size = w2.heap.size + 2 := by rw [hWb]; simp; omega
    have hbb : Below w.heap.size w Wb := by rw [hWb]; exact hba.alloc (by omega) _
    have hgb2 : Wb.heap[w2.heap.size]? = some (.cells (words (gl W H xs a b (cellsL W H xs))).toArray 62 (0, 0)) := by rw [hWb, Below.heap_alloc _ _ _ (by omega)]; exact HHA.out
    have hqb : Wb.heap[w2.heap.size + 1]? = some (.cells #[.slice none 0 0] 44 (0, 0)) := by rw [hWb, ← hsa]; exact World.alloc_heap_new _ _
    rw [← hWb]
    clear hWb hst hca
    have h0 : RowsG w Wb w2.heap.size (w2.heap.size + 1) (words (gl W H xs a b (cellsL W H xs))).toArray (forcedL W H xs a b []) Wb := ⟨hbb, Nat.le_refl _, hgb2, 0, none, 0, 0, Nat.zero_le _, hqb, PartsAt.none_ _ _ _⟩
    refine wpIn_handsLB (q := 8) rfl (fun args w => by simp [go_sem]) hit (fun pre => RowsG w Wb w2.heap.size (w2.heap.size + 1) (words (gl W H xs a b (cellsL W H xs))).toArray (forcedL W H xs a b pre)) (fun pre w' h => HT.out.keep hgb h.1)
      (fun s W1 W2 row h hgr hr => rowsG_turn (by omega) (by omega) (by omega) h hgr hr) h0 ?_ ?_ ?_
    · intro l pre x W' K hI hK
      have HK := Lib.hid hK
      clear hK
      gi_wp2
      refine HK.out W'.heap.size _ ?_ ?_ hI.2.1 (World.alloc_heap_new _ _)
      · exact KeepsFrom.of_grownBy (World.grownBy_alloc W' _ none) (fun j e => by cases e)
      · exact rowsG_turn (by omega) (by omega) (by omega) hI (World.grownBy_alloc W' _ none) (fun r e => by cases e)
    · rintro l pre x rest bx W' hl ⟨r₀, hlr⟩ hsp hI hbx hbc
      have hx : x ∈ cellsL W H xs := by rw [hsp]; simp
      have h0x : 0 ≤ x := (hcl x hx).1
      have h1x : x < 64 := (hcl x hx).2
      have hcell : W'.cell? ⟨w2.heap.size, 1 + x.toNat, none⟩ = some (.int .u64 ((nearS W H xs a b x : Nat) : Int)) := by rw [cell_of_row _ _ _ _ _ _ hI.2.2.1, gl_get h0x h1x hx]
      have hbxc : W'.cell? ⟨bx, 0, none⟩ = some (.int .i64 x) := by rw [cell_of_row _ _ _ _ _ _ hbc]; rfl
      have hlb : ∀ y ∈ leapsL W H xs a b x, 0 ≤ y ∧ y < 64 := fun y hy => hcl y (List.mem_filter.1 hy).1
      have hit2 := each_hands (9 - 1 - 1 - 1) (nearS W H xs a b x) (set_lt hlb)
      rw [show bitsL (nearS W H xs a b x) = leapsL W H xs a b x from set_bits ((cellsL_rise W H xs).filter _) hlb] at hit2
      have hsW := hI.2.1
      have HI0 := Lib.hid hI; have HSP := Lib.hid hsp; have HBC := Lib.hid hbc; have HLR := Lib.hid hlr
      clear hI hsp hbc hit h0 hgb2 hqb hba hbb hlr
      gi_wp2
      refine wpIn_handsNQ (q := 9) HLR.out rfl (fun args w => by simp [go_sem]) hit2 (fun pre2 V => RowsG w Wb w2.heap.size (w2.heap.size + 1) (words (gl W H xs a b (cellsL W H xs))).toArray (forcedL W H xs a b pre ++ rowF W H xs a b x pre2) V ∧ V.heap[bx]? = some (.cells #[.int .i64 x] 3 (0, 0)) ∧ KeepsFrom Wb.heap.size W' V)
        (fun pre w' h => HT.out.keep hgb h.1.1) (fun s W1 W2 row h hgr hr => ⟨rowsG_turn (by omega) (by omega) (by omega) h.1 hgr (fun r e => ⟨Nat.le_trans hsW (hr r e).1, (hr r e).2⟩), (hgr.block bx (Array.getElem?_eq_some_iff.1 h.2.1).1 (fun e2 => by
          obtain ⟨_, o, ho, hc⟩ := hr bx e2.symm
          have := h.2.1; rw [this] at ho; cases ho; cases hc)).trans h.2.1, ownFrom_keepsFrom (β := Unit) (B := Wb.heap.size) (w₀ := W') (Nat.le_refl _) () W1 W2 row h.2.2 hgr hr⟩) ⟨by simpa [rowF] using HI0.out, HBC.out, KeepsFrom.refl _ _⟩ ?_ ?_ ?_
      · intro l x W' K hK
        gi_wp2
        exact hK
      · rintro l2 pre2 d rest2 W5 hl2 hsp2 ⟨hI5, hb5, hk5⟩
        have hd0 : d ∈ leapsL W H xs a b x := by rw [hsp2]; simp
        have hdc : d ∈ cellsL W H xs := (List.mem_filter.1 hd0).1
        have hb5c : W5.cell? ⟨bx, 0, none⟩ = some (.int .i64 x) := by rw [cell_of_row _ _ _ _ _ _ hb5]; rfl
        have hld := run_loadAt_mid (P := Tryz.prog) W5 w2.heap.size 0 62 (words (gl W H xs a b (cellsL W H xs))) (.struct _) (fun j v hv => by rw [Nat.zero_add, cell_of_row _ _ _ _ _ _ hI5.2.2.1]; simpa using hv) rfl rfl (by rw [info_ground]; simp [words, gl])
        have hF1 := isForced_any W H xs a b x W5 HG.out hx
        have HI5 := Lib.hid hI5; have HB5 := Lib.hid hb5; have HK5 := Lib.hid hk5; have HS2 := Lib.hid hsp2
        clear hI5 hb5 hk5 hsp2 hit2 hcell hbxc
        by_cases hlt2 : x < d
        · by_cases hf1 : forcedB W H xs a b x = true
          · have HPK := Lib.hid (show pickB W H xs a b x d = true by simp [pickB, hlt2, hf1])
            rw [hf1] at hF1
            gi_wp2_with (refine wpListIn_load_w 62 _ _ _ rfl rfl (by simp [Region.wanted, yielded]) hld ?_)
            refine ⟨trivial, (callsIn_wide.2 hF1).mono ?_⟩
            rintro e w6 ⟨rfl, hB6⟩
            clear hF1 hld hb5c
            have h6 := rowsG_turn (by omega) (by omega) (by omega) HI5.out (grown_of_below hB6 none) (fun r e => by cases e)
            have hbx6 := (hB6.block bx (Array.getElem?_eq_some_iff.1 HB5.out).1).trans HB5.out
            have hk6 : KeepsFrom Wb.heap.size W5 w6 := KeepsFrom.of_grownBy (grown_of_below hB6 none) (fun j e => by cases e)
            have HLD := Lib.hid (run_loadAt_mid (P := Tryz.prog) w6 w2.heap.size 0 62 (words (gl W H xs a b (cellsL W H xs))) (.struct _) (fun j v hv => by rw [Nat.zero_add, cell_of_row _ _ _ _ _ _ h6.2.2.1]; simpa using hv) rfl rfl (by rw [info_ground]; simp [words, gl]))
            obtain ⟨hb6, hs6, hc6, top, A6, n6, c6, htp6, hq6, hp6⟩ := h6
            have hn6 : n6 ≤ 100000 := by
              have h1 := hp6.len
              have h2 := forcedL_len W H xs a b HN.out pre
              have h3 := rowF_len W H xs a b x pre2
              have h4 := leapsL_len64 (W := W) (H := H) (xs := xs) (a := a) (b := b) (q := x) HN.out
              have h5 : (cellsL W H xs).length ≤ (W * H).toNat := cellsTo_len _
              rw [HS2.out, List.length_append] at h4
              rw [HSP.out, List.length_append] at h5
              rw [List.length_append] at h1
              have := HN.out
              omega
            have hqc6 : w6.cell? ⟨w2.heap.size + 1, 0, none⟩ = some (.slice A6 n6 c6) := by rw [cell_of_row _ _ _ _ _ _ hq6]; rfl
            have hbc6 : w6.cell? ⟨bx, 0, none⟩ = some (.int .i64 x) := by rw [cell_of_row _ _ _ _ _ _ hbx6]; rfl
            have HP6 := Lib.hid (hp6.keep ((Below.refl _ _).alloc (Nat.le_refl _) (.cells #[.int .i64 x, .int .i64 d] 3)))
            have HQ6 := Lib.hid ((Below.heap_alloc w6 (.cells #[.int .i64 x, .int .i64 d] 3) (w2.heap.size + 1) (by omega)).trans hq6)
            have HC6 := Lib.hid hc6; have HBX6 := Lib.hid hbx6; have HB6 := Lib.hid hb6; have HKK6 := Lib.hid hk6
            clear hp6 hq6 hc6 hbx6 hb6 hk6
            gi_wp2
            refine ⟨trivial, ?_⟩
            gi_wp2_with (first
              | refine wpListIn_load_w 62 _ _ _ rfl rfl (by simp [Region.wanted, yielded]) HLD.out ?_
              | (refine wpListIn_appS rfl (.tmp 40) (.tmp 44) rfl Wb.heap.size top A6 n6 c6 _ (some ⟨w6.heap.size, 0, none⟩) 2 2 [x, d] rfl HP6.out (own_two w6 _ x d hs6) (fun y hy => by injection hy with hy; rw [← hy]; exact htp6) (by simp; omega) (by show _ = Value.slice (some ⟨(w6.alloc _).heap.size, 0, none⟩) 1 1; rw [World.size_alloc]; rfl) (by omega) (by simp; omega) ?_; intro A7 c7 w7 hpa7 hb7 _ _ _ hgr7; have hq7 := (hb7.block (w2.heap.size + 1) (by omega)).trans HQ6.out; have hqc7 : w7.cell? ⟨w2.heap.size + 1, 0, none⟩ = some (.slice A6 n6 c6) := (by rw [cell_of_row _ _ _ _ _ _ hq7]; rfl); have hqf7 : w7.frozen? ⟨w2.heap.size + 1, 0, none⟩ = false := frozen_of_row _ _ _ _ _ hq7; have HQ7 := Lib.hid hq7; have HPA7 := Lib.hid hpa7; have HB7 := Lib.hid hb7; have HGR7 := Lib.hid hgr7; clear hq7 hpa7 hb7 hgr7))
            have hgs := grown_set w7 (w2.heap.size + 1) 0 (.slice A7 (n6 + 1) c7)
            have hal : Below w6.heap.size w6 (w6.alloc (.cells #[.int .i64 x, .int .i64 d] 3)) := (Below.refl _ _).alloc (Nat.le_refl _) _
            have hk8 : KeepsFrom Wb.heap.size W5 (w7.setCell ⟨w2.heap.size + 1, 0, none⟩ (.slice A7 (n6 + 1) c7)) :=
              ((HKK6.out.trans (KeepsFrom.of_grownBy (World.grownBy_alloc w6 _ none) (fun j e => by cases e))).trans (parts_keeps HP6.out HGR7.out)).trans (KeepsFrom.of_grownBy hgs (fun j e => by cases e; omega))
            have hs7 := HGR7.out.size
            have hs8 := hgs.size
            have hs66 : (w6.alloc (.cells #[.int .i64 x, .int .i64 d] 3)).heap.size = w6.heap.size + 1 := by simp
            refine ⟨⟨hk8.size, fun k o hB hk ho => hk8.same k o (Nat.le_trans hsW hB) hk ho⟩, trivial, ⟨?_, ?_, ?_, _, A7, n6 + 1, c7, Nat.le_trans hs7 hs8, ?_, ?_⟩, ?_, HK5.out.trans hk8⟩
            · exact ((HB6.out.trans (hal.mono (by have := HB6.out.size; omega))).trans (HB7.out.mono (by omega))).grown hgs (by omega) (fun k e => by cases e; omega)
            · omega
            · exact (hgs.block w2.heap.size (by omega) (by simp)).trans ((HB7.out.block w2.heap.size (by omega)).trans ((Below.heap_alloc _ _ _ (by omega)).trans HC6.out))
            · rw [heap_set _ HQ7.out]; rfl
            · rw [rowF_snoc, HPK.out, ← List.append_assoc]
              exact parts_set HPA7.out (by omega) _
            · have hbl := Below.heap_alloc w6 (.cells #[.int .i64 x, .int .i64 d] 3) bx (Array.getElem?_eq_some_iff.1 HBX6.out).1
              have hb1 := hbl.trans HBX6.out
              have hb2 := (HGR7.out.block bx (Array.getElem?_eq_some_iff.1 hb1).1 (parts_ne HP6.out hb1)).trans hb1
              exact (hgs.block bx (Array.getElem?_eq_some_iff.1 hb2).1 (by simp; omega)).trans hb2
          · have hff : forcedB W H xs a b x = false := by simpa using hf1
            rw [hff] at hF1
            gi_wp2_with (refine wpListIn_load_w 62 _ _ _ rfl rfl (by simp [Region.wanted, yielded]) hld ?_)
            refine ⟨trivial, (callsIn_wide.2 hF1).mono ?_⟩
            rintro e w5 ⟨rfl, hB5⟩
            clear hF1 hld hb5c
            have h5 := rowsG_turn (by omega) (by omega) (by omega) HI5.out (grown_of_below hB5 none) (fun r e => by cases e)
            have hbx5 := (hB5.block bx (Array.getElem?_eq_some_iff.1 HB5.out).1).trans HB5.out
            have hk55 : KeepsFrom Wb.heap.size W5 w5 := KeepsFrom.of_grownBy (grown_of_below hB5 none) (fun j e => by cases e)
            have hld := run_loadAt_mid (P := Tryz.prog) w5 w2.heap.size 0 62 (words (gl W H xs a b (cellsL W H xs))) (.struct _) (fun j v hv => by rw [Nat.zero_add, cell_of_row _ _ _ _ _ _ h5.2.2.1]; simpa using hv) rfl rfl (by rw [info_ground]; simp [words, gl])
            have hF2 := isForced_any W H xs a b d w5 HG.out hdc
            gi_wp2_with (refine wpListIn_load_w 62 _ _ _ rfl rfl (by simp [Region.wanted, yielded]) hld ?_)
            refine ⟨trivial, (callsIn_wide.2 hF2).mono ?_⟩
            rintro e w6 ⟨rfl, hB6⟩
            clear hF2
            have h6 := rowsG_turn (by omega) (by omega) (by omega) h5 (grown_of_below hB6 none) (fun r e => by cases e)
            have hbx6 := (hB6.block bx (Array.getElem?_eq_some_iff.1 hbx5).1).trans hbx5
            have hk6 : KeepsFrom Wb.heap.size W5 w6 := hk55.trans (KeepsFrom.of_grownBy (grown_of_below hB6 none) (fun j e => by cases e))
            have HLD := Lib.hid hld
            clear hld h5 hbx5 hk55
            by_cases hf2 : forcedB W H xs a b d = true
            · have HPK := Lib.hid (show pickB W H xs a b x d = true by simp [pickB, hlt2, hf2])
              rw [hf2]
              obtain ⟨hb6, hs6, hc6, top, A6, n6, c6, htp6, hq6, hp6⟩ := h6
              have hn6 : n6 ≤ 100000 := by
                have h1 := hp6.len
                have h2 := forcedL_len W H xs a b HN.out pre
                have h3 := rowF_len W H xs a b x pre2
                have h4 := leapsL_len64 (W := W) (H := H) (xs := xs) (a := a) (b := b) (q := x) HN.out
                have h5 : (cellsL W H xs).length ≤ (W * H).toNat := cellsTo_len _
                rw [HS2.out, List.length_append] at h4
                rw [HSP.out, List.length_append] at h5
                rw [List.length_append] at h1
                have := HN.out
                omega
              have hqc6 : w6.cell? ⟨w2.heap.size + 1, 0, none⟩ = some (.slice A6 n6 c6) := by rw [cell_of_row _ _ _ _ _ _ hq6]; rfl
              have hbc6 : w6.cell? ⟨bx, 0, none⟩ = some (.int .i64 x) := by rw [cell_of_row _ _ _ _ _ _ hbx6]; rfl
              have HP6 := Lib.hid (hp6.keep ((Below.refl _ _).alloc (Nat.le_refl _) (.cells #[.int .i64 x, .int .i64 d] 3)))
              have HQ6 := Lib.hid ((Below.heap_alloc w6 (.cells #[.int .i64 x, .int .i64 d] 3) (w2.heap.size + 1) (by omega)).trans hq6)
              have HC6 := Lib.hid hc6; have HBX6 := Lib.hid hbx6; have HB6 := Lib.hid hb6; have HKK6 := Lib.hid hk6
              clear hp6 hq6 hc6 hbx6 hb6 hk6
              gi_wp2_with (first
                | refine wpListIn_load_w 62 _ _ _ rfl rfl (by simp [Region.wanted, yielded]) HLD.out ?_
                | (refine wpListIn_appS rfl (.tmp 40) (.tmp 44) rfl Wb.heap.size top A6 n6 c6 _ (some ⟨w6.heap.size, 0, none⟩) 2 2 [x, d] rfl HP6.out (own_two w6 _ x d hs6) (fun y hy => by injection hy with hy; rw [← hy]; exact htp6) (by simp; omega) (by show _ = Value.slice (some ⟨(w6.alloc _).heap.size, 0, none⟩) 1 1; rw [World.size_alloc]; rfl) (by omega) (by simp; omega) ?_; intro A7 c7 w7 hpa7 hb7 _ _ _ hgr7; have hq7 := (hb7.block (w2.heap.size + 1) (by omega)).trans HQ6.out; have hqc7 : w7.cell? ⟨w2.heap.size + 1, 0, none⟩ = some (.slice A6 n6 c6) := (by rw [cell_of_row _ _ _ _ _ _ hq7]; rfl); have hqf7 : w7.frozen? ⟨w2.heap.size + 1, 0, none⟩ = false := frozen_of_row _ _ _ _ _ hq7; have HQ7 := Lib.hid hq7; have HPA7 := Lib.hid hpa7; have HB7 := Lib.hid hb7; have HGR7 := Lib.hid hgr7; clear hq7 hpa7 hb7 hgr7))
              have hgs := grown_set w7 (w2.heap.size + 1) 0 (.slice A7 (n6 + 1) c7)
              have hal : Below w6.heap.size w6 (w6.alloc (.cells #[.int .i64 x, .int .i64 d] 3)) := (Below.refl _ _).alloc (Nat.le_refl _) _
              have hk8 : KeepsFrom Wb.heap.size W5 (w7.setCell ⟨w2.heap.size + 1, 0, none⟩ (.slice A7 (n6 + 1) c7)) :=
                ((HKK6.out.trans (KeepsFrom.of_grownBy (World.grownBy_alloc w6 _ none) (fun j e => by cases e))).trans (parts_keeps HP6.out HGR7.out)).trans (KeepsFrom.of_grownBy hgs (fun j e => by cases e; omega))
              have hs7 := HGR7.out.size
              have hs8 := hgs.size
              have hs66 : (w6.alloc (.cells #[.int .i64 x, .int .i64 d] 3)).heap.size = w6.heap.size + 1 := by simp
              refine ⟨⟨hk8.size, fun k o hB hk ho => hk8.same k o (Nat.le_trans hsW hB) hk ho⟩, trivial, ⟨?_, ?_, ?_, _, A7, n6 + 1, c7, Nat.le_trans hs7 hs8, ?_, ?_⟩, ?_, HK5.out.trans hk8⟩
              · exact ((HB6.out.trans (hal.mono (by have := HB6.out.size; omega))).trans (HB7.out.mono (by omega))).grown hgs (by omega) (fun k e => by cases e; omega)
              · omega
              · exact (hgs.block w2.heap.size (by omega) (by simp)).trans ((HB7.out.block w2.heap.size (by omega)).trans ((Below.heap_alloc _ _ _ (by omega)).trans HC6.out))
              · rw [heap_set _ HQ7.out]; rfl
              · rw [rowF_snoc, HPK.out, ← List.append_assoc]
                exact parts_set HPA7.out (by omega) _
              · have hbl := Below.heap_alloc w6 (.cells #[.int .i64 x, .int .i64 d] 3) bx (Array.getElem?_eq_some_iff.1 HBX6.out).1
                have hb1 := hbl.trans HBX6.out
                have hb2 := (HGR7.out.block bx (Array.getElem?_eq_some_iff.1 hb1).1 (parts_ne HP6.out hb1)).trans hb1
                exact (hgs.block bx (Array.getElem?_eq_some_iff.1 hb2).1 (by simp; omega)).trans hb2
            · have hf3 : forcedB W H xs a b d = false := by simpa using hf2
              have HPK := Lib.hid (show pickB W H xs a b x d = false by simp [pickB, hff, hf3])
              rw [hf3]
              have HI6 := Lib.hid h6; have HB6 := Lib.hid hbx6; have HK6 := Lib.hid hk6
              clear h6 hbx6 hk6
              gi_wp2
              exact ⟨⟨HK6.out.size, fun k o hB hk ho => HK6.out.same k o (Nat.le_trans hsW hB) hk ho⟩, trivial, by rw [rowF_snoc, HPK.out]; simpa using HI6.out, HB6.out, HK5.out.trans HK6.out⟩
        · have hlt3 : ¬ x < d := hlt2
          have HPK := Lib.hid (show pickB W H xs a b x d = false by simp [pickB, hlt2])
          clear hlt2
          gi_wp2
          refine ⟨trivial, ?_⟩
          gi_wp2_with (rename_i h8 h9; exact undef_bool h8)
          refine ⟨trivial, ?_⟩
          gi_wp2_with (rename_i h8 h9; exact undef_bool h8)
          exact ⟨KeepsFrom.refl _ _, trivial, by rw [rowF_snoc, HPK.out]; simpa using HI5.out, HB5.out, HK5.out⟩
      · rintro W5 ⟨hI5, _, hk5⟩
        have hfl : forcedL W H xs a b pre ++ rowF W H xs a b x (leapsL W H xs a b x) = forcedL W H xs a b (pre ++ [x]) := by simp [forcedL]
        rw [hfl] at hI5
        have HI5 := Lib.hid hI5
        clear hI5
        gi_wp2
        exact ⟨hk5, trivial, HI5.out⟩
    · rintro D W' hD ⟨hb1, hs1, hc1, top, A1, n1, c1, htp, hq1, ho1⟩ hd
      have hqc : W'.cell? ⟨w2.heap.size + 1, 0, none⟩ = some (.slice A1 n1 c1) := by rw [cell_of_row _ _ _ _ _ _ hq1]; rfl
      have HO := Lib.hid ho1; have HB1 := Lib.hid hb1
      clear ho1 hc1 hq1 hb1 hit h0 hgb2 hqb hba hbb hcl
      gi_wp2
      refine ⟨by simp, .inl ⟨_, _, rfl, run_takeDeferred hd, ?_⟩⟩
      refine ⟨_, results_tmp2 rfl _ _ _, A1, n1, c1, by rw [HTw.out]; rfl, ?_, ?_⟩
      · have hv : forcedV W H xs a b = forcedL W H xs a b (cellsL W H xs) := by rw [forcedV, if_pos HTw.out]
        rw [hv]
        have hne : ∀ (k : Nat) (cur : Array Value) (E : TypeId), W'.heap[k]? = some (.cells cur E (0, 0)) → some k ≠ some D := fun k cur E hk e => by injection e with e; rw [e, hd] at hk; cases hk
        exact (OwnSS.of ((HO.out.other (grownBy_putObj' W' D _) (fun ad e => by
          obtain ⟨vs, h1, _⟩ := HO.out
          subst e
          obtain ⟨cur, hcur⟩ := row_block h1.2
          exact hne _ _ _ hcur) (fun ad m k p hp => by
          obtain ⟨cur, hcur⟩ := row_block hp
          exact hne _ _ _ hcur)).lower (by omega))).1
      · exact HB1.out.grown (grownBy_putObj' W' D _) (by omega) (fun k e => by cases e; omega)
  · have hv : twoV W H xs a b = false := by simpa using ht
    clear ht
    gi_wp2
    refine ⟨trivial, (callsIn_wide.2 (isOnE_any W H A n c xs a b _ ((ha.alloc _).alloc _))).mono ?_⟩
    rw [hv]
    rintro e wv ⟨rfl, hb⟩
    have B := Lib.hid (below_box (below_box hb))
    clear hb
    gi_wp2
    refine ⟨_, results_tmp2 rfl _ _ _, none, 0, 0, by rw [hv]; rfl, ?_, B.out⟩
    have hz : forcedV W H xs a b = [] := by rw [forcedV, hv]; rfl
    rw [hz]
    exact PartsAt.none_ _ _ _
end Go.Proofs.YtnnonmpgkkpocaaGreatDoor

namespace Go.Proofs.YtnnonmpgkkpocaaGreatDoor
open Go.RowKit Go.Shelf
attribute [local go_sem] Oper.semAt_some

set_option maxRecDepth 100000 in
set_option maxHeartbeats 4000000 in
theorem forcedSpec_any (W H : Int) (A : Option Addr) (n c : Nat) (xs : List Int) (a b : Int) (w : World) (ha : Rd w A n xs) :
    Calls Tryz.prog 31 #[brd W H A n c, lpr a b] w fun e w' => ∃ A' n' c', e = .returned (.tuple #[.slice A' n' c', .bool (twoV W H xs a b)]) ∧ PartsAt w' w.heap.size w'.heap.size A' n' c' (forcedV W H xs a b) ∧ Below w.heap.size w w' := by
  refine (callsIn_wide (n := 9)).1 ?_
  refine callsIn_of_wp_marks Tryz.func31 rfl trivial ?_ rfl
  simp only [Tryz.ntmps31, List.size_toArray, List.length_cons, List.length_nil, Nat.reduceAdd, Nat.reduceSub, Array.replicate_succ, Array.replicate_zero, List.push_toArray, List.append_toArray, List.nil_append, List.cons_append]
  by_cases ht : twoV W H xs a b = true
  · have hg := two_gK ht
    obtain ⟨hW9, hH9, _, _⟩ := goodB_iff.1 hg
    have HN := Lib.hid (cells_le hW9 hH9)
    have HG := Lib.hid hg; have HTw := Lib.hid ht
    clear hg hW9 hH9
    gi_wp2
    refine ⟨trivial, (callsIn_wide.2 (boTwo_any W H A n c xs a b _ ((ha.alloc _).alloc _))).mono ?_⟩
    rw [show (goodB W H xs && leaperB a b) = true from ht]
    clear ht
    rintro e wv ⟨rfl, hb⟩
    have hbx0 := below_box hb
    have a0 : wv.cell? ⟨w.heap.size, 0, none⟩ = some (.int .i64 W) := by simpa using newbox hbx0 0
    have a1 : wv.cell? ⟨w.heap.size, 1, none⟩ = some (.int .i64 H) := by simpa using newbox hbx0 1
    have a2 : wv.cell? ⟨w.heap.size, 2, none⟩ = some (.slice A n c) := by simpa using newbox hbx0 2
    have ga : w.heap.size < wv.heap.size := by simpa using newbox_lt hbx0
    have l0 : wv.cell? ⟨w.heap.size + 1, 0, none⟩ = some (.int .i64 a) := by simpa using newbox hb 0
    have l1 : wv.cell? ⟨w.heap.size + 1, 1, none⟩ = some (.int .i64 b) := by simpa using newbox hb 1
    have gl : w.heap.size + 1 < wv.heap.size := by simpa using newbox_lt hb
    have B := Lib.hid (below_box hbx0)
    have R := Lib.hid (ha.keep B.out)
    clear hb hbx0
    gi_wp2
    refine ⟨trivial, (callsIn_wide.2 (boCells_any W H A n c xs _ R.out HN.out)).mono ?_⟩
    rintro e ws ⟨A1, n1, c1, rfl, hst, hb⟩
    replace a0 := cell_keep a0 ga hb; replace a1 := cell_keep a1 ga hb; replace a2 := cell_keep a2 ga hb; replace l0 := cell_keep l0 gl hb; replace l1 := cell_keep l1 gl hb; replace ga := lt_keep ga hb; replace gl := lt_keep gl hb; replace R := Lib.hid (R.out.keep hb)
    have hB0 := B.out.size
    replace B := Lib.hid (below_next B.out hb)
    have hs1 := hb.size
    have ST := Lib.hid hst.rd
    have SL := Lib.hid hst.len
    have n8 : n1 ≤ 64 := by have := cellsTo_len (W := W) (H := H) (hs := xs) (W * H).toNat; have := hst.len; have := HN.out; unfold cellsL at *; omega
    have n9 := hst.rd.2.1
    clear hst hb
    gi_wp2
    gi_loopw [6, 18] (fun v i wr => ∃ (k m c' : Nat) (A' : Option Addr) (top : Nat), k ≤ n1 ∧ i = .int .i64 k ∧ v = .slice A' m c' ∧ top ≤ wr.heap.size ∧ PartsAt wr ws.heap.size top A' m c' (forcedL W H xs a b ((cellsL W H xs).take k)) ∧ Below ws.heap.size ws wr) (fun _ i _ => n1 - (intOf i).toNat)
    case atStart => exact ⟨0, 0, 0, none, 0, by omega, rfl, rfl, Nat.zero_le _, PartsAt.none_ _ _ _, Below.refl _ _⟩
    case round =>
      obtain ⟨k, m, c', A', top, hk, rfl, rfl, htop, hpa, hbw⟩ := hrel
      by_cases hlt : k < n1
      · obtain ⟨bb, oo, x, rfl, hg1, hx, x0⟩ := ST.out.at_ hlt
        have HX := Lib.hid hx
        have hin := cellsL_mem.1 (List.mem_of_getElem? hx)
        have HXR := Lib.hid (range_of HN.out hin)
        replace x0 := cell_keep x0 hg1 hbw
        have b0 := cell_keep a0 ga hbw; have b1 := cell_keep a1 ga hbw; have b2 := cell_keep a2 ga hbw; have m0 := cell_keep l0 gl hbw; have m1 := cell_keep l1 gl hbw
        have RR := Lib.hid (R.out.keep hbw)
        have HPA := Lib.hid hpa; have HB := Lib.hid hbw
        have hsw := hbw.size
        clear hx hin hpa hbw
        gi_wp2
        refine ⟨trivial, (callsIn_wide.2 (boLeaps_any W H A n c xs a b x _ RR.out HG.out HXR.out)).mono ?_⟩
        rintro e w3 ⟨A3, n3, c3, rfl, hl3, hb3⟩
        have HL3 := Lib.hid hl3
        have hn3 : n3 ≤ 64 := by have := leapsL_len64 (W := W) (H := H) (xs := xs) (a := a) (b := b) (q := x) HN.out; have := hl3.len; omega
        have HPA3 := Lib.hid (HPA.out.keep hb3)
        have HB3 := Lib.hid (HB.out.trans (hb3.mono hsw))
        have htop3 : top ≤ w3.heap.size := Nat.le_trans htop hb3.size
        clear hl3 hb3 b0 b1 b2 m0 m1 RR x0 HPA HB
        gi_wp2
        gi_loopw [6, 27] (fun v i wq => ∃ (j m2 c2 : Nat) (A2 : Option Addr) (top2 : Nat), j ≤ n3 ∧ i = .int .i64 j ∧ v = .slice A2 m2 c2 ∧ top2 ≤ wq.heap.size ∧ PartsAt wq ws.heap.size top2 A2 m2 c2 (forcedL W H xs a b ((cellsL W H xs).take k) ++ rowF W H xs a b x ((leapsL W H xs a b x).take j)) ∧ OwnI 3 wq ws.heap.size A3 n3 c3 (leapsL W H xs a b x) ∧ Below ws.heap.size ws wq) (fun _ i _ => n3 - (intOf i).toNat)
        case atStart => exact ⟨0, m, c', A', top, by omega, rfl, rfl, htop3, by simpa [rowF] using HPA3.out, HL3.out.lower hsw, HB3.out⟩
        case round =>
          obtain ⟨j, m2, c2, A2, top2, hj, rfl, rfl, htop2, hpa2, hlw, hbw2⟩ := hrel
          by_cases hltj : j < n3
          · obtain ⟨bb3, oo3, d, rfl, hg3, hd, d0⟩ := hlw.rd.at_ hltj
            have HDD := Lib.hid hd
            have hdin := cellsL_mem.1 (List.mem_filter.1 (List.mem_of_getElem? hd)).1
            have HDR := Lib.hid (range_of HN.out hdin)
            have b0 := cell_keep a0 ga hbw2; have b1 := cell_keep a1 ga hbw2; have b2 := cell_keep a2 ga hbw2; have m0 := cell_keep l0 gl hbw2; have m1 := cell_keep l1 gl hbw2
            have RR := Lib.hid (R.out.keep hbw2)
            have HPA2 := Lib.hid hpa2; have HLW := Lib.hid hlw; have HB2 := Lib.hid hbw2
            have hsw2 := hbw2.size
            clear hd hdin hpa2 hlw hbw2
            by_cases hxd : x < d
            · gi_wp2
              refine ⟨trivial, (callsIn_wide.2 (boLeaps_any W H A n c xs a b x _ RR.out HG.out HXR.out)).mono ?_⟩
              rintro e w5 ⟨A5, n5, c5, rfl, hl5, hb5⟩
              have HN5 := Lib.hid hl5.len
              have HPA5 := Lib.hid (HPA2.out.keep hb5); have HLW5 := Lib.hid (HLW.out.keep hb5); have HB5 := Lib.hid (HB2.out.trans (hb5.mono hsw2))
              have htop5 : top2 ≤ w5.heap.size := Nat.le_trans htop2 hb5.size
              have hsw5 : ws.heap.size ≤ w5.heap.size := Nat.le_trans hsw2 hb5.size
              replace b0 := b0; have e0 := cell_keep a0 ga HB5.out; have e1 := cell_keep a1 ga HB5.out; have e2 := cell_keep a2 ga HB5.out; have f0 := cell_keep l0 gl HB5.out; have f1 := cell_keep l1 gl HB5.out
              have RR5 := Lib.hid (RR.out.keep hb5)
              clear hl5 hb5 b0 b1 b2 m0 m1 RR d0 HPA2 HLW HB2 hsw2 htop2
              by_cases hf1 : (n5 : Int) = 2
              · have HPK := Lib.hid (show pickB W H xs a b x d = true by simp only [pickB, forcedB, hxd, HN5.out]; simp; left; omega)
                gi_wp2
                refine ⟨trivial, ?_⟩
                have hm2 : m2 ≤ 100000 := by
                  have h1 := HPA5.out.len
                  have h2 := forcedL_len W H xs a b HN.out ((cellsL W H xs).take k)
                  have h3 := rowF_len W H xs a b x ((leapsL W H xs a b x).take j)
                  rw [List.length_append] at h1
                  rw [List.length_take] at h2 h3
                  omega
                gi_wp2_with (refine wpListIn_appS rfl (.tmp 50) (.tmp 54) rfl ws.heap.size top2 A2 m2 c2 _ (some ⟨w5.heap.size, 0, none⟩) 2 2 [x, d] rfl (HPA5.out.keep ((Below.refl _ _).alloc (Nat.le_refl _) (.cells #[.int .i64 x, .int .i64 d] 3))) (own_two w5 _ x d hsw5) (fun y hy => by injection hy with hy; rw [← hy]; exact htop5) (by simp; omega) (by show _ = Value.slice (some ⟨(w5.alloc _).heap.size, 0, none⟩) 1 1; rw [World.size_alloc]; rfl) (by omega) (by simp; omega) ?_; intro A7 c7 w7 hpa7 hb7 _ _ kI7 hgr7; have HPA7 := Lib.hid hpa7; have HB7 := Lib.hid hb7; have HL7 := Lib.hid (kI7 _ _ _ _ _ (HLW5.out.alloc _)); have HS7 := Lib.hid hgr7.size; clear hpa7 hb7 hgr7 kI7)
                go_roundw
                case rel => exact ⟨j + 1, m2 + 1, c7, A7, _, by omega, by go_num, rfl, HS7.out, by rw [List.take_add_one, HDD.out]; simp only [Option.toList]; rw [rowF_snoc, HPK.out, ← List.append_assoc]; exact HPA7.out, HL7.out, HB5.out.trans (((Below.refl _ w5).alloc hsw5 _).trans HB7.out)⟩
                case measure => simp [intOf]; omega
              · gi_wp2
                refine ⟨trivial, (callsIn_wide.2 (boLeaps_any W H A n c xs a b d _ RR5.out HG.out HDR.out)).mono ?_⟩
                rintro e w6 ⟨A6, n6, c6, rfl, hl6, hb6⟩
                have HN6 := Lib.hid hl6.len
                have HPA6 := Lib.hid (HPA5.out.keep hb6); have HLW6 := Lib.hid (HLW5.out.keep hb6); have HB6 := Lib.hid (HB5.out.trans (hb6.mono hsw5))
                have htop6 : top2 ≤ w6.heap.size := Nat.le_trans htop5 hb6.size
                have hsw6 : ws.heap.size ≤ w6.heap.size := Nat.le_trans hsw5 hb6.size
                clear hl6 hb6 e0 e1 e2 f0 f1 RR5 HPA5 HLW5 HB5 htop5 hsw5
                by_cases hf2 : (n6 : Int) = 2
                · have HPK := Lib.hid (show pickB W H xs a b x d = true by simp only [pickB, forcedB, hxd, HN6.out]; simp; right; omega)
                  have hm2 : m2 ≤ 100000 := by
                    have h1 := HPA6.out.len
                    have h2 := forcedL_len W H xs a b HN.out ((cellsL W H xs).take k)
                    have h3 := rowF_len W H xs a b x ((leapsL W H xs a b x).take j)
                    rw [List.length_append] at h1
                    rw [List.length_take] at h2 h3
                    omega
                  gi_wp2_with (refine wpListIn_appS rfl (.tmp 50) (.tmp 54) rfl ws.heap.size top2 A2 m2 c2 _ (some ⟨w6.heap.size, 0, none⟩) 2 2 [x, d] rfl (HPA6.out.keep ((Below.refl _ _).alloc (Nat.le_refl _) (.cells #[.int .i64 x, .int .i64 d] 3))) (own_two w6 _ x d hsw6) (fun y hy => by injection hy with hy; rw [← hy]; exact htop6) (by simp; omega) (by show _ = Value.slice (some ⟨(w6.alloc _).heap.size, 0, none⟩) 1 1; rw [World.size_alloc]; rfl) (by omega) (by simp; omega) ?_; intro A7 c7 w7 hpa7 hb7 _ _ kI7 hgr7; have HPA7 := Lib.hid hpa7; have HB7 := Lib.hid hb7; have HL7 := Lib.hid (kI7 _ _ _ _ _ (HLW6.out.alloc _)); have HS7 := Lib.hid hgr7.size; clear hpa7 hb7 hgr7 kI7)
                  go_roundw
                  case rel => exact ⟨j + 1, m2 + 1, c7, A7, _, by omega, by go_num, rfl, HS7.out, by rw [List.take_add_one, HDD.out]; simp only [Option.toList]; rw [rowF_snoc, HPK.out, ← List.append_assoc]; exact HPA7.out, HL7.out, HB6.out.trans (((Below.refl _ w6).alloc hsw6 _).trans HB7.out)⟩
                  case measure => simp [intOf]; omega
                · have HPK := Lib.hid (show pickB W H xs a b x d = false by simp only [pickB, forcedB, HN5.out, HN6.out]; simp; intro _; omega)
                  have hf2z : (((n6 : Nat) : Int) == 2) = false := by simp; omega
                  gi_wp2
                  go_roundw
                  case rel => exact ⟨j + 1, m2, c2, A2, top2, by omega, by go_num, rfl, htop6, by rw [List.take_add_one, HDD.out]; simp only [Option.toList]; rw [rowF_snoc, HPK.out]; simpa using HPA6.out, HLW6.out, HB6.out⟩
                  case measure => simp [intOf]; omega
            · have HPK := Lib.hid (show pickB W H xs a b x d = false by simp [pickB, hxd])
              gi_wp2
              refine ⟨trivial, ?_⟩
              gi_wp2_with (rename_i h8 h9; exact undef_bool h8)
              refine ⟨trivial, ?_⟩
              gi_wp2_with (rename_i h8 h9; exact undef_bool h8)
              go_roundw
              case rel => exact ⟨j + 1, m2, c2, A2, top2, by omega, by go_num, rfl, htop2, by rw [List.take_add_one, HDD.out]; simp only [Option.toList]; rw [rowF_snoc, HPK.out]; simpa using HPA2.out, HLW.out, HB2.out⟩
              case measure => simp [intOf]; omega
          · have e : j = n3 := by omega
            subst e
            have e2 : (leapsL W H xs a b x).take j = leapsL W H xs a b x := List.take_of_length_le (by have := HL3.out.len; omega)
            rw [e2] at hpa2
            have HPA2 := Lib.hid hpa2; have HB2 := Lib.hid hbw2
            clear hpa2 hbw2 hlw
            gi_wp2
            go_roundw
            case rel =>
              have hfl : forcedL W H xs a b ((cellsL W H xs).take k) ++ rowF W H xs a b x (leapsL W H xs a b x) = forcedL W H xs a b ((cellsL W H xs).take (k + 1)) := by rw [List.take_add_one, HX.out]; simp [forcedL]
              exact ⟨k + 1, m2, c2, A2, top2, by omega, by go_num, rfl, htop2, by rw [← hfl]; exact HPA2.out, HB2.out⟩
            case measure => simp [intOf]; omega
      · have e : k = n1 := by omega
        subst e
        have e2 : (cellsL W H xs).take k = cellsL W H xs := List.take_of_length_le (by have := SL.out; omega)
        rw [e2] at hpa
        have HPA := Lib.hid hpa; have HB := Lib.hid hbw
        clear hpa hbw e2
        gi_wp2
        refine ⟨_, results_tmp2 rfl _ _ _, A', m, c', by rw [HTw.out]; rfl, ?_, B.out.trans (HB.out.mono (by omega))⟩
        have hv : forcedV W H xs a b = forcedL W H xs a b (cellsL W H xs) := by rw [forcedV, if_pos HTw.out]
        rw [hv]
        exact (OwnSS.of (HPA.out.lower (by omega))).1
  · have hv : twoV W H xs a b = false := by simpa using ht
    clear ht
    gi_wp2
    refine ⟨trivial, (callsIn_wide.2 (boTwo_any W H A n c xs a b _ ((ha.alloc _).alloc _))).mono ?_⟩
    rw [show (goodB W H xs && leaperB a b) = false from hv]
    rintro e wv ⟨rfl, hb⟩
    have B := Lib.hid (below_box (below_box hb))
    clear hb
    gi_wp2
    refine ⟨_, results_tmp2 rfl _ _ _, none, 0, 0, by rw [hv]; rfl, ?_, B.out⟩
    have hz : forcedV W H xs a b = [] := by rw [forcedV, hv]; rfl
    rw [hz]
    exact PartsAt.none_ _ _ _
end Go.Proofs.YtnnonmpgkkpocaaGreatDoor

namespace Go.Proofs.YtnnonmpgkkpocaaGreatDoor
open Go.RowKit

theorem len_DeadEnds (W H : Int) (xs : List Int) (a b : Int) : (deadV W H xs a b).length ≤ 1000000 := by
  unfold deadV
  split
  · rename_i h
    have h1 := List.length_filter_le (deadB W H xs a b) (cellsL W H xs)
    have h3 : (cellsL W H xs).length ≤ (W * H).toNat := cellsTo_len _
    obtain ⟨hW, hH, _, _⟩ := goodB_iff.1 (two_gK h)
    have := cells_le hW hH
    rw [deadL]; omega
  · simp

end Go.Proofs.YtnnonmpgkkpocaaGreatDoor

namespace Go.Proofs.YtnnonmpgkkpocaaGreatDoor
open Go.RowKit

theorem forced_small (W H : Int) (xs : List Int) (a b : Int) : (forcedV W H xs a b).length ≤ 5000 ∧ ∀ p ∈ forcedV W H xs a b, p.length ≤ 64 := by
  unfold forcedV
  split
  · rename_i h
    obtain ⟨hW, hH, _, _⟩ := goodB_iff.1 (two_gK h)
    have hN := cells_le hW hH
    have h2 := forcedL_len W H xs a b hN (cellsL W H xs)
    have h3 : (cellsL W H xs).length ≤ (W * H).toNat := cellsTo_len _
    refine ⟨by omega, fun p hp => ?_⟩
    obtain ⟨c, _, hp⟩ := List.mem_flatMap.1 hp
    obtain ⟨d, _, rfl⟩ := List.mem_map.1 hp
    simp
  · exact ⟨by simp, fun p hp => by cases hp⟩
theorem impl_ForcedLeaps (W H : Int) (A : Option Addr) (n c : Nat) (xs : List Int) (a b : Int) (w : World) (ha : Rd w A n xs) (hT : Tab64 w ∧ 0 < w.heap.size) :
    Calls Tryz.prog 32 #[brd W H A n c, lpr a b] w fun e w' => ∃ A' n' c', e = .returned (.tuple #[.slice A' n' c', .bool (twoV W H xs a b)]) ∧ OwnSS w' w.heap.size w'.heap.size A' n' c' (forcedV W H xs a b) ∧ Below w.heap.size w w' := by
  refine (forcedLeaps_any W H A n c xs a b w ha hT.1 hT.2).mono ?_
  rintro e w' ⟨A', n', c', he, hp, hb⟩
  exact ⟨A', n', c', he, OwnSS.of hp, hb⟩
theorem spec_ForcedLeaps (W H : Int) (A : Option Addr) (n c : Nat) (xs : List Int) (a b : Int) (w : World) (ha : Rd w A n xs) :
    Calls Tryz.prog 31 #[brd W H A n c, lpr a b] w fun e w' => ∃ A' n' c', e = .returned (.tuple #[.slice A' n' c', .bool (twoV W H xs a b)]) ∧ OwnSS w' w.heap.size w'.heap.size A' n' c' (forcedV W H xs a b) ∧ Below w.heap.size w w' := by
  refine (forcedSpec_any W H A n c xs a b w ha).mono ?_
  rintro e w' ⟨A', n', c', he, hp, hb⟩
  exact ⟨A', n', c', he, OwnSS.of hp, hb⟩
end Go.Proofs.YtnnonmpgkkpocaaGreatDoor

namespace Go.Proofs.YtnnonmpgkkpocaaGreatDoor
open Go.RowKit

set_option maxHeartbeats 4000000 in
set_option maxRecDepth 100000 in
theorem law_ForcedLeaps (w : World) (V0 G0 : Int) (A0 : Option Addr) (n0 c0 : Nat) (xs0 : List Int) (ha0 : Rd w A0 n0 xs0) (la1 lb1 : Int) (hT : Tab64 w ∧ 0 < w.heap.size) :
    Calls Tryz.prog 9 #[brd V0 G0 A0 n0 c0, lpr la1 lb1] w fun e w' => e = .returned (.bool true) ∧ Below w.heap.size w w' := by
  have hn9 := ha0.2.1
  by_cases hnB : (n0 : Int) ≤ 1048576
  rotate_left
  · go_enter Tryz.func9, Tryz.ntmps9
    go_wp2_with fail
    refine (szBoard_any _ _ _ _ _ _ _ hn9 (by omega) (by omega)).mono ?_
    rintro e wv ⟨rfl, hb⟩
    have B := Lib.hid (below_box (below_box hb))
    clear hb
    go_wp2
    go_ret
    exact ⟨rfl, B.out⟩
  · go_enter Tryz.func9, Tryz.ntmps9
    go_wp2_with fail
    refine (szBoard_any _ _ _ _ _ _ _ hn9 (by omega) (by omega)).mono ?_
    rintro e wv ⟨rfl, hb⟩
    have hbx0 := below_box hb
    have a0 : wv.cell? ⟨w.heap.size, 0, none⟩ = some (.int .i64 V0) := by simpa using newbox hbx0 0
    have a1 : wv.cell? ⟨w.heap.size, 1, none⟩ = some (.int .i64 G0) := by simpa using newbox hbx0 1
    have a2 : wv.cell? ⟨w.heap.size, 2, none⟩ = some (.slice A0 n0 c0) := by simpa using newbox hbx0 2
    have al : w.heap.size < wv.heap.size := by simpa using newbox_lt hbx0
    have l0 : wv.cell? ⟨w.heap.size + 1, 0, none⟩ = some (.int .i64 la1) := by simpa using newbox hb 0
    have l1 : wv.cell? ⟨w.heap.size + 1, 1, none⟩ = some (.int .i64 lb1) := by simpa using newbox hb 1
    have ll : w.heap.size + 1 < wv.heap.size := by simpa using newbox_lt hb
    have B := Lib.hid (below_box hbx0)
    have hs1 := Lib.hid (below_box hbx0).size
    have hz := Lib.hid ll
    clear hb hbx0
    go_wp2_with fail
    go_region_held3 (fun w' => w'.cell? ⟨w.heap.size, 0, none⟩ = some (.int .i64 V0) ∧ w'.cell? ⟨w.heap.size, 1, none⟩ = some (.int .i64 G0) ∧ w'.cell? ⟨w.heap.size, 2, none⟩ = some (.slice A0 n0 c0) ∧ w'.cell? ⟨w.heap.size + 1, 0, none⟩ = some (.int .i64 la1) ∧ w'.cell? ⟨w.heap.size + 1, 1, none⟩ = some (.int .i64 lb1)) (first | exact ⟨a0, a1, a2, l0, l1⟩)
      (first
        | (go_at_call 13; refine (toBoard_any _ _ _ _ _ _ _ (by exact (ha0.keep B.out).drew1) (by omega)).mono ?_; rintro e wv ⟨gs, rfl, owns, hb⟩; (try replace hb := below_undrew hb); replace a0 := cell_keep a0 al hb; replace a1 := cell_keep a1 al hb; replace a2 := cell_keep a2 al hb; replace al := lt_keep al hb; replace l0 := cell_keep l0 ll hb; replace l1 := cell_keep l1 ll hb; replace ll := lt_keep ll hb; (try replace Os := Lib.hid (Os.out.keep hb)); have hs2 := Lib.hid hb.size; replace B := Lib.hid (below_next B.out hb); have Os := Lib.hid owns; have SPs := Lib.hid owns.span; clear owns; clear hb)
        | (go_at_call 14; refine (toLeaper_any _ _ _).mono ?_; rintro e wv ⟨rfl, hb⟩; (try replace hb := below_undrew hb); replace a0 := cell_keep a0 al hb; replace a1 := cell_keep a1 al hb; replace a2 := cell_keep a2 al hb; replace al := lt_keep al hb; replace l0 := cell_keep l0 ll hb; replace l1 := cell_keep l1 ll hb; replace ll := lt_keep ll hb; (try replace Os := Lib.hid (Os.out.keep hb)); have hs3 := Lib.hid hb.size; replace B := Lib.hid (below_next B.out hb); clear hb)
        | (go_at_call 31; refine (spec_ForcedLeaps _ _ _ _ _ _ _ _ _ (by exact Os.out.rd)).mono ?_; rintro e wv ⟨AW, nW, cW, rfl, ownW, hb⟩; (try replace hb := below_undrew hb); replace a0 := cell_keep a0 al hb; replace a1 := cell_keep a1 al hb; replace a2 := cell_keep a2 al hb; replace al := lt_keep al hb; replace l0 := cell_keep l0 ll hb; replace l1 := cell_keep l1 ll hb; replace ll := lt_keep ll hb; have hs4 := Lib.hid hb.size; replace B := Lib.hid (below_next B.out hb); have OW := Lib.hid ownW; clear ownW; clear hb))
    all_goals
      clear Os SPs
      go_wp2_with fail
      refine (toBoard_any _ _ _ _ _ _ _ (ha0.keep B.out) (by omega)).mono ?_
      rintro e wv ⟨gx, rfl, ownx, hb⟩
      replace a0 := cell_keep a0 al hb
      replace a1 := cell_keep a1 al hb
      replace a2 := cell_keep a2 al hb
      replace al := lt_keep al hb
      replace l0 := cell_keep l0 ll hb
      replace l1 := cell_keep l1 ll hb
      replace ll := lt_keep ll hb
      replace OW := Lib.hid (OW.out.keep hb)
      have hs5 := Lib.hid hb.size
      replace B := Lib.hid (below_next B.out hb)
      have Ox := Lib.hid ownx; have SPx := Lib.hid ownx.span; clear ownx; clear hb
      obtain ⟨wx, hwx⟩ : ∃ wx, wx = wv := ⟨_, rfl⟩
      subst hwx
      go_wp2_with fail
      have hb := Below.refl (wx.alloc (.cells #[.int .i64 V0, .int .i64 G0, .slice (some ⟨gx, 0, none⟩) n0 n0] 30)).heap.size (wx.alloc (.cells #[.int .i64 V0, .int .i64 G0, .slice (some ⟨gx, 0, none⟩) n0 n0] 30))
      have x0 : (wx.alloc (.cells #[.int .i64 V0, .int .i64 G0, .slice (some ⟨gx, 0, none⟩) n0 n0] 30)).cell? ⟨wx.heap.size, 0, none⟩ = some (.int .i64 V0) := by simp
      have x1 : (wx.alloc (.cells #[.int .i64 V0, .int .i64 G0, .slice (some ⟨gx, 0, none⟩) n0 n0] 30)).cell? ⟨wx.heap.size, 1, none⟩ = some (.int .i64 G0) := by simp
      have x2 : (wx.alloc (.cells #[.int .i64 V0, .int .i64 G0, .slice (some ⟨gx, 0, none⟩) n0 n0] 30)).cell? ⟨wx.heap.size, 2, none⟩ = some (.slice (some ⟨gx, 0, none⟩) n0 n0) := by simp
      have xl := newbox_lt hb
      have hzx := Lib.hid xl
      replace hb := below_box hb
      replace a0 := cell_keep a0 al hb
      replace a1 := cell_keep a1 al hb
      replace a2 := cell_keep a2 al hb
      replace al := lt_keep al hb
      replace l0 := cell_keep l0 ll hb
      replace l1 := cell_keep l1 ll hb
      replace ll := lt_keep ll hb
      replace OW := Lib.hid (OW.out.keep hb)
      replace Ox := Lib.hid (Ox.out.keep hb)
      have hs6 := Lib.hid hb.size
      replace B := Lib.hid (below_next B.out hb)
      clear hb
      have hx0 : gx < wx.heap.size := (SPx.out _ rfl).2
      generalize wx.alloc (.cells #[.int .i64 V0, .int .i64 G0, .slice (some ⟨gx, 0, none⟩) n0 n0] 30) = wv at *
      generalize hx : wx.heap.size = x at *
      go_wp2_with fail
      go_region_held3 (fun w' => w'.cell? ⟨w.heap.size, 0, none⟩ = some (.int .i64 V0) ∧ w'.cell? ⟨w.heap.size, 1, none⟩ = some (.int .i64 G0) ∧ w'.cell? ⟨w.heap.size, 2, none⟩ = some (.slice A0 n0 c0) ∧ w'.cell? ⟨w.heap.size + 1, 0, none⟩ = some (.int .i64 la1) ∧ w'.cell? ⟨w.heap.size + 1, 1, none⟩ = some (.int .i64 lb1) ∧ w'.cell? ⟨x, 0, none⟩ = some (.int .i64 V0) ∧ w'.cell? ⟨x, 1, none⟩ = some (.int .i64 G0) ∧ w'.cell? ⟨x, 2, none⟩ = some (.slice (some ⟨gx, 0, none⟩) n0 n0)) (first | exact ⟨a0, a1, a2, l0, l1, x0, x1, x2⟩)
        (first
          | (go_at_call 14; refine (toLeaper_any _ _ _).mono ?_; rintro e wv ⟨rfl, hb⟩; (try replace hb := below_undrew hb); replace a0 := cell_keep a0 al hb; replace a1 := cell_keep a1 al hb; replace a2 := cell_keep a2 al hb; replace al := lt_keep al hb; replace l0 := cell_keep l0 ll hb; replace l1 := cell_keep l1 ll hb; replace ll := lt_keep ll hb; replace x0 := cell_keep x0 xl hb; replace x1 := cell_keep x1 xl hb; replace x2 := cell_keep x2 xl hb; replace xl := lt_keep xl hb; replace OW := Lib.hid (OW.out.keep hb); replace Ox := Lib.hid (Ox.out.keep hb); have hs7 := Lib.hid hb.size; replace B := Lib.hid (below_next B.out hb); clear hb)
          | (go_at_call 32; refine (impl_ForcedLeaps _ _ _ _ _ _ _ _ _ (by exact Ox.out.rd) (by exact tab_keep hT B.out)).mono ?_; rintro e wv ⟨AG, nG, cG, rfl, ownG, hb⟩; (try replace hb := below_undrew hb); replace a0 := cell_keep a0 al hb; replace a1 := cell_keep a1 al hb; replace a2 := cell_keep a2 al hb; replace al := lt_keep al hb; replace l0 := cell_keep l0 ll hb; replace l1 := cell_keep l1 ll hb; replace ll := lt_keep ll hb; replace x0 := cell_keep x0 xl hb; replace x1 := cell_keep x1 xl hb; replace x2 := cell_keep x2 xl hb; replace xl := lt_keep xl hb; replace OW := Lib.hid (OW.out.keep hb); replace Ox := Lib.hid (Ox.out.keep hb); have hs8 := Lib.hid hb.size; replace B := Lib.hid (below_next B.out hb); have OG := Lib.hid ownG; clear ownG; clear hb))
      have PS := Lib.hid (forced_small V0 G0 xs0 la1 lb1)
      have PN := Lib.hid OG.out.len
      have SZ := Lib.hid (show nG ≤ 5000 by rw [← PN.out]; have := PS.out.1; omega)
      go_wp2_with fail
      refine (eqIntSS_any _ _ _ _ _ _ _ _ _ _ _ _ OG.out OW.out (by rw [← OG.out.len]; have := PS.out.1; omega)).mono ?_
      rintro e wv ⟨rfl, hb⟩
      replace a0 := cell_keep a0 al hb
      replace a1 := cell_keep a1 al hb
      replace a2 := cell_keep a2 al hb
      replace al := lt_keep al hb
      replace l0 := cell_keep l0 ll hb
      replace l1 := cell_keep l1 ll hb
      replace ll := lt_keep ll hb
      replace x0 := cell_keep x0 xl hb
      replace x1 := cell_keep x1 xl hb
      replace x2 := cell_keep x2 xl hb
      replace xl := lt_keep xl hb
      replace OW := Lib.hid (OW.out.keep hb)
      replace Ox := Lib.hid (Ox.out.keep hb)
      replace OG := Lib.hid (OG.out.keep hb)
      have hs9 := Lib.hid hb.size
      replace B := Lib.hid (below_next B.out hb)
      clear hb
      go_wp2_with fail
      go_region_held3 (fun w' => w'.cell? ⟨w.heap.size, 0, none⟩ = some (.int .i64 V0) ∧ w'.cell? ⟨w.heap.size, 1, none⟩ = some (.int .i64 G0) ∧ w'.cell? ⟨w.heap.size, 2, none⟩ = some (.slice A0 n0 c0) ∧ w'.cell? ⟨w.heap.size + 1, 0, none⟩ = some (.int .i64 la1) ∧ w'.cell? ⟨w.heap.size + 1, 1, none⟩ = some (.int .i64 lb1) ∧ w'.cell? ⟨x, 0, none⟩ = some (.int .i64 V0) ∧ w'.cell? ⟨x, 1, none⟩ = some (.int .i64 G0) ∧ w'.cell? ⟨x, 2, none⟩ = some (.slice (some ⟨gx, 0, none⟩) n0 n0)) (first | exact ⟨a0, a1, a2, l0, l1, x0, x1, x2⟩)
        (first
          | (go_at_call 13; refine (toBoard_any _ _ _ _ _ _ _ (by exact (ha0.keep B.out).drew1) (by omega)).mono ?_; rintro e wv ⟨gy, rfl, owny, hb⟩; (try replace hb := below_undrew hb); replace a0 := cell_keep a0 al hb; replace a1 := cell_keep a1 al hb; replace a2 := cell_keep a2 al hb; replace al := lt_keep al hb; replace l0 := cell_keep l0 ll hb; replace l1 := cell_keep l1 ll hb; replace ll := lt_keep ll hb; replace x0 := cell_keep x0 xl hb; replace x1 := cell_keep x1 xl hb; replace x2 := cell_keep x2 xl hb; replace xl := lt_keep xl hb; replace OW := Lib.hid (OW.out.keep hb); replace Ox := Lib.hid (Ox.out.keep hb); replace OG := Lib.hid (OG.out.keep hb); have hs10 := Lib.hid hb.size; replace B := Lib.hid (below_next B.out hb); have Oy := Lib.hid owny; have SPy := Lib.hid owny.span; clear owny; clear hb)
          | (go_at_call 16; refine (eqBoard_any _ _ _ _ _ _ _ _ _ _ _ Ox.out.rd Oy.out.rd).mono ?_; simp only [decide_true]; rintro e wv ⟨rfl, hb⟩; (try replace hb := below_undrew hb); replace a0 := cell_keep a0 al hb; replace a1 := cell_keep a1 al hb; replace a2 := cell_keep a2 al hb; replace al := lt_keep al hb; replace l0 := cell_keep l0 ll hb; replace l1 := cell_keep l1 ll hb; replace ll := lt_keep ll hb; replace x0 := cell_keep x0 xl hb; replace x1 := cell_keep x1 xl hb; replace x2 := cell_keep x2 xl hb; replace xl := lt_keep xl hb; replace OW := Lib.hid (OW.out.keep hb); replace Ox := Lib.hid (Ox.out.keep hb); replace OG := Lib.hid (OG.out.keep hb); have hs11 := Lib.hid hb.size; replace B := Lib.hid (below_next B.out hb); clear hb Oy SPy))
      go_wp2_with fail
      refine (markBoard_any _ _ _ _ _ _ 1 _ _ Ox.out (by omega) (by omega)).mono ?_
      rintro e wv ⟨rfl, Ox', hg⟩
      replace a0 := cell_mark a0 hg (row_ne fun b hb => by have := SPx.out b hb; have := hz.out; have := hzx.out; have := hs1.out; have := hs2.out; have := hs3.out; have := hs4.out; have := hs5.out; have := hs6.out; have := hs7.out; have := hs8.out; have := hs9.out; have := hs10.out; have := hs11.out; omega)
      replace a1 := cell_mark a1 hg (row_ne fun b hb => by have := SPx.out b hb; have := hz.out; have := hzx.out; have := hs1.out; have := hs2.out; have := hs3.out; have := hs4.out; have := hs5.out; have := hs6.out; have := hs7.out; have := hs8.out; have := hs9.out; have := hs10.out; have := hs11.out; omega)
      replace a2 := cell_mark a2 hg (row_ne fun b hb => by have := SPx.out b hb; have := hz.out; have := hzx.out; have := hs1.out; have := hs2.out; have := hs3.out; have := hs4.out; have := hs5.out; have := hs6.out; have := hs7.out; have := hs8.out; have := hs9.out; have := hs10.out; have := hs11.out; omega)
      replace al := Nat.lt_of_lt_of_le al hg.size
      replace l0 := cell_mark l0 hg (row_ne fun b hb => by have := SPx.out b hb; have := hz.out; have := hzx.out; have := hs1.out; have := hs2.out; have := hs3.out; have := hs4.out; have := hs5.out; have := hs6.out; have := hs7.out; have := hs8.out; have := hs9.out; have := hs10.out; have := hs11.out; omega)
      replace l1 := cell_mark l1 hg (row_ne fun b hb => by have := SPx.out b hb; have := hz.out; have := hzx.out; have := hs1.out; have := hs2.out; have := hs3.out; have := hs4.out; have := hs5.out; have := hs6.out; have := hs7.out; have := hs8.out; have := hs9.out; have := hs10.out; have := hs11.out; omega)
      replace ll := Nat.lt_of_lt_of_le ll hg.size
      replace x0 := cell_mark x0 hg (row_ne fun b hb => by have := SPx.out b hb; have := hz.out; have := hzx.out; have := hs1.out; have := hs2.out; have := hs3.out; have := hs4.out; have := hs5.out; have := hs6.out; have := hs7.out; have := hs8.out; have := hs9.out; have := hs10.out; have := hs11.out; omega)
      replace x1 := cell_mark x1 hg (row_ne fun b hb => by have := SPx.out b hb; have := hz.out; have := hzx.out; have := hs1.out; have := hs2.out; have := hs3.out; have := hs4.out; have := hs5.out; have := hs6.out; have := hs7.out; have := hs8.out; have := hs9.out; have := hs10.out; have := hs11.out; omega)
      replace x2 := cell_mark x2 hg (row_ne fun b hb => by have := SPx.out b hb; have := hz.out; have := hzx.out; have := hs1.out; have := hs2.out; have := hs3.out; have := hs4.out; have := hs5.out; have := hs6.out; have := hs7.out; have := hs8.out; have := hs9.out; have := hs10.out; have := hs11.out; omega)
      replace xl := Nat.lt_of_lt_of_le xl hg.size
      replace OW := Lib.hid (OW.out.other hg fun g9 h91 h92 => row_ne fun b hb => by have := SPx.out b hb; have := hz.out; have := hzx.out; have := hs1.out; have := hs2.out; have := hs3.out; have := hs4.out; have := hs5.out; have := hs6.out; have := hs7.out; have := hs8.out; have := hs9.out; have := hs10.out; have := hs11.out; omega)
      replace OG := Lib.hid (OG.out.other hg fun g9 h91 h92 => row_ne fun b hb => by have := SPx.out b hb; have := hz.out; have := hzx.out; have := hs1.out; have := hs2.out; have := hs3.out; have := hs4.out; have := hs5.out; have := hs6.out; have := hs7.out; have := hs8.out; have := hs9.out; have := hs10.out; have := hs11.out; omega)
      replace B := Lib.hid (B.out.grown hg B.out.size (row_ge fun b hb => by have := SPx.out b hb; have := hz.out; have := hzx.out; have := hs1.out; have := hs2.out; have := hs3.out; have := hs4.out; have := hs5.out; have := hs6.out; have := hs7.out; have := hs8.out; have := hs9.out; have := hs10.out; have := hs11.out; omega))
      have hs12 := Lib.hid hg.size
      replace Ox := Lib.hid Ox'; clear Ox' hg
      go_wp2_with fail
      refine (eqIntSS_any _ _ _ _ _ _ _ _ _ _ _ _ OG.out OW.out (by rw [← OG.out.len]; have := PS.out.1; omega)).mono ?_
      rintro e wv ⟨rfl, hb⟩
      replace a0 := cell_keep a0 al hb
      replace a1 := cell_keep a1 al hb
      replace a2 := cell_keep a2 al hb
      replace al := lt_keep al hb
      replace l0 := cell_keep l0 ll hb
      replace l1 := cell_keep l1 ll hb
      replace ll := lt_keep ll hb
      replace x0 := cell_keep x0 xl hb
      replace x1 := cell_keep x1 xl hb
      replace x2 := cell_keep x2 xl hb
      replace xl := lt_keep xl hb
      replace OW := Lib.hid (OW.out.keep hb)
      replace Ox := Lib.hid (Ox.out.keep hb)
      replace OG := Lib.hid (OG.out.keep hb)
      have hs13 := Lib.hid hb.size
      replace B := Lib.hid (below_next B.out hb)
      clear hb
      go_wp2_with fail
      refine (markIntSS_any _ _ _ _ _ _ 1 _ OG.out PS.out.2 SZ.out (by omega)).mono ?_
      rintro e wv ⟨rfl, OG', hg⟩
      have hkk := markTo_bd (k0 := 1) PS.out.2 nG
      obtain ⟨kk, hk9⟩ : ∃ kk, kk = (markTo (forcedV V0 G0 xs0 la1 lb1) 1 nG).2 := ⟨_, rfl⟩
      rw [← hk9] at hkk ⊢
      have KK := Lib.hid hk9
      have hkk0 : decide (kk < 0) = false := by simp; omega
      clear hk9
      replace a0 := cell_in a0 hg al (by have := hz.out; have := hzx.out; have := hs1.out; have := hs2.out; have := hs3.out; have := hs4.out; have := hs5.out; have := hs6.out; have := hs7.out; have := hs8.out; have := hs9.out; have := hs10.out; have := hs11.out; have := hs12.out; have := hs13.out; omega)
      replace a1 := cell_in a1 hg al (by have := hz.out; have := hzx.out; have := hs1.out; have := hs2.out; have := hs3.out; have := hs4.out; have := hs5.out; have := hs6.out; have := hs7.out; have := hs8.out; have := hs9.out; have := hs10.out; have := hs11.out; have := hs12.out; have := hs13.out; omega)
      replace a2 := cell_in a2 hg al (by have := hz.out; have := hzx.out; have := hs1.out; have := hs2.out; have := hs3.out; have := hs4.out; have := hs5.out; have := hs6.out; have := hs7.out; have := hs8.out; have := hs9.out; have := hs10.out; have := hs11.out; have := hs12.out; have := hs13.out; omega)
      replace al := Nat.lt_of_lt_of_le al hg.size
      replace l0 := cell_in l0 hg ll (by have := hz.out; have := hzx.out; have := hs1.out; have := hs2.out; have := hs3.out; have := hs4.out; have := hs5.out; have := hs6.out; have := hs7.out; have := hs8.out; have := hs9.out; have := hs10.out; have := hs11.out; have := hs12.out; have := hs13.out; omega)
      replace l1 := cell_in l1 hg ll (by have := hz.out; have := hzx.out; have := hs1.out; have := hs2.out; have := hs3.out; have := hs4.out; have := hs5.out; have := hs6.out; have := hs7.out; have := hs8.out; have := hs9.out; have := hs10.out; have := hs11.out; have := hs12.out; have := hs13.out; omega)
      replace ll := Nat.lt_of_lt_of_le ll hg.size
      replace x0 := cell_in x0 hg xl (by have := hz.out; have := hzx.out; have := hs1.out; have := hs2.out; have := hs3.out; have := hs4.out; have := hs5.out; have := hs6.out; have := hs7.out; have := hs8.out; have := hs9.out; have := hs10.out; have := hs11.out; have := hs12.out; have := hs13.out; omega)
      replace x1 := cell_in x1 hg xl (by have := hz.out; have := hzx.out; have := hs1.out; have := hs2.out; have := hs3.out; have := hs4.out; have := hs5.out; have := hs6.out; have := hs7.out; have := hs8.out; have := hs9.out; have := hs10.out; have := hs11.out; have := hs12.out; have := hs13.out; omega)
      replace x2 := cell_in x2 hg xl (by have := hz.out; have := hzx.out; have := hs1.out; have := hs2.out; have := hs3.out; have := hs4.out; have := hs5.out; have := hs6.out; have := hs7.out; have := hs8.out; have := hs9.out; have := hs10.out; have := hs11.out; have := hs12.out; have := hs13.out; omega)
      replace xl := Nat.lt_of_lt_of_le xl hg.size
      replace OW := Lib.hid (OW.out.within hg (by have := hz.out; have := hzx.out; have := hs1.out; have := hs2.out; have := hs3.out; have := hs4.out; have := hs5.out; have := hs6.out; have := hs7.out; have := hs8.out; have := hs9.out; have := hs10.out; have := hs11.out; have := hs12.out; have := hs13.out; omega))
      replace Ox := Lib.hid (Ox.out.within hg (fun a ha => by have := SPx.out a ha; have := hz.out; have := hzx.out; have := hs1.out; have := hs2.out; have := hs3.out; have := hs4.out; have := hs5.out; have := hs6.out; have := hs7.out; have := hs8.out; have := hs9.out; have := hs10.out; have := hs11.out; have := hs12.out; have := hs13.out; omega))
      replace B := Lib.hid (below_within B.out hg (by have := hz.out; have := hzx.out; have := hs1.out; have := hs2.out; have := hs3.out; have := hs4.out; have := hs5.out; have := hs6.out; have := hs7.out; have := hs8.out; have := hs9.out; have := hs10.out; have := hs11.out; have := hs12.out; have := hs13.out; omega))
      have hs14 := Lib.hid hg.size
      replace OG := Lib.hid OG'; clear OG' hg
      go_wp2_with fail
      refine (heldIntSS_any _ _ _ _ _ (forcedV V0 G0 xs0 la1 lb1) 1 _ OG.out PS.out.2 SZ.out PN.out (by omega)).mono ?_
      rw [← KK.out]
      rintro e wv ⟨rfl, hb⟩
      replace a0 := cell_keep a0 al hb
      replace a1 := cell_keep a1 al hb
      replace a2 := cell_keep a2 al hb
      replace al := lt_keep al hb
      replace l0 := cell_keep l0 ll hb
      replace l1 := cell_keep l1 ll hb
      replace ll := lt_keep ll hb
      replace x0 := cell_keep x0 xl hb
      replace x1 := cell_keep x1 xl hb
      replace x2 := cell_keep x2 xl hb
      replace xl := lt_keep xl hb
      replace OW := Lib.hid (OW.out.keep hb)
      replace Ox := Lib.hid (Ox.out.keep hb)
      replace OG := Lib.hid (OG.out.keep hb)
      have hs15 := Lib.hid hb.size
      replace B := Lib.hid (below_next B.out hb)
      clear hb
      go_wp2_with fail
      go_region_held3 (fun w' => w'.cell? ⟨w.heap.size, 0, none⟩ = some (.int .i64 V0) ∧ w'.cell? ⟨w.heap.size, 1, none⟩ = some (.int .i64 G0) ∧ w'.cell? ⟨w.heap.size, 2, none⟩ = some (.slice A0 n0 c0) ∧ w'.cell? ⟨w.heap.size + 1, 0, none⟩ = some (.int .i64 la1) ∧ w'.cell? ⟨w.heap.size + 1, 1, none⟩ = some (.int .i64 lb1) ∧ w'.cell? ⟨x, 0, none⟩ = some (.int .i64 V0) ∧ w'.cell? ⟨x, 1, none⟩ = some (.int .i64 G0) ∧ w'.cell? ⟨x, 2, none⟩ = some (.slice (some ⟨gx, 0, none⟩) n0 n0)) (first | exact ⟨a0, a1, a2, l0, l1, x0, x1, x2⟩)
        (first
          | (go_at_call 13; refine (toBoard_any _ _ _ _ _ _ _ (by exact (ha0.keep B.out).drew1) (by omega)).mono ?_; rintro e wv ⟨gz, rfl, ownz, hb⟩; (try replace hb := below_undrew hb); replace a0 := cell_keep a0 al hb; replace a1 := cell_keep a1 al hb; replace a2 := cell_keep a2 al hb; replace al := lt_keep al hb; replace l0 := cell_keep l0 ll hb; replace l1 := cell_keep l1 ll hb; replace ll := lt_keep ll hb; replace x0 := cell_keep x0 xl hb; replace x1 := cell_keep x1 xl hb; replace x2 := cell_keep x2 xl hb; replace xl := lt_keep xl hb; replace OW := Lib.hid (OW.out.keep hb); replace Ox := Lib.hid (Ox.out.keep hb); replace OG := Lib.hid (OG.out.keep hb); (try replace Oz := Lib.hid (Oz.out.keep hb)); have hs16 := Lib.hid hb.size; replace B := Lib.hid (below_next B.out hb); have Oz := Lib.hid ownz; have SPz := Lib.hid ownz.span; clear ownz; clear hb)
          | (go_at_call 14; refine (toLeaper_any _ _ _).mono ?_; rintro e wv ⟨rfl, hb⟩; (try replace hb := below_undrew hb); replace a0 := cell_keep a0 al hb; replace a1 := cell_keep a1 al hb; replace a2 := cell_keep a2 al hb; replace al := lt_keep al hb; replace l0 := cell_keep l0 ll hb; replace l1 := cell_keep l1 ll hb; replace ll := lt_keep ll hb; replace x0 := cell_keep x0 xl hb; replace x1 := cell_keep x1 xl hb; replace x2 := cell_keep x2 xl hb; replace xl := lt_keep xl hb; replace OW := Lib.hid (OW.out.keep hb); replace Ox := Lib.hid (Ox.out.keep hb); replace OG := Lib.hid (OG.out.keep hb); (try replace Oz := Lib.hid (Oz.out.keep hb)); have hs17 := Lib.hid hb.size; replace B := Lib.hid (below_next B.out hb); clear hb)
          | (go_at_call 32; refine (impl_ForcedLeaps _ _ _ _ _ _ _ _ _ (by exact Oz.out.rd) (by exact tab_keep hT B.out)).mono ?_; rintro e wv ⟨AH, nH, cH, rfl, ownH, hb⟩; (try replace hb := below_undrew hb); replace a0 := cell_keep a0 al hb; replace a1 := cell_keep a1 al hb; replace a2 := cell_keep a2 al hb; replace al := lt_keep al hb; replace l0 := cell_keep l0 ll hb; replace l1 := cell_keep l1 ll hb; replace ll := lt_keep ll hb; replace x0 := cell_keep x0 xl hb; replace x1 := cell_keep x1 xl hb; replace x2 := cell_keep x2 xl hb; replace xl := lt_keep xl hb; replace OW := Lib.hid (OW.out.keep hb); replace Ox := Lib.hid (Ox.out.keep hb); replace OG := Lib.hid (OG.out.keep hb); have hs18 := Lib.hid hb.size; replace B := Lib.hid (below_next B.out hb); have OH := Lib.hid ownH; clear ownH; clear hb))
      all_goals
        clear Oz SPz
        go_wp2_with fail
        refine (eqIntSS_any _ _ _ _ _ _ _ _ _ _ _ _ OH.out OW.out (by rw [← OH.out.len]; have := PS.out.1; omega)).mono ?_
        rintro e wv ⟨rfl, hb⟩
        replace a0 := cell_keep a0 al hb
        replace a1 := cell_keep a1 al hb
        replace a2 := cell_keep a2 al hb
        replace al := lt_keep al hb
        replace l0 := cell_keep l0 ll hb
        replace l1 := cell_keep l1 ll hb
        replace ll := lt_keep ll hb
        replace x0 := cell_keep x0 xl hb
        replace x1 := cell_keep x1 xl hb
        replace x2 := cell_keep x2 xl hb
        replace xl := lt_keep xl hb
        replace OW := Lib.hid (OW.out.keep hb)
        replace Ox := Lib.hid (Ox.out.keep hb)
        replace OG := Lib.hid (OG.out.keep hb)
        have hs19 := Lib.hid hb.size
        replace B := Lib.hid (below_next B.out hb)
        clear hb OH
        go_wp2_with fail
        refine (heldIntSS_any _ _ _ _ _ (forcedV V0 G0 xs0 la1 lb1) 1 _ OG.out PS.out.2 SZ.out PN.out (by omega)).mono ?_
        rw [← KK.out]
        rintro e wv ⟨rfl, hb⟩
        replace a0 := cell_keep a0 al hb
        replace a1 := cell_keep a1 al hb
        replace a2 := cell_keep a2 al hb
        replace al := lt_keep al hb
        replace l0 := cell_keep l0 ll hb
        replace l1 := cell_keep l1 ll hb
        replace ll := lt_keep ll hb
        replace x0 := cell_keep x0 xl hb
        replace x1 := cell_keep x1 xl hb
        replace x2 := cell_keep x2 xl hb
        replace xl := lt_keep xl hb
        replace OW := Lib.hid (OW.out.keep hb)
        replace Ox := Lib.hid (Ox.out.keep hb)
        replace OG := Lib.hid (OG.out.keep hb)
        have hs20 := Lib.hid hb.size
        replace B := Lib.hid (below_next B.out hb)
        clear hb
        go_wp2
        go_ret
        exact ⟨rfl, B.out⟩

end Go.Proofs.YtnnonmpgkkpocaaGreatDoor
