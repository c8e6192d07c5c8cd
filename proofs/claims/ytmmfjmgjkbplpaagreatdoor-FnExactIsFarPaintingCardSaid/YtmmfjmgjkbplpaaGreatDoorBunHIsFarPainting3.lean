/-
  Ranges over a method value: the outer law whose body knows of its record, and the law within a round.
  Contracts: the ground with the cells at the distance 2.
  Contracts: the cells of a set as a list of the call's own.
  A region that draws its order within a round of a range: walked as outside of rounds, if it defers nothing.
  Contracts: withFar.
  Far paintings, in plain terms: the words of the ground, and colours of the cells at the distances 1 and 2.
  Contracts: IsFarPainting, the program.
  The walk of the exact law on IsFarPainting: it answers true, and what was there stays.
-/
import Derived.Test.YtmmfjmgjkbplpaaGreatDoorE3
import Derived.RangeFuncNested
import Derived.Test.YtmmfjmgjkbplpaaGreatDoorBunHIsFarPainting1
import Derived.Test.YtmmfjmgjkbplpaaGreatDoorE5
import Derived.Test.YtmmfjmgjkbplpaaGreatDoorProg
import Derived.OrdersIn
import Derived.OrdersHeld
import Derived.Deep.RegionHeld
import Derived.BigRegionIn
import Derived.OwnWalkIn
import Derived.Laws.Bits64b
import Derived.Test.YtmmfjmgjkbplpaaGreatDoorBunHIsFarPainting2
import Derived.Test.YtmmfjmgjkbplpaaGreatDoorLaw0
namespace Go.Proofs.YtmmfjmgjkbplpaaGreatDoor
open Go.RowKit Go.Shelf

theorem wpIn_handsL {P : Program} {n : Nat} {g : Operand} {p : Tmp} {assign body : Code} {Q : Exit → Act → World → Prop} {a : Act} {w : World} {gf : Nat} {sv : Value}
    (hg : a.eval g = .func (.func gf) #[sv] #[]) (eg : ∀ args w, (callFunc gf args).run P w = .ok (.enter gf args) w)
    {xs : List Int} {T : World → Prop} (hit : Hands P (n - 1) gf sv xs T)
    (I : List Int → World → Prop) (hT : ∀ pre w, I pre w → T w) (hI : OwnFrom w.heap.size I) (h0 : I [] w) (Ax : Int → Act → World → Prop) (hAx : ∀ x a', OwnFrom w.heap.size (fun (_ : Unit) W => Ax x a' W))
    (hassign : ∀ (l : Nat) (pre : List Int) (x : Int) (W : World) (K : Act → World → Prop), I pre W → (∀ a' W', KeepsFrom w.heap.size W W' → I pre W' → Ax x a' W' → K a' W') →
      assign.wpIn (Fence.wide.inRound l) (n - 1 - 1) P (Exit.then K (fun _ _ _ => False)) { tmps := ((#[p] : Array Tmp).zip #[Value.int .i64 x]).foldl (fun t (p, v) => t.setIfInBounds p v) a.tmps, defers := [] } W)
    (hbody : ∀ (l : Nat) (pre : List Int) (x : Int) (rest : List Int) (a' : Act) (W : World), w.heap.size ≤ l → (∃ r, W.heap[l]? = some (.loop r)) → xs = pre ++ x :: rest → I pre W → Ax x a' W →
      body.wpIn (Fence.wide.inRound l) (n - 1 - 1) P (ownPostG w.heap.size (fun _ _ => True) I (fun _ _ _ => False) (pre ++ [x]) W) a' W)
    (hdone : ∀ (D : Nat) (W : World), w.heap.size ≤ D → I xs W → W.heap[D]? = some (.deferred (some [])) → Q .normal { a with defers := { target := .collected D, args := #[] } :: a.defers } W) :
    (Code.rangeFunc g #[p] assign body).wpIn Fence.wide n P Q a w := by
  refine wpIn_rangeFunc ?_
  intro fn _
  obtain ⟨rec, hrec⟩ : ∃ rec : LoopState → Loop, rec = fun st => { state := st, pending := none, fn, tmps := a.tmps, params := #[p], assign, body, defers := w.heap.size } := ⟨_, rfl⟩
  obtain ⟨W1, hW1⟩ : ∃ W1, W1 = (w.alloc (.deferred (some []))).alloc (.loop (rec .ready)) := ⟨_, rfl⟩
  have hL1 : W1.heap[w.heap.size + 1]? = some (.loop (rec .ready)) := by
    rw [hW1]
    have h := World.alloc_heap_new (w.alloc (.deferred (some []))) (.loop (rec .ready))
    rw [World.size_alloc] at h
    exact h
  have hK1 : W1.heap[w.heap.size]? = some (.deferred (some [])) := by
    rw [hW1]
    exact (Below.heap_alloc _ _ _ (by simp)).trans (World.alloc_heap_new w _)
  have hI1 : I [] W1 := by rw [hW1]; exact hI.alloc _ (hI.alloc _ h0)
  refine ⟨w.heap.size + 1, [{ target := .collected w.heap.size, args := #[] }], W1, { target := .fn (.func gf) #[], args := #[sv, .func (.yield (w.heap.size + 1)) #[] #[]] }, W1, gf,
    #[sv, .func (.yield (w.heap.size + 1)) #[] #[]], W1, ?_, ?_, fun _ _ => trivial, ?_, (fun h => by cases h), ?_⟩
  · rw [hW1, hrec]; exact run_enterLoop_outer fn a.tmps #[p] assign body
  · simp only [resolve, hg]
    simp [go_sem]
  · simp [invoke, go_sem, eg]
  · refine (hit (w.heap.size + 1) (fun pre W => I pre W ∧ W.heap[w.heap.size + 1]? = some (.loop (rec .ready)) ∧ W.heap[w.heap.size]? = some (.deferred (some []))) W1
      (fun pre W h => hT pre W h.1) ?_ ⟨hI1, hL1, hK1⟩).mono ?_
    · rintro pre x rest W hsp ⟨hi, hl, hk⟩
      have hy := run_yield (P := P) (args := #[.int .i64 x]) hl (by rw [hrec]; rfl)
      rw [hrec] at hy
      refine ⟨fn, _, assign, body, hy, roundIn_of_wpIn trivial (hassign _ pre x W _ hi ?_)⟩
      clear hy
      intro a' Wa hkfa hia hax
      replace hl := hkfa.same _ _ (by omega) hl rfl
      replace hk := hkfa.same _ _ (Nat.le_refl _) hk rfl
      replace hi := hia
      clear hia hkfa
      have hlt := (Array.getElem?_eq_some_iff.1 hl).1
      have hbg := run_beginRound (P := P) hl (by rw [hrec])
      obtain ⟨busy, hbusy⟩ : ∃ busy : Loop, busy = { rec .ready with state := .busy } := ⟨_, rfl⟩
      rw [← hbusy] at hbg
      have hl2 : (Wa.putObj (w.heap.size + 1) (.loop busy)).heap[w.heap.size + 1]? = some (.loop busy) := World.putObj_heap_same hlt
      have hk2 : (Wa.putObj (w.heap.size + 1) (.loop busy)).heap[w.heap.size]? = some (.deferred (some [])) := (World.putObj_heap_other (by omega)).trans hk
      refine ⟨_, hbg, ?_⟩
      refine wpIn_mono (hbody (w.heap.size + 1) pre x rest a' _ (by omega) ⟨_, hl2⟩ hsp (hI.putObj _ hi (by omega) hl rfl) ((hAx x a').putObj (s := ()) _ hax (by omega) hl rfl)) ?_
      intro e a3 W3 hp
      cases e with
      | normal =>
        obtain ⟨hk3, _, hi3⟩ := hp
        have hl3 := hk3.same _ _ (by omega) hl2 rfl
        have hd3 := hk3.same _ _ (Nat.le_refl _) hk2 rfl
        have hend := run_endRound (P := P) none hl3
        have hre : ({ busy with state := if (none : Option Code).isNone then .ready else .done, pending := none } : Loop) = rec .ready := by rw [hbusy, hrec]; rfl
        rw [hre] at hend
        exact ⟨_, _, hend, rfl, hI.putObj _ hi3 (by omega) hl3 rfl, World.putObj_heap_same (Array.getElem?_eq_some_iff.1 hl3).1, (World.putObj_heap_other (by omega)).trans hd3⟩
      | ret => exact hp.2.elim
      | exit id => exact hp.2.elim
      | goto t => exact hp.2.elim
      | panic ch => exact hp.elim
      | outgrown => exact hp.elim
    · rintro e W2 ⟨⟨v, rfl⟩, hi, hl, hk⟩
      have hend := run_endLoop (P := P) hl (by rw [hrec]; simp)
      exact ⟨none, _, by rw [hrec] at hend; exact hend, hdone _ _ (Nat.le_refl _) (hI.putObj _ hi (by omega) hl rfl) ((World.putObj_heap_other (by omega)).trans hk)⟩
theorem wpIn_handsN {P : Program} {n : Nat} {g : Operand} {p : Tmp} {assign body : Code} {Q : Exit → Act → World → Prop} {a : Act} {w : World} {gf : Nat} {sv : Value} {l₀ : Nat} {r₀ : Loop} (hl₀ : w.heap[l₀]? = some (.loop r₀))
    (hg : a.eval g = .func (.func gf) #[sv] #[]) (eg : ∀ args w, (callFunc gf args).run P w = .ok (.enter gf args) w)
    {xs : List Int} {T : World → Prop} (hit : Hands P (n - 1) gf sv xs T)
    (I : List Int → World → Prop) (hT : ∀ pre w, I pre w → T w) (hI : OwnFrom w.heap.size I) (h0 : I [] w) (Ax : Int → Act → World → Prop) (hAx : ∀ x a', OwnFrom w.heap.size (fun (_ : Unit) W => Ax x a' W))
    (hassign : ∀ (l : Nat) (pre : List Int) (x : Int) (W : World) (K : Act → World → Prop), I pre W → (∀ a' W', KeepsFrom w.heap.size W W' → I pre W' → Ax x a' W' → K a' W') →
      assign.wpIn (Fence.wide.inRound l) (n - 1 - 1) P (Exit.then K (fun _ _ _ => False)) { tmps := ((#[p] : Array Tmp).zip #[Value.int .i64 x]).foldl (fun t (p, v) => t.setIfInBounds p v) a.tmps, defers := [] } W)
    (hbody : ∀ (l : Nat) (pre : List Int) (x : Int) (rest : List Int) (a' : Act) (W : World), w.heap.size ≤ l → (∃ r, W.heap[l]? = some (.loop r)) → xs = pre ++ x :: rest → I pre W → Ax x a' W →
      body.wpIn (Fence.wide.inRound l) (n - 1 - 1) P (ownPostG w.heap.size (fun _ _ => True) I (fun _ _ _ => False) (pre ++ [x]) W) a' W)
    (hdone : ∀ (W : World), I xs W → Q .normal a W) :
    (Code.rangeFunc g #[p] assign body).wpIn (Fence.wide.inRound l₀) n P Q a w := by
  refine wpIn_rangeFunc ?_
  intro fn _
  obtain ⟨rec, hrec⟩ : ∃ rec : LoopState → Loop, rec = fun st => { state := st, pending := none, fn, tmps := a.tmps, params := #[p], assign, body, defers := r₀.defers } := ⟨_, rfl⟩
  obtain ⟨W1, hW1⟩ : ∃ W1, W1 = w.alloc (.loop (rec .ready)) := ⟨_, rfl⟩
  have hL1 : W1.heap[w.heap.size]? = some (.loop (rec .ready)) := by rw [hW1]; exact World.alloc_heap_new w _
  have hI1 : I [] W1 := by rw [hW1]; exact hI.alloc _ h0
  refine ⟨w.heap.size, [], W1, { target := .fn (.func gf) #[], args := #[sv, .func (.yield (w.heap.size)) #[] #[]] }, W1, gf,
    #[sv, .func (.yield (w.heap.size)) #[] #[]], W1, ?_, ?_, fun _ _ => trivial, ?_, (fun h => by cases h), ?_⟩
  · rw [hW1, hrec]; exact run_enterLoop_inner hl₀ fn a.tmps #[p] assign body
  · simp only [resolve, hg]
    simp [go_sem]
  · simp [invoke, go_sem, eg]
  · refine (CallsIn.inRound l₀ (hit (w.heap.size) (fun pre W => I pre W ∧ W.heap[w.heap.size]? = some (.loop (rec .ready))) W1
      (fun pre W h => hT pre W h.1) ?_ ⟨hI1, hL1⟩)).mono ?_
    · rintro pre x rest W hsp ⟨hi, hl⟩
      have hy := run_yield (P := P) (args := #[.int .i64 x]) hl (by rw [hrec]; rfl)
      rw [hrec] at hy
      refine ⟨fn, _, assign, body, hy, roundIn_of_wpIn trivial (hassign _ pre x W _ hi ?_)⟩
      clear hy
      intro a' Wa hkfa hia hax
      replace hl := hkfa.same _ _ (by omega) hl rfl
      replace hi := hia
      clear hia hkfa
      have hlt := (Array.getElem?_eq_some_iff.1 hl).1
      have hbg := run_beginRound (P := P) hl (by rw [hrec])
      obtain ⟨busy, hbusy⟩ : ∃ busy : Loop, busy = { rec .ready with state := .busy } := ⟨_, rfl⟩
      rw [← hbusy] at hbg
      have hl2 : (Wa.putObj (w.heap.size) (.loop busy)).heap[w.heap.size]? = some (.loop busy) := World.putObj_heap_same hlt
      refine ⟨_, hbg, ?_⟩
      refine wpIn_mono (hbody (w.heap.size) pre x rest a' _ (by omega) ⟨_, hl2⟩ hsp (hI.putObj _ hi (by omega) hl rfl) ((hAx x a').putObj (s := ()) _ hax (by omega) hl rfl)) ?_
      intro e a3 W3 hp
      cases e with
      | normal =>
        obtain ⟨hk3, _, hi3⟩ := hp
        have hl3 := hk3.same _ _ (by omega) hl2 rfl
        have hend := run_endRound (P := P) none hl3
        have hre : ({ busy with state := if (none : Option Code).isNone then .ready else .done, pending := none } : Loop) = rec .ready := by rw [hbusy, hrec]; rfl
        rw [hre] at hend
        exact ⟨_, _, hend, rfl, hI.putObj _ hi3 (by omega) hl3 rfl, World.putObj_heap_same (Array.getElem?_eq_some_iff.1 hl3).1⟩
      | ret => exact hp.2.elim
      | exit id => exact hp.2.elim
      | goto t => exact hp.2.elim
      | panic ch => exact hp.elim
      | outgrown => exact hp.elim
    · rintro e W2 ⟨⟨v, rfl⟩, hi, hl⟩
      have hend := run_endLoop (P := P) hl (by rw [hrec]; simp)
      exact ⟨none, _, by rw [hrec] at hend; exact hend, hdone _ (hI.putObj _ hi (by omega) hl rfl)⟩
theorem wpIn_handsLB {P : Program} {n : Nat} {g : Operand} {p q : Tmp} {assign body : Code} {Q : Exit → Act → World → Prop} {a : Act} {w : World} {gf : Nat} {sv : Value}
    (hg : a.eval g = .func (.func gf) #[sv] #[]) (eg : ∀ args w, (callFunc gf args).run P w = .ok (.enter gf args) w)
    {xs : List Int} {T : World → Prop} (hit : Hands P (n - 1) gf sv xs T)
    (I : List Int → World → Prop) (hT : ∀ pre w, I pre w → T w) (hI : OwnFrom w.heap.size I) (h0 : I [] w)
    (hassign : ∀ (l : Nat) (pre : List Int) (x : Int) (W : World) (K : Act → World → Prop), I pre W → (∀ bx W', KeepsFrom w.heap.size W W' → I pre W' → w.heap.size ≤ bx → W'.heap[bx]? = some (.cells #[.int .i64 x] 3 (0, 0)) → K { tmps := (a.tmps.setIfInBounds p (.int .i64 x)).setIfInBounds q (.pointer (some ⟨bx, 0, none⟩)), defers := [] } W') →
      assign.wpIn (Fence.wide.inRound l) (n - 1 - 1) P (Exit.then K (fun _ _ _ => False)) { tmps := ((#[p] : Array Tmp).zip #[Value.int .i64 x]).foldl (fun t (p, v) => t.setIfInBounds p v) a.tmps, defers := [] } W)
    (hbody : ∀ (l : Nat) (pre : List Int) (x : Int) (rest : List Int) (bx : Nat) (W : World), w.heap.size ≤ l → (∃ r, W.heap[l]? = some (.loop r)) → xs = pre ++ x :: rest → I pre W → w.heap.size ≤ bx → W.heap[bx]? = some (.cells #[.int .i64 x] 3 (0, 0)) →
      body.wpIn (Fence.wide.inRound l) (n - 1 - 1) P (ownPostG w.heap.size (fun _ _ => True) I (fun _ _ _ => False) (pre ++ [x]) W) { tmps := (a.tmps.setIfInBounds p (.int .i64 x)).setIfInBounds q (.pointer (some ⟨bx, 0, none⟩)), defers := [] } W)
    (hdone : ∀ (D : Nat) (W : World), w.heap.size ≤ D → I xs W → W.heap[D]? = some (.deferred (some [])) → Q .normal { a with defers := { target := .collected D, args := #[] } :: a.defers } W) :
    (Code.rangeFunc g #[p] assign body).wpIn Fence.wide n P Q a w := by
  refine wpIn_handsL hg eg hit I hT hI h0 (fun x a' W => ∃ bx, a' = { tmps := (a.tmps.setIfInBounds p (.int .i64 x)).setIfInBounds q (.pointer (some ⟨bx, 0, none⟩)), defers := [] } ∧ w.heap.size ≤ bx ∧ W.heap[bx]? = some (.cells #[.int .i64 x] 3 (0, 0))) ?_
    (fun l pre x W K hi hK => hassign l pre x W K hi (fun bx W' h1 h2 h3 h4 => hK _ _ h1 h2 ⟨bx, rfl, h3, h4⟩)) ?_ hdone
  · rintro x a' _ W W' row ⟨bx, e, h1, h2⟩ hgr hr
    refine ⟨bx, e, h1, (hgr.block bx (Array.getElem?_eq_some_iff.1 h2).1 (fun e2 => ?_)).trans h2⟩
    obtain ⟨_, o, ho, hc⟩ := hr bx e2.symm
    rw [h2] at ho; cases ho; cases hc
  · rintro l pre x rest a' W h1 h2 h3 h4 ⟨bx, rfl, h5, h6⟩
    exact hbody l pre x rest bx W h1 h2 h3 h4 h5 h6
theorem wpIn_handsNQ {P : Program} {n : Nat} {g : Operand} {p q : Tmp} {assign body : Code} {Q : Exit → Act → World → Prop} {a : Act} {w : World} {gf : Nat} {sv : Value} {l₀ : Nat} {r₀ : Loop} (hl₀ : w.heap[l₀]? = some (.loop r₀))
    (hg : a.eval g = .func (.func gf) #[sv] #[]) (eg : ∀ args w, (callFunc gf args).run P w = .ok (.enter gf args) w)
    {xs : List Int} {T : World → Prop} (hit : Hands P (n - 1) gf sv xs T)
    (I : List Int → World → Prop) (hT : ∀ pre w, I pre w → T w) (hI : OwnFrom w.heap.size I) (h0 : I [] w)
    (hassign : ∀ (l : Nat) (x : Int) (W : World) (K : Act → World → Prop), K { tmps := (a.tmps.setIfInBounds p (.int .i64 x)).setIfInBounds q (.int .i64 x), defers := [] } W →
      assign.wpIn (Fence.wide.inRound l) (n - 1 - 1) P (Exit.then K (fun _ _ _ => False)) { tmps := ((#[p] : Array Tmp).zip #[Value.int .i64 x]).foldl (fun t (p, v) => t.setIfInBounds p v) a.tmps, defers := [] } W)
    (hbody : ∀ (l : Nat) (pre : List Int) (x : Int) (rest : List Int) (W : World), w.heap.size ≤ l → xs = pre ++ x :: rest → I pre W →
      body.wpIn (Fence.wide.inRound l) (n - 1 - 1) P (ownPostG w.heap.size (fun _ _ => True) I (fun _ _ _ => False) (pre ++ [x]) W) { tmps := (a.tmps.setIfInBounds p (.int .i64 x)).setIfInBounds q (.int .i64 x), defers := [] } W)
    (hdone : ∀ (W : World), I xs W → Q .normal a W) :
    (Code.rangeFunc g #[p] assign body).wpIn (Fence.wide.inRound l₀) n P Q a w :=
  wpIn_handsN hl₀ hg eg hit I hT hI h0 (fun x a' _ => a' = { tmps := (a.tmps.setIfInBounds p (.int .i64 x)).setIfInBounds q (.int .i64 x), defers := [] }) (fun _ _ _ _ _ _ h _ _ => h)
    (fun l _ x W K hi hK => hassign l x W K (hK _ _ (KeepsFrom.refl _ _) hi rfl)) (fun l pre x rest a' W h1 _ h3 h4 h5 => by subst h5; exact hbody l pre x rest W h1 h3 h4) hdone


end Go.Proofs.YtmmfjmgjkbplpaaGreatDoor

namespace Go.Proofs.YtmmfjmgjkbplpaaGreatDoor
open Go.RowKit Go.Shelf
attribute [local go_sem] Oper.semAt_some

/-- What a cell is near to, from the cells ys near to it on. -/
def farS (G : List Nat) (x : Int) (s : Nat) (ys : List Int) : Nat := ys.foldl (fun s y => s ||| clr (G.getD (1 + y.toNat) 0) x.toNat) s
def stepF (G F : List Nat) (x : Int) : List Nat := F.set (1 + x.toNat) (farS G x (F.getD (1 + x.toNat) 0) (bitsL (G.getD (1 + x.toNat) 0)))
def farF (G : List Nat) (pre : List Int) : List Nat := pre.foldl (stepF G) G
def farG (G : List Nat) : List Nat := farF G (bitsL (G.getD 0 0))
theorem farS_snoc (G : List Nat) (x : Int) (s : Nat) (ys : List Int) (y : Int) : farS G x s (ys ++ [y]) = farS G x s ys ||| clr (G.getD (1 + y.toNat) 0) x.toNat := by simp [farS, List.foldl_append]
theorem farF_snoc (G : List Nat) (pre : List Int) (x : Int) : farF G (pre ++ [x]) = stepF G (farF G pre) x := by simp [farF, List.foldl_append]
theorem getD_lt {G : List Nat} (hG : ∀ x ∈ G, x < 18446744073709551616) (i : Nat) : G.getD i 0 < 18446744073709551616 := by
  rw [List.getD_eq_getElem?_getD]
  cases h : G[i]? with
  | none => decide
  | some v => exact hG v (List.mem_of_getElem? h)
theorem clr_64 {s : Nat} (c : Nat) (h : s < 18446744073709551616) : clr s c < 18446744073709551616 := Nat.lt_of_le_of_lt (clr_le s c) h
theorem farS_lt {G : List Nat} (hG : ∀ x ∈ G, x < 18446744073709551616) (x : Int) : ∀ (ys : List Int) (s : Nat), s < 18446744073709551616 → farS G x s ys < 18446744073709551616
  | [], _, h => h
  | _ :: t, _, h => farS_lt hG x t _ (Nat.or_lt_two_pow (n := 64) h (clr_64 _ (getD_lt hG _)))
theorem stepF_len (G F : List Nat) (x : Int) : (stepF G F x).length = F.length := by simp [stepF]
theorem farF_len (G : List Nat) : ∀ (pre : List Int) (F : List Nat), (pre.foldl (stepF G) F).length = F.length
  | [], _ => rfl
  | x :: t, F => by rw [List.foldl_cons, farF_len G t, stepF_len]
theorem farF_lt {G : List Nat} (hG : ∀ x ∈ G, x < 18446744073709551616) : ∀ (pre : List Int) (F : List Nat), (∀ x ∈ F, x < 18446744073709551616) → ∀ x ∈ pre.foldl (stepF G) F, x < 18446744073709551616
  | [], _, h => h
  | y :: t, F, h => farF_lt hG t _ (fun v hv => by
    rcases List.mem_or_eq_of_mem_set hv with h1 | h1
    · exact h v h1
    · rw [h1]; exact farS_lt hG y _ _ (getD_lt h _))

set_option maxRecDepth 100000 in
theorem ground_load {W : World} {g : Nat} {L : List Nat} (h : W.heap[g]? = some (.cells (words L).toArray 48 (0, 0))) (hL : L.length = 65) :
    (Instr.loadAt 48 (.pointer (some ⟨g, 0, none⟩))).run Tryz.prog W = .ok (.agg (words L).toArray) W :=
  run_loadAt_mid (P := Tryz.prog) W g 0 48 (words L) (.struct _) (fun j v hv => by rw [Nat.zero_add, cell_of_row _ _ _ _ _ _ h]; simpa using hv) rfl rfl (by rw [info_ground]; simp [words, hL])
set_option maxRecDepth 100000 in
theorem ground_lay (w : World) {L : List Nat} (hL : L.length = 65) :
    (Instr.storeAt 48 (.pointer (some ⟨w.heap.size, 0, none⟩)) (.agg (words L).toArray)).run Tryz.prog (w.alloc (.cells Tryz.zeroCells48 48)) = .ok () (w.alloc (.cells (words L).toArray 48)) :=
  run_storeAt_new _ _ _ _ (by rw [info_ground]; simp [words, hL]) (by rw [zero_ground]; simp [words, hL]) (all_oneCell_toArray (words_one _))

end Go.Proofs.YtmmfjmgjkbplpaaGreatDoor

namespace Go.Proofs.YtmmfjmgjkbplpaaGreatDoor
open Go.RowKit Go.Shelf
attribute [local go_sem] Oper.semAt_some

/-- The list that has been gathered when the cells of pre have been handed over. -/
def CollG (w Wb : World) (q : Nat) (pre : List Int) (W' : World) : Prop :=
  Below w.heap.size w W' ∧ Wb.heap.size ≤ W'.heap.size ∧ ∃ A n c, W'.heap[q]? = some (.cells #[.slice A n c] 22 (0, 0)) ∧ OwnI 3 W' Wb.heap.size A n c pre
theorem collG_own {w Wb : World} {q : Nat} (hq : q < Wb.heap.size) (hw : w.heap.size ≤ Wb.heap.size) : OwnFrom Wb.heap.size (CollG w Wb q) := by
  rintro s W1 W2 row ⟨hb, hs, A, n, c, hqq, ho⟩ hgr hr
  have hne : ∀ k, k < Wb.heap.size → some k ≠ row := fun k hk e => by have := (hr k e.symm).1; omega
  refine ⟨hb.grown hgr (Nat.le_trans hw hs) (fun k e => Nat.le_trans hw (hr k e).1), Nat.le_trans hs hgr.size, A, n, c, (hgr.block q (by omega) (hne _ hq)).trans hqq, ho.other hgr ?_⟩
  intro ad e er
  obtain ⟨_, ob, h1, h2⟩ := hr _ er.symm
  rcases ho.2 with ⟨e1, _⟩ | ⟨g, cap, cur, e1, _, e2, _⟩
  · rw [e] at e1; cases e1
  · rw [e] at e1
    have : ad = ⟨g, 0, none⟩ := by injection e1 with e3; injection e3
    rw [this, e2] at h1
    cases h1
    cases h2
theorem bitsL_len (s : Nat) : (bitsL s).length ≤ 64 := by
  unfold bitsL
  rw [List.length_map]
  exact Nat.le_trans (List.length_filter_le _ _) (by simp)

end Go.Proofs.YtmmfjmgjkbplpaaGreatDoor

namespace Go.Proofs.YtmmfjmgjkbplpaaGreatDoor

def noDefer (ops : Array Oper) : Bool := ops.all fun o => match o.op with | .defer _ => false | _ => true
theorem noDefer_at {ops : Array Oper} (h : noDefer ops = true) {i : Nat} {o : Oper} (ho : ops[i]? = some o) (c : Call) : o.op ≠ .defer c := by
  intro e
  have h1 := Array.all_eq_true_iff_forall_mem.1 h o (Array.mem_of_getElem? ho)
  rw [e] at h1
  cases h1
theorem wpIn_round_op {l n : Nat} {P : Program} {o : Oper} {a : Act} {w : World} {K : Act → World → Prop} {Q : Exit → Act → World → Prop} (hd : ∀ c, o.op ≠ .defer c)
    (h : o.wp P a w K Q) : o.wpIn (Fence.wide.inRound l) n P a w K Q := by
  refine ⟨fun _ _ => trivial, ?_⟩
  rw [Oper.semAt_plain _ _ _ hd]
  unfold Oper.wp at h
  generalize (execOp a.eval o).run P w = r at h
  cases r with
  | ok x w' =>
    cases x with
    | value v => exact h
    | skip => exact h
    | defer d => exact h
    | enter f args => exact ⟨(fun e => by cases e), callsIn_wide.2 h⟩
    | row row args =>
      refine ⟨(fun e => by cases e), fun c cs _ => ?_⟩
      obtain ⟨v, w2, h1, h2⟩ := h c cs
      exact ⟨v, w2, h1, stepsIn_wide.2 h2⟩
    | _ => exact h.elim
  | halt x w' =>
    cases x <;> exact h
theorem wpAnyIn_of_any {l n : Nat} {P : Program} {md : Region.Mode} {ops : Array Oper} {Q : Exit → Act → World → Prop} (hd : noDefer ops = true) (hL : ¬ LetsOut Q) :
    ∀ (fuel : Nat) (listed : Array Bool) (a : Act) (w : World), wpAny P md ops Q fuel listed a w → wpAnyIn (Fence.wide.inRound l) n P md ops Q fuel listed a w
  | 0, _, _, _, h => h
  | fuel + 1, listed, a, w, h => by
    refine ⟨h.1, fun i hi => ?_⟩
    have h2 : wpOp P ops Q i (wpAnyIn (Fence.wide.inRound l) n P md ops Q fuel (listed.setIfInBounds i true)) a w := wpOp_mono (fun a w => wpAnyIn_of_any hd hL fuel _ a w) (h.2 i hi)
    unfold wpOp at h2
    unfold wpOpIn
    cases ho : ops[i]? with
    | none => simpa [ho] using h2
    | some o =>
      simp only [ho] at h2 ⊢
      split
      · rename_i hw
        simp only [hw, if_true] at h2
        rcases h2 with h2 | h2
        · exact wpIn_round_op (noDefer_at hd ho) h2
        · exact absurd h2.2 hL
      · rename_i hw
        simp only [hw] at h2
        exact ⟨fun _ _ => trivial, h2⟩
/-- The beginning of a region's walk within a round: what S says is held behind every operation. -/
theorem wpIn_region_held_round {l n : Nat} {P : Program} {id : Nat} {ops : Array Oper} {Q : Exit → Act → World → Prop} {S : World → Prop} {a : Act} {w : World} (hm : P.follows .mixedOrders = true) (hd : noDefer ops = true) (hL : ¬ LetsOut Q)
    (hS : S w.drew) (h : S w.drew → wpAnyH P .any ops Q S ops.size (Array.replicate ops.size false) a w.drew) : (Code.region id ops true).wpIn (Fence.wide.inRound l) n P Q a w :=
  wpIn_region_any hm (wpAnyIn_of_any hd hL _ _ _ _ (wpAny_of_held _ _ _ _ (h hS)))
end Go.Proofs.YtmmfjmgjkbplpaaGreatDoor

namespace Go.Proofs.YtmmfjmgjkbplpaaGreatDoor
open Go.RowKit Go.Shelf
attribute [local go_sem] Oper.semAt_some

theorem farS_nil (G : List Nat) (x : Int) (s : Nat) : farS G x s [] = s := rfl
theorem set_same_getD {F : List Nat} {i : Nat} (h : i < F.length) : F.set i (F.getD i 0) = F := by
  rw [List.getD_eq_getElem?_getD, List.getElem?_eq_getElem h]; exact List.set_getElem_self h

set_option maxRecDepth 100000 in
set_option maxHeartbeats 2000000 in
theorem withFar_any (G : List Nat) (hG : G.length = 65) (hGb : ∀ x ∈ G, x < 18446744073709551616) (w : World) (hT : Tab64 w) (hgb : 0 < w.heap.size) :
    Calls Tryz.prog 19 #[.agg (words G).toArray] w fun e w' => e = .returned (.agg (words (farG G)).toArray) ∧ Below w.heap.size w w' := by
  refine (callsIn_wide (n := 9)).1 ?_
  refine callsIn_of_wp_marks Tryz.func19 rfl trivial ?_ rfl
  simp only [Tryz.ntmps19, List.size_toArray, List.length_cons, List.length_nil, Nat.reduceAdd, Nat.reduceSub, Array.replicate_succ, Array.replicate_zero, List.push_toArray, List.append_toArray, List.nil_append, List.cons_append]
  have HT := Lib.hid hT
  have HGB := Lib.hid hGb
  clear hT hGb
  obtain ⟨W1, hW1⟩ : ∃ W1, W1 = (w.alloc (.cells (words G).toArray 48)).alloc (.cells Tryz.zeroCells48 48) := ⟨_, rfl⟩
  have hs1 : W1.heap.size = w.heap.size + 1 + 1 := by rw [hW1]; simp
  have hg1 : W1.heap[w.heap.size]? = some (.cells (words G).toArray 48 (0, 0)) := by
    rw [hW1, Below.heap_alloc _ _ _ (by simp)]; exact World.alloc_heap_new _ _
  have hr1 : W1.heap[w.heap.size + 1]? = some (.cells Tryz.zeroCells48 48 (0, 0)) := by
    have h := World.alloc_heap_new (w.alloc (.cells (words G).toArray 48)) (.cells Tryz.zeroCells48 48)
    rw [hW1]; rw [World.size_alloc] at h; exact h
  have hb1 : Below w.heap.size w W1 := by rw [hW1]; exact ((Below.refl _ _).alloc (Nat.le_refl _) _).alloc (by simp) _
  have hld := ground_load hg1 hG
  have hst := ground_lay W1 hG
  have hg2 := (Below.heap_alloc W1 (.cells (words G).toArray 48) w.heap.size (by omega)).trans hg1
  have hr2 := (Below.heap_alloc W1 (.cells (words G).toArray 48) (w.heap.size + 1) (by omega)).trans hr1
  have hf2 := World.alloc_heap_new W1 (.cells (words G).toArray 48)
  have hb2 := hb1.alloc hb1.size (.cells (words G).toArray 48)
  have hs2 : (W1.alloc (.cells (words G).toArray 48)).heap.size = w.heap.size + 3 := by rw [World.size_alloc]; omega
  rw [hs1] at hst hf2
  obtain ⟨W2, hW2⟩ : ∃ W2, W2 = W1.alloc (.cells (words G).toArray 48) := ⟨_, rfl⟩
  rw [← hW2] at hst hg2 hf2 hb2 hs2 hr2
  have HH := Lib.hid hg2; have HF := Lib.hid hf2; have HR := Lib.hid hr2
  have hall : W2.cell? ⟨w.heap.size, 0, none⟩ = some (.int .u64 ((G.getD 0 0 : Nat) : Int)) := by
    rw [cell_of_row _ _ _ _ _ _ hg2, List.getElem?_toArray, words, List.getElem?_map, List.getD_eq_getElem?_getD, List.getElem?_eq_getElem (by omega)]; rfl
  subst hW1
  clear hr1 hb1 hg2 hf2 hr2 hg1 hW2
  gi_wp2_with (first | refine wpIn_load_run 48 _ _ _ rfl rfl hld ?_ | refine wpIn_store_run 48 _ _ _ _ rfl rfl rfl hst ?_)
  clear hld hst
  have hit := each_hands (9 - 1) _ (getD_lt HGB.out 0)
  obtain ⟨f, hf⟩ : ∃ f, f = w.heap.size + 1 + 1 := ⟨_, rfl⟩
  rw [← hf] at HF ⊢
  have hfl : f < W2.heap.size := by omega
  have hfw : w.heap.size + 1 < f := by omega
  clear hf
  have h0 : MidC W2 f 48 (fun pre => (words (farF G pre)).toArray) (fun _ => True) [] W2 := ⟨World.grownBy.refl _ _, (show W2.heap[f]? = some (.cells (words G).toArray 48 (0, 0)) from HF.out), trivial⟩
  have hgb2 := hb2
  refine wpIn_handsLB (q := 4) (by go_simp) (fun args w => by simp [go_sem]) hit (MidC W2 f 48 (fun pre => (words (farF G pre)).toArray) (fun _ => True))
    (fun pre w' h => HT.out.keep hgb (hb2.grown h.1 hb2.size (fun k e => by cases e; omega))) (midC_own hfl) h0 ?_ ?_ ?_
  · intro l pre x W' K hI hK
    have HK := Lib.hid hK
    clear hK
    gi_wp2
    refine HK.out W'.heap.size _ ?_ ?_ hI.1.size (World.alloc_heap_new _ _)
    · exact KeepsFrom.of_grownBy (World.grownBy_alloc W' _ none) (fun j e => by cases e)
    · exact midC_own hfl pre _ _ _ hI (World.grownBy_alloc W' _ none) (fun r e => by cases e)
  · rintro l pre x rest bx W' hl ⟨r₀, hlr⟩ hsp hI hbx hbc
    have hxb : x ∈ bitsL (G.getD 0 0) := by rw [hsp]; simp
    obtain ⟨h0x, h1x, -⟩ := bitsL_mem.1 hxb
    obtain ⟨gx, hgx0⟩ : ∃ gx, gx = G.getD (1 + x.toNat) 0 := ⟨_, rfl⟩
    have HGX := Lib.hid hgx0
    have hgx : W'.cell? ⟨w.heap.size, 1 + x.toNat, none⟩ = some (.int .u64 (gx : Int)) := by
      rw [hgx0, cell_of_row _ _ _ _ _ _ ((hI.1.block w.heap.size (by omega) (by simp; omega)).trans HH.out), List.getElem?_toArray, words, List.getElem?_map, List.getD_eq_getElem?_getD, List.getElem?_eq_getElem (by omega)]; rfl
    have hbxc : W'.cell? ⟨bx, 0, none⟩ = some (.int .i64 x) := by rw [cell_of_row _ _ _ _ _ _ hbc]; rfl
    have hit2 := each_hands (9 - 1 - 1 - 1) gx (by rw [hgx0]; exact getD_lt HGB.out (1 + x.toNat))
    have hsW := hI.1.size
    obtain ⟨F, hF⟩ : ∃ F, F = farF G pre := ⟨_, rfl⟩
    have HFE := Lib.hid hF
    have HI0 := Lib.hid hI; have HBC := Lib.hid hbc; have HLR := Lib.hid hlr
    have HFL := Lib.hid (show F.length = 65 by rw [hF, farF, farF_len]; exact hG)
    have HF64 := Lib.hid (show ∀ v ∈ F, v < 18446744073709551616 by rw [hF]; exact farF_lt HGB.out pre G HGB.out)
    have hgo := HI0.out.2.1
    clear hI hsp hbc hit h0 hlr hF hgx0
    gi_wp2
    refine wpIn_handsNQ (q := 5) HLR.out rfl (fun args w => by simp [go_sem]) hit2 (fun pre2 V => MidC W2 f 48 (fun pre2 => (words (F.set (1 + x.toNat) (farS G x (F.getD (1 + x.toNat) 0) pre2))).toArray) (fun _ => True) pre2 V ∧ V.heap[bx]? = some (.cells #[.int .i64 x] 3 (0, 0)) ∧ KeepsFrom W2.heap.size W' V)
      (fun pre2 w' h => HT.out.keep hgb (hb2.grown h.1.1 hb2.size (fun k e => by cases e; omega))) (fun s W1 W2' row h hgr hr => ⟨midC_own hfl s _ _ _ h.1 hgr (fun r e => ⟨Nat.le_trans hsW (hr r e).1, (hr r e).2⟩), (hgr.block bx (Array.getElem?_eq_some_iff.1 h.2.1).1 (fun e2 => by
        obtain ⟨_, o, ho, hc⟩ := hr bx e2.symm
        have := h.2.1; rw [this] at ho; cases ho; cases hc)).trans h.2.1, ownFrom_keepsFrom (β := Unit) (B := W2.heap.size) (w₀ := W') (Nat.le_refl _) () W1 W2' row h.2.2 hgr (fun r e => hr r e)⟩) ⟨⟨HI0.out.1, by show W'.heap[f]? = some (.cells (words (F.set (1 + x.toNat) (farS G x (F.getD (1 + x.toNat) 0) []))).toArray 48 (0, 0)); rw [farS_nil, set_same_getD (by rw [HFL.out]; omega), HFE.out]; exact HI0.out.2.1, trivial⟩, HBC.out, KeepsFrom.refl _ _⟩ ?_ ?_ ?_
    · intro l x W' K hK
      gi_wp2
      exact hK
    · rintro l2 pre2 y rest2 W5 hl2 hsp2 ⟨⟨hgw, hrw, _⟩, hb5, hk5⟩
      have hyb : y ∈ bitsL gx := by rw [hsp2]; simp
      obtain ⟨h0y, h1y, -⟩ := bitsL_mem.1 hyb
      obtain ⟨gy, hgy⟩ : ∃ gy, gy = G.getD (1 + y.toNat) 0 := ⟨_, rfl⟩
      have HGY := Lib.hid hgy
      have HY64 := Lib.hid (show gy < 18446744073709551616 by rw [hgy]; exact getD_lt HGB.out _)
      obtain ⟨fx, hfx⟩ : ∃ fx, fx = farS G x (F.getD (1 + x.toNat) 0) pre2 := ⟨_, rfl⟩
      have HFX := Lib.hid hfx
      have hfx64 : fx < 18446744073709551616 := by rw [hfx]; exact farS_lt HGB.out x pre2 _ (getD_lt HF64.out _)
      replace hrw : W5.heap[f]? = some (.cells (words (F.set (1 + x.toNat) fx)).toArray 48 (0, 0)) := by rw [hfx]; exact hrw
      have hcl : clr gy x.toNat < 18446744073709551616 := clr_64 _ HY64.out
      have hor := bits_or_u64_nat fx (clr gy x.toNat) hfx64 hcl
      have hgyc : W5.cell? ⟨w.heap.size, 1 + y.toNat, none⟩ = some (.int .u64 (gy : Int)) := by
        rw [cell_of_row _ _ _ _ _ _ ((hgw.block w.heap.size (by omega) (by simp; omega)).trans HH.out), List.getElem?_toArray, words, List.getElem?_map, hgy, List.getD_eq_getElem?_getD, List.getElem?_eq_getElem (by omega)]; rfl
      have hbx5 : W5.cell? ⟨bx, 0, none⟩ = some (.int .i64 x) := by rw [cell_of_row _ _ _ _ _ _ hb5]; rfl
      have hfc : W5.cell? ⟨f, 1 + x.toNat, none⟩ = some (.int .u64 (fx : Int)) := by
        rw [cell_of_row _ _ _ _ _ _ hrw, List.getElem?_toArray, words, List.getElem?_map, List.getElem?_set_self (by rw [HFL.out]; omega)]; rfl
      have hff : W5.frozen? ⟨f, 1 + x.toNat, none⟩ = false := frozen_of_row _ _ _ _ _ hrw
      have HWO := Lib.hid (show ∀ w9 : World, Calls Tryz.prog 34 #[.int .u64 (gy : Int), .int .i64 x] w9 fun e w' => e = .returned (.int .u64 (clr gy x.toNat : Int)) ∧ w9 = w' from fun w9 => by
        have h := without_any gy x.toNat HY64.out (by omega) w9
        rw [Int.toNat_of_nonneg h0x] at h
        exact h)
      have hne1 : bx ≠ f := by omega
      have hne2 : w.heap.size ≠ f := by omega
      have HCUR := Lib.hid (show W5.drew.cell? ⟨bx, 0, none⟩ = some (.int .i64 x) ∧ W5.drew.cell? ⟨w.heap.size, 1 + y.toNat, none⟩ = some (.int .u64 (gy : Int)) from ⟨hbx5, hgyc⟩)
      have HFIN := Lib.hid (show ownPostG W'.heap.size (fun _ _ => True) (fun pre2 V => MidC W2 f 48 (fun pre2 => (words (F.set (1 + x.toNat) (farS G x (F.getD (1 + x.toNat) 0) pre2))).toArray) (fun _ => True) pre2 V ∧ V.heap[bx]? = some (.cells #[.int .i64 x] 3 (0, 0)) ∧ KeepsFrom W2.heap.size W' V) (fun _ _ _ => False) (pre2 ++ [y]) W5 .normal {tmps := #[], defers := []} (W5.drew.setCell ⟨f, 1 + x.toNat, none⟩ (.int .u64 ((fx ||| clr gy x.toNat : Nat) : Int))) from by
        have hgs : W5.grownBy (W5.drew.setCell ⟨f, 1 + x.toNat, none⟩ (.int .u64 ((fx ||| clr gy x.toNat : Nat) : Int))) (some f) := (show W5.grownBy W5.drew (some f) from ⟨rfl, rfl, rfl, Nat.le_refl _, fun _ _ _ => rfl⟩).trans (grown_set W5.drew f (1 + x.toNat) _)
        have hks : KeepsFrom W2.heap.size W5 (W5.drew.setCell ⟨f, 1 + x.toNat, none⟩ (.int .u64 ((fx ||| clr gy x.toNat : Nat) : Int))) := KeepsFrom.of_grownBy hgs (fun j e => by cases e; omega)
        refine ⟨⟨hks.size, fun k o hB hk ho => hks.same k o (Nat.le_trans hsW hB) hk ho⟩, trivial, ⟨hgw.trans hgs, ?_, trivial⟩, (hgs.block bx (Array.getElem?_eq_some_iff.1 hb5).1 (by simp; omega)).trans hb5, hk5.trans hks⟩
        have h := heap_set (W := W5.drew) (j := 1 + x.toNat) (.int .u64 ((fx ||| clr gy x.toNat : Nat) : Int)) hrw
        rw [h]
        show _ = some (Obj.cells (words (F.set (1 + x.toNat) (farS G x (F.getD (1 + x.toNat) 0) (pre2 ++ [y])))).toArray 48 (0, 0))
        rw [farS_snoc, ← HFX.out, ← HGY.out]
        simp [words, List.map_set, List.set_set])
      clear hyb hgy hfx hgw hrw hb5 hk5 hsp2 hit2
      gi_wp2
      refine wpIn_region_held_round (S := fun w' => w'.cell? ⟨bx, 0, none⟩ = some (.int .i64 x) ∧ w'.cell? ⟨w.heap.size, 1 + y.toNat, none⟩ = some (.int .u64 (gy : Int))) (by kernel_rfl) (by kernel_rfl) (fun ⟨_, _, h⟩ => h) HCUR.out (fun hHeld => ?_)
      refine wpAnyH_take (i := 0) (oi := ⟨_, _, _, _, _, _⟩) (v := ?_) rfl (by kernel_rfl) (by kernel_rfl) (by kernel_rfl) (fun _ _ _ h => h) (Or.inl ⟨by rfl, ?_⟩) (by assumption) ?_
      rotate_left
      · intro w hSw
        (try dsimp only at hSw)
        obtain ⟨hSa, hSb⟩ := hSw
        go_simp
        (try with_reducible rfl)
      (try simp only [Act.put, List.setIfInBounds_toArray, List.set_cons_zero, List.set_cons_succ])
      refine wpAnyH_take (i := 1) (oi := ⟨_, _, _, _, _, _⟩) (v := ?_) rfl (by kernel_rfl) (by kernel_rfl) (by kernel_rfl) (fun _ _ _ h => h) (Or.inl ⟨by rfl, ?_⟩) (by assumption) ?_
      rotate_left
      · intro w hSw
        (try dsimp only at hSw)
        obtain ⟨hSa, hSb⟩ := hSw
        go_simp
        (try with_reducible rfl)
      (try simp only [Act.put, List.setIfInBounds_toArray, List.set_cons_zero, List.set_cons_succ])
      refine wpAnyH_take (i := 2) (oi := ⟨_, _, _, _, _, _⟩) (v := ?_) rfl (by kernel_rfl) (by kernel_rfl) (by kernel_rfl) (fun _ _ _ h => h) (Or.inl ⟨by rfl, ?_⟩) (by assumption) ?_
      rotate_left
      · intro w hSw
        (try dsimp only at hSw)
        obtain ⟨hSa, hSb⟩ := hSw
        go_simp
        (try with_reducible rfl)
      (try simp only [Act.put, List.setIfInBounds_toArray, List.set_cons_zero, List.set_cons_succ])
      refine wpAnyH_take (i := 4) (oi := ⟨_, _, _, _, _, _⟩) (v := ?_) rfl (by kernel_rfl) (by kernel_rfl) (by kernel_rfl) (fun _ _ _ h => h) (Or.inl ⟨by rfl, ?_⟩) (by assumption) ?_
      rotate_left
      · intro w hSw
        (try dsimp only at hSw)
        obtain ⟨hSa, hSb⟩ := hSw
        go_simp
        (try with_reducible rfl)
      (try simp only [Act.put, List.setIfInBounds_toArray, List.set_cons_zero, List.set_cons_succ])
      refine wpAnyH_take (i := 5) (oi := ⟨_, _, _, _, _, _⟩) (v := ?_) rfl (by kernel_rfl) (by kernel_rfl) (by kernel_rfl) (fun _ _ _ h => h) (Or.inl ⟨by rfl, ?_⟩) (by assumption) ?_
      rotate_left
      · intro w hSw
        (try dsimp only at hSw)
        obtain ⟨hSa, hSb⟩ := hSw
        go_simp
        (try with_reducible rfl)
      (try simp only [Act.put, List.setIfInBounds_toArray, List.set_cons_zero, List.set_cons_succ])
      refine wpAnyH_take (i := 6) (oi := ⟨_, _, _, _, _, _⟩) (v := ?_) rfl (by kernel_rfl) (by kernel_rfl) (by kernel_rfl) (fun _ _ _ h => h) (Or.inl ⟨by rfl, ?_⟩) (by assumption) ?_
      rotate_left
      · intro w hSw
        (try dsimp only at hSw)
        obtain ⟨hSa, hSb⟩ := hSw
        go_simp
        (try with_reducible rfl)
      (try simp only [Act.put, List.setIfInBounds_toArray, List.set_cons_zero, List.set_cons_succ])
      refine wpAnyH_take (i := 7) (oi := ⟨_, _, _, _, _, _⟩) (v := ?_) rfl (by kernel_rfl) (by kernel_rfl) (by kernel_rfl) (fun _ _ _ h => h) (Or.inl ⟨by rfl, ?_⟩) (by assumption) ?_
      rotate_left
      · intro w hSw
        (try dsimp only at hSw)
        obtain ⟨hSa, hSb⟩ := hSw
        go_simp
        (try with_reducible rfl)
      (try simp only [Act.put, List.setIfInBounds_toArray, List.set_cons_zero, List.set_cons_succ])
      refine wpAnyH_take (i := 8) (oi := ⟨_, _, _, _, _, _⟩) (v := ?_) rfl (by kernel_rfl) (by kernel_rfl) (by kernel_rfl) (fun _ _ _ h => h) (Or.inl ⟨by rfl, ?_⟩) (by assumption) ?_
      rotate_left
      · intro w hSw
        (try dsimp only at hSw)
        obtain ⟨hSa, hSb⟩ := hSw
        go_simp
        (try with_reducible rfl)
      (try simp only [Act.put, List.setIfInBounds_toArray, List.set_cons_zero, List.set_cons_succ])
      refine wpAnyH_take (i := 11) (oi := ⟨_, _, _, _, _, _⟩) (v := ?_) rfl (by kernel_rfl) (by kernel_rfl) (by kernel_rfl) (fun _ _ _ h => h) (Or.inl ⟨by rfl, ?_⟩) (by assumption) ?_
      rotate_left
      · intro w hSw
        (try dsimp only at hSw)
        obtain ⟨hSa, hSb⟩ := hSw
        go_simp
        (try with_reducible rfl)
      (try simp only [Act.put, List.setIfInBounds_toArray, List.set_cons_zero, List.set_cons_succ])
      refine wpAnyH_ready (rs := [3, 9]) (by kernel_rfl) (by simp) ?_
      refine AllReadyH.cons (o := ⟨_, _, _, _, _, _⟩) rfl (fun K hK => ?_) ?_
      · go_simp
        skip
        refine hK.out _ _ ?_ (fun hHeld => ?_)
        · (try dsimp only)
          first | exact hHeld | exact ⟨(grown_set _ _ _ _).cell hHeld.1 (by simp; omega), (grown_set _ _ _ _).cell hHeld.2 (by simp; omega)⟩
        clear hK K
        (try simp only [Act.put, List.setIfInBounds_toArray, List.set_cons_zero, List.set_cons_succ])
        refine wpAnyH_ready (rs := [9]) (by kernel_rfl) (by simp) ?_
        refine AllReadyH.cons (o := ⟨_, _, _, _, _, _⟩) rfl (fun K hK => ?_) AllReadyH.nil
        go_simp
        refine (HWO.out _).mono ?_
        rintro e w5 ⟨rfl, hww⟩
        subst hww
        dsimp only
        refine hK.out _ _ ?_ (fun hHeld => ?_)
        · (try dsimp only)
          first | exact hHeld | exact ⟨(grown_set _ _ _ _).cell hHeld.1 (by simp; omega), (grown_set _ _ _ _).cell hHeld.2 (by simp; omega)⟩
        clear hK K
        (try simp only [Act.put, List.setIfInBounds_toArray, List.set_cons_zero, List.set_cons_succ])
        refine wpAnyH_take (i := 10) (oi := ⟨_, _, _, _, _, _⟩) (v := ?_) rfl (by kernel_rfl) (by kernel_rfl) (by kernel_rfl) (fun _ _ _ h => h) (Or.inl ⟨by rfl, ?_⟩) (by assumption) ?_
        rotate_left
        · intro w hSw
          (try dsimp only at hSw)
          obtain ⟨hSa, hSb⟩ := hSw
          go_simp
          (try with_reducible rfl)
        (try simp only [Act.put, List.setIfInBounds_toArray, List.set_cons_zero, List.set_cons_succ])
        refine wpAnyH_take (i := 12) (oi := ⟨_, _, _, _, _, _⟩) (v := ?_) rfl (by kernel_rfl) (by kernel_rfl) (by kernel_rfl) (fun _ _ _ h => h) (Or.inl ⟨by rfl, ?_⟩) (by assumption) ?_
        rotate_left
        · intro w hSw
          (try dsimp only at hSw)
          obtain ⟨hSa, hSb⟩ := hSw
          go_simp
          (try with_reducible rfl)
        (try simp only [Act.put, List.setIfInBounds_toArray, List.set_cons_zero, List.set_cons_succ])
        refine wpAnyH_ready (rs := [13]) (by kernel_rfl) (by simp) ?_
        refine AllReadyH.cons (o := ⟨_, _, _, _, _, _⟩) rfl (fun K hK => ?_) AllReadyH.nil
        go_simp
        skip
        refine hK.out _ _ ?_ (fun hHeld => ?_)
        · (try dsimp only)
          first | exact hHeld | exact ⟨(grown_set _ _ _ _).cell hHeld.1 (by simp; omega), (grown_set _ _ _ _).cell hHeld.2 (by simp; omega)⟩
        clear hK K
        (try simp only [Act.put, List.setIfInBounds_toArray, List.set_cons_zero, List.set_cons_succ])
        refine wpAnyH_done (by kernel_rfl) ?_ _
        exact HFIN.out
      refine AllReadyH.cons (o := ⟨_, _, _, _, _, _⟩) rfl (fun K hK => ?_) AllReadyH.nil
      go_simp
      refine (HWO.out _).mono ?_
      rintro e w5 ⟨rfl, hww⟩
      subst hww
      dsimp only
      refine hK.out _ _ ?_ (fun hHeld => ?_)
      · (try dsimp only)
        first | exact hHeld | exact ⟨(grown_set _ _ _ _).cell hHeld.1 (by simp; omega), (grown_set _ _ _ _).cell hHeld.2 (by simp; omega)⟩
      clear hK K
      (try simp only [Act.put, List.setIfInBounds_toArray, List.set_cons_zero, List.set_cons_succ])
      refine wpAnyH_ready (rs := [3]) (by kernel_rfl) (by simp) ?_
      refine AllReadyH.cons (o := ⟨_, _, _, _, _, _⟩) rfl (fun K hK => ?_) AllReadyH.nil
      go_simp
      skip
      refine hK.out _ _ ?_ (fun hHeld => ?_)
      · (try dsimp only)
        first | exact hHeld | exact ⟨(grown_set _ _ _ _).cell hHeld.1 (by simp; omega), (grown_set _ _ _ _).cell hHeld.2 (by simp; omega)⟩
      clear hK K
      (try simp only [Act.put, List.setIfInBounds_toArray, List.set_cons_zero, List.set_cons_succ])
      refine wpAnyH_take (i := 10) (oi := ⟨_, _, _, _, _, _⟩) (v := ?_) rfl (by kernel_rfl) (by kernel_rfl) (by kernel_rfl) (fun _ _ _ h => h) (Or.inl ⟨by rfl, ?_⟩) (by assumption) ?_
      rotate_left
      · intro w hSw
        (try dsimp only at hSw)
        obtain ⟨hSa, hSb⟩ := hSw
        go_simp
        (try with_reducible rfl)
      (try simp only [Act.put, List.setIfInBounds_toArray, List.set_cons_zero, List.set_cons_succ])
      refine wpAnyH_take (i := 12) (oi := ⟨_, _, _, _, _, _⟩) (v := ?_) rfl (by kernel_rfl) (by kernel_rfl) (by kernel_rfl) (fun _ _ _ h => h) (Or.inl ⟨by rfl, ?_⟩) (by assumption) ?_
      rotate_left
      · intro w hSw
        (try dsimp only at hSw)
        obtain ⟨hSa, hSb⟩ := hSw
        go_simp
        (try with_reducible rfl)
      (try simp only [Act.put, List.setIfInBounds_toArray, List.set_cons_zero, List.set_cons_succ])
      refine wpAnyH_ready (rs := [13]) (by kernel_rfl) (by simp) ?_
      refine AllReadyH.cons (o := ⟨_, _, _, _, _, _⟩) rfl (fun K hK => ?_) AllReadyH.nil
      go_simp
      skip
      refine hK.out _ _ ?_ (fun hHeld => ?_)
      · (try dsimp only)
        first | exact hHeld | exact ⟨(grown_set _ _ _ _).cell hHeld.1 (by simp; omega), (grown_set _ _ _ _).cell hHeld.2 (by simp; omega)⟩
      clear hK K
      (try simp only [Act.put, List.setIfInBounds_toArray, List.set_cons_zero, List.set_cons_succ])
      refine wpAnyH_done (by kernel_rfl) ?_ _
      exact HFIN.out
    · rintro W5 ⟨⟨hgw, hrw, _⟩, _, hk5⟩
      have HI5 := Lib.hid (show MidC W2 f 48 (fun pre => (words (farF G pre)).toArray) (fun _ => True) (pre ++ [x]) W5 from ⟨hgw, by rw [hrw]; show some (Obj.cells (words (F.set (1 + x.toNat) (farS G x (F.getD (1 + x.toNat) 0) (bitsL gx)))).toArray 48 (0, 0)) = some (Obj.cells (words (farF G (pre ++ [x]))).toArray 48 (0, 0)); rw [farF_snoc, ← HFE.out, HGX.out]; rfl, trivial⟩)
      clear hgw hrw
      gi_wp2
      exact ⟨hk5, trivial, HI5.out⟩
  · rintro D W' hD ⟨hgw, hrw, _⟩ hd
    have hbw : Below w.heap.size w W' := hb2.grown hgw hb2.size (fun k e => by cases e; omega)
    have hRd' := (hgw.block (w.heap.size + 1) (by omega) (by simp; omega)).trans HR.out
    have hlen : (farG G).length = 65 := by rw [farG, farF, farF_len]; exact hG
    have hld := ground_load (L := farG G) hrw hlen
    have hst2 : (Instr.storeAt 48 (.pointer (some ⟨w.heap.size + 1, 0, none⟩)) (.agg (words (farG G)).toArray)).run Tryz.prog W' = .ok () (W'.setRow (w.heap.size + 1) (words (farG G)).toArray) := by
      simp only [Instr.storeAt, Instr.sureAddr, Sem.run_bind, Sem.run_pure, Result.andThen_ok]
      exact run_storeVar_row _ _ _ _ _ _ hRd' (by rw [info_ground]; simp [words, hlen]) (by rw [zero_ground]; simp [words, hlen]) (all_oneCell_toArray (words_one _))
    have hh2 := heap_setRow (c' := (words (farG G)).toArray) hRd'
    have hg2 := grown_setRow W' (w.heap.size + 1) (words (farG G)).toArray
    have hb4 : Below w.heap.size w (W'.setRow (w.heap.size + 1) (words (farG G)).toArray) := hbw.grown hg2 hbw.size (fun k e => by cases e; omega)
    have hd2 := (hg2.block D (Array.getElem?_eq_some_iff.1 hd).1 (by simp; omega)).trans hd
    generalize W'.setRow (w.heap.size + 1) (words (farG G)).toArray = W4 at hst2 hh2 hg2 hb4 hd2
    clear hrw hgw hit h0 hRd' hg2 hbw
    have HH2 := Lib.hid hh2
    clear hh2
    gi_wp2_with (first | refine wpIn_load_run 48 _ _ _ rfl rfl hld ?_ | refine wpIn_store_run 48 _ _ _ _ rfl rfl rfl hst2 ?_)
    refine ⟨by simp, .inl ⟨_, _, rfl, run_takeDeferred hd2, ?_⟩⟩
    have hne : w.heap.size + 1 ≠ D := by omega
    refine ⟨_, results_cell_row rfl _ _ _ _ (words (farG G)).toArray _ _ rfl ((World.putObj_heap_other hne).trans HH2.out) rfl rfl (by rw [info_ground]; simp [words, hlen]), rfl, ?_⟩
    exact hb4.grown (grownBy_putObj' W4 D _) hb4.size (fun k e => by cases e; omega)

end Go.Proofs.YtmmfjmgjkbplpaaGreatDoor

namespace Go.Proofs.YtmmfjmgjkbplpaaGreatDoor
open Go.RowKit

theorem fold_getD {G : List Nat} {x : Int} (h0 : 0 ≤ x) : ∀ (pre : List Int) (F : List Nat), pre.Nodup → (∀ z ∈ pre, 0 ≤ z ∧ 1 + z.toNat < F.length) →
    (pre.foldl (stepF G) F).getD (1 + x.toNat) 0 = if x ∈ pre then farS G x (F.getD (1 + x.toNat) 0) (bitsL (G.getD (1 + x.toNat) 0)) else F.getD (1 + x.toNat) 0
  | [], F, _, _ => by simp
  | z :: t, F, hn, hb => by
    rw [List.nodup_cons] at hn
    obtain ⟨hz0, hzl⟩ := hb z List.mem_cons_self
    rw [List.foldl_cons, fold_getD h0 t (stepF G F z) hn.2 (fun y hy => by rw [stepF_len]; exact hb y (List.mem_cons_of_mem _ hy))]
    by_cases e : x = z
    · subst e
      rw [if_neg hn.1, if_pos List.mem_cons_self, stepF, List.getD_eq_getElem?_getD, List.getElem?_set_self hzl]; rfl
    · have hs : (stepF G F z).getD (1 + x.toNat) 0 = F.getD (1 + x.toNat) 0 := by
        rw [stepF, List.getD_eq_getElem?_getD, List.getElem?_set_ne (by omega), ← List.getD_eq_getElem?_getD]
      rw [hs]
      by_cases hm : x ∈ t
      · rw [if_pos hm, if_pos (List.mem_cons_of_mem _ hm)]
      · rw [if_neg hm, if_neg (fun h => by rcases List.mem_cons.1 h with h | h; exact e h; exact hm h)]
theorem farS_test (G : List Nat) (x : Int) (i : Nat) : ∀ (ys : List Int) (s : Nat), (farS G x s ys).testBit i = true ↔ s.testBit i = true ∨ ∃ y ∈ ys, (clr (G.getD (1 + y.toNat) 0) x.toNat).testBit i = true
  | [], s => by simp [farS]
  | y :: t, s => by
    have hq := farS_test G x i t (s ||| clr (G.getD (1 + y.toNat) 0) x.toNat)
    rw [farS, List.foldl_cons, ← farS, hq, Nat.testBit_or, Bool.or_eq_true]
    clear hq
    constructor
    · rintro ((h | h) | ⟨z, hz, h⟩)
      · exact .inl h
      · exact .inr ⟨y, List.mem_cons_self, h⟩
      · exact .inr ⟨z, List.mem_cons_of_mem _ hz, h⟩
    · rintro (h | ⟨z, hz, h⟩)
      · exact .inl (.inl h)
      · rcases List.mem_cons.1 hz with rfl | hz
        · exact .inl (.inr h)
        · exact .inr ⟨z, hz, h⟩
theorem far_test {W H a b : Int} {xs : List Int} (hg : goodB W H xs = true) {x : Int} (hx : x ∈ cellsL W H xs) (i : Nat) :
    ((farG (gl W H xs a b (cellsL W H xs))).getD (1 + x.toNat) 0).testBit i = true ↔ (i : Int) ∈ nearL (leapsL W H xs a b) x := by
  have hcl := cells_rng64 hg
  obtain ⟨hx0, hx1⟩ := hcl x hx
  have hlb : ∀ x, ∀ y ∈ leapsL W H xs a b x, 0 ≤ y ∧ y < 64 := fun x y hy => hcl y (List.mem_filter.1 hy).1
  have hnn : ∀ x, ∀ z ∈ leapsL W H xs a b x, 0 ≤ z := fun x z hz => (hlb x z hz).1
  have hb0 : bitsL ((gl W H xs a b (cellsL W H xs)).getD 0 0) = cellsL W H xs := set_bits (cellsL_rise W H xs) hcl
  have hbx : ∀ x ∈ cellsL W H xs, bitsL ((gl W H xs a b (cellsL W H xs)).getD (1 + x.toNat) 0) = leapsL W H xs a b x := fun x hx => by
    rw [gl_near (hcl x hx).1 (hcl x hx).2 hx]
    exact set_bits ((cellsL_rise W H xs).filter _) (hlb x)
  have hnd : (cellsL W H xs).Nodup := (cellsL_pairwise W H xs).imp (fun h => by omega)
  rw [farG, farF, hb0, fold_getD hx0 _ _ hnd (fun z hz => by rw [gl_len]; have := hcl z hz; omega), if_pos hx, farS_test, hbx x hx, gl_near hx0 hx1 hx, nearL_mem]
  have t1 : ∀ y, (nearS W H xs a b y).testBit i = true ↔ (i : Int) ∈ leapsL W H xs a b y := fun y => by
    have h := near_test (a := a) (b := b) (x := y) (y := (i : Int)) (hnn y) (by omega)
    rwa [Int.toNat_natCast] at h
  have ct : ∀ y, (clr (nearS W H xs a b y) x.toNat).testBit i = true ↔ (i : Int) ∈ leapsL W H xs a b y ∧ (i : Int) ≠ x := fun y => by
    rw [clr_bit (by omega), Bool.and_eq_true, Bool.and_eq_true, decide_eq_true_eq, decide_eq_true_eq, t1]
    constructor
    · rintro ⟨h1, _, h3⟩; exact ⟨h1, fun e => h3 (by omega)⟩
    · rintro ⟨h1, h2⟩; exact ⟨h1, by have := (hlb y _ h1).2; omega, fun e => h2 (by omega)⟩
  rw [t1]
  constructor
  · rintro (h | ⟨y, hy, h⟩)
    · exact ⟨_, h, .inl rfl⟩
    · have hyc := (List.mem_filter.1 hy).1
      rw [gl_near (hcl y hyc).1 (hcl y hyc).2 hyc, ct] at h
      exact ⟨y, hy, .inr h⟩
  · rintro ⟨y, hy, h | ⟨h, hne⟩⟩
    · exact .inl (h ▸ hy)
    · have hyc := (List.mem_filter.1 hy).1
      refine .inr ⟨y, hy, ?_⟩
      rw [gl_near (hcl y hyc).1 (hcl y hyc).2 hyc, ct]
      exact ⟨h, hne⟩
theorem painted_far {W H a b : Int} {xs cs : List Int} (hg : goodB W H xs = true) (hc : goodCols W H xs cs = true) :
    ((List.range 9).all fun c => freeB (farG (gl W H xs a b (cellsL W H xs))) (paintN cs cs.length c)) = farB W H xs a b cs := by
  have hcl := cells_rng64 hg
  have hlen := good_len hc
  rw [Bool.eq_iff_iff]
  constructor
  · intro h
    unfold farB
    rw [List.all_eq_true]
    intro x hx
    rw [List.all_eq_true]
    intro y hy
    obtain ⟨hx0, hx1⟩ := hcl x hx
    have hym := nearL_in hy
    obtain ⟨hy0, hy1⟩ := hcl y hym
    obtain ⟨c, hc9, hxc⟩ := col_of hc (cellsL_mem.1 hx)
    obtain ⟨d, hd9, hyd⟩ := col_of hc (cellsL_mem.1 hym)
    have hxl : x.toNat < cs.length := by have := (hasB_iff.1 (cellsL_mem.1 hx)).1; omega
    have hyl : y.toNat < cs.length := by have := (hasB_iff.1 (cellsL_mem.1 hym)).1; omega
    rw [cAt, cAt, List.getD_eq_getElem?_getD, List.getD_eq_getElem?_getD, hxc, hyd]
    have hf := List.all_eq_true.1 h c (by simpa using hc9)
    have hz := List.all_eq_true.1 hf x (bitsL_mem.2 ⟨hx0, hx1, paintN_test.2 ⟨hxl, hxc⟩⟩)
    have hz0 : (farG (gl W H xs a b (cellsL W H xs))).getD (1 + x.toNat) 0 &&& paintN cs cs.length c = 0 := by simpa using hz
    simp only [Option.getD_some, Bool.not_eq_true', beq_eq_false_iff_ne, ne_eq]
    intro e
    have hb : ((farG (gl W H xs a b (cellsL W H xs))).getD (1 + x.toNat) 0 &&& paintN cs cs.length c).testBit y.toNat = true := by
      rw [Nat.testBit_and, (far_test hg hx y.toNat).2 (by rw [Int.toNat_of_nonneg hy0]; exact hy), paintN_test.2 ⟨hyl, by rw [hyd, ← e]⟩]; rfl
    rw [hz0] at hb
    simp at hb
  · intro h
    rw [List.all_eq_true]
    intro c hc9
    unfold freeB
    rw [List.all_eq_true]
    intro x hx
    obtain ⟨hx0, hx1, hxt⟩ := bitsL_mem.1 hx
    obtain ⟨hxl, hxc⟩ := paintN_test.1 hxt
    have hxh := has_of_col hc hxc
    rw [show ((x.toNat : Nat) : Int) = x by omega] at hxh
    have hxm := cellsL_mem.2 hxh
    rw [beq_iff_eq]
    apply Nat.eq_of_testBit_eq
    intro i
    rw [Nat.zero_testBit, Nat.testBit_and, Bool.and_eq_false_iff]
    by_cases hn : ((farG (gl W H xs a b (cellsL W H xs))).getD (1 + x.toNat) 0).testBit i = true
    · right
      rw [Bool.eq_false_iff]
      intro hp
      obtain ⟨hil, hic⟩ := paintN_test.1 hp
      have hil2 : ((i : Int)).toNat = i := by omega
      have hm := (far_test hg hxm i).1 hn
      have hq := List.all_eq_true.1 (List.all_eq_true.1 h x hxm) (i : Int) hm
      rw [cAt, cAt, List.getD_eq_getElem?_getD, List.getD_eq_getElem?_getD, hxc, hil2, hic] at hq
      simp at hq
    · left; simpa using hn

end Go.Proofs.YtmmfjmgjkbplpaaGreatDoor

namespace Go.Proofs.YtmmfjmgjkbplpaaGreatDoor
open Go.RowKit

theorem farG_len (G : List Nat) (h : G.length = 65) : (farG G).length = 65 := by rw [farG, farF, farF_len]; exact h
theorem farG_lt {G : List Nat} (h : ∀ x ∈ G, x < 18446744073709551616) : ∀ x ∈ farG G, x < 18446744073709551616 := farF_lt h _ _ h

set_option maxRecDepth 100000 in
set_option maxHeartbeats 4000000 in
theorem impl_IsFarPainting (W H : Int) (A : Option Addr) (n c : Nat) (xs : List Int) (a b : Int) (A2 : Option Addr) (m c2 : Nat) (cs : List Int) (w : World) (ha : Rd w A n xs) (hc : Rd w A2 m cs) (hTG : Tab64 w ∧ 0 < w.heap.size) :
    Calls Tryz.prog 9 #[brd W H A n c, lpr a b, .slice A2 m c2] w fun e w' => e = .returned (.tuple #[.bool (isFarV W H xs a b cs), .bool (twoV W H xs a b)]) ∧ Below w.heap.size w w' := by
  obtain ⟨hT, hgb⟩ := hTG
  have HTB := Lib.hid hT
  by_cases ht : twoV W H xs a b = true
  · have HT := Lib.hid ht
    have HG := Lib.hid (two_gK ht)
    have HLp := Lib.hid (two_lp ht)
    go_enter Tryz.func9, Tryz.ntmps9
    go_wp2_with fail
    refine (isOnE_any _ _ _ _ _ _ _ _ _ ((ha.alloc _).alloc _)).mono ?_
    rw [ht]
    rintro e wv ⟨rfl, hb⟩
    have hbx0 := below_box hb
    have a0 : wv.cell? ⟨w.heap.size, 0, none⟩ = some (.int .i64 W) := by simpa using newbox hbx0 0
    have a1 : wv.cell? ⟨w.heap.size, 1, none⟩ = some (.int .i64 H) := by simpa using newbox hbx0 1
    have a2 : wv.cell? ⟨w.heap.size, 2, none⟩ = some (.slice A n c) := by simpa using newbox hbx0 2
    have al : w.heap.size < wv.heap.size := by simpa using newbox_lt hbx0
    have l0 : wv.cell? ⟨w.heap.size + 1, 0, none⟩ = some (.int .i64 a) := by simpa using newbox hb 0
    have l1 : wv.cell? ⟨w.heap.size + 1, 1, none⟩ = some (.int .i64 b) := by simpa using newbox hb 1
    have ll : w.heap.size + 1 < wv.heap.size := by simpa using newbox_lt hb
    have B := Lib.hid (below_box hbx0)
    clear hb hbx0 ht hT
    go_wp2_with fail
    go_region_held3 (fun w' => w'.cell? ⟨w.heap.size, 0, none⟩ = some (.int .i64 W) ∧ w'.cell? ⟨w.heap.size, 1, none⟩ = some (.int .i64 H) ∧ w'.cell? ⟨w.heap.size, 2, none⟩ = some (.slice A n c) ∧ w'.cell? ⟨w.heap.size + 1, 0, none⟩ = some (.int .i64 a) ∧ w'.cell? ⟨w.heap.size + 1, 1, none⟩ = some (.int .i64 b)) (first | exact ⟨a0, a1, a2, l0, l1⟩)
      (first
        | (go_at_call 18; refine (groundOf_any W H A n c xs a b _ ?_ HG.out HLp.out ?_ ?_).mono ?_; (first | exact ha.keep B.out | exact (ha.keep B.out).drew1); (first | exact HTB.out.keep hgb B.out | exact (HTB.out.keep hgb B.out).drew1); (exact Nat.lt_of_lt_of_le hgb B.out.size); rintro e wv ⟨rfl, hb⟩; (try replace hb := below_undrew hb); replace a0 := cell_keep a0 al hb; replace a1 := cell_keep a1 al hb; replace a2 := cell_keep a2 al hb; replace l0 := cell_keep l0 ll hb; replace l1 := cell_keep l1 ll hb; replace al := lt_keep al hb; replace ll := lt_keep ll hb; replace B := Lib.hid (below_next B.out hb); clear hb)
        | (go_at_call 19; refine (withFar_any (gl W H xs a b (cellsL W H xs)) (gl_len _ _ _ _ _ _) (gl_lt HG.out) _ ?_ ?_).mono ?_; (first | exact HTB.out.keep hgb B.out | exact (HTB.out.keep hgb B.out).drew1); (exact Nat.lt_of_lt_of_le hgb B.out.size); rintro e wv ⟨rfl, hb⟩; (try replace hb := below_undrew hb); replace a0 := cell_keep a0 al hb; replace a1 := cell_keep a1 al hb; replace a2 := cell_keep a2 al hb; replace l0 := cell_keep l0 ll hb; replace l1 := cell_keep l1 ll hb; replace al := lt_keep al hb; replace ll := lt_keep ll hb; replace B := Lib.hid (below_next B.out hb); clear hb)
        | (go_at_call 20; refine (isPainted_any (farG (gl W H xs a b (cellsL W H xs))) (farG_len _ (gl_len _ _ _ _ _ _)) (farG_lt (gl_lt HG.out)) W H A n c xs A2 m c2 cs _ ?_ ?_ HG.out ?_ ?_).mono ?_; (first | exact ha.keep B.out | exact (ha.keep B.out).drew1); (first | exact hc.keep B.out | exact (hc.keep B.out).drew1); (first | exact HTB.out.keep hgb B.out | exact (HTB.out.keep hgb B.out).drew1); (exact Nat.lt_of_lt_of_le hgb B.out.size); rintro e wv ⟨rfl, hb⟩; (try replace hb := below_undrew hb); replace a0 := cell_keep a0 al hb; replace a1 := cell_keep a1 al hb; replace a2 := cell_keep a2 al hb; replace l0 := cell_keep l0 ll hb; replace l1 := cell_keep l1 ll hb; replace al := lt_keep al hb; replace ll := lt_keep ll hb; replace B := Lib.hid (below_next B.out hb); clear hb))
    all_goals go_wp2
    all_goals go_ret2
    all_goals exact ⟨by rw [isFarV, HT.out, paintedB]; cases hq : goodCols W H xs cs with | true => rw [painted_far HG.out hq]; rfl | false => rfl, B.out⟩
  · have ht' : twoV W H xs a b = false := by simpa using ht
    go_enter Tryz.func9, Tryz.ntmps9
    go_wp2_with fail
    refine (isOnE_any _ _ _ _ _ _ _ _ _ ((ha.alloc _).alloc _)).mono ?_
    rw [ht']
    rintro e wv ⟨rfl, hb⟩
    have B := Lib.hid (below_box (below_box hb))
    clear hb
    go_wp2
    go_ret2
    exact ⟨by rw [isFarV, ht']; rfl, B.out⟩

end Go.Proofs.YtmmfjmgjkbplpaaGreatDoor

namespace Go.Proofs.YtmmfjmgjkbplpaaGreatDoor
open Go.RowKit

set_option maxHeartbeats 4000000 in
set_option maxRecDepth 100000 in
theorem law_IsFarPainting (w : World) (V0 G0 : Int) (A0 : Option Addr) (n0 c0 : Nat) (xs0 : List Int) (ha0 : Rd w A0 n0 xs0) (la1 lb1 : Int) (A2 : Option Addr) (n2 c2 : Nat) (xs2 : List Int) (ha2 : Rd w A2 n2 xs2) (hT : Tab64 w ∧ 0 < w.heap.size) :
    Calls Tryz.prog 3 #[brd V0 G0 A0 n0 c0, lpr la1 lb1, .slice A2 n2 c2] w fun e w' => e = .returned (.bool true) ∧ Below w.heap.size w w' := by
  have hn9 := ha0.2.1
  have hp9 := ha2.2.1
  by_cases hnP : (n2 : Int) ≤ 1048576
  rotate_left
  · go_enter Tryz.func3, Tryz.ntmps3
    go_wp2
    go_ret
    exact ⟨rfl, (below_new (below_new (Below.refl _ _) _) _)⟩
  by_cases hnB : (n0 : Int) ≤ 1048576
  rotate_left
  · go_enter Tryz.func3, Tryz.ntmps3
    go_wp2_with fail
    refine (szBoard_any _ _ _ _ _ _ _ hn9 (by omega) (by omega)).mono ?_
    rintro e wv ⟨rfl, hb⟩
    have B := Lib.hid (below_box (below_box hb))
    clear hb
    go_wp2
    go_ret
    exact ⟨rfl, B.out⟩
  · have HPn := Lib.hid (show n2 ≤ 17179869184 by omega)
    go_enter Tryz.func3, Tryz.ntmps3
    go_wp2_with fail
    refine (szBoard_any _ _ _ _ _ _ _ hn9 (by omega) (by omega)).mono ?_
    rintro e wv ⟨rfl, hb⟩
    have hbx0 := below_box hb
    have a0 : wv.cell? ⟨w.heap.size, 0, none⟩ = some (.int .i64 V0) := by simpa using newbox hbx0 0
    have a1 : wv.cell? ⟨w.heap.size, 1, none⟩ = some (.int .i64 G0) := by simpa using newbox hbx0 1
    have a2 : wv.cell? ⟨w.heap.size, 2, none⟩ = some (.slice A0 n0 c0) := by simpa using newbox hbx0 2
    have al : w.heap.size < wv.heap.size := by simpa using newbox_lt hbx0
    have l0 : wv.cell? ⟨w.heap.size + 1, 0, none⟩ = some (.int .i64 la1) := by simpa using newbox hb 0
    have l1 : wv.cell? ⟨w.heap.size + 1, 1, none⟩ = some (.int .i64 lb1) := by simpa using newbox hb 1
    have ll : w.heap.size + 1 < wv.heap.size := by simpa using newbox_lt hb
    have B := Lib.hid (below_box hbx0)
    have hs1 := Lib.hid (below_box hbx0).size
    have hz := Lib.hid ll
    clear hb hbx0
    go_wp2_with fail
    go_region_held3 (fun w' => w'.cell? ⟨w.heap.size, 0, none⟩ = some (.int .i64 V0) ∧ w'.cell? ⟨w.heap.size, 1, none⟩ = some (.int .i64 G0) ∧ w'.cell? ⟨w.heap.size, 2, none⟩ = some (.slice A0 n0 c0) ∧ w'.cell? ⟨w.heap.size + 1, 0, none⟩ = some (.int .i64 la1) ∧ w'.cell? ⟨w.heap.size + 1, 1, none⟩ = some (.int .i64 lb1)) (first | exact ⟨a0, a1, a2, l0, l1⟩)
      (first
        | (go_at_call 6; refine (toBoard_any _ _ _ _ _ _ _ (by exact (ha0.keep B.out).drew1) (by omega)).mono ?_; rintro e wv ⟨gs, rfl, owns, hb⟩; (try replace hb := below_undrew hb); replace a0 := cell_keep a0 al hb; replace a1 := cell_keep a1 al hb; replace a2 := cell_keep a2 al hb; replace al := lt_keep al hb; replace l0 := cell_keep l0 ll hb; replace l1 := cell_keep l1 ll hb; replace ll := lt_keep ll hb; (try replace Os := Lib.hid (Os.out.keep hb)); (try replace Op := Lib.hid (Op.out.keep hb)); have hs2 := Lib.hid hb.size; replace B := Lib.hid (below_next B.out hb); have Os := Lib.hid owns; have SPs := Lib.hid owns.span; clear owns; clear hb)
        | (go_at_call 7; refine (toLeaper_any _ _ _).mono ?_; rintro e wv ⟨rfl, hb⟩; (try replace hb := below_undrew hb); replace a0 := cell_keep a0 al hb; replace a1 := cell_keep a1 al hb; replace a2 := cell_keep a2 al hb; replace al := lt_keep al hb; replace l0 := cell_keep l0 ll hb; replace l1 := cell_keep l1 ll hb; replace ll := lt_keep ll hb; (try replace Os := Lib.hid (Os.out.keep hb)); (try replace Op := Lib.hid (Op.out.keep hb)); have hs3 := Lib.hid hb.size; replace B := Lib.hid (below_next B.out hb); clear hb)
        | (go_at_call 8; refine (toIntS_any A2 n2 c2 xs2 _ ?_ ?_).mono ?_; (first | exact (ha2.keep B.out) | exact (ha2.keep B.out).drew1); (exact HPn.out); rintro e wv ⟨gp, rfl, ownp, hb⟩; (try replace hb := below_undrew hb); replace a0 := cell_keep a0 al hb; replace a1 := cell_keep a1 al hb; replace a2 := cell_keep a2 al hb; replace al := lt_keep al hb; replace l0 := cell_keep l0 ll hb; replace l1 := cell_keep l1 ll hb; replace ll := lt_keep ll hb; (try replace Os := Lib.hid (Os.out.keep hb)); have hs4 := Lib.hid hb.size; replace B := Lib.hid (below_next B.out hb); have Op := Lib.hid ownp; have SPp := Lib.hid ownp.span; clear ownp; clear hb)
        | (go_at_call 5; refine (spec_IsFarPainting _ _ _ _ _ _ _ _ _ _ _ _ _ (by exact Os.out.rd) (by exact Op.out.rd)).mono ?_; rintro e wv ⟨rfl, hb⟩; (try replace hb := below_undrew hb); replace a0 := cell_keep a0 al hb; replace a1 := cell_keep a1 al hb; replace a2 := cell_keep a2 al hb; replace al := lt_keep al hb; replace l0 := cell_keep l0 ll hb; replace l1 := cell_keep l1 ll hb; replace ll := lt_keep ll hb; have hs5 := Lib.hid hb.size; replace B := Lib.hid (below_next B.out hb); clear hb))
    all_goals
      clear Os SPs Op SPp
      go_wp2_with fail
      refine (toBoard_any _ _ _ _ _ _ _ (ha0.keep B.out) (by omega)).mono ?_
      rintro e wv ⟨gx, rfl, ownx, hb⟩
      replace a0 := cell_keep a0 al hb
      replace a1 := cell_keep a1 al hb
      replace a2 := cell_keep a2 al hb
      replace al := lt_keep al hb
      replace l0 := cell_keep l0 ll hb
      replace l1 := cell_keep l1 ll hb
      replace ll := lt_keep ll hb
      have hs6 := Lib.hid hb.size
      replace B := Lib.hid (below_next B.out hb)
      have Ox := Lib.hid ownx; have SPx := Lib.hid ownx.span; clear ownx; clear hb
      obtain ⟨wx, hwx⟩ : ∃ wx, wx = wv := ⟨_, rfl⟩
      subst hwx
      go_wp2_with fail
      have hb := Below.refl (wx.alloc (.cells #[.int .i64 V0, .int .i64 G0, .slice (some ⟨gx, 0, none⟩) n0 n0] 30)).heap.size (wx.alloc (.cells #[.int .i64 V0, .int .i64 G0, .slice (some ⟨gx, 0, none⟩) n0 n0] 30))
      have x0 : (wx.alloc (.cells #[.int .i64 V0, .int .i64 G0, .slice (some ⟨gx, 0, none⟩) n0 n0] 30)).cell? ⟨wx.heap.size, 0, none⟩ = some (.int .i64 V0) := by simp
      have x1 : (wx.alloc (.cells #[.int .i64 V0, .int .i64 G0, .slice (some ⟨gx, 0, none⟩) n0 n0] 30)).cell? ⟨wx.heap.size, 1, none⟩ = some (.int .i64 G0) := by simp
      have x2 : (wx.alloc (.cells #[.int .i64 V0, .int .i64 G0, .slice (some ⟨gx, 0, none⟩) n0 n0] 30)).cell? ⟨wx.heap.size, 2, none⟩ = some (.slice (some ⟨gx, 0, none⟩) n0 n0) := by simp
      have xl := newbox_lt hb
      have hzx := Lib.hid xl
      replace hb := below_box hb
      replace a0 := cell_keep a0 al hb
      replace a1 := cell_keep a1 al hb
      replace a2 := cell_keep a2 al hb
      replace al := lt_keep al hb
      replace l0 := cell_keep l0 ll hb
      replace l1 := cell_keep l1 ll hb
      replace ll := lt_keep ll hb
      replace Ox := Lib.hid (Ox.out.keep hb)
      have hs7 := Lib.hid hb.size
      replace B := Lib.hid (below_next B.out hb)
      clear hb
      have hx0 : gx < wx.heap.size := (SPx.out _ rfl).2
      generalize wx.alloc (.cells #[.int .i64 V0, .int .i64 G0, .slice (some ⟨gx, 0, none⟩) n0 n0] 30) = wv at *
      generalize hx : wx.heap.size = x at *
      refine (toIntS_any _ _ _ _ _ (ha2.keep B.out) (by omega)).mono ?_
      rintro e wv ⟨gq, rfl, ownq, hb⟩
      replace a0 := cell_keep a0 al hb
      replace a1 := cell_keep a1 al hb
      replace a2 := cell_keep a2 al hb
      replace al := lt_keep al hb
      replace l0 := cell_keep l0 ll hb
      replace l1 := cell_keep l1 ll hb
      replace ll := lt_keep ll hb
      replace x0 := cell_keep x0 xl hb
      replace x1 := cell_keep x1 xl hb
      replace x2 := cell_keep x2 xl hb
      replace xl := lt_keep xl hb
      replace Ox := Lib.hid (Ox.out.keep hb)
      have hs8 := Lib.hid hb.size
      replace B := Lib.hid (below_next B.out hb)
      have Oq := Lib.hid ownq; have SPq := Lib.hid ownq.span; clear ownq; clear hb
      go_wp2_with fail
      go_region_held3 (fun w' => w'.cell? ⟨w.heap.size, 0, none⟩ = some (.int .i64 V0) ∧ w'.cell? ⟨w.heap.size, 1, none⟩ = some (.int .i64 G0) ∧ w'.cell? ⟨w.heap.size, 2, none⟩ = some (.slice A0 n0 c0) ∧ w'.cell? ⟨w.heap.size + 1, 0, none⟩ = some (.int .i64 la1) ∧ w'.cell? ⟨w.heap.size + 1, 1, none⟩ = some (.int .i64 lb1) ∧ w'.cell? ⟨x, 0, none⟩ = some (.int .i64 V0) ∧ w'.cell? ⟨x, 1, none⟩ = some (.int .i64 G0) ∧ w'.cell? ⟨x, 2, none⟩ = some (.slice (some ⟨gx, 0, none⟩) n0 n0)) (first | exact ⟨a0, a1, a2, l0, l1, x0, x1, x2⟩)
        (first
          | (go_at_call 7; refine (toLeaper_any _ _ _).mono ?_; rintro e wv ⟨rfl, hb⟩; (try replace hb := below_undrew hb); replace a0 := cell_keep a0 al hb; replace a1 := cell_keep a1 al hb; replace a2 := cell_keep a2 al hb; replace al := lt_keep al hb; replace l0 := cell_keep l0 ll hb; replace l1 := cell_keep l1 ll hb; replace ll := lt_keep ll hb; replace x0 := cell_keep x0 xl hb; replace x1 := cell_keep x1 xl hb; replace x2 := cell_keep x2 xl hb; replace xl := lt_keep xl hb; replace Ox := Lib.hid (Ox.out.keep hb); replace Oq := Lib.hid (Oq.out.keep hb); have hs9 := Lib.hid hb.size; replace B := Lib.hid (below_next B.out hb); clear hb)
          | (go_at_call 9; refine (impl_IsFarPainting _ _ _ _ _ _ _ _ _ _ _ _ _ (by exact Ox.out.rd) (by exact Oq.out.rd) (by exact tab_keep hT B.out)).mono ?_; rintro e wv ⟨rfl, hb⟩; (try replace hb := below_undrew hb); replace a0 := cell_keep a0 al hb; replace a1 := cell_keep a1 al hb; replace a2 := cell_keep a2 al hb; replace al := lt_keep al hb; replace l0 := cell_keep l0 ll hb; replace l1 := cell_keep l1 ll hb; replace ll := lt_keep ll hb; replace x0 := cell_keep x0 xl hb; replace x1 := cell_keep x1 xl hb; replace x2 := cell_keep x2 xl hb; replace xl := lt_keep xl hb; replace Ox := Lib.hid (Ox.out.keep hb); replace Oq := Lib.hid (Oq.out.keep hb); have hs10 := Lib.hid hb.size; replace B := Lib.hid (below_next B.out hb); clear hb))
      go_wp2_with fail
      go_region_held3 (fun w' => w'.cell? ⟨w.heap.size, 0, none⟩ = some (.int .i64 V0) ∧ w'.cell? ⟨w.heap.size, 1, none⟩ = some (.int .i64 G0) ∧ w'.cell? ⟨w.heap.size, 2, none⟩ = some (.slice A0 n0 c0) ∧ w'.cell? ⟨w.heap.size + 1, 0, none⟩ = some (.int .i64 la1) ∧ w'.cell? ⟨w.heap.size + 1, 1, none⟩ = some (.int .i64 lb1) ∧ w'.cell? ⟨x, 0, none⟩ = some (.int .i64 V0) ∧ w'.cell? ⟨x, 1, none⟩ = some (.int .i64 G0) ∧ w'.cell? ⟨x, 2, none⟩ = some (.slice (some ⟨gx, 0, none⟩) n0 n0)) (first | exact ⟨a0, a1, a2, l0, l1, x0, x1, x2⟩)
        (first
          | (go_at_call 6; refine (toBoard_any _ _ _ _ _ _ _ (by exact (ha0.keep B.out).drew1) (by omega)).mono ?_; rintro e wv ⟨gy, rfl, owny, hb⟩; (try replace hb := below_undrew hb); replace a0 := cell_keep a0 al hb; replace a1 := cell_keep a1 al hb; replace a2 := cell_keep a2 al hb; replace al := lt_keep al hb; replace l0 := cell_keep l0 ll hb; replace l1 := cell_keep l1 ll hb; replace ll := lt_keep ll hb; replace x0 := cell_keep x0 xl hb; replace x1 := cell_keep x1 xl hb; replace x2 := cell_keep x2 xl hb; replace xl := lt_keep xl hb; replace Ox := Lib.hid (Ox.out.keep hb); replace Oq := Lib.hid (Oq.out.keep hb); have hs11 := Lib.hid hb.size; replace B := Lib.hid (below_next B.out hb); have Oy := Lib.hid owny; have SPy := Lib.hid owny.span; clear owny; clear hb)
          | (go_at_call 10; refine (eqBoard_any _ _ _ _ _ _ _ _ _ _ _ Ox.out.rd Oy.out.rd).mono ?_; simp only [decide_true]; rintro e wv ⟨rfl, hb⟩; (try replace hb := below_undrew hb); replace a0 := cell_keep a0 al hb; replace a1 := cell_keep a1 al hb; replace a2 := cell_keep a2 al hb; replace al := lt_keep al hb; replace l0 := cell_keep l0 ll hb; replace l1 := cell_keep l1 ll hb; replace ll := lt_keep ll hb; replace x0 := cell_keep x0 xl hb; replace x1 := cell_keep x1 xl hb; replace x2 := cell_keep x2 xl hb; replace xl := lt_keep xl hb; replace Ox := Lib.hid (Ox.out.keep hb); replace Oq := Lib.hid (Oq.out.keep hb); have hs12 := Lib.hid hb.size; replace B := Lib.hid (below_next B.out hb); clear hb Oy SPy))
      go_wp2_with fail
      refine (toIntS_any _ _ _ _ _ (ha2.keep B.out) (by omega)).mono ?_
      rintro e wv ⟨gy, rfl, owny, hb⟩
      replace a0 := cell_keep a0 al hb
      replace a1 := cell_keep a1 al hb
      replace a2 := cell_keep a2 al hb
      replace al := lt_keep al hb
      replace l0 := cell_keep l0 ll hb
      replace l1 := cell_keep l1 ll hb
      replace ll := lt_keep ll hb
      replace x0 := cell_keep x0 xl hb
      replace x1 := cell_keep x1 xl hb
      replace x2 := cell_keep x2 xl hb
      replace xl := lt_keep xl hb
      replace Ox := Lib.hid (Ox.out.keep hb)
      replace Oq := Lib.hid (Oq.out.keep hb)
      have hs13 := Lib.hid hb.size
      replace B := Lib.hid (below_next B.out hb)
      have Oy := Lib.hid owny; have SPy := Lib.hid owny.span; clear owny; clear hb
      go_wp2_with fail
      refine (eqIntS_any _ _ _ _ _ _ _ _ _ Oq.out.rd Oy.out.rd).mono ?_
      simp only [decide_true]
      rintro e wv ⟨rfl, hb⟩
      replace a0 := cell_keep a0 al hb
      replace a1 := cell_keep a1 al hb
      replace a2 := cell_keep a2 al hb
      replace al := lt_keep al hb
      replace l0 := cell_keep l0 ll hb
      replace l1 := cell_keep l1 ll hb
      replace ll := lt_keep ll hb
      replace x0 := cell_keep x0 xl hb
      replace x1 := cell_keep x1 xl hb
      replace x2 := cell_keep x2 xl hb
      replace xl := lt_keep xl hb
      replace Ox := Lib.hid (Ox.out.keep hb)
      replace Oq := Lib.hid (Oq.out.keep hb)
      have hs14 := Lib.hid hb.size
      replace B := Lib.hid (below_next B.out hb)
      clear hb Oy SPy
      go_wp2
      go_ret
      exact ⟨rfl, B.out⟩

end Go.Proofs.YtmmfjmgjkbplpaaGreatDoor
