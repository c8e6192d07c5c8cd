/-
  The cells of a set as an iterator whose caller may stop it; a range that may be left.
  Contracts: whether no two of some cells are near to each other.
  Contracts: the cells that are guarded, as words.
  Contracts: the cells that a set guards.
  Contracts: sets of cells.
  Guarded cells as lists; sets that are asked about.
  Pure: the walk by fewest leaps onward.
  Contracts: FewestOnward, in the model.
  Contracts: slices.MinFunc by the number of leaps onward; what is left of a ground behind a path.
  Contracts: the walk by fewest leaps onward, in the program; FewestOnward.
  Contracts: FewestOnward, the program; what the law compares.
  The walk of the exact law on FewestOnward: it answers true, and what was there stays.
-/
import Derived.Test.YtnnonmpgkkpocaaGreatDoorE3
import Derived.Test.YtnnonmpgkkpocaaGreatDoorE4
import Derived.Sort.QuietIn
import Derived.BigRegionIn
import Derived.Test.YtnnonmpgkkpocaaGreatDoorD3
import Derived.Test.YtnnonmpgkkpocaaGreatDoorB5
import Derived.Test.YtnnonmpgkkpocaaGreatDoorB9
import Derived.Test.YtnnonmpgkkpocaaGreatDoorB11
import Derived.Test.YtnnonmpgkkpocaaGreatDoorQ1
import Derived.Test.YtnnonmpgkkpocaaGreatDoorB15
import Derived.Test.YtnnonmpgkkpocaaGreatDoorQ2
import Derived.Test.YtnnonmpgkkpocaaGreatDoorS10
import Derived.Test.YtnnonmpgkkpocaaGreatDoorK1
import Derived.Test.YtnnonmpgkkpocaaGreatDoorT1
import Derived.Test.YtnnonmpgkkpocaaGreatDoorLaw0
namespace Go.Proofs.YtnnonmpgkkpocaaGreatDoor
open Go.RowKit Go.Shelf
attribute [local go_sem] Oper.semAt_some

set_option maxRecDepth 100000 in
set_option maxHeartbeats 1000000 in
/-- 'each' yields the cells of a set, least first, so long as it is told to go on; it may be told to stop. -/
theorem each_inS (n l s : Nat) (hs : s < 18446744073709551616) (J Jx : List Int → World → Prop) (W : World) (hT : ∀ pre w, J pre w → Tab64 w)
    (hY : ∀ (pre : List Int) (x : Int) (rest : List Int) (w : World), bitsL s = pre ++ x :: rest → J pre w → YieldAt Fence.wide (n - 1) Tryz.prog l #[.int .i64 x] w fun e w' => (e = .returned (.bool true) ∧ J (pre ++ [x]) w') ∨ (e = .returned (.bool false) ∧ Jx (pre ++ [x]) w'))
    (h0 : J [] W) :
    CallsIn Fence.wide n Tryz.prog 50 #[.int .u64 (s : Int), .func (.yield l) #[] #[]] W fun e w' => (∃ v, e = .returned v) ∧ (J (bitsL s) w' ∨ ∃ pre, Jx pre w') := by
  refine callsIn_of_wp Tryz.func50 rfl trivial ?_ rfl
  simp only [Tryz.ntmps50, List.size_toArray, List.length_cons, List.length_nil, Nat.reduceAdd, Nat.reduceSub, Array.replicate_succ, Array.replicate_zero, List.push_toArray, List.append_toArray, List.nil_append, List.cons_append]
  gi_wp2
  gi_loopw [0] (fun v wr => ∃ (r : Nat) (pre : List Int), v = .int .u64 (r : Int) ∧ r < 18446744073709551616 ∧ bitsL s = pre ++ bitsL r ∧ J pre wr) (fun v _ => (intOf v).toNat)
  case atStart => exact ⟨s, [], rfl, hs, rfl, h0⟩
  case round =>
    obtain ⟨r, pre, rfl, hr, hsp, hJ⟩ := hrel
    by_cases hz : r = 0
    · subst hz
      have HF := Lib.hid (show bitsL s = pre by rw [hsp, bitsL_zero, List.append_nil])
      clear hsp
      have h00 : ((((0 : Nat) : Int)) != 0) = false := rfl
      gi_wp2
      refine ⟨trivial, ?_⟩
      gi_wp2
      refine ⟨fun _ h => (by cases h), ?_⟩
      gi_wp2
      go_end0
      exact ⟨⟨_, rfl⟩, .inl (by rw [HF.out]; exact hJ)⟩
    · have hz0 : ((r : Int) == 0) = false := by simp; omega
      have hz1 : ¬ ((r : Int) = 0) := by omega
      obtain ⟨hk, hb, hlow⟩ := ctz_facts hz hr
      have hst := bitsL_step hz hr
      have hL1 := least_any r hr wr (hT pre wr hJ)
      have hclt := clr_lt hk hb
      generalize hkd : Lib.ctz 64 r = k at hk hb hlow hst hL1 hclt
      have HK := Lib.hid hkd
      have HN := Lib.hid (show bitsL s = (pre ++ [(k : Int)]) ++ bitsL (clr r k) by rw [hsp, hst]; simp)
      obtain ⟨fn, tmps, assign, body, hy, hR⟩ := hY pre (k : Int) (bitsL (clr r k)) wr (by rw [hsp, hst]) hJ
      have HC := Lib.hid hclt
      have HR := Lib.hid (Nat.lt_of_lt_of_le hclt (Nat.le_of_lt hr))
      clear hsp hst hb hlow hkd hclt
      gi_wp2
      refine ⟨trivial, (fun h => by cases h), (callsIn_wide.2 hL1).mono ?_⟩
      rintro e w' ⟨rfl, rfl⟩
      clear hL1
      gi_wp2
      refine ⟨(fun h => by cases h), hR.mono ?_⟩
      rintro e w' (⟨rfl, hJ2⟩ | ⟨rfl, hJx⟩)
      rotate_left
      · clear hR hy
        gi_wp2
        go_end0
        exact ⟨⟨_, rfl⟩, .inr ⟨_, hJx⟩⟩
      clear hR hy
      have hL2 := least_any r hr w' (hT _ w' hJ2)
      have hW2 := without_any r k hr hk w'
      rw [HK.out] at hL2
      gi_wp2
      refine ⟨trivial, (fun h => by cases h), (callsIn_wide.2 hL2).mono ?_⟩
      rintro e w'' ⟨rfl, rfl⟩
      clear hL2
      gi_wp2
      refine ⟨trivial, (fun h => by cases h), (callsIn_wide.2 hW2).mono ?_⟩
      rintro e w'' ⟨rfl, rfl⟩
      clear hW2
      gi_wp2
      go_roundw
      case rel => exact ⟨clr r k, pre ++ [(k : Int)], rfl, HR.out, HN.out, hJ2⟩
      case measure => have := HC.out; simp [intOf]; omega
/-- What an iterator with a bound receiver promises that may be told to stop. -/
def HandsS (P : Program) (n gf : Nat) (sv : Value) (xs : List Int) (T : World → Prop) : Prop :=
  ∀ (l : Nat) (J Jx : List Int → World → Prop) (W : World), (∀ pre w, J pre w → T w) →
    (∀ (pre : List Int) (x : Int) (rest : List Int) (w : World), xs = pre ++ x :: rest → J pre w → YieldAt Fence.wide (n - 1) P l #[.int .i64 x] w fun e w' => (e = .returned (.bool true) ∧ J (pre ++ [x]) w') ∨ (e = .returned (.bool false) ∧ Jx (pre ++ [x]) w')) →
    J [] W → CallsIn Fence.wide n P gf #[sv, .func (.yield l) #[] #[]] W fun e w' => (∃ v, e = .returned v) ∧ (J xs w' ∨ ∃ pre, Jx pre w')

theorem each_handsS (n s : Nat) (hs : s < 18446744073709551616) : HandsS Tryz.prog n 50 (.int .u64 (s : Int)) (bitsL s) Tab64 :=
  fun l J Jx W hT hY h0 => each_inS n l s hs J Jx W hT hY h0

theorem wpIn_handsS {P : Program} {n : Nat} {g : Operand} {p : Tmp} {assign body : Code} {Q : Exit → Act → World → Prop} {a : Act} {w : World} {gf : Nat} {sv : Value}
    (hg : a.eval g = .func (.func gf) #[sv] #[]) (eg : ∀ args w, (callFunc gf args).run P w = .ok (.enter gf args) w)
    {xs : List Int} {T : World → Prop} (hit : HandsS P (n - 1) gf sv xs T)
    (I : List Int → World → Prop) (Ix : Code → List Int → World → Prop) (hT : ∀ pre w, I pre w → T w) (hI : OwnFrom w.heap.size I) (hIx : ∀ c, OwnFrom w.heap.size (Ix c)) (h0 : I [] w) (a₁ : Int → Act)
    (hassign : ∀ (l : Nat) (x : Int) (W : World) (K : Act → World → Prop), K (a₁ x) W →
      assign.wpIn (Fence.wide.inRound l) (n - 1 - 1) P (Exit.then K (fun _ _ _ => False)) { tmps := ((#[p] : Array Tmp).zip #[Value.int .i64 x]).foldl (fun t (p, v) => t.setIfInBounds p v) a.tmps, defers := [] } W)
    (hbody : ∀ (l : Nat) (pre : List Int) (x : Int) (rest : List Int) (W : World), w.heap.size ≤ l → xs = pre ++ x :: rest → I pre W →
      body.wpIn (Fence.wide.inRound l) (n - 1 - 1) P (ownPostG w.heap.size (fun _ _ => True) I Ix (pre ++ [x]) W) (a₁ x) W)
    (hdone : ∀ (D : Nat) (W : World), w.heap.size ≤ D → I xs W → W.heap[D]? = some (.deferred (some [])) → Q .normal { a with defers := { target := .collected D, args := #[] } :: a.defers } W)
    (hstop : ∀ (D : Nat) (c : Code) (pre : List Int) (W : World), w.heap.size ≤ D → Ix c pre W → W.heap[D]? = some (.deferred (some [])) → c.wpIn Fence.wide n P Q { a with defers := { target := .collected D, args := #[] } :: a.defers } W) :
    (Code.rangeFunc g #[p] assign body).wpIn Fence.wide n P Q a w := by
  refine wpIn_rangeFunc ?_
  intro fn _
  obtain ⟨rec, hrec⟩ : ∃ rec : LoopState → Option Code → Loop, rec = fun st pe => { state := st, pending := pe, fn, tmps := a.tmps, params := #[p], assign, body, defers := w.heap.size } := ⟨_, rfl⟩
  obtain ⟨W1, hW1⟩ : ∃ W1, W1 = (w.alloc (.deferred (some []))).alloc (.loop (rec .ready none)) := ⟨_, rfl⟩
  have hL1 : W1.heap[w.heap.size + 1]? = some (.loop (rec .ready none)) := by
    rw [hW1]
    have h := World.alloc_heap_new (w.alloc (.deferred (some []))) (.loop (rec .ready none))
    rw [World.size_alloc] at h
    exact h
  have hK1 : W1.heap[w.heap.size]? = some (.deferred (some [])) := by
    rw [hW1]
    exact (Below.heap_alloc _ _ _ (by simp)).trans (World.alloc_heap_new w _)
  have hI1 : I [] W1 := by rw [hW1]; exact hI.alloc _ (hI.alloc _ h0)
  refine ⟨w.heap.size + 1, [{ target := .collected w.heap.size, args := #[] }], W1, { target := .fn (.func gf) #[], args := #[sv, .func (.yield (w.heap.size + 1)) #[] #[]] }, W1, gf,
    #[sv, .func (.yield (w.heap.size + 1)) #[] #[]], W1, ?_, ?_, fun _ _ => trivial, ?_, (fun h => by cases h), ?_⟩
  · rw [hW1, hrec]; exact run_enterLoop_outer fn a.tmps #[p] assign body
  · simp only [resolve, hg]
    simp [go_sem]
  · simp [invoke, go_sem, eg]
  · refine (hit (w.heap.size + 1) (fun pre W => I pre W ∧ W.heap[w.heap.size + 1]? = some (.loop (rec .ready none)) ∧ W.heap[w.heap.size]? = some (.deferred (some [])))
      (fun pre W => ∃ c, Ix c pre W ∧ W.heap[w.heap.size + 1]? = some (.loop (rec .done (some c))) ∧ W.heap[w.heap.size]? = some (.deferred (some []))) W1
      (fun pre W h => hT pre W h.1) ?_ ⟨hI1, hL1, hK1⟩).mono ?_
    · rintro pre x rest W hsp ⟨hi, hl, hk⟩
      have hlt := (Array.getElem?_eq_some_iff.1 hl).1
      have hy := run_yield (P := P) (args := #[.int .i64 x]) hl (by rw [hrec]; rfl)
      have hbg := run_beginRound (P := P) hl (by rw [hrec])
      obtain ⟨busy, hbusy⟩ : ∃ busy : Loop, busy = { rec .ready none with state := .busy } := ⟨_, rfl⟩
      rw [← hbusy] at hbg
      have hl2 : (W.putObj (w.heap.size + 1) (.loop busy)).heap[w.heap.size + 1]? = some (.loop busy) := World.putObj_heap_same hlt
      have hk2 : (W.putObj (w.heap.size + 1) (.loop busy)).heap[w.heap.size]? = some (.deferred (some [])) := (World.putObj_heap_other (by omega)).trans hk
      rw [hrec] at hy
      refine ⟨fn, _, assign, body, hy, roundIn_of_wpIn trivial (hassign _ x W _ ⟨_, hbg, ?_⟩)⟩
      refine wpIn_mono (hbody (w.heap.size + 1) pre x rest _ (by omega) hsp (hI.putObj _ hi (by omega) hl rfl)) ?_
      have fin : ∀ (jump : Option Code) (W3 : World), KeepsFrom w.heap.size (W.putObj (w.heap.size + 1) (.loop busy)) W3 →
          (Instr.endRound (w.heap.size + 1) jump).run P W3 = .ok (.bool jump.isNone) (W3.putObj (w.heap.size + 1) (.loop (rec (if jump.isNone then .ready else .done) jump))) ∧
          W3.heap[w.heap.size + 1]? = some (.loop busy) ∧
          (W3.putObj (w.heap.size + 1) (.loop (rec (if jump.isNone then .ready else .done) jump))).heap[w.heap.size + 1]? = some (.loop (rec (if jump.isNone then .ready else .done) jump)) ∧
          (W3.putObj (w.heap.size + 1) (.loop (rec (if jump.isNone then .ready else .done) jump))).heap[w.heap.size]? = some (.deferred (some [])) := fun jump W3 hk3 => by
        have hl3 := hk3.same _ _ (by omega) hl2 rfl
        have hend := run_endRound (P := P) jump hl3
        have hre : ({ busy with state := if jump.isNone then .ready else .done, pending := jump } : Loop) = rec (if jump.isNone then .ready else .done) jump := by rw [hbusy, hrec]
        rw [hre] at hend
        exact ⟨hend, hl3, World.putObj_heap_same (Array.getElem?_eq_some_iff.1 hl3).1, (World.putObj_heap_other (by omega)).trans (hk3.same _ _ (Nat.le_refl _) hk2 rfl)⟩
      intro e a3 W3 hp
      cases e with
      | normal =>
        obtain ⟨hk3, _, hi3⟩ := hp
        obtain ⟨hr, hl3, hl4, hk4⟩ := fin none W3 hk3
        exact ⟨_, _, hr, .inl ⟨rfl, hI.putObj _ hi3 (by omega) hl3 rfl, hl4, hk4⟩⟩
      | ret =>
        obtain ⟨hk3, hi3⟩ := hp
        obtain ⟨hr, hl3, hl4, hk4⟩ := fin (some .ret) W3 hk3
        exact ⟨_, _, hr, .inr ⟨rfl, .ret, (hIx _).putObj _ hi3 (by omega) hl3 rfl, hl4, hk4⟩⟩
      | exit id =>
        obtain ⟨hk3, hi3⟩ := hp
        obtain ⟨hr, hl3, hl4, hk4⟩ := fin (some (.exit id)) W3 hk3
        exact ⟨_, _, hr, .inr ⟨rfl, .exit id, (hIx _).putObj _ hi3 (by omega) hl3 rfl, hl4, hk4⟩⟩
      | goto t =>
        obtain ⟨hk3, hi3⟩ := hp
        obtain ⟨hr, hl3, hl4, hk4⟩ := fin (some (.goto t)) W3 hk3
        exact ⟨_, _, hr, .inr ⟨rfl, .goto t, (hIx _).putObj _ hi3 (by omega) hl3 rfl, hl4, hk4⟩⟩
      | panic ch => exact hp.elim
      | outgrown => exact hp.elim
    · rintro e W2 ⟨⟨v, rfl⟩, (⟨hi, hl, hk⟩ | ⟨pre, c, hi, hl, hk⟩)⟩
      · have hend := run_endLoop (P := P) hl (by rw [hrec]; simp)
        exact ⟨none, _, by rw [hrec] at hend; exact hend, hdone _ _ (Nat.le_refl _) (hI.putObj _ hi (by omega) hl rfl) ((World.putObj_heap_other (by omega)).trans hk)⟩
      · have hend := run_endLoop (P := P) hl (by rw [hrec]; simp)
        exact ⟨some c, _, by rw [hrec] at hend; exact hend, hstop _ c pre _ (Nat.le_refl _) ((hIx c).putObj _ hi (by omega) hl rfl) ((World.putObj_heap_other (by omega)).trans hk)⟩
end Go.Proofs.YtnnonmpgkkpocaaGreatDoor

namespace Go.Proofs.YtnnonmpgkkpocaaGreatDoor
open Go.RowKit Go.Shelf
attribute [local go_sem] Oper.semAt_some

theorem wpIn_handsSQ {P : Program} {n : Nat} {g : Operand} {p q : Tmp} {assign body : Code} {Q : Exit → Act → World → Prop} {a : Act} {w : World} {gf : Nat} {sv : Value}
    (hg : a.eval g = .func (.func gf) #[sv] #[]) (eg : ∀ args w, (callFunc gf args).run P w = .ok (.enter gf args) w)
    {xs : List Int} {T : World → Prop} (hit : HandsS P (n - 1) gf sv xs T)
    (I : List Int → World → Prop) (Ix : Code → List Int → World → Prop) (hT : ∀ pre w, I pre w → T w) (hI : OwnFrom w.heap.size I) (hIx : ∀ c, OwnFrom w.heap.size (Ix c)) (h0 : I [] w)
    (hassign : ∀ (l : Nat) (x : Int) (W : World) (K : Act → World → Prop), K { tmps := (a.tmps.setIfInBounds p (.int .i64 x)).setIfInBounds q (.int .i64 x), defers := [] } W →
      assign.wpIn (Fence.wide.inRound l) (n - 1 - 1) P (Exit.then K (fun _ _ _ => False)) { tmps := ((#[p] : Array Tmp).zip #[Value.int .i64 x]).foldl (fun t (p, v) => t.setIfInBounds p v) a.tmps, defers := [] } W)
    (hbody : ∀ (l : Nat) (pre : List Int) (x : Int) (rest : List Int) (W : World), w.heap.size ≤ l → xs = pre ++ x :: rest → I pre W →
      body.wpIn (Fence.wide.inRound l) (n - 1 - 1) P (ownPostG w.heap.size (fun _ _ => True) I Ix (pre ++ [x]) W) { tmps := (a.tmps.setIfInBounds p (.int .i64 x)).setIfInBounds q (.int .i64 x), defers := [] } W)
    (hdone : ∀ (D : Nat) (W : World), w.heap.size ≤ D → I xs W → W.heap[D]? = some (.deferred (some [])) → Q .normal { a with defers := { target := .collected D, args := #[] } :: a.defers } W)
    (hstop : ∀ (D : Nat) (c : Code) (pre : List Int) (W : World), w.heap.size ≤ D → Ix c pre W → W.heap[D]? = some (.deferred (some [])) → c.wpIn Fence.wide n P Q { a with defers := { target := .collected D, args := #[] } :: a.defers } W) :
    (Code.rangeFunc g #[p] assign body).wpIn Fence.wide n P Q a w :=
  wpIn_handsS hg eg hit I Ix hT hI hIx h0 (fun x => { tmps := (a.tmps.setIfInBounds p (.int .i64 x)).setIfInBounds q (.int .i64 x), defers := [] }) hassign hbody hdone hstop
theorem results_cell_one {P : Program} {fn : Func} {p : Tmp} {ty : TypeId} (h : fn.results = #[.cell p ty]) (tmps : Array Value) (w : World) (a : Addr) (v : Value)
    (hp : tmps.getD p undef = .pointer (some a)) (hl : (loadVar ty a).run P w = .ok v w) : (results fn tmps).run P w = .ok v w := by
  have hp' : tmps[p]?.getD undef = .pointer (some a) := by simpa using hp
  simp [results, h, hp', asAddr, hl]

/-- No cell of a set is near to another one, by the ground's words. -/
def freeB (G : List Nat) (s : Nat) : Bool := (bitsL s).all fun x => (G.getD (1 + x.toNat) 0 &&& s) == 0

theorem load_bool {W : World} {p : Addr} {b : Bool} (h : W.cell? p = some (.bool b)) : (loadVar 4 p).run Tryz.prog W = .ok (.bool b) W := by
  have ha := Tryz.isAgg4
  simp [loadVar, Sem.run_bind, ha, go_sem, h]

def StopF (G : List Nat) (s : Nat) (c : Code) (_ : List Int) : Prop := c = .ret ∧ freeB G s = false
/-- One block in the midst of a range: what it holds, and a word on the cells that were handed over. -/
def MidC {α : Type} (W3 : World) (g : Nat) (t : TypeId) (C : α → Array Value) (p : α → Prop) (x : α) (W' : World) : Prop :=
  W3.grownBy W' (some g) ∧ W'.heap[g]? = some (.cells (C x) t (0, 0)) ∧ p x
theorem midC_own {α : Type} {W3 : World} {g : Nat} {t : TypeId} {C : α → Array Value} {p : α → Prop} (hg : g < W3.heap.size) : OwnFrom W3.heap.size (MidC W3 g t C p) := by
  intro s W W' row hs hgr hr
  have hne : some g ≠ row := fun e => by have := (hr g e.symm).1; omega
  refine ⟨⟨hgr.os.trans hs.1.os, hgr.tape.trans hs.1.tape, hgr.output.trans hs.1.output, Nat.le_trans hs.1.size hgr.size, fun k hk hkg => ?_⟩, ?_, hs.2.2⟩
  · refine (hgr.block k (Nat.lt_of_lt_of_le hk hs.1.size) (fun e => ?_)).trans (hs.1.block k hk hkg)
    have := (hr k e.symm).1
    omega
  · exact (hgr.block g (Array.getElem?_eq_some_iff.1 hs.2.1).1 hne).trans hs.2.1

end Go.Proofs.YtnnonmpgkkpocaaGreatDoor

namespace Go.Proofs.YtnnonmpgkkpocaaGreatDoor
open Go.RowKit Go.Shelf
attribute [local go_sem] Oper.semAt_some

/-- The cells that are guarded from one, by the ground's words. -/
def grdC (G : List Nat) (x : Int) : Nat := G.getD (1 + x.toNat) 0 ||| 2 ^ x.toNat
/-- The cells that are guarded from some. -/
def grdL (G : List Nat) (l : List Int) : Nat := l.foldl (fun acc x => acc ||| grdC G x) 0
theorem grdL_snoc (G : List Nat) (l : List Int) (x : Int) : grdL G (l ++ [x]) = grdL G l ||| grdC G x := by simp [grdL, List.foldl_append]
theorem or_lt64 {a b : Nat} (ha : a < 18446744073709551616) (hb : b < 18446744073709551616) : a ||| b < 18446744073709551616 := Nat.or_lt_two_pow (n := 64) ha hb
theorem getD_lt {G : List Nat} (hGb : ∀ x ∈ G, x < 18446744073709551616) (i : Nat) : G.getD i 0 < 18446744073709551616 := by
  rw [List.getD_eq_getElem?_getD]
  cases h : G[i]? with
  | none => decide
  | some y => exact hGb y (List.mem_of_getElem? h)
theorem grdC_lt {G : List Nat} (hGb : ∀ x ∈ G, x < 18446744073709551616) {x : Int} (h0 : 0 ≤ x) (h1 : x < 64) : grdC G x < 18446744073709551616 :=
  or_lt64 (getD_lt hGb _) (Nat.lt_of_lt_of_le (Nat.pow_lt_pow_right (by decide) (by omega : x.toNat < 64)) (by decide))
theorem grdL_lt' {G : List Nat} (hGb : ∀ x ∈ G, x < 18446744073709551616) : ∀ (l : List Int) (acc : Nat), acc < 18446744073709551616 → (∀ x ∈ l, 0 ≤ x ∧ x < 64) → l.foldl (fun acc x => acc ||| grdC G x) acc < 18446744073709551616
  | [], _, h, _ => h
  | x :: l, acc, ha, h => grdL_lt' hGb l _ (or_lt64 ha (grdC_lt hGb (h x (by simp)).1 (h x (by simp)).2)) (fun y hy => h y (by simp [hy]))
theorem grdL_lt {G : List Nat} (hGb : ∀ x ∈ G, x < 18446744073709551616) (l : List Int) (h : ∀ x ∈ l, 0 ≤ x ∧ x < 64) : grdL G l < 18446744073709551616 := grdL_lt' hGb l 0 (by decide) h
theorem grdL_bit' {G : List Nat} {i : Nat} : ∀ (l : List Int) (acc : Nat), (l.foldl (fun acc x => acc ||| grdC G x) acc).testBit i = true ↔ acc.testBit i = true ∨ ∃ x ∈ l, (grdC G x).testBit i = true
  | [], acc => by simp
  | x :: l, acc => by
    rw [List.foldl_cons, grdL_bit' l, Nat.testBit_or, Bool.or_eq_true]
    constructor
    · rintro ((h | h) | ⟨y, hy, h⟩)
      · exact .inl h
      · exact .inr ⟨x, by simp, h⟩
      · exact .inr ⟨y, by simp [hy], h⟩
    · rintro (h | ⟨y, hy, h⟩)
      · exact .inl (.inl h)
      · rcases List.mem_cons.1 hy with rfl | hy
        · exact .inl (.inr h)
        · exact .inr ⟨y, hy, h⟩
theorem grdL_bit {G : List Nat} {i : Nat} (l : List Int) : (grdL G l).testBit i = true ↔ ∃ x ∈ l, (grdC G x).testBit i = true := by
  rw [grdL, grdL_bit']
  simp
theorem grdC_bit {G : List Nat} {x : Int} {i : Nat} : (grdC G x).testBit i = true ↔ (G.getD (1 + x.toNat) 0).testBit i = true ∨ x.toNat = i := by
  rw [grdC, Nat.testBit_or, Bool.or_eq_true, Nat.testBit_two_pow, decide_eq_true_eq]

end Go.Proofs.YtnnonmpgkkpocaaGreatDoor

namespace Go.Proofs.YtnnonmpgkkpocaaGreatDoor
open Go.RowKit Go.Shelf
attribute [local go_sem] Oper.semAt_some

theorem yields_load {P : Program} {ops : Array Oper} {S : World → Prop} {o : Oper} {a : Act} {v : Value} (ty : TypeId) (x : Operand) (p : Value) (ho : o.op = .load ty x) (hw : Region.wanted o (yielded ops a.tmps) = true)
    (hx : a.eval x = p) (hr : ∀ w, S w → (Instr.loadAt ty p).run P w = .ok v w) : YieldsIf P ops S o v a := by
  refine Or.inl ⟨hw, fun w hS => ?_⟩
  unfold execOp
  simp only [ho, hx, Sem.run_bind, hr w hS, Sem.run_pure, Result.andThen_ok]
set_option maxRecDepth 100000 in
theorem load_groundW {G : List Nat} (hG : G.length = 65) {w : World} {g : Nat} (h : w.heap[g]? = some (.cells (words G).toArray 62 (0, 0))) :
    (Instr.loadAt 62 (.pointer (some ⟨g, 0, none⟩))).run Tryz.prog w = .ok (.agg (words G).toArray) w :=
  run_loadAt_mid (P := Tryz.prog) w g 0 62 (words G) (.struct _) (fun j v hv => by rw [Nat.zero_add, cell_of_row _ _ _ _ _ _ h]; simpa using hv) rfl rfl (by rw [info_ground]; simp [words, hG])

end Go.Proofs.YtnnonmpgkkpocaaGreatDoor

namespace Go.Proofs.YtnnonmpgkkpocaaGreatDoor
open Go.RowKit

/-- Cells that are there, increasing, the first one greater than a number. -/
def setGo (W H : Int) (xs : List Int) : Int → List Int → Bool
  | _, [] => true
  | b, c :: t => decide (b < c) && hasB W H xs c && setGo W H xs c t
def setB (W H : Int) (xs ps : List Int) : Bool := setGo W H xs (-1) ps
theorem setGo_facts {W H : Int} {xs : List Int} : ∀ (ps : List Int) (b : Int), setGo W H xs b ps = true → (∀ x ∈ ps, b < x ∧ hasB W H xs x = true) ∧ ps.Pairwise (· < ·)
  | [], b, _ => ⟨(fun x h => by cases h), List.Pairwise.nil⟩
  | c :: t, b, h => by
    simp only [setGo, Bool.and_eq_true, decide_eq_true_eq] at h
    obtain ⟨h1, h2⟩ := setGo_facts t c h.2
    refine ⟨fun x hx => ?_, List.Pairwise.cons (fun x hx => (h1 x hx).1) h2⟩
    rcases List.mem_cons.1 hx with rfl | hx
    · exact h.1
    · exact ⟨by have := (h1 x hx).1; omega, (h1 x hx).2⟩
theorem setGo_len {W H : Int} {xs : List Int} (hN : W * H ≤ 64) : ∀ (ps : List Int) (b : Int), -1 ≤ b → setGo W H xs b ps = true → ps ≠ [] → (ps.length : Int) ≤ 63 - b
  | [], b, _, _, h => absurd rfl h
  | c :: t, b, hb, h, _ => by
    simp only [setGo, Bool.and_eq_true, decide_eq_true_eq] at h
    have hc := (hasB_iff.1 h.1.2).1
    rw [List.length_cons]
    by_cases ht : t = []
    · subst ht; simp; omega
    · have := setGo_len hN t c (by omega) h.2 ht
      omega
theorem setB_len {W H : Int} {xs ps : List Int} (hN : W * H ≤ 64) (h : setB W H xs ps = true) : ps.length ≤ 64 := by
  by_cases hp : ps = []
  · subst hp; simp
  · have := setGo_len hN ps (-1) (by omega) h hp; omega
theorem setGo_drop {W H : Int} {xs ps : List Int} {k : Nat} {x b : Int} (hx : ps[k]? = some x) : setGo W H xs b (ps.drop k) = (decide (b < x) && hasB W H xs x && setGo W H xs x (ps.drop (k + 1))) := by
  have hk : k < ps.length := (List.getElem?_eq_some_iff.1 hx).1
  rw [List.drop_eq_getElem_cons hk, (List.getElem?_eq_some_iff.1 hx).2]
  rfl
theorem setGo_nil {W H : Int} {xs ps : List Int} {k : Nat} {b : Int} (hk : ps.length ≤ k) : setGo W H xs b (ps.drop k) = true := by
  rw [List.drop_of_length_le hk]; rfl

end Go.Proofs.YtnnonmpgkkpocaaGreatDoor

namespace Go.Proofs.YtnnonmpgkkpocaaGreatDoor
open Go.RowKit Go.Shelf

def glG (W H : Int) (xs : List Int) (a b : Int) : List Nat := gl W H xs a b (cellsL W H xs)
theorem glG_len (W H : Int) (xs : List Int) (a b : Int) : (glG W H xs a b).length = 65 := gl_len _ _ _ _ _ _
theorem cells_64 {W H : Int} {xs : List Int} (hg : goodB W H xs = true) : ∀ x ∈ cellsL W H xs, 0 ≤ x ∧ x < 64 := fun x hx => by
  have h1 := (hasB_iff.1 (cellsL_mem.1 hx)).1
  obtain ⟨hW, hH, _, _⟩ := goodB_iff.1 hg
  have := cells_le hW hH
  omega
theorem leaps_64 {W H a b x : Int} {xs : List Int} (hg : goodB W H xs = true) : ∀ y ∈ leapsL W H xs a b x, 0 ≤ y ∧ y < 64 := fun y hy => cells_64 hg y (List.mem_filter.1 hy).1
theorem glG_lt {W H a b : Int} {xs : List Int} (hg : goodB W H xs = true) : ∀ x ∈ glG W H xs a b, x < 18446744073709551616 := by
  intro x hx
  rw [glG, gl, List.mem_cons, List.mem_map] at hx
  rcases hx with rfl | ⟨c, _, rfl⟩
  · exact set_lt (cells_64 hg)
  · split
    · exact set_lt (leaps_64 hg)
    · decide
theorem glG_at {W H a b x : Int} {xs : List Int} (h0 : 0 ≤ x) (h1 : x < 64) (hx : x ∈ cellsL W H xs) : (glG W H xs a b).getD (1 + x.toNat) 0 = nearS W H xs a b x := by
  rw [glG, gl, show 1 + x.toNat = x.toNat + 1 by omega, List.getD_cons_succ, List.getD_eq_getElem?_getD, List.getElem?_map, List.getElem?_range (by omega)]
  simp [show ((x.toNat : Nat) : Int) = x by omega, hx]
theorem near_bit {W H a b x : Int} {xs : List Int} (hg : goodB W H xs = true) (i : Nat) : (nearS W H xs a b x).testBit i = true ↔ hasB W H xs (i : Int) = true ∧ leapB W a b x (i : Int) = true := by
  rw [nearS, setBits_test _ _ _ rfl, List.mem_map]
  constructor
  · rintro ⟨y, hy, e⟩
    have h1 := leaps_64 hg y hy
    rw [leapsL, List.mem_filter, cellsL_mem] at hy
    rw [show (i : Int) = y by omega]
    exact hy
  · rintro ⟨h1, h2⟩
    exact ⟨(i : Int), by rw [leapsL, List.mem_filter, cellsL_mem]; exact ⟨h1, h2⟩, by omega⟩
theorem has_64 {W H x : Int} {xs : List Int} (hg : goodB W H xs = true) (h : hasB W H xs x = true) : 0 ≤ x ∧ x < 64 := cells_64 hg x (cellsL_mem.2 h)

/-- The cells that some cells guard. -/
def guardL (W H : Int) (xs : List Int) (a b : Int) (ps : List Int) : List Int := (cellsL W H xs).filter fun c => ps.contains c || ps.any fun f => leapB W a b f c
theorem guard_bit {W H a b : Int} {xs ps : List Int} (hg : goodB W H xs = true) (hp : ∀ x ∈ ps, hasB W H xs x = true) (i : Nat) :
    (grdL (glG W H xs a b) ps).testBit i = true ↔ hasB W H xs (i : Int) = true ∧ ((i : Int) ∈ ps ∨ ∃ f ∈ ps, leapB W a b f (i : Int) = true) := by
  rw [grdL_bit]
  constructor
  · rintro ⟨x, hx, h⟩
    have h64 := has_64 hg (hp x hx)
    rw [grdC_bit, glG_at h64.1 h64.2 (cellsL_mem.2 (hp x hx)), near_bit hg] at h
    rcases h with h | h
    · exact ⟨h.1, .inr ⟨x, hx, h.2⟩⟩
    · have : (i : Int) = x := by omega
      rw [this]
      exact ⟨hp x hx, .inl hx⟩
  · rintro ⟨h, (hm | ⟨f, hf, hl⟩)⟩
    · exact ⟨(i : Int), hm, by rw [grdC_bit]; right; omega⟩
    · have h64 := has_64 hg (hp f hf)
      exact ⟨f, hf, by rw [grdC_bit, glG_at h64.1 h64.2 (cellsL_mem.2 (hp f hf)), near_bit hg]; exact .inl ⟨h, hl⟩⟩
theorem guard_bits {W H a b : Int} {xs ps : List Int} (hg : goodB W H xs = true) (hp : ∀ x ∈ ps, hasB W H xs x = true) : bitsL (grdL (glG W H xs a b) ps) = guardL W H xs a b ps := by
  refine rise_unique (bitsL_rise _) ((cellsL_rise W H xs).filter _) fun x => ?_
  rw [bitsL_mem, guardL, List.mem_filter, cellsL_mem]
  constructor
  · rintro ⟨h0, h1, h2⟩
    rw [guard_bit hg hp, show ((x.toNat : Nat) : Int) = x by omega] at h2
    exact ⟨h2.1, by simpa using h2.2⟩
  · rintro ⟨h1, h2⟩
    have h64 := has_64 hg h1
    refine ⟨h64.1, h64.2, ?_⟩
    rw [guard_bit hg hp, show ((x.toNat : Nat) : Int) = x by omega]
    exact ⟨h1, by simpa using h2⟩
theorem setB_facts {W H : Int} {xs ps : List Int} (h : setB W H xs ps = true) : (∀ x ∈ ps, hasB W H xs x = true) ∧ ps.Pairwise (· < ·) :=
  ⟨fun x hx => ((setGo_facts ps _ h).1 x hx).2, (setGo_facts ps _ h).2⟩
theorem setB_bits {W H : Int} {xs ps : List Int} (hg : goodB W H xs = true) (h : setB W H xs ps = true) : bitsL (setBits (ps.map Int.toNat)) = ps :=
  set_bits (setB_facts h).2 (fun x hx => has_64 hg ((setB_facts h).1 x hx))
def askB (W H : Int) (xs : List Int) (a b : Int) (ps : List Int) : Bool := twoV W H xs a b && setB W H xs ps
theorem ask_parts {W H a b : Int} {xs ps : List Int} (h : askB W H xs a b ps = true) : goodB W H xs = true ∧ leaperB a b = true ∧ setB W H xs ps = true := by
  simp only [askB, twoV, Bool.and_eq_true] at h
  exact ⟨h.1.1, h.1.2, h.2⟩

end Go.Proofs.YtnnonmpgkkpocaaGreatDoor

namespace Go.Proofs.YtnnonmpgkkpocaaGreatDoor
open Go.RowKit

/-- The cells to which a leap leads and that the path doesn't have. -/
def onL (W H : Int) (xs : List Int) (a b : Int) (path : List Int) (x : Int) : List Int := (leapsL W H xs a b x).filter fun y => !path.contains y
def onN (W H : Int) (xs : List Int) (a b : Int) (path : List Int) (x : Int) : Nat := (onL W H xs a b path x).length
def better (N : Int → Nat) (best x : Int) : Int := if N x < N best then x else best
def fewestOf (N : Int → Nat) : List Int → Option Int
  | [] => none
  | x :: t => some (t.foldl (better N) x)
def lastOf (path : List Int) : Int := path.getD (path.length - 1) 0
def fewW (W H : Int) (xs : List Int) (a b : Int) : Nat → List Int → List Int
  | 0, path => path
  | k + 1, path => match fewestOf (onN W H xs a b path) (onL W H xs a b path (lastOf path)) with
    | none => path
    | some x => fewW W H xs a b k (path ++ [x])
theorem fewW_none {W H a b : Int} {xs path : List Int} (h : onL W H xs a b path (lastOf path) = []) : ∀ k, fewW W H xs a b k path = path
  | 0 => rfl
  | k + 1 => by rw [fewW, h]; rfl
theorem fewestOf_mem {N : Int → Nat} : ∀ {l : List Int} {x : Int}, fewestOf N l = some x → x ∈ l
  | [], _, h => by cases h
  | y :: t, x, h => by
    have key : ∀ (t : List Int) (y : Int), t.foldl (better N) y ∈ y :: t := by
      intro t
      induction t with
      | nil => intro y; simp
      | cons z t ih =>
        intro y
        rw [List.foldl_cons]
        have h9 := ih (better N y z)
        rcases List.mem_cons.1 h9 with h9 | h9
        · rw [h9, better]; split <;> simp
        · exact List.mem_cons_of_mem _ (List.mem_cons_of_mem _ h9)
    rw [← Option.some.inj (show some (t.foldl (better N) y) = some x from h)]
    exact key t y
theorem fewestOf_some {N : Int → Nat} {l : List Int} (h : l ≠ []) : ∃ x, fewestOf N l = some x := by
  cases l with
  | nil => exact absurd rfl h
  | cons y t => exact ⟨_, rfl⟩
theorem fewW_some {W H a b x : Int} {xs path : List Int} {k : Nat} (h : fewestOf (onN W H xs a b path) (onL W H xs a b path (lastOf path)) = some x) : fewW W H xs a b (k + 1) path = fewW W H xs a b k (path ++ [x]) := by
  rw [fewW, h]
theorem lastOf_snoc (path : List Int) (x : Int) : lastOf (path ++ [x]) = x := by
  rw [lastOf, List.length_append, show path.length + [x].length - 1 = path.length by simp, List.getD_eq_getElem?_getD, List.getElem?_append_right (Nat.le_refl _)]
  simp
/-- The state of a search for the fewest: the best one so far, or -1, and its number. -/
def scan (N : Int → Nat) (st : Int × Int) (x : Int) : Int × Int := if st.1 < 0 ∨ (N x : Int) < st.2 then (x, (N x : Int)) else st
theorem scan_pos {N : Int → Nat} : ∀ (l : List Int) (y : Int), (∀ x ∈ l, 0 ≤ x) → 0 ≤ y → l.foldl (scan N) (y, (N y : Int)) = (l.foldl (better N) y, (N (l.foldl (better N) y) : Int))
  | [], _, _, _ => rfl
  | z :: t, y, h, hy => by
    rw [List.foldl_cons, List.foldl_cons]
    have hz := h z List.mem_cons_self
    have ht : ∀ x ∈ t, 0 ≤ x := fun x hx => h x (List.mem_cons_of_mem _ hx)
    by_cases e : N z < N y
    · rw [show scan N (y, (N y : Int)) z = (z, (N z : Int)) by rw [scan, if_pos (Or.inr (by simp only; omega))], show better N y z = z by rw [better, if_pos e]]
      exact scan_pos t z ht hz
    · rw [show scan N (y, (N y : Int)) z = (y, (N y : Int)) by rw [scan, if_neg (by simp only; omega)], show better N y z = y by rw [better, if_neg e]]
      exact scan_pos t y ht hy
theorem scan_few {N : Int → Nat} {l : List Int} (h : ∀ x ∈ l, 0 ≤ x) : (fewestOf N l = none ∧ l.foldl (scan N) (-1, 0) = (-1, 0)) ∨ ∃ x, fewestOf N l = some x ∧ l.foldl (scan N) (-1, 0) = (x, (N x : Int)) := by
  cases l with
  | nil => exact .inl ⟨rfl, rfl⟩
  | cons y t =>
    refine .inr ⟨t.foldl (better N) y, rfl, ?_⟩
    rw [List.foldl_cons, show scan N (-1, 0) y = (y, (N y : Int)) by rw [scan, if_pos (Or.inl (by simp))]]
    exact scan_pos t y (fun x hx => h x (List.mem_cons_of_mem _ hx)) (h y List.mem_cons_self)

end Go.Proofs.YtnnonmpgkkpocaaGreatDoor

namespace Go.Proofs.YtnnonmpgkkpocaaGreatDoor
open Go.RowKit

def fewV (W H : Int) (xs : List Int) (a b q : Int) : List Int := if okFrom W H xs a b q then fewW W H xs a b 63 [q] else []
theorem cntO_yes {f : Int → Bool} {l : List Int} {k : Nat} {x : Int} (hx : l[k]? = some x) (h : f x = true) : ((l.take (k + 1)).filter f).length = ((l.take k).filter f).length + 1 := by
  rw [List.take_add_one, hx, List.filter_append]; simp [h]
theorem cntO_no {f : Int → Bool} {l : List Int} {k : Nat} {x : Int} (hx : l[k]? = some x) (h : f x = false) : ((l.take (k + 1)).filter f).length = ((l.take k).filter f).length := by
  rw [List.take_add_one, hx, List.filter_append]; simp [h]
/-- The state of the model's search behind k leaps. -/
def scanTo (W H : Int) (xs : List Int) (a b : Int) (path : List Int) (x : Int) (k : Nat) : Int × Int := (((leapsL W H xs a b x).take k).filter fun y => !path.contains y).foldl (scan (onN W H xs a b path)) (-1, 0)
theorem scanTo_yes {W H a b x y : Int} {xs path : List Int} {k : Nat} (hy : (leapsL W H xs a b x)[k]? = some y) (h : path.contains y = false) : scanTo W H xs a b path x (k + 1) = scan (onN W H xs a b path) (scanTo W H xs a b path x k) y := by
  rw [scanTo, List.take_add_one, hy, List.filter_append, List.foldl_append, Option.toList_some, List.filter_cons, h]; rfl
theorem scanTo_no {W H a b x y : Int} {xs path : List Int} {k : Nat} (hy : (leapsL W H xs a b x)[k]? = some y) (h : path.contains y = true) : scanTo W H xs a b path x (k + 1) = scanTo W H xs a b path x k := by
  rw [scanTo, List.take_add_one, hy, List.filter_append, List.foldl_append, Option.toList_some, List.filter_cons, h]; rfl
theorem scanTo_all {W H a b x : Int} {xs path : List Int} {k : Nat} (hk : (leapsL W H xs a b x).length ≤ k) : scanTo W H xs a b path x k = (onL W H xs a b path x).foldl (scan (onN W H xs a b path)) (-1, 0) := by
  rw [scanTo, List.take_of_length_le hk]; rfl
theorem path_few {W H : Int} {xs path : List Int} (hN : 1 ≤ W * H ∧ W * H ≤ 64) (hnd : path.Nodup) (hin : ∀ y ∈ path, hasB W H xs y = true) : path.length ≤ 64 :=
  nodup_len (N := 64) hnd (fun y hy => by have := (hasB_iff.1 (hin y hy)).1; omega)
theorem path_more {W H a b x : Int} {xs path : List Int} (hN : 1 ≤ W * H ∧ W * H ≤ 64) (hnd : path.Nodup) (hin : ∀ y ∈ path, hasB W H xs y = true) (hx : x ∈ onL W H xs a b path (lastOf path)) : (path ++ [x]).Nodup ∧ (∀ y ∈ path ++ [x], hasB W H xs y = true) ∧ path.length ≤ 63 := by
  rw [onL, List.mem_filter] at hx
  have hxb := cellsL_mem.1 (List.mem_filter.1 hx.1).1
  have hnx : x ∉ path := by have := hx.2; simpa using this
  have h1 : (path ++ [x]).Nodup := by rw [List.nodup_append]; exact ⟨hnd, by simp, fun y hy z hz => by simp at hz; subst hz; exact fun e => hnx (e ▸ hy)⟩
  have h2 : ∀ y ∈ path ++ [x], hasB W H xs y = true := fun y hy => by rcases List.mem_append.1 hy with h | h; exact hin y h; simp at h; subst h; exact hxb
  have h3 := path_few hN h1 h2
  rw [List.length_append] at h3
  exact ⟨h1, h2, by simp at h3; omega⟩

set_option maxRecDepth 100000 in
set_option maxHeartbeats 2000000 in
theorem toOnward_any (W H : Int) (A : Option Addr) (n c : Nat) (xs : List Int) (a b : Int) (x : Int) (A2 : Option Addr) (m c2 : Nat) (ps : List Int) (w : World) (ha : Rd w A n xs) (hp : Rd w A2 m ps) (hg : goodB W H xs = true) (hq : 0 ≤ x ∧ x ≤ 64) :
    Calls Tryz.prog 58 #[brd W H A n c, lpr a b, .int .i64 x, .slice A2 m c2] w fun e w' => e = .returned (.int .i64 (onN W H xs a b ps x : Int)) ∧ Below w.heap.size w w' := by
  have HQ := Lib.hid hq
  obtain ⟨hW9, hH9, _, _⟩ := goodB_iff.1 hg
  have HN := Lib.hid (cells_le hW9 hH9)
  clear hW9 hH9
  go_enter Tryz.func58, Tryz.ntmps58
  go_wp2_with fail
  refine (boLeaps_any _ _ _ _ _ _ _ _ _ _ ((ha.alloc _).alloc _) hg hq).mono ?_
  rintro e wv ⟨A3, n3, c3, rfl, own3, hb⟩
  have B := Lib.hid (below_box (below_box hb))
  have O3 := Lib.hid own3
  have RP := Lib.hid (hp.keep B.out)
  have hn3 : n3 ≤ 64 := by have := leapsL_len64 (W := W) (H := H) (xs := xs) (a := a) (b := b) (q := x) HN.out; have := own3.len; omega
  have HL3 := Lib.hid own3.len
  clear own3 hb hq
  go_wp2
  go_loopw [9, 17] (fun s i wr => ∃ k : Nat, k ≤ n3 ∧ i = .int .i64 k ∧ s = .int .i64 ((((leapsL W H xs a b x).take k).filter fun y => !ps.contains y).length : Int) ∧ Below wv.heap.size wv wr) (fun _ i _ => n3 - (intOf i).toNat)
  case atStart => exact ⟨0, Nat.zero_le _, rfl, rfl, Below.refl _ _⟩
  case round =>
    obtain ⟨k, hk, rfl, rfl, hbw⟩ := hrel
    have BW := Lib.hid hbw
    have hcl : (((leapsL W H xs a b x).take k).filter fun y => !ps.contains y).length ≤ 64 := by have := List.length_filter_le (fun y => !ps.contains y) ((leapsL W H xs a b x).take k); simp at this; simp; omega
    obtain ⟨cn, hcn⟩ : ∃ cn, cn = (((leapsL W H xs a b x).take k).filter fun y => !ps.contains y).length := ⟨_, rfl⟩
    rw [← hcn] at hcl ⊢
    have HCN := Lib.hid hcn
    clear hcn
    by_cases hlt : k < n3
    · obtain ⟨bb, oo, y, rfl, hg1, hy, y0⟩ := (O3.out.rd.keep hbw).at_ hlt
      have HY := Lib.hid hy
      clear hy hbw
      cases hc : ps.contains y
      · go_wp2_with fail
        refine (l1Has_any _ _ _ y ps _ (RP.out.keep BW.out)).mono ?_
        rw [hc]
        rintro e wz ⟨rfl, hb⟩
        replace BW := Lib.hid (below_next BW.out hb)
        clear hb y0
        go_wp2
        go_roundw
        case rel => exact ⟨k + 1, by omega, by go_num, by rw [cntO_yes HY.out (by rw [hc]; rfl), ← HCN.out]; go_num, BW.out⟩
        case measure => simp [intOf]; omega
      · go_wp2_with fail
        refine (l1Has_any _ _ _ y ps _ (RP.out.keep BW.out)).mono ?_
        rw [hc]
        rintro e wz ⟨rfl, hb⟩
        replace BW := Lib.hid (below_next BW.out hb)
        clear hb y0
        go_wp2
        go_roundw
        case rel => exact ⟨k + 1, by omega, by go_num, by rw [cntO_no HY.out (by rw [hc]; rfl), ← HCN.out], BW.out⟩
        case measure => simp [intOf]; omega
    · have HK := Lib.hid (show k = n3 by omega)
      clear hbw
      go_wp2
      go_ret
      exact ⟨by rw [HCN.out, onN, onL, List.take_of_length_le (by have := HL3.out; have := HK.out; omega)]; rfl, below_next B.out BW.out⟩

set_option maxRecDepth 100000 in
set_option maxHeartbeats 4000000 in
theorem spec_FewestOnward (W H : Int) (A : Option Addr) (n c : Nat) (xs : List Int) (a b : Int) (q : Int) (w : World) (ha : Rd w A n xs) :
    Calls Tryz.prog 36 #[brd W H A n c, lpr a b, .int .i64 q] w fun e w' => ∃ A' n' c', e = .returned (.tuple #[.slice A' n' c', .bool (okFrom W H xs a b q)]) ∧ OwnI 3 w' w.heap.size A' n' c' (fewV W H xs a b q) ∧ Below w.heap.size w w' := by
  by_cases ht : (goodB W H xs && leaperB a b) = true
  · by_cases hh : hasB W H xs q = true
    · go_enter Tryz.func36, Tryz.ntmps36
      go_wp2_with fail
      refine (boTwo_any _ _ _ _ _ _ _ _ _ ((ha.alloc _).alloc _)).mono ?_
      rw [ht]
      rintro e wv ⟨rfl, hb⟩
      have hbx0 := below_box hb
      have a0 : wv.cell? ⟨w.heap.size, 0, none⟩ = some (.int .i64 W) := by simpa using newbox hbx0 0
      have a1 : wv.cell? ⟨w.heap.size, 1, none⟩ = some (.int .i64 H) := by simpa using newbox hbx0 1
      have a2 : wv.cell? ⟨w.heap.size, 2, none⟩ = some (.slice A n c) := by simpa using newbox hbx0 2
      have al : w.heap.size < wv.heap.size := by simpa using newbox_lt hbx0
      have l0 : wv.cell? ⟨w.heap.size + 1, 0, none⟩ = some (.int .i64 a) := by simpa using newbox hb 0
      have l1 : wv.cell? ⟨w.heap.size + 1, 1, none⟩ = some (.int .i64 b) := by simpa using newbox hb 1
      have ll : w.heap.size + 1 < wv.heap.size := by simpa using newbox_lt hb
      have B := Lib.hid (below_box hbx0)
      clear hb hbx0
      go_wp2_with fail
      refine (boHas_any _ _ _ _ _ _ _ _ (ha.keep B.out) (two_N ht)).mono ?_
      rw [hh]
      rintro e wv ⟨rfl, hb⟩
      replace a0 := cell_keep a0 al hb
      replace a1 := cell_keep a1 al hb
      replace a2 := cell_keep a2 al hb
      replace al := lt_keep al hb
      replace l0 := cell_keep l0 ll hb
      replace l1 := cell_keep l1 ll hb
      replace ll := lt_keep ll hb
      replace B := Lib.hid (below_next B.out hb)
      clear hb
      have HG := Lib.hid (two_g ht); have HN := Lib.hid (two_N ht); have HH := Lib.hid hh
      have HQ := Lib.hid (range_of (two_N ht) hh)
      have HOK := Lib.hid (show okFrom W H xs a b q = true by (rw [okFrom, two_l ht, hasV, two_g ht, hh]; rfl))
      obtain ⟨i0, hi, hy0, hy1, hy2⟩ := info_parts infoI
      have HI := Lib.hid hi; have HZ0 := Lib.hid hy0; have HZ1 := Lib.hid hy1; have HZ2 := Lib.hid hy2
      clear hi hy0 hy1 hy2 ht hh
      go_wp2
      have hq0 : OwnI 3 (wv.alloc (.cells #[.int .i64 q] 3)) wv.heap.size (some ⟨wv.heap.size, 0, none⟩) 1 1 [q] := World.ownsRow_lit (base := wv.heap.size) (e := 3) wv (#[.int .i64 q] : Array Value) 1 (size := 1) (Nat.le_refl _) (by decide) rfl
      have HO0 := Lib.hid hq0
      have HB0 := Lib.hid (show Below wv.heap.size wv (wv.alloc (.cells #[.int .i64 q] 3)) from below_new (Below.refl _ _) _)
      clear hq0
      generalize wv.alloc (.cells #[.int .i64 q] 3) = W4 at *
      go_loopg [8] 64 (fun gm s8 wr => ∃ (A' : Option Addr) (n' c' : Nat) (path : List Int), s8 = .slice A' n' c' ∧ 64 - n' ≤ gm ∧ OwnI 3 wr wv.heap.size A' n' c' path ∧ 1 ≤ n' ∧ path.Nodup ∧ (∀ y ∈ path, hasB W H xs y = true) ∧ fewW W H xs a b 63 [q] = fewW W H xs a b (64 - path.length) path ∧ Below wv.heap.size wv wr)
      case atStart => exact ⟨_, 1, 1, [q], rfl, by omega, HO0.out, Nat.le_refl _, by simp, by simpa using HH.out, rfl, HB0.out⟩
      case round =>
        clear HO0 HB0
        obtain ⟨A', n', c', path, rfl, hgm, hown, hn1, hnd, hin, hfw, hbw⟩ := hrel
        have HO := Lib.hid hown; have HND := Lib.hid hnd; have HIN := Lib.hid hin; have HFW := Lib.hid hfw; have HBW := Lib.hid hbw
        have HLN := Lib.hid hown.len
        have hn64 : n' ≤ 64 := by have := path_few HN.out hnd hin; have := HLN.out; omega
        obtain ⟨j, hj⟩ : ∃ j, n' = j + 1 := ⟨n' - 1, by omega⟩
        obtain ⟨bb, oo, x, hAe, hz, hx, z0⟩ := hown.rd.at_ (k := j) (by omega)
        have HAE := Lib.hid hAe
        have HXI := Lib.hid (hin x (List.mem_of_getElem? hx))
        have HX := Lib.hid (range_of HN.out HXI.out)
        have HLAST := Lib.hid (show lastOf path = x by rw [lastOf, show path.length - 1 = j by rw [HLN.out]; omega, List.getD_eq_getElem?_getD, hx]; rfl)
        have hw3 : IntKind.i64.wrap ((n' : Int) - 1) = (j : Int) := by rw [show ((n' : Int) - 1) = (j : Int) by omega]; exact IntWalk.i64_in _ (by omega)
        have j0 : (0 : Int) ≤ (j : Int) := by omega
        have jn : (j : Int) < (n' : Int) := by omega
        subst hAe
        replace a0 := cell_keep a0 al hbw; replace a1 := cell_keep a1 al hbw; replace a2 := cell_keep a2 al hbw; replace l0 := cell_keep l0 ll hbw; replace l1 := cell_keep l1 ll hbw; replace al := lt_keep al hbw; replace ll := lt_keep ll hbw
        clear hown hnd hin hfw hbw hx hj
        go_wp2_with fail
        refine wp_region_held_drew (S := fun w' => w'.cell? ⟨w.heap.size, 0, none⟩ = some (.int .i64 W) ∧ w'.cell? ⟨w.heap.size, 1, none⟩ = some (.int .i64 H) ∧ w'.cell? ⟨w.heap.size, 2, none⟩ = some (.slice A n c) ∧ w'.cell? ⟨w.heap.size + 1, 0, none⟩ = some (.int .i64 a) ∧ w'.cell? ⟨w.heap.size + 1, 1, none⟩ = some (.int .i64 b) ∧ w'.cell? ⟨bb, oo + j, none⟩ = some (.int .i64 x)) (by kernel_rfl) ?_ (fun hHeld => ?_)
        · (try dsimp only)
          exact ⟨a0, a1, a2, l0, l1, z0⟩
        refine wpAnyH_take (i := 0) (oi := ⟨_, _, _, _, _, _⟩) (v := ?_) rfl (by kernel_rfl) (by kernel_rfl) (by kernel_rfl) (fun _ _ _ h => h) (Or.inl ⟨by rfl, ?_⟩) (by assumption) ?_
        rotate_left
        · intro w hSw
          (try dsimp only at hSw)
          go_simp
          (try with_reducible rfl)
        (try simp only [Act.put, List.setIfInBounds_toArray, List.set_cons_zero, List.set_cons_succ])
        refine wpAnyH_take (i := 1) (oi := ⟨_, _, _, _, _, _⟩) (v := ?_) rfl (by kernel_rfl) (by kernel_rfl) (by kernel_rfl) (fun _ _ _ h => h) (Or.inl ⟨by rfl, ?_⟩) (by assumption) ?_
        rotate_left
        · intro w hSw
          (try dsimp only at hSw)
          go_simp
          (try with_reducible rfl)
        (try simp only [Act.put, List.setIfInBounds_toArray, List.set_cons_zero, List.set_cons_succ])
        refine wpAnyH_take (i := 2) (oi := ⟨_, _, _, _, _, _⟩) (v := ?_) rfl (by kernel_rfl) (by kernel_rfl) (by kernel_rfl) (fun _ _ _ h => h) (Or.inl ⟨by rfl, ?_⟩) (by assumption) ?_
        rotate_left
        · intro w hSw
          (try dsimp only at hSw)
          go_simp
          (try with_reducible rfl)
        (try simp only [Act.put, List.setIfInBounds_toArray, List.set_cons_zero, List.set_cons_succ])
        refine wpAnyH_take (i := 3) (oi := ⟨_, _, _, _, _, _⟩) (v := ?_) rfl (by kernel_rfl) (by kernel_rfl) (by kernel_rfl) (fun _ _ _ h => h) (Or.inl ⟨by rfl, ?_⟩) (by assumption) ?_
        rotate_left
        · intro w hSw
          (try dsimp only at hSw)
          go_simp
          (try with_reducible rfl)
        (try simp only [Act.put, List.setIfInBounds_toArray, List.set_cons_zero, List.set_cons_succ])
        refine wpAnyH_take (i := 4) (oi := ⟨_, _, _, _, _, _⟩) (v := ?_) rfl (by kernel_rfl) (by kernel_rfl) (by kernel_rfl) (fun _ _ _ h => h) (Or.inl ⟨by rfl, ?_⟩) (by assumption) ?_
        rotate_left
        · intro w hSw
          (try dsimp only at hSw)
          go_simp
          (try with_reducible rfl)
        (try simp only [Act.put, List.setIfInBounds_toArray, List.set_cons_zero, List.set_cons_succ])
        refine wpAnyH_take (i := 5) (oi := ⟨_, _, _, _, _, _⟩) (v := ?_) rfl (by kernel_rfl) (by kernel_rfl) (by kernel_rfl) (fun _ _ _ h => h) (Or.inl ⟨by rfl, ?_⟩) (by assumption) ?_
        rotate_left
        · intro w hSw
          (try dsimp only at hSw)
          go_simp
          (try with_reducible rfl)
        (try simp only [Act.put, List.setIfInBounds_toArray, List.set_cons_zero, List.set_cons_succ])
        refine wpAnyH_take (i := 6) (oi := ⟨_, _, _, _, _, _⟩) (v := ?_) rfl (by kernel_rfl) (by kernel_rfl) (by kernel_rfl) (fun _ _ _ h => h) (Or.inl ⟨by rfl, ?_⟩) (by assumption) ?_
        rotate_left
        · intro w hSw
          (try dsimp only at hSw)
          go_simp
          (try with_reducible rfl)
        (try simp only [Act.put, List.setIfInBounds_toArray, List.set_cons_zero, List.set_cons_succ])
        refine wpAnyH_take (i := 7) (oi := ⟨_, _, _, _, _, _⟩) (v := ?_) rfl (by kernel_rfl) (by kernel_rfl) (by kernel_rfl) (fun _ _ _ h => h) (Or.inl ⟨by rfl, ?_⟩) (by assumption) ?_
        rotate_left
        · intro w hSw
          (try dsimp only at hSw)
          go_simp
          (try with_reducible rfl)
        (try simp only [Act.put, List.setIfInBounds_toArray, List.set_cons_zero, List.set_cons_succ])
        refine wpAnyH_take (i := 10) (oi := ⟨_, _, _, _, _, _⟩) (v := ?_) rfl (by kernel_rfl) (by kernel_rfl) (by kernel_rfl) (fun _ _ _ h => h) (Or.inl ⟨by rfl, ?_⟩) (by assumption) ?_
        rotate_left
        · intro w hSw
          (try dsimp only at hSw)
          go_simp
          (try with_reducible rfl)
        (try simp only [Act.put, List.setIfInBounds_toArray, List.set_cons_zero, List.set_cons_succ])
        refine wpAnyH_ready (rs := [8]) (by kernel_rfl) (by simp) ?_
        refine AllReadyH.cons (o := ⟨_, _, _, _, _, _⟩) rfl (fun K hK => ?_) AllReadyH.nil
        go_simp
        (go_at_call 54; refine (boLeaps_any W H A n c xs a b x _ ?_ HG.out HX.out).mono ?_; (first | exact (ha.keep B.out).keep HBW.out | exact ((ha.keep B.out).keep HBW.out).drew1 | exact ((ha.keep B.out).keep HBW.out).drewN _); rintro e wx ⟨A3, n3, c3, rfl, own3, hb⟩; (repeat (first | replace hb := below_undrew hb | replace hb := below_undrewN hb)); replace a0 := cell_keep a0 al hb; replace a1 := cell_keep a1 al hb; replace a2 := cell_keep a2 al hb; replace l0 := cell_keep l0 ll hb; replace l1 := cell_keep l1 ll hb; replace al := lt_keep al hb; replace ll := lt_keep ll hb; replace z0 := cell_keep z0 hz hb; replace hz := lt_keep hz hb; replace HBW := Lib.hid (below_next HBW.out hb); replace HO := Lib.hid (HO.out.keep hb); have O3 := Lib.hid own3; clear hb own3)
        (try go_wp2_with fail)
        refine hK.out _ _ ?_ (fun hHeld => ?_)
        · (try dsimp only)
          exact ⟨a0, a1, a2, l0, l1, z0⟩
        clear hK K
        (try simp only [Act.put, List.setIfInBounds_toArray, List.set_cons_zero, List.set_cons_succ])
        refine wpAnyH_take (i := 9) (oi := ⟨_, _, _, _, _, _⟩) (v := ?_) rfl (by kernel_rfl) (by kernel_rfl) (by kernel_rfl) (fun _ _ _ h => h) (Or.inl ⟨by rfl, ?_⟩) (by assumption) ?_
        rotate_left
        · intro w hSw
          (try dsimp only at hSw)
          go_simp
          (try with_reducible rfl)
        (try simp only [Act.put, List.setIfInBounds_toArray, List.set_cons_zero, List.set_cons_succ])
        refine wpAnyH_done (by kernel_rfl) ?_ _
        have hn3 : n3 ≤ 64 := by have := leapsL_len64 (W := W) (H := H) (xs := xs) (a := a) (b := b) (q := x) HN.out; have := O3.out.len; omega
        have HL3 := Lib.hid O3.out.len
        clear hHeld z0
        go_wp2
        go_loopw [9, 10, 36] (fun s9 s10 i ws => ∃ k : Nat, k ≤ n3 ∧ i = .int .i64 k ∧ s9 = .int .i64 (scanTo W H xs a b path x k).1 ∧ s10 = .int .i64 (scanTo W H xs a b path x k).2 ∧ Below wx.heap.size wx ws) (fun _ _ i _ => n3 - (intOf i).toNat)
        case atStart => exact ⟨0, Nat.zero_le _, rfl, rfl, rfl, Below.refl _ _⟩
        case round =>
          obtain ⟨k, hk, rfl, rfl, rfl, hbw⟩ := hrel
          have BW := Lib.hid hbw
          have ST := Lib.hid (show scanTo W H xs a b path x k = ((scanTo W H xs a b path x k).1, (scanTo W H xs a b path x k).2) from rfl)
          obtain ⟨s1, hs1⟩ : ∃ s1, s1 = (scanTo W H xs a b path x k).1 := ⟨_, rfl⟩
          obtain ⟨s2, hs2⟩ : ∃ s2, s2 = (scanTo W H xs a b path x k).2 := ⟨_, rfl⟩
          rw [← hs1, ← hs2] at ST ⊢
          clear hs1 hs2
          by_cases hlt : k < n3
          · obtain ⟨b3, o3, y, hAe3, hg3, hy, y0⟩ := (O3.out.rd.keep hbw).at_ hlt
            have HY := Lib.hid hy
            have HYR := Lib.hid (range_of HN.out (cellsL_mem.1 (List.mem_filter.1 (List.mem_of_getElem? hy)).1))
            subst hAe3
            clear hy hbw
            cases hc : path.contains y
            · have HC := Lib.hid hc
              have ha0 := cell_keep a0 al BW.out; have ha1 := cell_keep a1 al BW.out; have ha2 := cell_keep a2 al BW.out; have hl0 := cell_keep l0 ll BW.out; have hl1 := cell_keep l1 ll BW.out; have hal := lt_keep al BW.out; have hll := lt_keep ll BW.out
              go_wp2_with fail
              refine (l1Has_any _ _ _ y path _ (HO.out.rd.keep BW.out)).mono ?_
              rw [hc]
              rintro e wz ⟨rfl, hb⟩
              replace BW := Lib.hid (below_next BW.out hb)
              replace ha0 := cell_keep ha0 hal hb; replace ha1 := cell_keep ha1 hal hb; replace ha2 := cell_keep ha2 hal hb; replace hl0 := cell_keep hl0 hll hb; replace hl1 := cell_keep hl1 hll hb; replace hal := lt_keep hal hb; replace hll := lt_keep hll hb
              clear hb y0 hc
              go_wp2_with fail
              refine (toOnward_any W H A n c xs a b y _ _ _ path _ (((ha.keep B.out).keep HBW.out).keep BW.out) (HO.out.rd.keep BW.out) HG.out HYR.out).mono ?_
              rintro e w7 ⟨rfl, hb⟩
              replace BW := Lib.hid (below_next BW.out hb)
              obtain ⟨nn, hnn⟩ : ∃ nn : Int, nn = (onN W H xs a b path y : Int) := ⟨_, rfl⟩
              rw [← hnn]
              have HNN := Lib.hid hnn
              clear hb ha0 ha1 ha2 hl0 hl1 hal hll hnn
              by_cases h1 : s1 < 0
              · go_wp2
                go_roundw
                case rel =>
                  have e : scanTo W H xs a b path x (k + 1) = (y, nn) := by rw [scanTo_yes HY.out HC.out, ST.out, scan, if_pos (Or.inl h1), ← HNN.out]
                  exact ⟨k + 1, by omega, by go_num, by rw [e], by rw [e], BW.out⟩
                case measure => simp [intOf]; omega
              · by_cases h2 : nn < s2
                · go_wp2
                  go_roundw
                  case rel =>
                    have e : scanTo W H xs a b path x (k + 1) = (y, nn) := by rw [scanTo_yes HY.out HC.out, ST.out, scan, if_pos (Or.inr (by rw [← HNN.out]; exact h2)), ← HNN.out]
                    exact ⟨k + 1, by omega, by go_num, by rw [e], by rw [e], BW.out⟩
                  case measure => simp [intOf]; omega
                · go_wp2
                  go_roundw
                  case rel =>
                    have e : scanTo W H xs a b path x (k + 1) = (s1, s2) := by rw [scanTo_yes HY.out HC.out, ST.out, scan, if_neg (by rw [← HNN.out]; simp only; omega)]
                    exact ⟨k + 1, by omega, by go_num, by rw [e], by rw [e], BW.out⟩
                  case measure => simp [intOf]; omega
            · go_wp2_with fail
              refine (l1Has_any _ _ _ y path _ (HO.out.rd.keep BW.out)).mono ?_
              rw [hc]
              rintro e wz ⟨rfl, hb⟩
              replace BW := Lib.hid (below_next BW.out hb)
              clear hb y0
              go_wp2
              go_roundw
              case rel =>
                have e : scanTo W H xs a b path x (k + 1) = (s1, s2) := by rw [scanTo_no HY.out hc, ST.out]
                exact ⟨k + 1, by omega, by go_num, by rw [e], by rw [e], BW.out⟩
              case measure => simp [intOf]; omega
          · have EA := scanTo_all (W := W) (H := H) (xs := xs) (a := a) (b := b) (path := path) (x := x) (k := k) (by have := HL3.out; omega)
            have HPOS : ∀ y ∈ onL W H xs a b path x, 0 ≤ y := fun y hy => (range_of HN.out (cellsL_mem.1 (List.mem_filter.1 (List.mem_filter.1 hy).1).1)).1
            replace HBW := Lib.hid (below_next HBW.out hbw)
            replace HO := Lib.hid (HO.out.keep hbw)
            replace a0 := cell_keep a0 al hbw; replace a1 := cell_keep a1 al hbw; replace a2 := cell_keep a2 al hbw; replace l0 := cell_keep l0 ll hbw; replace l1 := cell_keep l1 ll hbw; replace al := lt_keep al hbw; replace ll := lt_keep ll hbw
            clear hbw BW O3
            rcases scan_few (N := onN W H xs a b path) HPOS with ⟨hf, hs⟩ | ⟨z, hf, hs⟩
            · have e12 : s1 = -1 := by rw [ST.out, hs] at EA; exact congrArg Prod.fst EA
              subst e12
              have HF := Lib.hid (show onL W H xs a b path (lastOf path) = [] by rw [HLAST.out]; cases hl : onL W H xs a b path x with | nil => rfl | cons u v => rw [hl] at hf; cases hf)
              clear EA HPOS hf hs ST
              go_wp2
              go_ret2
              exact ⟨_, n', c', by rw [HOK.out]; rfl, by rw [fewV, HOK.out, if_pos rfl, HFW.out, fewW_none HF.out]; exact HO.out.lower B.out.size, below_next B.out HBW.out⟩
            · have e12 : s1 = z := by rw [ST.out, hs] at EA; exact congrArg Prod.fst EA
              have hzm := fewestOf_mem hf
              have hz0 := HPOS z hzm
              have HM := Lib.hid (path_more (a := a) (b := b) (x := z) HN.out HND.out HIN.out (by rw [HLAST.out]; exact hzm))
              have HFZ := Lib.hid (show fewestOf (onN W H xs a b path) (onL W H xs a b path (lastOf path)) = some z by rw [HLAST.out]; exact hf)
              subst e12
              have hs9 : ¬ s1 < 0 := by omega
              have hsz9 := HBW.out.size
              clear EA HPOS hf hs ST hzm
              go_wp2_with (at_builtin; refine wpList_app1 rfl (.tmp 61) (.tmp 63) 22 3 rfl i0 Tryz.underlying22 HI.out HZ0.out HZ1.out HZ2.out wv.heap.size _ n' c' path s1 rfl HO.out rfl (by omega) hsz9 ?_; intro A2 c2' w2 hown2 hb2')
              have HO3 := Lib.hid hown2; have HB3 := Lib.hid (HBW.out.trans hb2')
              clear hown2 hb2'
              go_wp2
              go_roundg (64 - (n' + 1))
              case rel =>
                have h63 := HM.out.2.2
                have hle := HLN.out
                exact ⟨_, n' + 1, c2', path ++ [s1], rfl, Nat.le_refl _, HO3.out, by omega, HM.out.1, HM.out.2.1, by rw [HFW.out, show 64 - path.length = (64 - (path ++ [s1]).length) + 1 by rw [List.length_append]; simp; omega, fewW_some HFZ.out], HB3.out⟩
              case measure => have := HM.out.2.2; have := HLN.out; omega
    · have hh' : hasB W H xs q = false := by simpa using hh
      go_enter Tryz.func36, Tryz.ntmps36
      go_wp2_with fail
      refine (boTwo_any _ _ _ _ _ _ _ _ _ ((ha.alloc _).alloc _)).mono ?_
      rw [ht]
      rintro e wv ⟨rfl, hb⟩
      have hbx0 := below_box hb
      have a0 : wv.cell? ⟨w.heap.size, 0, none⟩ = some (.int .i64 W) := by simpa using newbox hbx0 0
      have a1 : wv.cell? ⟨w.heap.size, 1, none⟩ = some (.int .i64 H) := by simpa using newbox hbx0 1
      have a2 : wv.cell? ⟨w.heap.size, 2, none⟩ = some (.slice A n c) := by simpa using newbox hbx0 2
      have al : w.heap.size < wv.heap.size := by simpa using newbox_lt hbx0
      have l0 : wv.cell? ⟨w.heap.size + 1, 0, none⟩ = some (.int .i64 a) := by simpa using newbox hb 0
      have l1 : wv.cell? ⟨w.heap.size + 1, 1, none⟩ = some (.int .i64 b) := by simpa using newbox hb 1
      have ll : w.heap.size + 1 < wv.heap.size := by simpa using newbox_lt hb
      have B := Lib.hid (below_box hbx0)
      clear hb hbx0
      go_wp2_with fail
      refine (boHas_any _ _ _ _ _ _ _ _ (ha.keep B.out) (two_N ht)).mono ?_
      rw [hh']
      rintro e wv ⟨rfl, hb⟩
      replace a0 := cell_keep a0 al hb
      replace a1 := cell_keep a1 al hb
      replace a2 := cell_keep a2 al hb
      replace al := lt_keep al hb
      replace l0 := cell_keep l0 ll hb
      replace l1 := cell_keep l1 ll hb
      replace ll := lt_keep ll hb
      replace B := Lib.hid (below_next B.out hb)
      clear hb
      go_wp2
      go_ret2
      exact ⟨none, 0, 0, by rw [show okFrom W H xs a b q = false by (rw [okFrom, hasV]; first | (simp only [Bool.and_eq_false_iff] at ht'; rcases ht' with h | h <;> simp [h]) | (rw [hh']; simp))]; rfl, by rw [show fewV W H xs a b q = [] by (rw [fewV, if_neg (by rw [show okFrom W H xs a b q = false by (rw [okFrom, hasV]; first | (simp only [Bool.and_eq_false_iff] at ht'; rcases ht' with h | h <;> simp [h]) | (rw [hh']; simp))]; decide)])]; exact OwnI.none_ _ _ _, B.out⟩
  · have ht' : (goodB W H xs && leaperB a b) = false := by simpa using ht
    go_enter Tryz.func36, Tryz.ntmps36
    go_wp2_with fail
    refine (boTwo_any _ _ _ _ _ _ _ _ _ ((ha.alloc _).alloc _)).mono ?_
    rw [ht']
    rintro e wv ⟨rfl, hb⟩
    have hbx0 := below_box hb
    have a0 : wv.cell? ⟨w.heap.size, 0, none⟩ = some (.int .i64 W) := by simpa using newbox hbx0 0
    have a1 : wv.cell? ⟨w.heap.size, 1, none⟩ = some (.int .i64 H) := by simpa using newbox hbx0 1
    have a2 : wv.cell? ⟨w.heap.size, 2, none⟩ = some (.slice A n c) := by simpa using newbox hbx0 2
    have al : w.heap.size < wv.heap.size := by simpa using newbox_lt hbx0
    have l0 : wv.cell? ⟨w.heap.size + 1, 0, none⟩ = some (.int .i64 a) := by simpa using newbox hb 0
    have l1 : wv.cell? ⟨w.heap.size + 1, 1, none⟩ = some (.int .i64 b) := by simpa using newbox hb 1
    have ll : w.heap.size + 1 < wv.heap.size := by simpa using newbox_lt hb
    have B := Lib.hid (below_box hbx0)
    clear hb hbx0
    go_wp2
    go_ret2
    exact ⟨none, 0, 0, by rw [show okFrom W H xs a b q = false by (rw [okFrom, hasV]; first | (simp only [Bool.and_eq_false_iff] at ht'; rcases ht' with h | h <;> simp [h]) | (rw [hh']; simp))]; rfl, by rw [show fewV W H xs a b q = [] by (rw [fewV, if_neg (by rw [show okFrom W H xs a b q = false by (rw [okFrom, hasV]; first | (simp only [Bool.and_eq_false_iff] at ht'; rcases ht' with h | h <;> simp [h]) | (rw [hh']; simp))]; decide)])]; exact OwnI.none_ _ _ _, B.out⟩

end Go.Proofs.YtnnonmpgkkpocaaGreatDoor

namespace Go.Proofs.YtnnonmpgkkpocaaGreatDoor
open Go.RowKit

/-! ### Pure: the rest behind a path -/
def RestOf (W H : Int) (xs path : List Int) (r : Nat) : Prop := r < 18446744073709551616 ∧ ∀ i : Nat, r.testBit i = true ↔ hasB W H xs (i : Int) = true ∧ (i : Int) ∉ path
theorem onL_rise (W H : Int) (xs : List Int) (a b : Int) (path : List Int) (x : Int) : (onL W H xs a b path x).Pairwise (· < ·) := ((cellsL_pairwise W H xs).filter _).filter _
theorem onL_mem {W H a b x y : Int} {xs path : List Int} : y ∈ onL W H xs a b path x ↔ hasB W H xs y = true ∧ leapB W a b x y = true ∧ y ∉ path := by
  rw [onL, List.mem_filter, leapsL, List.mem_filter, cellsL_mem]
  simp only [Bool.not_eq_true', List.contains_eq_mem, decide_eq_false_iff_not]
  exact ⟨fun h => ⟨h.1.1, h.1.2, h.2⟩, fun h => ⟨⟨h.1, h.2.1⟩, h.2.2⟩⟩
theorem cell_64 {W H x : Int} {xs : List Int} (hN : 1 ≤ W * H ∧ W * H ≤ 64) (h : hasB W H xs x = true) : 0 ≤ x ∧ x < 64 := by have := (hasB_iff.1 h).1; omega
theorem near_rest {W H a b x : Int} {xs path : List Int} {r : Nat} (hg : goodB W H xs = true) (hN : 1 ≤ W * H ∧ W * H ≤ 64) (hr : RestOf W H xs path r) : nearS W H xs a b x &&& r = setBits ((onL W H xs a b path x).map Int.toNat) := by
  refine Nat.eq_of_testBit_eq fun i => ?_
  rw [Bool.eq_iff_iff, Nat.testBit_and, Bool.and_eq_true, near_bit hg, hr.2, setBits_test _ _ _ rfl, List.mem_map]
  constructor
  · rintro ⟨⟨h1, h2⟩, _, h3⟩
    exact ⟨(i : Int), onL_mem.2 ⟨h1, h2, h3⟩, by simp⟩
  · rintro ⟨y, hy, rfl⟩
    obtain ⟨h1, h2, h3⟩ := onL_mem.1 hy
    have := cell_64 hN h1
    rw [show ((y.toNat : Nat) : Int) = y by omega]
    exact ⟨⟨h1, h2⟩, h1, h3⟩
theorem near_rest_list {W H a b x : Int} {xs path : List Int} {r : Nat} (hg : goodB W H xs = true) (hN : 1 ≤ W * H ∧ W * H ≤ 64) (hr : RestOf W H xs path r) : bitsL (nearS W H xs a b x &&& r) = onL W H xs a b path x := by
  rw [near_rest hg hN hr]
  refine rise_unique (bitsL_rise _) (onL_rise _ _ _ _ _ _ _) fun y => ?_
  rw [bitsL_mem, setBits_test _ _ _ rfl, List.mem_map]
  constructor
  · rintro ⟨h0, h1, z, hz, e⟩
    have := cell_64 hN (onL_mem.1 hz).1
    rw [show y = z by omega]; exact hz
  · intro hy
    have := cell_64 hN (onL_mem.1 hy).1
    exact ⟨this.1, this.2, y, hy, rfl⟩
theorem near_rest_pop {W H a b x : Int} {xs path : List Int} {r : Nat} (hg : goodB W H xs = true) (hN : 1 ≤ W * H ∧ W * H ≤ 64) (hr : RestOf W H xs path r) : popN 64 (nearS W H xs a b x &&& r) = onN W H xs a b path x := by
  rw [near_rest hg hN hr, onN]
  have h := (popN_set _ ((onL W H xs a b path x).map Int.toNat) rfl (fun c hc => by
    obtain ⟨y, hy, rfl⟩ := List.mem_map.1 hc
    have := cell_64 hN (onL_mem.1 hy).1; omega)).2
  rw [List.length_map] at h
  refine h.2 ?_
  rw [List.Nodup, List.pairwise_map]
  refine ((onL_rise W H xs a b path x).imp_of_mem ?_)
  intro u v hu hv huv
  have h1 := cell_64 hN (onL_mem.1 hu).1
  have h2 := cell_64 hN (onL_mem.1 hv).1
  omega
theorem rest_lt {r s : Nat} (h : r < 18446744073709551616) : s &&& r < 18446744073709551616 := Nat.lt_of_le_of_lt Nat.and_le_right h
theorem rest_start {W H q : Int} {xs : List Int} (hN : 1 ≤ W * H ∧ W * H ≤ 64) (hq : hasB W H xs q = true) : RestOf W H xs [q] (clr (allS W H xs) q.toNat) := by
  have hq6 := cell_64 hN hq
  have hb : ∀ i, (allS W H xs).testBit i = true ↔ hasB W H xs (i : Int) = true := fun i => by
    rw [allS, setBits_test _ _ _ rfl, List.mem_map]
    constructor
    · rintro ⟨y, hy, rfl⟩
      have := cell_64 hN (cellsL_mem.1 hy)
      rw [show ((y.toNat : Nat) : Int) = y by omega]; exact cellsL_mem.1 hy
    · intro h; exact ⟨(i : Int), cellsL_mem.2 h, by simp⟩
  refine ⟨Nat.lt_of_le_of_lt (clr_le _ _) (by unfold allS; exact setBits_lt _ (fun i hi => by obtain ⟨y, hy, rfl⟩ := List.mem_map.1 hi; have := cell_64 hN (cellsL_mem.1 hy); omega)), fun i => ?_⟩
  rw [clr_bit (by omega), Bool.and_eq_true, Bool.and_eq_true, hb, decide_eq_true_eq, decide_eq_true_eq]
  constructor
  · rintro ⟨h1, h2, h3⟩; exact ⟨h1, by simp; omega⟩
  · rintro ⟨h1, h2⟩
    have := cell_64 hN h1
    simp at h2
    exact ⟨h1, by omega, by omega⟩
theorem rest_next {W H z : Int} {xs path : List Int} {r : Nat} (hN : 1 ≤ W * H ∧ W * H ≤ 64) (hr : RestOf W H xs path r) (hz : hasB W H xs z = true) : RestOf W H xs (path ++ [z]) (clr r z.toNat) := by
  have hq6 := cell_64 hN hz
  refine ⟨Nat.lt_of_le_of_lt (clr_le _ _) hr.1, fun i => ?_⟩
  rw [clr_bit (by omega), Bool.and_eq_true, Bool.and_eq_true, hr.2, decide_eq_true_eq, decide_eq_true_eq]
  constructor
  · rintro ⟨⟨h1, h2⟩, h3, h4⟩; exact ⟨h1, by rw [List.mem_append]; simp; exact ⟨h2, by omega⟩⟩
  · rintro ⟨h1, h2⟩
    have := cell_64 hN h1
    rw [List.mem_append] at h2; simp at h2
    exact ⟨⟨h1, h2.1⟩, by omega, by omega⟩
theorem fewest_step {N : Int → Nat} {xs : List Int} {k : Nat} {y z : Int} (h : fewestOf N (xs.take k) = some z) (hy : xs[k]? = some y) : fewestOf N (xs.take (k + 1)) = some (better N z y) := by
  rw [List.take_add_one, hy]
  cases ht : xs.take k with
  | nil => rw [ht] at h; cases h
  | cons u t =>
    rw [ht] at h
    have h' : t.foldl (better N) u = z := Option.some.inj h
    show some ((t ++ [y]).foldl (better N) u) = _
    rw [List.foldl_append, h']; rfl
theorem cmp_less {m n : Nat} (h : m < n) : Lib.compareInt (m : Int) (n : Int) < 0 := by rw [Lib.compareInt, if_pos (by omega)]; decide
theorem cmp_not {m n : Nat} (h : ¬ m < n) : ¬ Lib.compareInt (m : Int) (n : Int) < 0 := by
  rw [Lib.compareInt, if_neg (by omega)]; split <;> decide

set_option maxRecDepth 100000 in
set_option maxHeartbeats 2000000 in
theorem byOnward_any (gb rb : Nat) (G : List Nat) (r p q : Nat) (hG : G.length = 65) (hGb : ∀ x ∈ G, x < 18446744073709551616) (hrl : r < 18446744073709551616) (hp : p < 64) (hq : q < 64) (w : World) (hg : w.heap[gb]? = some (.cells (words G).toArray 62 (0, 0))) (hr : w.heap[rb]? = some (.cells #[.int .u64 (r : Int)] 59 (0, 0))) :
    Calls Tryz.prog 75 #[.int .i64 (p : Int), .int .i64 (q : Int), .pointer (some ⟨gb, 0, none⟩), .pointer (some ⟨rb, 0, none⟩)] w fun e w' => e = .returned (.int .i64 (Lib.compareInt (popN 64 (G.getD (1 + p) 0 &&& r) : Int) (popN 64 (G.getD (1 + q) 0 &&& r) : Int))) ∧ Below w.heap.size w w' := by
  have lg : gb < w.heap.size := (Array.getElem?_eq_some_iff.1 hg).1
  have lr : rb < w.heap.size := (Array.getElem?_eq_some_iff.1 hr).1
  have at_ : ∀ j, j < 64 → ∃ x : Nat, G.getD (1 + j) 0 = x ∧ x < 18446744073709551616 ∧ w.cell? ⟨gb, 1 + j, none⟩ = some (.int .u64 (x : Int)) := fun j hj => by
    have hx : G[1 + j]? = some (G[1 + j]'(by omega)) := List.getElem?_eq_getElem (by omega)
    refine ⟨G[1 + j]'(by omega), by rw [List.getD_eq_getElem?_getD, hx]; rfl, hGb _ (List.getElem_mem _), ?_⟩
    rw [cell_of_row _ _ _ _ _ _ hg, List.getElem?_toArray, words, List.getElem?_map, hx]; rfl
  obtain ⟨x1, e1, b1, c1⟩ := at_ p hp
  obtain ⟨x2, e2, b2, c2⟩ := at_ q hq
  have c3 : w.cell? ⟨rb, 0, none⟩ = some (.int .u64 (r : Int)) := by rw [cell_of_row _ _ _ _ _ _ hr]; rfl
  rw [e1, e2]
  have HZ1 := Lib.hid (fun V => size_any (x1 &&& r) (rest_lt hrl) V)
  have HZ2 := Lib.hid (fun V => size_any (x2 &&& r) (rest_lt hrl) V)
  have ha1 := bits_and_u64_nat x1 r b1 hrl
  have ha2 := bits_and_u64_nat x2 r b2 hrl
  obtain ⟨u1, hu1⟩ : ∃ u1 : Int, u1 = (popN 64 (x1 &&& r) : Int) := ⟨_, rfl⟩
  obtain ⟨u2, hu2⟩ : ∃ u2 : Int, u2 = (popN 64 (x2 &&& r) : Int) := ⟨_, rfl⟩
  obtain ⟨v1, hv1⟩ : ∃ v1 : Int, v1 = ((x1 &&& r : Nat) : Int) := ⟨_, rfl⟩
  obtain ⟨v2, hv2⟩ : ∃ v2 : Int, v2 = ((x2 &&& r : Nat) : Int) := ⟨_, rfl⟩
  rw [← hu1, ← hv1] at HZ1; rw [← hu2, ← hv2] at HZ2; rw [← hv1] at ha1; rw [← hv2] at ha2
  rw [← hu1, ← hu2]
  have p0 : (0 : Int) ≤ (p : Int) := by omega
  have q0 : (0 : Int) ≤ (q : Int) := by omega
  have p6 : (p : Int) < 64 := by omega
  have q6 : (q : Int) < 64 := by omega
  have B := Lib.hid (Below.refl w.heap.size w)
  clear at_ hg hr hG hGb e1 e2 b1 b2 hu1 hu2 hv1 hv2
  go_enter Tryz.func75, Tryz.ntmps75
  go_wp2_with fail
  refine wp_region_held_drew (S := fun w' => w'.cell? ⟨gb, 1 + p, none⟩ = some (.int .u64 (x1 : Int)) ∧ w'.cell? ⟨gb, 1 + q, none⟩ = some (.int .u64 (x2 : Int)) ∧ w'.cell? ⟨rb, 0, none⟩ = some (.int .u64 (r : Int))) (by kernel_rfl) ?_ (fun hHeld => ?_)
  · (try dsimp only)
    exact ⟨c1, c2, c3⟩
  refine wpAnyH_take (i := 0) (oi := ⟨_, _, _, _, _, _⟩) (v := ?_) rfl (by kernel_rfl) (by kernel_rfl) (by kernel_rfl) (fun _ _ _ h => h) (Or.inl ⟨by rfl, ?_⟩) (by assumption) ?_
  rotate_left
  · intro w hSw
    (try dsimp only at hSw)
    go_simp
    (try with_reducible rfl)
  (try simp only [Act.put, List.setIfInBounds_toArray, List.set_cons_zero, List.set_cons_succ])
  refine wpAnyH_take (i := 1) (oi := ⟨_, _, _, _, _, _⟩) (v := ?_) rfl (by kernel_rfl) (by kernel_rfl) (by kernel_rfl) (fun _ _ _ h => h) (Or.inl ⟨by rfl, ?_⟩) (by assumption) ?_
  rotate_left
  · intro w hSw
    (try dsimp only at hSw)
    go_simp
    (try with_reducible rfl)
  (try simp only [Act.put, List.setIfInBounds_toArray, List.set_cons_zero, List.set_cons_succ])
  refine wpAnyH_take (i := 2) (oi := ⟨_, _, _, _, _, _⟩) (v := ?_) rfl (by kernel_rfl) (by kernel_rfl) (by kernel_rfl) (fun _ _ _ h => h) (Or.inl ⟨by rfl, ?_⟩) (by assumption) ?_
  rotate_left
  · intro w hSw
    (try dsimp only at hSw)
    go_simp
    (try with_reducible rfl)
  (try simp only [Act.put, List.setIfInBounds_toArray, List.set_cons_zero, List.set_cons_succ])
  refine wpAnyH_take (i := 3) (oi := ⟨_, _, _, _, _, _⟩) (v := ?_) rfl (by kernel_rfl) (by kernel_rfl) (by kernel_rfl) (fun _ _ _ h => h) (Or.inl ⟨by rfl, ?_⟩) (by assumption) ?_
  rotate_left
  · intro w hSw
    (try dsimp only at hSw)
    go_simp
    (try with_reducible rfl)
  (try simp only [Act.put, List.setIfInBounds_toArray, List.set_cons_zero, List.set_cons_succ])
  refine wpAnyH_take (i := 4) (oi := ⟨_, _, _, _, _, _⟩) (v := ?_) rfl (by kernel_rfl) (by kernel_rfl) (by kernel_rfl) (fun _ _ _ h => h) (Or.inl ⟨by rfl, ?_⟩) (by assumption) ?_
  rotate_left
  · intro w hSw
    (try dsimp only at hSw)
    go_simp
    (try with_reducible rfl)
  (try simp only [Act.put, List.setIfInBounds_toArray, List.set_cons_zero, List.set_cons_succ])
  refine wpAnyH_take (i := 5) (oi := ⟨_, _, _, _, _, _⟩) (v := ?_) rfl (by kernel_rfl) (by kernel_rfl) (by kernel_rfl) (fun _ _ _ h => h) (Or.inl ⟨by rfl, ?_⟩) (by assumption) ?_
  rotate_left
  · intro w hSw
    (try dsimp only at hSw)
    go_simp
    (try with_reducible rfl)
  (try simp only [Act.put, List.setIfInBounds_toArray, List.set_cons_zero, List.set_cons_succ])
  refine wpAnyH_take (i := 7) (oi := ⟨_, _, _, _, _, _⟩) (v := ?_) rfl (by kernel_rfl) (by kernel_rfl) (by kernel_rfl) (fun _ _ _ h => h) (Or.inl ⟨by rfl, ?_⟩) (by assumption) ?_
  rotate_left
  · intro w hSw
    (try dsimp only at hSw)
    go_simp
    (try with_reducible rfl)
  (try simp only [Act.put, List.setIfInBounds_toArray, List.set_cons_zero, List.set_cons_succ])
  refine wpAnyH_take (i := 8) (oi := ⟨_, _, _, _, _, _⟩) (v := ?_) rfl (by kernel_rfl) (by kernel_rfl) (by kernel_rfl) (fun _ _ _ h => h) (Or.inl ⟨by rfl, ?_⟩) (by assumption) ?_
  rotate_left
  · intro w hSw
    (try dsimp only at hSw)
    go_simp
    (try with_reducible rfl)
  (try simp only [Act.put, List.setIfInBounds_toArray, List.set_cons_zero, List.set_cons_succ])
  refine wpAnyH_take (i := 9) (oi := ⟨_, _, _, _, _, _⟩) (v := ?_) rfl (by kernel_rfl) (by kernel_rfl) (by kernel_rfl) (fun _ _ _ h => h) (Or.inl ⟨by rfl, ?_⟩) (by assumption) ?_
  rotate_left
  · intro w hSw
    (try dsimp only at hSw)
    go_simp
    (try with_reducible rfl)
  (try simp only [Act.put, List.setIfInBounds_toArray, List.set_cons_zero, List.set_cons_succ])
  refine wpAnyH_take (i := 10) (oi := ⟨_, _, _, _, _, _⟩) (v := ?_) rfl (by kernel_rfl) (by kernel_rfl) (by kernel_rfl) (fun _ _ _ h => h) (Or.inl ⟨by rfl, ?_⟩) (by assumption) ?_
  rotate_left
  · intro w hSw
    (try dsimp only at hSw)
    go_simp
    (try with_reducible rfl)
  (try simp only [Act.put, List.setIfInBounds_toArray, List.set_cons_zero, List.set_cons_succ])
  refine wpAnyH_take (i := 11) (oi := ⟨_, _, _, _, _, _⟩) (v := ?_) rfl (by kernel_rfl) (by kernel_rfl) (by kernel_rfl) (fun _ _ _ h => h) (Or.inl ⟨by rfl, ?_⟩) (by assumption) ?_
  rotate_left
  · intro w hSw
    (try dsimp only at hSw)
    go_simp
    (try with_reducible rfl)
  (try simp only [Act.put, List.setIfInBounds_toArray, List.set_cons_zero, List.set_cons_succ])
  refine wpAnyH_take (i := 12) (oi := ⟨_, _, _, _, _, _⟩) (v := ?_) rfl (by kernel_rfl) (by kernel_rfl) (by kernel_rfl) (fun _ _ _ h => h) (Or.inl ⟨by rfl, ?_⟩) (by assumption) ?_
  rotate_left
  · intro w hSw
    (try dsimp only at hSw)
    go_simp
    (try with_reducible rfl)
  (try simp only [Act.put, List.setIfInBounds_toArray, List.set_cons_zero, List.set_cons_succ])
  refine wpAnyH_ready (rs := [6]) (by kernel_rfl) (by simp) ?_
  refine AllReadyH.cons (o := ⟨_, _, _, _, _, _⟩) rfl (fun K hK => ?_) AllReadyH.nil
  go_simp
  (go_at_call 68; refine (HZ1.out _).mono ?_; rintro e wv ⟨rfl, hb⟩; (repeat (first | replace hb := below_undrew hb | replace hb := below_undrewN hb)); replace c1 := cell_keep c1 lg hb; replace c2 := cell_keep c2 lg hb; replace c3 := cell_keep c3 lr hb; replace lg := lt_keep lg hb; replace lr := lt_keep lr hb; replace B := Lib.hid (below_next B.out hb); clear hb)
  (try go_wp2_with fail)
  refine hK.out _ _ ?_ (fun hHeld => ?_)
  · (try dsimp only)
    exact ⟨c1, c2, c3⟩
  clear hK K
  (try simp only [Act.put, List.setIfInBounds_toArray, List.set_cons_zero, List.set_cons_succ])
  refine wpAnyH_ready (rs := [13]) (by kernel_rfl) (by simp) ?_
  refine AllReadyH.cons (o := ⟨_, _, _, _, _, _⟩) rfl (fun K hK => ?_) AllReadyH.nil
  go_simp
  (go_at_call 68; refine (HZ2.out _).mono ?_; rintro e wv ⟨rfl, hb⟩; (repeat (first | replace hb := below_undrew hb | replace hb := below_undrewN hb)); replace c1 := cell_keep c1 lg hb; replace c2 := cell_keep c2 lg hb; replace c3 := cell_keep c3 lr hb; replace lg := lt_keep lg hb; replace lr := lt_keep lr hb; replace B := Lib.hid (below_next B.out hb); clear hb)
  (try go_wp2_with fail)
  refine hK.out _ _ ?_ (fun hHeld => ?_)
  · (try dsimp only)
    exact ⟨c1, c2, c3⟩
  clear hK K
  (try simp only [Act.put, List.setIfInBounds_toArray, List.set_cons_zero, List.set_cons_succ])
  refine wpAnyH_ready (rs := [14]) (by kernel_rfl) (by simp) ?_
  refine AllReadyH.cons (o := ⟨_, _, _, _, _, _⟩) rfl (fun K hK => ?_) AllReadyH.nil
  go_simp
  (go_at_call 76; refine (Tryz.cmp_Compare_int u1 u2 _).mono ?_; rintro e wv ⟨rfl, rfl⟩; skip)
  (try go_wp2_with fail)
  refine hK.out _ _ ?_ (fun hHeld => ?_)
  · (try dsimp only)
    exact ⟨c1, c2, c3⟩
  clear hK K
  (try simp only [Act.put, List.setIfInBounds_toArray, List.set_cons_zero, List.set_cons_succ])
  refine wpAnyH_take (i := 15) (oi := ⟨_, _, _, _, _, _⟩) (v := ?_) rfl (by kernel_rfl) (by kernel_rfl) (by kernel_rfl) (fun _ _ _ h => h) (Or.inl ⟨by rfl, ?_⟩) (by assumption) ?_
  rotate_left
  · intro w hSw
    (try dsimp only at hSw)
    go_simp
    (try with_reducible rfl)
  (try simp only [Act.put, List.setIfInBounds_toArray, List.set_cons_zero, List.set_cons_succ])
  refine wpAnyH_done (by kernel_rfl) ?_ _
  all_goals go_wp2
  all_goals go_ret
  all_goals exact ⟨rfl, B.out⟩

set_option maxRecDepth 100000 in
set_option maxHeartbeats 2000000 in
theorem minFunc_any (A : Option Addr) (n c : Nat) (xs : List Int) (N : Int → Nat) (gb rb : Nat) (w : World) (ha : Rd w A n xs) (h1 : 1 ≤ n) (hn : n ≤ 1000)
    (hc : ∀ w', Below w.heap.size w w' → ∀ x ∈ xs, ∀ y ∈ xs, Calls Tryz.prog 75 #[.int .i64 x, .int .i64 y, .pointer (some ⟨gb, 0, none⟩), .pointer (some ⟨rb, 0, none⟩)] w' fun e w'' => e = .returned (.int .i64 (Lib.compareInt (N x : Int) (N y : Int))) ∧ Below w'.heap.size w' w'') :
    Calls Tryz.prog 77 #[.slice A n c, .func (.func 75) #[] #[.pointer (some ⟨gb, 0, none⟩), .pointer (some ⟨rb, 0, none⟩)]] w fun e w' => ∃ z, e = .returned (.int .i64 z) ∧ fewestOf N xs = some z ∧ Below w.heap.size w w' := by
  have HC := Lib.hid hc; have HA := Lib.hid ha; have HL := Lib.hid ha.1
  obtain ⟨bb, oo, x, rfl, hg1, hx, x0⟩ := ha.at_ (k := 0) h1
  have HX := Lib.hid (show fewestOf N (xs.take 1) = some x by cases xs with | nil => simp at hx | cons u t => simp at hx; subst hx; rfl)
  rw [Nat.add_zero] at x0
  clear ha hc hx
  have n1 : ¬ (n : Int) < 1 := by omega
  have n0 : (0 : Int) < (n : Int) := by omega
  go_enter Tryz.func77, Tryz.ntmps77
  go_wp2
  go_loopw [5, 6] (fun s5 s6 wr => ∃ (k : Nat) (z : Int), 1 ≤ k ∧ k ≤ n ∧ s6 = .int .i64 k ∧ s5 = .int .i64 z ∧ fewestOf N (xs.take k) = some z ∧ Below w.heap.size w wr) (fun _ s6 _ => n - (intOf s6).toNat)
  case atStart => exact ⟨1, x, by omega, by omega, rfl, rfl, HX.out, Below.refl _ _⟩
  case round =>
    obtain ⟨k, z, hk1, hk, rfl, rfl, hz, hbw⟩ := hrel
    have HZ := Lib.hid hz; have BW := Lib.hid hbw
    clear hz hbw
    by_cases hlt : k < n
    · obtain ⟨b3, o3, y, he3, hg3, hy, y0⟩ := (HA.out.keep BW.out).at_ hlt
      injection he3 with he3
      injection he3 with e1 e2 _
      subst e1 e2
      have HY := Lib.hid hy
      have hyx := List.mem_of_getElem? hy
      have hzx : z ∈ xs := List.mem_of_mem_take (fewestOf_mem HZ.out)
      have HCC := Lib.hid (HC.out _ BW.out y hyx z hzx)
      clear hyx hzx hy
      have k0 : (0 : Int) ≤ (k : Int) := by omega
      have kn : (k : Int) < (n : Int) := by omega
      by_cases hl : N y < N z
      · have hr0 := cmp_less hl
        have HE := Lib.hid (show better N z y = y by rw [better, if_pos hl])
        obtain ⟨rr, hrr⟩ : ∃ rr, rr = Lib.compareInt (N y : Int) (N z : Int) := ⟨_, rfl⟩
        rw [← hrr] at HCC hr0
        clear hrr hl
        go_wp2_with fail
        refine HCC.out.mono ?_
        rintro e wz ⟨rfl, hb⟩
        replace y0 := cell_keep y0 hg3 hb
        replace BW := Lib.hid (below_next BW.out hb)
        clear hb HCC
        go_wp2
        go_roundw
        case rel => exact ⟨k + 1, y, by omega, by omega, by go_num, rfl, by rw [fewest_step HZ.out HY.out, HE.out], BW.out⟩
        case measure => simp [intOf]; omega
      · have hr0 := cmp_not hl
        have HE := Lib.hid (show better N z y = z by rw [better, if_neg hl])
        obtain ⟨rr, hrr⟩ : ∃ rr, rr = Lib.compareInt (N y : Int) (N z : Int) := ⟨_, rfl⟩
        rw [← hrr] at HCC hr0
        clear hrr hl
        go_wp2_with fail
        refine HCC.out.mono ?_
        rintro e wz ⟨rfl, hb⟩
        replace BW := Lib.hid (below_next BW.out hb)
        clear hb HCC y0
        go_wp2
        go_roundw
        case rel => exact ⟨k + 1, z, by omega, by omega, by go_num, rfl, by rw [fewest_step HZ.out HY.out, HE.out], BW.out⟩
        case measure => simp [intOf]; omega
    · have HK := Lib.hid (show k = n by omega)
      have kn : ¬ (k : Int) < (n : Int) := by omega
      go_wp2
      go_ret
      exact ⟨z, rfl, by have h := HZ.out; rwa [List.take_of_length_le (by rw [HL.out, HK.out]; exact Nat.le_refl _)] at h, BW.out⟩

end Go.Proofs.YtnnonmpgkkpocaaGreatDoor

namespace Go.Proofs.YtnnonmpgkkpocaaGreatDoor
open Go.RowKit

theorem near_at {G : List Nat} {w : World} {gb j : Nat} (hG : G.length = 65) (hGb : ∀ x ∈ G, x < 18446744073709551616) (hj : j < 64) (hg : w.heap[gb]? = some (.cells (words G).toArray 62 (0, 0))) :
    ∃ x : Nat, G.getD (1 + j) 0 = x ∧ x < 18446744073709551616 ∧ w.cell? ⟨gb, 1 + j, none⟩ = some (.int .u64 (x : Int)) := by
  have hx : G[1 + j]? = some (G[1 + j]'(by omega)) := List.getElem?_eq_getElem (by omega)
  refine ⟨G[1 + j]'(by omega), by rw [List.getD_eq_getElem?_getD, hx]; rfl, hGb _ (List.getElem_mem _), ?_⟩
  rw [cell_of_row _ _ _ _ _ _ hg, List.getElem?_toArray, words, List.getElem?_map, hx]; rfl
theorem allS_lt {W H : Int} {xs : List Int} (hg : goodB W H xs = true) : allS W H xs < 18446744073709551616 := by
  obtain ⟨hW, hH, _, _⟩ := goodB_iff.1 hg
  have hN := cells_le hW hH
  unfold allS; exact setBits_lt _ (fun i hi => by obtain ⟨y, hy, rfl⟩ := List.mem_map.1 hi; have := cell_64 hN (cellsL_mem.1 hy); omega)
set_option maxRecDepth 100000 in
set_option maxHeartbeats 4000000 in
theorem fewestOnward_any (W H : Int) (xs : List Int) (a b q : Int) (w : World) (hg : goodB W H xs = true) (hq : hasB W H xs q = true) (hT : Tab64 w) (hgbT : 0 < w.heap.size) :
    Calls Tryz.prog 59 #[.agg (words (glG W H xs a b)).toArray, .int .i64 q] w fun e w' => ∃ A' n' c', e = .returned (.slice A' n' c') ∧ OwnI 3 w' w.heap.size A' n' c' (fewW W H xs a b 63 [q]) ∧ Below w.heap.size w w' := by
  have HG := Lib.hid hg; have HQ := Lib.hid hq; have HT := Lib.hid hT
  obtain ⟨hW9, hH9, _, _⟩ := goodB_iff.1 hg
  have HN := Lib.hid (cells_le hW9 hH9)
  obtain ⟨i0, hi, hy0, hy1, hy2⟩ := info_parts infoI
  have HI := Lib.hid hi; have HZ0 := Lib.hid hy0; have HZ1 := Lib.hid hy1; have HZ2 := Lib.hid hy2
  clear hi hy0 hy1 hy2 hW9 hH9 hg hq hT
  obtain ⟨G, hG⟩ : ∃ G, G = glG W H xs a b := ⟨_, rfl⟩
  have HGL := Lib.hid (show G.length = 65 by rw [hG]; exact gl_len _ _ _ _ _ _)
  have HGN := Lib.hid (show ∀ y, hasB W H xs y = true → G.getD (1 + y.toNat) 0 = nearS W H xs a b y from fun y hy => by rw [hG]; have := cell_64 HN.out hy; exact glG_at this.1 this.2 (cellsL_mem.2 hy))
  have HGB := Lib.hid (show ∀ x ∈ G, x < 18446744073709551616 by rw [hG]; exact glG_lt HG.out)
  have HG0 := Lib.hid (show (words G)[0]? = some (.int .u64 ((allS W H xs : Nat) : Int)) by rw [hG]; rfl)
  rw [← hG]
  clear hG
  have hq6 := cell_64 HN.out HQ.out
  obtain ⟨s, rfl⟩ : ∃ s : Nat, q = (s : Int) := ⟨q.toNat, by omega⟩
  have HR0 := Lib.hid (rest_start HN.out HQ.out)
  rw [Int.toNat_natCast] at HR0
  obtain ⟨r0, hr0⟩ : ∃ r0, r0 = clr (allS W H xs) s := ⟨_, rfl⟩
  have HAL := Lib.hid (allS_lt HG.out)
  have HWO := Lib.hid (fun w' => without_any (allS W H xs) s HAL.out (by omega) w')
  rw [← hr0] at HR0 HWO
  obtain ⟨al, hal⟩ : ∃ al : Int, al = ((allS W H xs : Nat) : Int) := ⟨_, rfl⟩
  rw [← hal] at HG0 HWO
  clear hr0 hal
  obtain ⟨W2, hW2⟩ : ∃ W2, W2 = w.alloc (.cells (words G).toArray 62) := ⟨_, rfl⟩
  obtain ⟨gb, hgb0⟩ : ∃ gb, gb = w.heap.size := ⟨_, rfl⟩
  have hg2 : W2.heap[gb]? = some (.cells (words G).toArray 62 (0, 0)) := by rw [hW2, hgb0]; exact World.alloc_heap_new _ _
  have HGB0 := Lib.hid hgb0
  have hs2 : W2.heap.size = gb + 1 := by rw [hW2, hgb0]; simp
  have c0 : W2.cell? ⟨gb, 0, none⟩ = some (.int .u64 al) := by rw [cell_of_row _ _ _ _ _ _ hg2, List.getElem?_toArray]; exact HG0.out
  have hB2 : Below w.heap.size w W2 := by rw [hW2]; exact below_new (Below.refl _ _) _
  obtain ⟨V, hV⟩ : ∃ V, V = (words G).toArray := ⟨_, rfl⟩
  have HV := Lib.hid hV
  rw [← hV] at hg2 hW2 ⊢
  clear hV hgb0
  go_enter Tryz.func59, Tryz.ntmps59
  go_upto_region 1 with fail
  rw [← hW2, ← HGB0.out]
  clear hW2
  go_wp2_with fail
  refine (HWO.out _).mono ?_
  rintro e w2' ⟨rfl, rfl⟩
  clear c0
  go_wp2_with fail
  obtain ⟨rb, hrb0⟩ : ∃ rb, rb = gb + 1 := ⟨_, rfl⟩
  have hrb : rb = W2.heap.size := by omega
  obtain ⟨W3, hW3⟩ : ∃ W3, W3 = W2.alloc (.cells #[.int .u64 (r0 : Int)] 59) := ⟨_, rfl⟩
  have hr3 : W3.heap[rb]? = some (.cells #[.int .u64 (r0 : Int)] 59 (0, 0)) := by rw [hW3, hrb]; exact World.alloc_heap_new _ _
  have hb3 : Below W2.heap.size W2 W3 := by rw [hW3]; exact below_new (Below.refl _ _) _
  have hs3 : W3.heap.size = rb + 1 := by rw [hW3, hrb]; simp
  rw [← hW3, ← hrb0]
  obtain ⟨W4, hW4⟩ : ∃ W4, W4 = W3.alloc (.cells #[.int .i64 (s : Int)] 3) := ⟨_, rfl⟩
  have hb4 : Below W3.heap.size W3 W4 := by rw [hW4]; exact below_new (Below.refl _ _) _
  have hq0 : OwnI 3 W4 (rb + 1) (some ⟨rb + 1, 0, none⟩) 1 1 [(s : Int)] := by
    rw [hW4, ← hs3]
    exact World.ownsRow_lit (base := W3.heap.size) (e := 3) W3 (#[.int .i64 (s : Int)] : Array Value) 1 (size := 1) (Nat.le_refl _) (by decide) rfl
  have hg4 := (hb4.block gb (by omega)).trans ((hb3.block gb (by omega)).trans hg2)
  have hr4 := (hb4.block rb (by omega)).trans hr3
  have hB4 := below_next (below_next hB2 hb3) hb4
  rw [← hW4]
  have HRB := Lib.hid (show rb = gb + 1 by omega)
  obtain ⟨pa, hpa⟩ : ∃ pa : Option Addr, pa = some ⟨rb + 1, 0, none⟩ := ⟨_, rfl⟩
  rw [← hpa] at hq0
  have HPA := Lib.hid hpa
  have HO0 := Lib.hid hq0; have HGH := Lib.hid hg4; have HRH := Lib.hid hr4; have HB0 := Lib.hid hB4
  clear hW4 hW3 hb3 hb4 hr3 hg2 hq0 hg4 hr4 hB4 hB2 hs2 hs3 hrb hrb0 hpa
  obtain ⟨x1, e1, b1, c1⟩ := near_at HGL.out HGB.out (show s < 64 by omega) (by have h := HGH.out; rw [HV.out] at h; exact h)
  have c2 : W4.cell? ⟨rb, 0, none⟩ = some (.int .u64 (r0 : Int)) := by rw [cell_of_row _ _ _ _ _ _ HRH.out]; rfl
  have hn1 := HGN.out _ HQ.out
  rw [Int.toNat_natCast, e1] at hn1
  have HN1 := Lib.hid hn1
  have ha1 := bits_and_u64_nat x1 r0 b1 HR0.out.1
  have s0 : (0 : Int) ≤ (s : Int) := by omega
  have s6 : (s : Int) < 64 := by omega
  clear e1 hn1 b1
  go_wp2_with fail
  refine wp_region_held_drew (S := fun w' => w'.cell? ⟨gb, 1 + s, none⟩ = some (.int .u64 (x1 : Int)) ∧ w'.cell? ⟨rb, 0, none⟩ = some (.int .u64 (r0 : Int))) (by kernel_rfl) ?_ (fun hHeld => ?_)
  · (try dsimp only)
    exact ⟨c1, c2⟩
  refine wpAnyH_take (i := 0) (oi := ⟨_, _, _, _, _, _⟩) (v := ?_) rfl (by kernel_rfl) (by kernel_rfl) (by kernel_rfl) (fun _ _ _ h => h) (Or.inl ⟨by rfl, ?_⟩) (by assumption) ?_
  rotate_left
  · intro w hSw
    (try dsimp only at hSw)
    go_simp
    (try with_reducible rfl)
  (try simp only [Act.put, List.setIfInBounds_toArray, List.set_cons_zero, List.set_cons_succ])
  refine wpAnyH_take (i := 1) (oi := ⟨_, _, _, _, _, _⟩) (v := ?_) rfl (by kernel_rfl) (by kernel_rfl) (by kernel_rfl) (fun _ _ _ h => h) (Or.inl ⟨by rfl, ?_⟩) (by assumption) ?_
  rotate_left
  · intro w hSw
    (try dsimp only at hSw)
    go_simp
    (try with_reducible rfl)
  (try simp only [Act.put, List.setIfInBounds_toArray, List.set_cons_zero, List.set_cons_succ])
  refine wpAnyH_take (i := 2) (oi := ⟨_, _, _, _, _, _⟩) (v := ?_) rfl (by kernel_rfl) (by kernel_rfl) (by kernel_rfl) (fun _ _ _ h => h) (Or.inl ⟨by rfl, ?_⟩) (by assumption) ?_
  rotate_left
  · intro w hSw
    (try dsimp only at hSw)
    go_simp
    (try with_reducible rfl)
  (try simp only [Act.put, List.setIfInBounds_toArray, List.set_cons_zero, List.set_cons_succ])
  refine wpAnyH_take (i := 3) (oi := ⟨_, _, _, _, _, _⟩) (v := ?_) rfl (by kernel_rfl) (by kernel_rfl) (by kernel_rfl) (fun _ _ _ h => h) (Or.inl ⟨by rfl, ?_⟩) (by assumption) ?_
  rotate_left
  · intro w hSw
    (try dsimp only at hSw)
    go_simp
    (try with_reducible rfl)
  (try simp only [Act.put, List.setIfInBounds_toArray, List.set_cons_zero, List.set_cons_succ])
  refine wpAnyH_take (i := 4) (oi := ⟨_, _, _, _, _, _⟩) (v := ?_) rfl (by kernel_rfl) (by kernel_rfl) (by kernel_rfl) (fun _ _ _ h => h) (Or.inl ⟨by rfl, ?_⟩) (by assumption) ?_
  rotate_left
  · intro w hSw
    (try dsimp only at hSw)
    go_simp
    (try with_reducible rfl)
  (try simp only [Act.put, List.setIfInBounds_toArray, List.set_cons_zero, List.set_cons_succ])
  refine wpAnyH_take (i := 5) (oi := ⟨_, _, _, _, _, _⟩) (v := ?_) rfl (by kernel_rfl) (by kernel_rfl) (by kernel_rfl) (fun _ _ _ h => h) (Or.inl ⟨by rfl, ?_⟩) (by assumption) ?_
  rotate_left
  · intro w hSw
    (try dsimp only at hSw)
    go_simp
    (try with_reducible rfl)
  (try simp only [Act.put, List.setIfInBounds_toArray, List.set_cons_zero, List.set_cons_succ])
  refine wpAnyH_take (i := 6) (oi := ⟨_, _, _, _, _, _⟩) (v := ?_) rfl (by kernel_rfl) (by kernel_rfl) (by kernel_rfl) (fun _ _ _ h => h) (Or.inl ⟨by rfl, ?_⟩) (by assumption) ?_
  rotate_left
  · intro w hSw
    (try dsimp only at hSw)
    go_simp
    (try with_reducible rfl)
  (try simp only [Act.put, List.setIfInBounds_toArray, List.set_cons_zero, List.set_cons_succ])
  refine wpAnyH_done (by kernel_rfl) ?_ _
  clear hHeld c1 c2
  go_wp2
  go_loopg [7, 8] 64 (fun gm s7 s8 wr => ∃ (A' : Option Addr) (n' c' : Nat) (path : List Int) (r : Nat), s7 = .slice A' n' c' ∧ s8 = .int .u64 ((nearS W H xs a b (lastOf path) &&& r : Nat) : Int) ∧ 64 - n' ≤ gm ∧ OwnI 3 wr (rb + 1) A' n' c' path ∧ 1 ≤ n' ∧ path.Nodup ∧ (∀ y ∈ path, hasB W H xs y = true) ∧ fewW W H xs a b 63 [(s : Int)] = fewW W H xs a b (64 - path.length) path ∧ RestOf W H xs path r ∧ wr.heap[gb]? = some (.cells V 62 (0, 0)) ∧ wr.heap[rb]? = some (.cells #[.int .u64 (r : Int)] 59 (0, 0)) ∧ Below w.heap.size w wr)
  case atStart => exact ⟨_, 1, 1, [(s : Int)], r0, by rw [HPA.out], by rw [HN1.out]; rfl, by omega, HO0.out, Nat.le_refl _, by simp, by simpa using HQ.out, rfl, HR0.out, HGH.out, HRH.out, by first | exact HB0.out | exact HB0.out.drew⟩
  case round =>
    clear HO0 HGH HRH HB0 HR0 HN1 ha1 HWO HPA
    obtain ⟨A', n', c', path, r, rfl, rfl, hgm, hown, hn1, hnd, hin, hfw, hrest, hgh, hrh, hbw⟩ := hrel
    have HO := Lib.hid hown; have HND := Lib.hid hnd; have HIN := Lib.hid hin; have HFW := Lib.hid hfw; have HBW := Lib.hid hbw; have HRE := Lib.hid hrest; have HGH := Lib.hid hgh; have HRH := Lib.hid hrh
    have HLN := Lib.hid hown.len
    have hn64 : n' ≤ 64 := by have := path_few HN.out hnd hin; have := HLN.out; omega
    have HLH := Lib.hid (show hasB W H xs (lastOf path) = true from hin _ (by
      rw [lastOf, List.getD_eq_getElem?_getD, List.getElem?_eq_getElem (show path.length - 1 < path.length by have := HLN.out; omega)]; exact List.getElem_mem _))
    have HLI := Lib.hid (near_rest_list (a := a) (b := b) (x := lastOf path) HG.out HN.out hrest)
    have HCB := Lib.hid (show nearS W H xs a b (lastOf path) &&& r < 18446744073709551616 from rest_lt hrest.1)
    obtain ⟨ch, hch⟩ : ∃ ch, ch = nearS W H xs a b (lastOf path) &&& r := ⟨_, rfl⟩
    rw [← hch] at HLI HCB ⊢
    have hglt : gb < wr.heap.size := (Array.getElem?_eq_some_iff.1 hgh).1
    have hrlt : rb < wr.heap.size := (Array.getElem?_eq_some_iff.1 hrh).1
    clear hown hnd hin hfw hbw hrest hgh hrh hch
    by_cases h0 : ch = 0
    · subst h0
      have HF := Lib.hid (show onL W H xs a b path (lastOf path) = [] by rw [← HLI.out]; exact bitsL_zero)
      go_wp2
      go_ret
      exact ⟨_, n', c', rfl, by rw [HFW.out, fewW_none HF.out]; exact HO.out.lower (by have := HRB.out; have := HGB0.out; omega), HBW.out⟩
    · have hne : ((ch : Int) != 0) = true := by simp; exact h0
      have HNE := Lib.hid (show onL W H xs a b path (lastOf path) ≠ [] by
        rw [← HLI.out]; intro h9
        obtain ⟨k9, hk9⟩ := Nat.exists_testBit_of_ne_zero h0
        have hk64 : k9 < 64 := by
          rcases Nat.lt_or_ge k9 64 with h | h
          · exact h
          · rw [Nat.testBit_lt_two_pow (Nat.lt_of_lt_of_le HCB.out (Nat.pow_le_pow_right (show 0 < 2 by decide) h))] at hk9; cases hk9
        have : (k9 : Int) ∈ bitsL ch := bitsL_mem.2 ⟨by omega, by omega, by simpa using hk9⟩
        rw [h9] at this; cases this)
      clear h0
      go_wp2_with fail
      refine (cells_any ch HCB.out _ (HT.out.keep hgbT HBW.out) (Nat.lt_of_lt_of_le hgbT HBW.out.size)).mono ?_
      rintro e wx ⟨A3, n3, c3, rfl, own3, hb⟩
      rw [HLI.out] at own3
      have O3 := Lib.hid own3.rd
      have hn31 : 1 ≤ n3 := by have := own3.len; have h9 := HNE.out; cases hl : onL W H xs a b path (lastOf path) with | nil => exact absurd hl h9 | cons u v => rw [hl] at this; simp at this; omega
      have hn33 : n3 ≤ 1000 := by
        have h1 := List.length_filter_le (fun y => !path.contains y) (leapsL W H xs a b (lastOf path))
        have h2 := leapsL_len64 (W := W) (H := H) (xs := xs) (a := a) (b := b) (q := lastOf path) HN.out
        have h3 := own3.len
        rw [onL] at h3; omega
      replace HBW := Lib.hid (below_next HBW.out hb)
      replace HO := Lib.hid (HO.out.keep hb)
      replace HGH := Lib.hid ((hb.block gb hglt).trans HGH.out)
      replace HRH := Lib.hid ((hb.block rb hrlt).trans HRH.out)
      replace hglt := Nat.lt_of_lt_of_le hglt hb.size
      replace hrlt := Nat.lt_of_lt_of_le hrlt hb.size
      clear own3 hb hne
      go_wp2_with fail
      refine (minFunc_any _ _ _ (onL W H xs a b path (lastOf path)) (onN W H xs a b path) gb rb _ O3.out hn31 hn33 (fun w' hb x hx y hy => ?_)).mono ?_
      · have hxb := (onL_mem.1 hx).1
        have hyb := (onL_mem.1 hy).1
        have hx6 := cell_64 HN.out hxb
        have hy6 := cell_64 HN.out hyb
        obtain ⟨xn, rfl⟩ : ∃ xn : Nat, x = (xn : Int) := ⟨x.toNat, by omega⟩
        obtain ⟨yn, rfl⟩ : ∃ yn : Nat, y = (yn : Int) := ⟨y.toNat, by omega⟩
        have h9 := byOnward_any gb rb G r xn yn HGL.out HGB.out HRE.out.1 (by omega) (by omega) w' (by have h := (hb.block gb hglt).trans HGH.out; rw [HV.out] at h; exact h) ((hb.block rb hrlt).trans HRH.out)
        have ex := HGN.out _ hxb
        have ey := HGN.out _ hyb
        rw [Int.toNat_natCast] at ex ey
        rw [ex, ey, near_rest_pop HG.out HN.out HRE.out, near_rest_pop HG.out HN.out HRE.out] at h9
        exact h9
      rintro e wy ⟨z, rfl, hz, hb⟩
      have hzm := fewestOf_mem hz
      have hzb := (onL_mem.1 hzm).1
      have hz6 := cell_64 HN.out hzb
      have HM := Lib.hid (path_more (a := a) (b := b) (x := z) HN.out HND.out HIN.out hzm)
      have HFZ := Lib.hid hz
      have HZB := Lib.hid hzb
      replace HBW := Lib.hid (below_next HBW.out hb)
      replace HO := Lib.hid (HO.out.keep hb)
      replace HGH := Lib.hid ((hb.block gb hglt).trans HGH.out)
      replace HRH := Lib.hid ((hb.block rb hrlt).trans HRH.out)
      replace hglt := Nat.lt_of_lt_of_le hglt hb.size
      replace hrlt := Nat.lt_of_lt_of_le hrlt hb.size
      clear hb hz hzm hzb
      obtain ⟨zn, rfl⟩ : ∃ zn : Nat, z = (zn : Int) := ⟨z.toNat, by omega⟩
      have hsz9 : rb + 1 ≤ wy.heap.size := hrlt
      go_wp2_with (at_builtin; refine wpList_app1 rfl (.tmp 29) (.tmp 31) 22 3 rfl i0 Tryz.underlying22 HI.out HZ0.out HZ1.out HZ2.out (rb + 1) A' n' c' path (zn : Int) rfl HO.out rfl (by omega) hsz9 ?_; intro A2 c2' w2 hown2 hb2'; have c2 : w2.cell? ⟨rb, 0, none⟩ = some (.int .u64 (r : Int)) := (by rw [cell_of_row _ _ _ _ _ _ ((hb2'.block rb (by omega)).trans HRH.out)]; rfl))
      have HO3 := Lib.hid hown2
      have HRE2 := Lib.hid (rest_next HN.out HRE.out HZB.out)
      rw [Int.toNat_natCast] at HRE2
      replace HGH := Lib.hid ((hb2'.block gb (by have := HRB.out; omega)).trans HGH.out)
      replace HRH := Lib.hid ((hb2'.block rb (by omega)).trans HRH.out)
      replace HBW := Lib.hid (HBW.out.trans (hb2'.mono (by have := HRB.out; have := HGB0.out; omega)))
      clear hown2 hb2' hglt hrlt hsz9
      refine (without_any r zn HRE.out.1 (by omega) _).mono ?_
      rintro e w5 ⟨rfl, rfl⟩
      obtain ⟨r2, hr2⟩ : ∃ r2, r2 = clr r zn := ⟨_, rfl⟩
      rw [← hr2] at HRE2 ⊢
      clear hr2
      have fr : w2.frozen? ⟨rb, 0, none⟩ = false := frozen_of_row _ _ _ _ _ HRH.out
      have HB6 := Lib.hid (HBW.out.setCell (p := ⟨rb, 0, none⟩) (by have := HRB.out; have := HGB0.out; simp only; omega) (.int .u64 (r2 : Int)))
      have HO6 := Lib.hid (HO3.out.set_ (p := ⟨rb, 0, none⟩) (by simp only; omega) (.int .u64 (r2 : Int)))
      have HR6 := Lib.hid (heap_set (j := 0) (.int .u64 (r2 : Int)) HRH.out)
      have HG6 := Lib.hid (((grown_set w2 rb 0 (.int .u64 (r2 : Int))).block gb (Array.getElem?_eq_some_iff.1 HGH.out).1 (by have := HRB.out; simp; omega)).trans HGH.out)
      go_wp2_with fail
      obtain ⟨w6, hw6⟩ : ∃ w6, w6 = w2.setCell ⟨rb, 0, none⟩ (.int .u64 (r2 : Int)) := ⟨_, rfl⟩
      rw [← hw6] at HB6 HO6 HR6 HG6 ⊢
      clear hw6 fr c2 HBW HO3 HRH HGH
      obtain ⟨x1, e1, b1, c1⟩ := near_at HGL.out HGB.out (show zn < 64 by omega) (by have h := HG6.out; rw [HV.out] at h; exact h)
      have c2 : w6.cell? ⟨rb, 0, none⟩ = some (.int .u64 (r2 : Int)) := by rw [cell_of_row _ _ _ _ _ _ HR6.out]; rfl
      have hn1 := HGN.out _ HZB.out
      rw [Int.toNat_natCast, e1] at hn1
      have HN1 := Lib.hid hn1
      have ha1 := bits_and_u64_nat x1 r2 b1 HRE2.out.1
      have z0 : (0 : Int) ≤ (zn : Int) := by omega
      have z6 : (zn : Int) < 64 := by omega
      clear e1 hn1 b1
      go_wp2_with fail
      refine wp_region_held_drew (S := fun w' => w'.cell? ⟨gb, 1 + zn, none⟩ = some (.int .u64 (x1 : Int)) ∧ w'.cell? ⟨rb, 0, none⟩ = some (.int .u64 (r2 : Int))) (by kernel_rfl) ?_ (fun hHeld => ?_)
      · (try dsimp only)
        exact ⟨c1, c2⟩
      refine wpAnyH_take (i := 0) (oi := ⟨_, _, _, _, _, _⟩) (v := ?_) rfl (by kernel_rfl) (by kernel_rfl) (by kernel_rfl) (fun _ _ _ h => h) (Or.inl ⟨by rfl, ?_⟩) (by assumption) ?_
      rotate_left
      · intro w hSw
        (try dsimp only at hSw)
        go_simp
        (try with_reducible rfl)
      (try simp only [Act.put, List.setIfInBounds_toArray, List.set_cons_zero, List.set_cons_succ])
      refine wpAnyH_take (i := 1) (oi := ⟨_, _, _, _, _, _⟩) (v := ?_) rfl (by kernel_rfl) (by kernel_rfl) (by kernel_rfl) (fun _ _ _ h => h) (Or.inl ⟨by rfl, ?_⟩) (by assumption) ?_
      rotate_left
      · intro w hSw
        (try dsimp only at hSw)
        go_simp
        (try with_reducible rfl)
      (try simp only [Act.put, List.setIfInBounds_toArray, List.set_cons_zero, List.set_cons_succ])
      refine wpAnyH_take (i := 2) (oi := ⟨_, _, _, _, _, _⟩) (v := ?_) rfl (by kernel_rfl) (by kernel_rfl) (by kernel_rfl) (fun _ _ _ h => h) (Or.inl ⟨by rfl, ?_⟩) (by assumption) ?_
      rotate_left
      · intro w hSw
        (try dsimp only at hSw)
        go_simp
        (try with_reducible rfl)
      (try simp only [Act.put, List.setIfInBounds_toArray, List.set_cons_zero, List.set_cons_succ])
      refine wpAnyH_take (i := 3) (oi := ⟨_, _, _, _, _, _⟩) (v := ?_) rfl (by kernel_rfl) (by kernel_rfl) (by kernel_rfl) (fun _ _ _ h => h) (Or.inl ⟨by rfl, ?_⟩) (by assumption) ?_
      rotate_left
      · intro w hSw
        (try dsimp only at hSw)
        go_simp
        (try with_reducible rfl)
      (try simp only [Act.put, List.setIfInBounds_toArray, List.set_cons_zero, List.set_cons_succ])
      refine wpAnyH_take (i := 4) (oi := ⟨_, _, _, _, _, _⟩) (v := ?_) rfl (by kernel_rfl) (by kernel_rfl) (by kernel_rfl) (fun _ _ _ h => h) (Or.inl ⟨by rfl, ?_⟩) (by assumption) ?_
      rotate_left
      · intro w hSw
        (try dsimp only at hSw)
        go_simp
        (try with_reducible rfl)
      (try simp only [Act.put, List.setIfInBounds_toArray, List.set_cons_zero, List.set_cons_succ])
      refine wpAnyH_take (i := 5) (oi := ⟨_, _, _, _, _, _⟩) (v := ?_) rfl (by kernel_rfl) (by kernel_rfl) (by kernel_rfl) (fun _ _ _ h => h) (Or.inl ⟨by rfl, ?_⟩) (by assumption) ?_
      rotate_left
      · intro w hSw
        (try dsimp only at hSw)
        go_simp
        (try with_reducible rfl)
      (try simp only [Act.put, List.setIfInBounds_toArray, List.set_cons_zero, List.set_cons_succ])
      refine wpAnyH_take (i := 6) (oi := ⟨_, _, _, _, _, _⟩) (v := ?_) rfl (by kernel_rfl) (by kernel_rfl) (by kernel_rfl) (fun _ _ _ h => h) (Or.inl ⟨by rfl, ?_⟩) (by assumption) ?_
      rotate_left
      · intro w hSw
        (try dsimp only at hSw)
        go_simp
        (try with_reducible rfl)
      (try simp only [Act.put, List.setIfInBounds_toArray, List.set_cons_zero, List.set_cons_succ])
      refine wpAnyH_done (by kernel_rfl) ?_ _
      clear hHeld c1 c2
      go_wp2
      go_roundg (64 - (n' + 1))
      case rel =>
        have h63 := HM.out.2.2
        have hle := HLN.out
        exact ⟨_, n' + 1, c2', path ++ [(zn : Int)], r2, rfl, by rw [lastOf_snoc, ← HN1.out], Nat.le_refl _, HO6.out, by omega, HM.out.1, HM.out.2.1, by rw [HFW.out, show 64 - path.length = (64 - (path ++ [(zn : Int)]).length) + 1 by rw [List.length_append]; simp; omega, fewW_some HFZ.out], HRE2.out, HG6.out, HR6.out, by first | exact HB6.out | exact HB6.out.drew⟩
      case measure => have := HM.out.2.2; have := HLN.out; omega

end Go.Proofs.YtnnonmpgkkpocaaGreatDoor

namespace Go.Proofs.YtnnonmpgkkpocaaGreatDoor
open Go.RowKit

theorem onB_from {W H a b p : Int} {xs : List Int} : onB W H xs a b [p] = okFrom W H xs a b p := by
  rw [onB, okFrom, okTwo, hasV, Bool.and_assoc]; simp
theorem fewW_len {W H : Int} {xs : List Int} {a b : Int} (hN : 1 ≤ W * H ∧ W * H ≤ 64) : ∀ (k : Nat) (path : List Int), path.Nodup → (∀ y ∈ path, hasB W H xs y = true) → (fewW W H xs a b k path).length ≤ 64
  | 0, path, hnd, hin => path_few hN hnd hin
  | k + 1, path, hnd, hin => by
    rw [fewW]
    cases h : fewestOf (onN W H xs a b path) (onL W H xs a b path (lastOf path)) with
    | none => exact path_few hN hnd hin
    | some x =>
      obtain ⟨h1, h2, _⟩ := path_more (a := a) (b := b) hN hnd hin (fewestOf_mem h)
      exact fewW_len hN k _ h1 h2
theorem len_FewestOnward (W H : Int) (xs : List Int) (a b q : Int) : (fewV W H xs a b q).length ≤ 1000000 := by
  unfold fewV
  split
  · rename_i h
    rw [okFrom, Bool.and_eq_true] at h
    obtain ⟨hg, hW, hH, _, _, hh⟩ := hasV_facts h.2
    have := fewW_len (a := a) (b := b) (cells_le hW hH) 63 [q] (by simp) (fun y hy => by simp at hy; subst hy; exact hh)
    omega
  · simp

set_option maxRecDepth 100000 in
set_option maxHeartbeats 2000000 in
theorem impl_FewestOnward (W H : Int) (A : Option Addr) (n c : Nat) (xs : List Int) (a b : Int) (p : Int) (w : World) (ha : Rd w A n xs) (hTT : Tab64 w ∧ 0 < w.heap.size) :
    Calls Tryz.prog 37 #[brd W H A n c, lpr a b, .int .i64 p] w fun e w' => ∃ A' n' c', e = .returned (.tuple #[.slice A' n' c', .bool (okFrom W H xs a b p)]) ∧ OwnI 3 w' w.heap.size A' n' c' (fewV W H xs a b p) ∧ Below w.heap.size w w' := by
  have HT := Lib.hid hTT.1
  have hgb := hTT.2
  clear hTT
  by_cases ho : onB W H xs a b [p] = true
  · have HOF := Lib.hid (show okFrom W H xs a b p = true by rw [← onB_from]; exact ho)
    have HL := Lib.hid (show leaperB a b = true by have h := HOF.out; rw [okFrom, Bool.and_eq_true] at h; exact h.1)
    have HV := Lib.hid (show hasV W H xs p = true by have h := HOF.out; rw [okFrom, Bool.and_eq_true] at h; exact h.2)
    have HG := Lib.hid (show goodB W H xs = true by have h := HV.out; rw [hasV, Bool.and_eq_true] at h; exact h.1)
    have HH := Lib.hid (show hasB W H xs p = true by have h := HV.out; rw [hasV, Bool.and_eq_true] at h; exact h.2)
    obtain ⟨W2, hW2⟩ : ∃ W2, W2 = ((w.alloc (.cells #[.int .i64 W, .int .i64 H, .slice A n c] 30)).alloc (.cells #[.int .i64 a, .int .i64 b] 32)).alloc (.cells #[.int .i64 p] 3) := ⟨_, rfl⟩
    have hsz : W2.heap.size = w.heap.size + 3 := by rw [hW2]; simp
    have a0 : W2.cell? ⟨w.heap.size, 0, none⟩ = some (.int .i64 W) := by rw [hW2]; go_simp
    have a1 : W2.cell? ⟨w.heap.size, 1, none⟩ = some (.int .i64 H) := by rw [hW2]; go_simp
    have a2 : W2.cell? ⟨w.heap.size, 2, none⟩ = some (.slice A n c) := by rw [hW2]; go_simp
    have l0 : W2.cell? ⟨w.heap.size + 1, 0, none⟩ = some (.int .i64 a) := by rw [hW2]; go_simp
    have l1 : W2.cell? ⟨w.heap.size + 1, 1, none⟩ = some (.int .i64 b) := by rw [hW2]; go_simp
    have q0 : W2.cell? ⟨w.heap.size + 1 + 1, 0, none⟩ = some (.int .i64 p) := by rw [hW2]; go_simp
    have al : w.heap.size < W2.heap.size := by omega
    have ll : w.heap.size + 1 < W2.heap.size := by omega
    have B := Lib.hid (show Below w.heap.size w W2 by rw [hW2]; exact (((Below.refl _ _).alloc (Nat.le_refl _) _).alloc (by simp) _).alloc (by simp; omega) _)
    have RP := Lib.hid (show Rd W2 (some ⟨w.heap.size + 1 + 1, 0, none⟩) 1 [p] from ⟨rfl, by omega, fun k hk => by
      obtain rfl : k = 0 := by omega
      exact ⟨_, 0, _, rfl, by omega, rfl, q0⟩⟩)
    clear q0
    go_enter Tryz.func37, Tryz.ntmps37
    go_wp2_with fail
    rw [← hW2]
    clear hW2
    refine (isLeaperOn_any W H A n c xs a b _ 1 1 _ W2 (ha.keep B.out) RP.out).mono ?_
    rw [ho]
    rintro e wv ⟨rfl, hb⟩
    replace a0 := cell_keep a0 al hb; replace a1 := cell_keep a1 al hb; replace a2 := cell_keep a2 al hb; replace l0 := cell_keep l0 ll hb; replace l1 := cell_keep l1 ll hb; replace al := lt_keep al hb; replace ll := lt_keep ll hb
    replace B := Lib.hid (below_next B.out hb)
    clear hb RP hsz
    go_wp2_with fail
    refine (groundOf_any W H A n c xs a b _ (ha.keep B.out) HG.out HL.out (HT.out.keep hgb B.out) (Nat.lt_of_lt_of_le hgb B.out.size)).mono ?_
    rintro e wx ⟨rfl, hb⟩
    replace B := Lib.hid (below_next B.out hb)
    clear hb a0 a1 a2 l0 l1 al ll
    have HFO := Lib.hid (fewestOnward_any W H xs a b p wx HG.out HH.out (HT.out.keep hgb B.out) (Nat.lt_of_lt_of_le hgb B.out.size))
    rw [show (glG W H xs a b) = gl W H xs a b (cellsL W H xs) from rfl] at HFO
    generalize (Value.agg (words (gl W H xs a b (cellsL W H xs))).toArray) = gv at HFO ⊢
    go_wp2_with fail
    refine HFO.out.mono ?_
    rintro e wy ⟨A', n', c', rfl, own, hb⟩
    have O := Lib.hid (own.lower B.out.size)
    replace B := Lib.hid (below_next B.out hb)
    clear own hb HFO
    go_wp2
    go_ret2
    exact ⟨A', n', c', by rw [HOF.out]; rfl, by rw [fewV, HOF.out, if_pos rfl]; exact O.out, B.out⟩
  · have ho' : onB W H xs a b [p] = false := by simpa using ho
    obtain ⟨W2, hW2⟩ : ∃ W2, W2 = ((w.alloc (.cells #[.int .i64 W, .int .i64 H, .slice A n c] 30)).alloc (.cells #[.int .i64 a, .int .i64 b] 32)).alloc (.cells #[.int .i64 p] 3) := ⟨_, rfl⟩
    have hsz : W2.heap.size = w.heap.size + 3 := by rw [hW2]; simp
    have a0 : W2.cell? ⟨w.heap.size, 0, none⟩ = some (.int .i64 W) := by rw [hW2]; go_simp
    have a1 : W2.cell? ⟨w.heap.size, 1, none⟩ = some (.int .i64 H) := by rw [hW2]; go_simp
    have a2 : W2.cell? ⟨w.heap.size, 2, none⟩ = some (.slice A n c) := by rw [hW2]; go_simp
    have l0 : W2.cell? ⟨w.heap.size + 1, 0, none⟩ = some (.int .i64 a) := by rw [hW2]; go_simp
    have l1 : W2.cell? ⟨w.heap.size + 1, 1, none⟩ = some (.int .i64 b) := by rw [hW2]; go_simp
    have q0 : W2.cell? ⟨w.heap.size + 1 + 1, 0, none⟩ = some (.int .i64 p) := by rw [hW2]; go_simp
    have al : w.heap.size < W2.heap.size := by omega
    have ll : w.heap.size + 1 < W2.heap.size := by omega
    have B := Lib.hid (show Below w.heap.size w W2 by rw [hW2]; exact (((Below.refl _ _).alloc (Nat.le_refl _) _).alloc (by simp) _).alloc (by simp; omega) _)
    have RP := Lib.hid (show Rd W2 (some ⟨w.heap.size + 1 + 1, 0, none⟩) 1 [p] from ⟨rfl, by omega, fun k hk => by
      obtain rfl : k = 0 := by omega
      exact ⟨_, 0, _, rfl, by omega, rfl, q0⟩⟩)
    clear q0
    go_enter Tryz.func37, Tryz.ntmps37
    go_wp2_with fail
    rw [← hW2]
    clear hW2
    refine (isLeaperOn_any W H A n c xs a b _ 1 1 _ W2 (ha.keep B.out) RP.out).mono ?_
    rw [ho']
    rintro e wv ⟨rfl, hb⟩
    replace a0 := cell_keep a0 al hb; replace a1 := cell_keep a1 al hb; replace a2 := cell_keep a2 al hb; replace l0 := cell_keep l0 ll hb; replace l1 := cell_keep l1 ll hb; replace al := lt_keep al hb; replace ll := lt_keep ll hb
    replace B := Lib.hid (below_next B.out hb)
    clear hb RP hsz
    go_wp2
    go_ret2
    exact ⟨none, 0, 0, by rw [show okFrom W H xs a b p = false by rw [← onB_from, ho']]; rfl, by rw [fewV, if_neg (by rw [← onB_from, ho']; simp)]; exact OwnI.none_ _ _ _, B.out⟩

end Go.Proofs.YtnnonmpgkkpocaaGreatDoor

namespace Go.Proofs.YtnnonmpgkkpocaaGreatDoor
open Go.RowKit

set_option maxHeartbeats 4000000 in
set_option maxRecDepth 100000 in
theorem law_FewestOnward (w : World) (V0 G0 : Int) (A0 : Option Addr) (n0 c0 : Nat) (xs0 : List Int) (ha0 : Rd w A0 n0 xs0) (la1 lb1 : Int) (q2 : Int) (hT : Tab64 w ∧ 0 < w.heap.size) :
    Calls Tryz.prog 10 #[brd V0 G0 A0 n0 c0, lpr la1 lb1, .int .i64 q2] w fun e w' => e = .returned (.bool true) ∧ Below w.heap.size w w' := by
  have hn9 := ha0.2.1
  by_cases hnB : (n0 : Int) ≤ 1048576
  rotate_left
  · go_enter Tryz.func10, Tryz.ntmps10
    go_wp2_with fail
    refine (szBoard_any _ _ _ _ _ _ _ hn9 (by omega) (by omega)).mono ?_
    rintro e wv ⟨rfl, hb⟩
    have B := Lib.hid (below_box (below_box hb))
    clear hb
    go_wp2
    go_ret
    exact ⟨rfl, B.out⟩
  · go_enter Tryz.func10, Tryz.ntmps10
    go_wp2_with fail
    refine (szBoard_any _ _ _ _ _ _ _ hn9 (by omega) (by omega)).mono ?_
    rintro e wv ⟨rfl, hb⟩
    have hbx0 := below_box hb
    have a0 : wv.cell? ⟨w.heap.size, 0, none⟩ = some (.int .i64 V0) := by simpa using newbox hbx0 0
    have a1 : wv.cell? ⟨w.heap.size, 1, none⟩ = some (.int .i64 G0) := by simpa using newbox hbx0 1
    have a2 : wv.cell? ⟨w.heap.size, 2, none⟩ = some (.slice A0 n0 c0) := by simpa using newbox hbx0 2
    have al : w.heap.size < wv.heap.size := by simpa using newbox_lt hbx0
    have l0 : wv.cell? ⟨w.heap.size + 1, 0, none⟩ = some (.int .i64 la1) := by simpa using newbox hb 0
    have l1 : wv.cell? ⟨w.heap.size + 1, 1, none⟩ = some (.int .i64 lb1) := by simpa using newbox hb 1
    have ll : w.heap.size + 1 < wv.heap.size := by simpa using newbox_lt hb
    have B := Lib.hid (below_box hbx0)
    have hs1 := Lib.hid (below_box hbx0).size
    have hz := Lib.hid ll
    clear hb hbx0
    go_wp2_with fail
    go_region_held3 (fun w' => w'.cell? ⟨w.heap.size, 0, none⟩ = some (.int .i64 V0) ∧ w'.cell? ⟨w.heap.size, 1, none⟩ = some (.int .i64 G0) ∧ w'.cell? ⟨w.heap.size, 2, none⟩ = some (.slice A0 n0 c0) ∧ w'.cell? ⟨w.heap.size + 1, 0, none⟩ = some (.int .i64 la1) ∧ w'.cell? ⟨w.heap.size + 1, 1, none⟩ = some (.int .i64 lb1)) (first | exact ⟨a0, a1, a2, l0, l1⟩)
      (first
        | (go_at_call 13; refine (toBoard_any _ _ _ _ _ _ _ (by exact (ha0.keep B.out).drew1) (by omega)).mono ?_; rintro e wv ⟨gs, rfl, owns, hb⟩; (try replace hb := below_undrew hb); replace a0 := cell_keep a0 al hb; replace a1 := cell_keep a1 al hb; replace a2 := cell_keep a2 al hb; replace al := lt_keep al hb; replace l0 := cell_keep l0 ll hb; replace l1 := cell_keep l1 ll hb; replace ll := lt_keep ll hb; (try replace Os := Lib.hid (Os.out.keep hb)); have hs2 := Lib.hid hb.size; replace B := Lib.hid (below_next B.out hb); have Os := Lib.hid owns; have SPs := Lib.hid owns.span; clear owns; clear hb)
        | (go_at_call 14; refine (toLeaper_any _ _ _).mono ?_; rintro e wv ⟨rfl, hb⟩; (try replace hb := below_undrew hb); replace a0 := cell_keep a0 al hb; replace a1 := cell_keep a1 al hb; replace a2 := cell_keep a2 al hb; replace al := lt_keep al hb; replace l0 := cell_keep l0 ll hb; replace l1 := cell_keep l1 ll hb; replace ll := lt_keep ll hb; (try replace Os := Lib.hid (Os.out.keep hb)); have hs3 := Lib.hid hb.size; replace B := Lib.hid (below_next B.out hb); clear hb)
        | (go_at_call 36; refine (spec_FewestOnward _ _ _ _ _ _ _ _ _ _ (by exact Os.out.rd)).mono ?_; rintro e wv ⟨AW, nW, cW, rfl, ownW, hb⟩; (try replace hb := below_undrew hb); replace a0 := cell_keep a0 al hb; replace a1 := cell_keep a1 al hb; replace a2 := cell_keep a2 al hb; replace al := lt_keep al hb; replace l0 := cell_keep l0 ll hb; replace l1 := cell_keep l1 ll hb; replace ll := lt_keep ll hb; have hs4 := Lib.hid hb.size; replace B := Lib.hid (below_next B.out hb); have OW := Lib.hid ownW; have SPW := Lib.hid ownW.span; clear ownW; clear hb))
    all_goals
      clear Os SPs
      go_wp2_with fail
      refine (toBoard_any _ _ _ _ _ _ _ (ha0.keep B.out) (by omega)).mono ?_
      rintro e wv ⟨gx, rfl, ownx, hb⟩
      replace a0 := cell_keep a0 al hb
      replace a1 := cell_keep a1 al hb
      replace a2 := cell_keep a2 al hb
      replace al := lt_keep al hb
      replace l0 := cell_keep l0 ll hb
      replace l1 := cell_keep l1 ll hb
      replace ll := lt_keep ll hb
      replace OW := Lib.hid (OW.out.keep hb)
      have hs5 := Lib.hid hb.size
      replace B := Lib.hid (below_next B.out hb)
      have Ox := Lib.hid ownx; have SPx := Lib.hid ownx.span; clear ownx; clear hb
      obtain ⟨wx, hwx⟩ : ∃ wx, wx = wv := ⟨_, rfl⟩
      subst hwx
      go_wp2_with fail
      have hb := Below.refl (wx.alloc (.cells #[.int .i64 V0, .int .i64 G0, .slice (some ⟨gx, 0, none⟩) n0 n0] 30)).heap.size (wx.alloc (.cells #[.int .i64 V0, .int .i64 G0, .slice (some ⟨gx, 0, none⟩) n0 n0] 30))
      have x0 : (wx.alloc (.cells #[.int .i64 V0, .int .i64 G0, .slice (some ⟨gx, 0, none⟩) n0 n0] 30)).cell? ⟨wx.heap.size, 0, none⟩ = some (.int .i64 V0) := by simp
      have x1 : (wx.alloc (.cells #[.int .i64 V0, .int .i64 G0, .slice (some ⟨gx, 0, none⟩) n0 n0] 30)).cell? ⟨wx.heap.size, 1, none⟩ = some (.int .i64 G0) := by simp
      have x2 : (wx.alloc (.cells #[.int .i64 V0, .int .i64 G0, .slice (some ⟨gx, 0, none⟩) n0 n0] 30)).cell? ⟨wx.heap.size, 2, none⟩ = some (.slice (some ⟨gx, 0, none⟩) n0 n0) := by simp
      have xl := newbox_lt hb
      have hzx := Lib.hid xl
      replace hb := below_box hb
      replace a0 := cell_keep a0 al hb
      replace a1 := cell_keep a1 al hb
      replace a2 := cell_keep a2 al hb
      replace al := lt_keep al hb
      replace l0 := cell_keep l0 ll hb
      replace l1 := cell_keep l1 ll hb
      replace ll := lt_keep ll hb
      replace OW := Lib.hid (OW.out.keep hb)
      replace Ox := Lib.hid (Ox.out.keep hb)
      have hs6 := Lib.hid hb.size
      replace B := Lib.hid (below_next B.out hb)
      clear hb
      have hx0 : gx < wx.heap.size := (SPx.out _ rfl).2
      generalize wx.alloc (.cells #[.int .i64 V0, .int .i64 G0, .slice (some ⟨gx, 0, none⟩) n0 n0] 30) = wv at *
      generalize hx : wx.heap.size = x at *
      go_wp2_with fail
      go_region_held3 (fun w' => w'.cell? ⟨w.heap.size, 0, none⟩ = some (.int .i64 V0) ∧ w'.cell? ⟨w.heap.size, 1, none⟩ = some (.int .i64 G0) ∧ w'.cell? ⟨w.heap.size, 2, none⟩ = some (.slice A0 n0 c0) ∧ w'.cell? ⟨w.heap.size + 1, 0, none⟩ = some (.int .i64 la1) ∧ w'.cell? ⟨w.heap.size + 1, 1, none⟩ = some (.int .i64 lb1) ∧ w'.cell? ⟨x, 0, none⟩ = some (.int .i64 V0) ∧ w'.cell? ⟨x, 1, none⟩ = some (.int .i64 G0) ∧ w'.cell? ⟨x, 2, none⟩ = some (.slice (some ⟨gx, 0, none⟩) n0 n0)) (first | exact ⟨a0, a1, a2, l0, l1, x0, x1, x2⟩)
        (first
          | (go_at_call 14; refine (toLeaper_any _ _ _).mono ?_; rintro e wv ⟨rfl, hb⟩; (try replace hb := below_undrew hb); replace a0 := cell_keep a0 al hb; replace a1 := cell_keep a1 al hb; replace a2 := cell_keep a2 al hb; replace al := lt_keep al hb; replace l0 := cell_keep l0 ll hb; replace l1 := cell_keep l1 ll hb; replace ll := lt_keep ll hb; replace x0 := cell_keep x0 xl hb; replace x1 := cell_keep x1 xl hb; replace x2 := cell_keep x2 xl hb; replace xl := lt_keep xl hb; replace OW := Lib.hid (OW.out.keep hb); replace Ox := Lib.hid (Ox.out.keep hb); have hs7 := Lib.hid hb.size; replace B := Lib.hid (below_next B.out hb); clear hb)
          | (go_at_call 37; refine (impl_FewestOnward _ _ _ _ _ _ _ _ _ _ (by exact Ox.out.rd) (by exact tab_keep hT B.out)).mono ?_; rintro e wv ⟨AG, nG, cG, rfl, ownG, hb⟩; (try replace hb := below_undrew hb); replace a0 := cell_keep a0 al hb; replace a1 := cell_keep a1 al hb; replace a2 := cell_keep a2 al hb; replace al := lt_keep al hb; replace l0 := cell_keep l0 ll hb; replace l1 := cell_keep l1 ll hb; replace ll := lt_keep ll hb; replace x0 := cell_keep x0 xl hb; replace x1 := cell_keep x1 xl hb; replace x2 := cell_keep x2 xl hb; replace xl := lt_keep xl hb; replace OW := Lib.hid (OW.out.keep hb); replace Ox := Lib.hid (Ox.out.keep hb); have hs8 := Lib.hid hb.size; replace B := Lib.hid (below_next B.out hb); have OG := Lib.hid ownG; have SPG := Lib.hid ownG.span; clear ownG; clear hb))
      have SZ := Lib.hid (show nG ≤ 1000000 by rw [← OG.out.len]; exact len_FewestOnward _ _ _ _ _ _)
      go_wp2_with fail
      refine (eqIntS_any _ _ _ _ _ _ _ _ _ OG.out.rd OW.out.rd).mono ?_
      simp only [decide_true]
      rintro e wv ⟨rfl, hb⟩
      replace a0 := cell_keep a0 al hb
      replace a1 := cell_keep a1 al hb
      replace a2 := cell_keep a2 al hb
      replace al := lt_keep al hb
      replace l0 := cell_keep l0 ll hb
      replace l1 := cell_keep l1 ll hb
      replace ll := lt_keep ll hb
      replace x0 := cell_keep x0 xl hb
      replace x1 := cell_keep x1 xl hb
      replace x2 := cell_keep x2 xl hb
      replace xl := lt_keep xl hb
      replace OW := Lib.hid (OW.out.keep hb)
      replace Ox := Lib.hid (Ox.out.keep hb)
      replace OG := Lib.hid (OG.out.keep hb)
      have hs9 := Lib.hid hb.size
      replace B := Lib.hid (below_next B.out hb)
      clear hb
      go_wp2_with fail
      go_region_held3 (fun w' => w'.cell? ⟨w.heap.size, 0, none⟩ = some (.int .i64 V0) ∧ w'.cell? ⟨w.heap.size, 1, none⟩ = some (.int .i64 G0) ∧ w'.cell? ⟨w.heap.size, 2, none⟩ = some (.slice A0 n0 c0) ∧ w'.cell? ⟨w.heap.size + 1, 0, none⟩ = some (.int .i64 la1) ∧ w'.cell? ⟨w.heap.size + 1, 1, none⟩ = some (.int .i64 lb1) ∧ w'.cell? ⟨x, 0, none⟩ = some (.int .i64 V0) ∧ w'.cell? ⟨x, 1, none⟩ = some (.int .i64 G0) ∧ w'.cell? ⟨x, 2, none⟩ = some (.slice (some ⟨gx, 0, none⟩) n0 n0)) (first | exact ⟨a0, a1, a2, l0, l1, x0, x1, x2⟩)
        (first
          | (go_at_call 13; refine (toBoard_any _ _ _ _ _ _ _ (by exact (ha0.keep B.out).drew1) (by omega)).mono ?_; rintro e wv ⟨gy, rfl, owny, hb⟩; (try replace hb := below_undrew hb); replace a0 := cell_keep a0 al hb; replace a1 := cell_keep a1 al hb; replace a2 := cell_keep a2 al hb; replace al := lt_keep al hb; replace l0 := cell_keep l0 ll hb; replace l1 := cell_keep l1 ll hb; replace ll := lt_keep ll hb; replace x0 := cell_keep x0 xl hb; replace x1 := cell_keep x1 xl hb; replace x2 := cell_keep x2 xl hb; replace xl := lt_keep xl hb; replace OW := Lib.hid (OW.out.keep hb); replace Ox := Lib.hid (Ox.out.keep hb); replace OG := Lib.hid (OG.out.keep hb); have hs10 := Lib.hid hb.size; replace B := Lib.hid (below_next B.out hb); have Oy := Lib.hid owny; have SPy := Lib.hid owny.span; clear owny; clear hb)
          | (go_at_call 16; refine (eqBoard_any _ _ _ _ _ _ _ _ _ _ _ Ox.out.rd Oy.out.rd).mono ?_; simp only [decide_true]; rintro e wv ⟨rfl, hb⟩; (try replace hb := below_undrew hb); replace a0 := cell_keep a0 al hb; replace a1 := cell_keep a1 al hb; replace a2 := cell_keep a2 al hb; replace al := lt_keep al hb; replace l0 := cell_keep l0 ll hb; replace l1 := cell_keep l1 ll hb; replace ll := lt_keep ll hb; replace x0 := cell_keep x0 xl hb; replace x1 := cell_keep x1 xl hb; replace x2 := cell_keep x2 xl hb; replace xl := lt_keep xl hb; replace OW := Lib.hid (OW.out.keep hb); replace Ox := Lib.hid (Ox.out.keep hb); replace OG := Lib.hid (OG.out.keep hb); have hs11 := Lib.hid hb.size; replace B := Lib.hid (below_next B.out hb); clear hb Oy SPy))
      go_wp2_with fail
      refine (markBoard_any _ _ _ _ _ _ 1 _ _ Ox.out (by omega) (by omega)).mono ?_
      rintro e wv ⟨rfl, Ox', hg⟩
      replace a0 := cell_mark a0 hg (row_ne fun b hb => by have := SPx.out b hb; have := hz.out; have := hzx.out; have := hs1.out; have := hs2.out; have := hs3.out; have := hs4.out; have := hs5.out; have := hs6.out; have := hs7.out; have := hs8.out; have := hs9.out; have := hs10.out; have := hs11.out; omega)
      replace a1 := cell_mark a1 hg (row_ne fun b hb => by have := SPx.out b hb; have := hz.out; have := hzx.out; have := hs1.out; have := hs2.out; have := hs3.out; have := hs4.out; have := hs5.out; have := hs6.out; have := hs7.out; have := hs8.out; have := hs9.out; have := hs10.out; have := hs11.out; omega)
      replace a2 := cell_mark a2 hg (row_ne fun b hb => by have := SPx.out b hb; have := hz.out; have := hzx.out; have := hs1.out; have := hs2.out; have := hs3.out; have := hs4.out; have := hs5.out; have := hs6.out; have := hs7.out; have := hs8.out; have := hs9.out; have := hs10.out; have := hs11.out; omega)
      replace al := Nat.lt_of_lt_of_le al hg.size
      replace l0 := cell_mark l0 hg (row_ne fun b hb => by have := SPx.out b hb; have := hz.out; have := hzx.out; have := hs1.out; have := hs2.out; have := hs3.out; have := hs4.out; have := hs5.out; have := hs6.out; have := hs7.out; have := hs8.out; have := hs9.out; have := hs10.out; have := hs11.out; omega)
      replace l1 := cell_mark l1 hg (row_ne fun b hb => by have := SPx.out b hb; have := hz.out; have := hzx.out; have := hs1.out; have := hs2.out; have := hs3.out; have := hs4.out; have := hs5.out; have := hs6.out; have := hs7.out; have := hs8.out; have := hs9.out; have := hs10.out; have := hs11.out; omega)
      replace ll := Nat.lt_of_lt_of_le ll hg.size
      replace x0 := cell_mark x0 hg (row_ne fun b hb => by have := SPx.out b hb; have := hz.out; have := hzx.out; have := hs1.out; have := hs2.out; have := hs3.out; have := hs4.out; have := hs5.out; have := hs6.out; have := hs7.out; have := hs8.out; have := hs9.out; have := hs10.out; have := hs11.out; omega)
      replace x1 := cell_mark x1 hg (row_ne fun b hb => by have := SPx.out b hb; have := hz.out; have := hzx.out; have := hs1.out; have := hs2.out; have := hs3.out; have := hs4.out; have := hs5.out; have := hs6.out; have := hs7.out; have := hs8.out; have := hs9.out; have := hs10.out; have := hs11.out; omega)
      replace x2 := cell_mark x2 hg (row_ne fun b hb => by have := SPx.out b hb; have := hz.out; have := hzx.out; have := hs1.out; have := hs2.out; have := hs3.out; have := hs4.out; have := hs5.out; have := hs6.out; have := hs7.out; have := hs8.out; have := hs9.out; have := hs10.out; have := hs11.out; omega)
      replace xl := Nat.lt_of_lt_of_le xl hg.size
      replace OW := Lib.hid (OW.out.other hg fun a ha => row_ne fun b hb => by have := SPW.out a ha; have := SPx.out b hb; have := hz.out; have := hzx.out; have := hs1.out; have := hs2.out; have := hs3.out; have := hs4.out; have := hs5.out; have := hs6.out; have := hs7.out; have := hs8.out; have := hs9.out; have := hs10.out; have := hs11.out; omega)
      replace OG := Lib.hid (OG.out.other hg fun a ha => row_ne fun b hb => by have := SPG.out a ha; have := SPx.out b hb; have := hz.out; have := hzx.out; have := hs1.out; have := hs2.out; have := hs3.out; have := hs4.out; have := hs5.out; have := hs6.out; have := hs7.out; have := hs8.out; have := hs9.out; have := hs10.out; have := hs11.out; omega)
      replace B := Lib.hid (B.out.grown hg B.out.size (row_ge fun b hb => by have := SPx.out b hb; have := hz.out; have := hzx.out; have := hs1.out; have := hs2.out; have := hs3.out; have := hs4.out; have := hs5.out; have := hs6.out; have := hs7.out; have := hs8.out; have := hs9.out; have := hs10.out; have := hs11.out; omega))
      have hs12 := Lib.hid hg.size
      replace Ox := Lib.hid Ox'; clear Ox' hg
      go_wp2_with fail
      refine (eqIntS_any _ _ _ _ _ _ _ _ _ OG.out.rd OW.out.rd).mono ?_
      simp only [decide_true]
      rintro e wv ⟨rfl, hb⟩
      replace a0 := cell_keep a0 al hb
      replace a1 := cell_keep a1 al hb
      replace a2 := cell_keep a2 al hb
      replace al := lt_keep al hb
      replace l0 := cell_keep l0 ll hb
      replace l1 := cell_keep l1 ll hb
      replace ll := lt_keep ll hb
      replace x0 := cell_keep x0 xl hb
      replace x1 := cell_keep x1 xl hb
      replace x2 := cell_keep x2 xl hb
      replace xl := lt_keep xl hb
      replace OW := Lib.hid (OW.out.keep hb)
      replace Ox := Lib.hid (Ox.out.keep hb)
      replace OG := Lib.hid (OG.out.keep hb)
      have hs13 := Lib.hid hb.size
      replace B := Lib.hid (below_next B.out hb)
      clear hb
      go_wp2_with fail
      refine (markIntS_any _ _ _ _ 1 _ _ OG.out (by omega) (by have := SZ.out; omega)).mono ?_
      rintro e wv ⟨rfl, OG', hg⟩
      replace a0 := cell_mark a0 hg (row_ne fun b hb => by have := SPG.out b hb; have := hz.out; have := hzx.out; have := hs1.out; have := hs2.out; have := hs3.out; have := hs4.out; have := hs5.out; have := hs6.out; have := hs7.out; have := hs8.out; have := hs9.out; have := hs10.out; have := hs11.out; have := hs12.out; have := hs13.out; omega)
      replace a1 := cell_mark a1 hg (row_ne fun b hb => by have := SPG.out b hb; have := hz.out; have := hzx.out; have := hs1.out; have := hs2.out; have := hs3.out; have := hs4.out; have := hs5.out; have := hs6.out; have := hs7.out; have := hs8.out; have := hs9.out; have := hs10.out; have := hs11.out; have := hs12.out; have := hs13.out; omega)
      replace a2 := cell_mark a2 hg (row_ne fun b hb => by have := SPG.out b hb; have := hz.out; have := hzx.out; have := hs1.out; have := hs2.out; have := hs3.out; have := hs4.out; have := hs5.out; have := hs6.out; have := hs7.out; have := hs8.out; have := hs9.out; have := hs10.out; have := hs11.out; have := hs12.out; have := hs13.out; omega)
      replace al := Nat.lt_of_lt_of_le al hg.size
      replace l0 := cell_mark l0 hg (row_ne fun b hb => by have := SPG.out b hb; have := hz.out; have := hzx.out; have := hs1.out; have := hs2.out; have := hs3.out; have := hs4.out; have := hs5.out; have := hs6.out; have := hs7.out; have := hs8.out; have := hs9.out; have := hs10.out; have := hs11.out; have := hs12.out; have := hs13.out; omega)
      replace l1 := cell_mark l1 hg (row_ne fun b hb => by have := SPG.out b hb; have := hz.out; have := hzx.out; have := hs1.out; have := hs2.out; have := hs3.out; have := hs4.out; have := hs5.out; have := hs6.out; have := hs7.out; have := hs8.out; have := hs9.out; have := hs10.out; have := hs11.out; have := hs12.out; have := hs13.out; omega)
      replace ll := Nat.lt_of_lt_of_le ll hg.size
      replace x0 := cell_mark x0 hg (row_ne fun b hb => by have := SPG.out b hb; have := hz.out; have := hzx.out; have := hs1.out; have := hs2.out; have := hs3.out; have := hs4.out; have := hs5.out; have := hs6.out; have := hs7.out; have := hs8.out; have := hs9.out; have := hs10.out; have := hs11.out; have := hs12.out; have := hs13.out; omega)
      replace x1 := cell_mark x1 hg (row_ne fun b hb => by have := SPG.out b hb; have := hz.out; have := hzx.out; have := hs1.out; have := hs2.out; have := hs3.out; have := hs4.out; have := hs5.out; have := hs6.out; have := hs7.out; have := hs8.out; have := hs9.out; have := hs10.out; have := hs11.out; have := hs12.out; have := hs13.out; omega)
      replace x2 := cell_mark x2 hg (row_ne fun b hb => by have := SPG.out b hb; have := hz.out; have := hzx.out; have := hs1.out; have := hs2.out; have := hs3.out; have := hs4.out; have := hs5.out; have := hs6.out; have := hs7.out; have := hs8.out; have := hs9.out; have := hs10.out; have := hs11.out; have := hs12.out; have := hs13.out; omega)
      replace xl := Nat.lt_of_lt_of_le xl hg.size
      replace OW := Lib.hid (OW.out.other hg fun a ha => row_ne fun b hb => by have := SPW.out a ha; have := SPG.out b hb; have := hz.out; have := hzx.out; have := hs1.out; have := hs2.out; have := hs3.out; have := hs4.out; have := hs5.out; have := hs6.out; have := hs7.out; have := hs8.out; have := hs9.out; have := hs10.out; have := hs11.out; have := hs12.out; have := hs13.out; omega)
      replace Ox := Lib.hid (Ox.out.other hg fun a ha => row_ne fun b hb => by have := SPx.out a ha; have := SPG.out b hb; have := hz.out; have := hzx.out; have := hs1.out; have := hs2.out; have := hs3.out; have := hs4.out; have := hs5.out; have := hs6.out; have := hs7.out; have := hs8.out; have := hs9.out; have := hs10.out; have := hs11.out; have := hs12.out; have := hs13.out; omega)
      replace B := Lib.hid (B.out.grown hg B.out.size (row_ge fun b hb => by have := SPG.out b hb; have := hz.out; have := hzx.out; have := hs1.out; have := hs2.out; have := hs3.out; have := hs4.out; have := hs5.out; have := hs6.out; have := hs7.out; have := hs8.out; have := hs9.out; have := hs10.out; have := hs11.out; have := hs12.out; have := hs13.out; omega))
      have hs14 := Lib.hid hg.size
      replace OG := Lib.hid OG'; clear OG' hg
      go_wp2_with fail
      refine (heldIntS_any _ _ _ 1 _ OG.out.rd (by omega) (by have := SZ.out; omega)).mono ?_
      rintro e wv ⟨rfl, hb⟩
      replace a0 := cell_keep a0 al hb
      replace a1 := cell_keep a1 al hb
      replace a2 := cell_keep a2 al hb
      replace al := lt_keep al hb
      replace l0 := cell_keep l0 ll hb
      replace l1 := cell_keep l1 ll hb
      replace ll := lt_keep ll hb
      replace x0 := cell_keep x0 xl hb
      replace x1 := cell_keep x1 xl hb
      replace x2 := cell_keep x2 xl hb
      replace xl := lt_keep xl hb
      replace OW := Lib.hid (OW.out.keep hb)
      replace Ox := Lib.hid (Ox.out.keep hb)
      replace OG := Lib.hid (OG.out.keep hb)
      have hs15 := Lib.hid hb.size
      replace B := Lib.hid (below_next B.out hb)
      clear hb
      go_wp2_with fail
      go_region_held3 (fun w' => w'.cell? ⟨w.heap.size, 0, none⟩ = some (.int .i64 V0) ∧ w'.cell? ⟨w.heap.size, 1, none⟩ = some (.int .i64 G0) ∧ w'.cell? ⟨w.heap.size, 2, none⟩ = some (.slice A0 n0 c0) ∧ w'.cell? ⟨w.heap.size + 1, 0, none⟩ = some (.int .i64 la1) ∧ w'.cell? ⟨w.heap.size + 1, 1, none⟩ = some (.int .i64 lb1) ∧ w'.cell? ⟨x, 0, none⟩ = some (.int .i64 V0) ∧ w'.cell? ⟨x, 1, none⟩ = some (.int .i64 G0) ∧ w'.cell? ⟨x, 2, none⟩ = some (.slice (some ⟨gx, 0, none⟩) n0 n0)) (first | exact ⟨a0, a1, a2, l0, l1, x0, x1, x2⟩)
        (first
          | (go_at_call 13; refine (toBoard_any _ _ _ _ _ _ _ (by exact (ha0.keep B.out).drew1) (by omega)).mono ?_; rintro e wv ⟨gz, rfl, ownz, hb⟩; (try replace hb := below_undrew hb); replace a0 := cell_keep a0 al hb; replace a1 := cell_keep a1 al hb; replace a2 := cell_keep a2 al hb; replace al := lt_keep al hb; replace l0 := cell_keep l0 ll hb; replace l1 := cell_keep l1 ll hb; replace ll := lt_keep ll hb; replace x0 := cell_keep x0 xl hb; replace x1 := cell_keep x1 xl hb; replace x2 := cell_keep x2 xl hb; replace xl := lt_keep xl hb; replace OW := Lib.hid (OW.out.keep hb); replace Ox := Lib.hid (Ox.out.keep hb); replace OG := Lib.hid (OG.out.keep hb); (try replace Oz := Lib.hid (Oz.out.keep hb)); have hs16 := Lib.hid hb.size; replace B := Lib.hid (below_next B.out hb); have Oz := Lib.hid ownz; have SPz := Lib.hid ownz.span; clear ownz; clear hb)
          | (go_at_call 14; refine (toLeaper_any _ _ _).mono ?_; rintro e wv ⟨rfl, hb⟩; (try replace hb := below_undrew hb); replace a0 := cell_keep a0 al hb; replace a1 := cell_keep a1 al hb; replace a2 := cell_keep a2 al hb; replace al := lt_keep al hb; replace l0 := cell_keep l0 ll hb; replace l1 := cell_keep l1 ll hb; replace ll := lt_keep ll hb; replace x0 := cell_keep x0 xl hb; replace x1 := cell_keep x1 xl hb; replace x2 := cell_keep x2 xl hb; replace xl := lt_keep xl hb; replace OW := Lib.hid (OW.out.keep hb); replace Ox := Lib.hid (Ox.out.keep hb); replace OG := Lib.hid (OG.out.keep hb); (try replace Oz := Lib.hid (Oz.out.keep hb)); have hs17 := Lib.hid hb.size; replace B := Lib.hid (below_next B.out hb); clear hb)
          | (go_at_call 37; refine (impl_FewestOnward _ _ _ _ _ _ _ _ _ _ (by exact Oz.out.rd) (by exact tab_keep hT B.out)).mono ?_; rintro e wv ⟨AH, nH, cH, rfl, ownH, hb⟩; (try replace hb := below_undrew hb); replace a0 := cell_keep a0 al hb; replace a1 := cell_keep a1 al hb; replace a2 := cell_keep a2 al hb; replace al := lt_keep al hb; replace l0 := cell_keep l0 ll hb; replace l1 := cell_keep l1 ll hb; replace ll := lt_keep ll hb; replace x0 := cell_keep x0 xl hb; replace x1 := cell_keep x1 xl hb; replace x2 := cell_keep x2 xl hb; replace xl := lt_keep xl hb; replace OW := Lib.hid (OW.out.keep hb); replace Ox := Lib.hid (Ox.out.keep hb); replace OG := Lib.hid (OG.out.keep hb); have hs18 := Lib.hid hb.size; replace B := Lib.hid (below_next B.out hb); have OH := Lib.hid ownH; have SPH := Lib.hid ownH.span; clear ownH; clear hb))
      all_goals
        clear Oz SPz SPH
        go_wp2_with fail
        refine (eqIntS_any _ _ _ _ _ _ _ _ _ OH.out.rd OW.out.rd).mono ?_
        simp only [decide_true]
        rintro e wv ⟨rfl, hb⟩
        replace a0 := cell_keep a0 al hb
        replace a1 := cell_keep a1 al hb
        replace a2 := cell_keep a2 al hb
        replace al := lt_keep al hb
        replace l0 := cell_keep l0 ll hb
        replace l1 := cell_keep l1 ll hb
        replace ll := lt_keep ll hb
        replace x0 := cell_keep x0 xl hb
        replace x1 := cell_keep x1 xl hb
        replace x2 := cell_keep x2 xl hb
        replace xl := lt_keep xl hb
        replace OW := Lib.hid (OW.out.keep hb)
        replace Ox := Lib.hid (Ox.out.keep hb)
        replace OG := Lib.hid (OG.out.keep hb)
        have hs19 := Lib.hid hb.size
        replace B := Lib.hid (below_next B.out hb)
        clear hb OH
        go_wp2_with fail
        refine (heldIntS_any _ _ _ 1 _ OG.out.rd (by omega) (by have := SZ.out; omega)).mono ?_
        rintro e wv ⟨rfl, hb⟩
        replace a0 := cell_keep a0 al hb
        replace a1 := cell_keep a1 al hb
        replace a2 := cell_keep a2 al hb
        replace al := lt_keep al hb
        replace l0 := cell_keep l0 ll hb
        replace l1 := cell_keep l1 ll hb
        replace ll := lt_keep ll hb
        replace x0 := cell_keep x0 xl hb
        replace x1 := cell_keep x1 xl hb
        replace x2 := cell_keep x2 xl hb
        replace xl := lt_keep xl hb
        replace OW := Lib.hid (OW.out.keep hb)
        replace Ox := Lib.hid (Ox.out.keep hb)
        replace OG := Lib.hid (OG.out.keep hb)
        have hs20 := Lib.hid hb.size
        replace B := Lib.hid (below_next B.out hb)
        clear hb
        go_wp2
        go_ret
        exact ⟨rfl, B.out⟩

end Go.Proofs.YtnnonmpgkkpocaaGreatDoor
