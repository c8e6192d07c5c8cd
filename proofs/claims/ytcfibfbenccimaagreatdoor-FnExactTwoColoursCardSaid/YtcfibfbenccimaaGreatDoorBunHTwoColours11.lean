/-
  The cells of a set as an iterator whose caller may stop it; a range that may be left.
  Contracts: whether no two of some cells are near to each other.
  Contracts: slices.Repeat of one number.
  Contracts: the colours of a painting as a list.
  Contracts: colours by steps.
  Contracts: PaintBySteps, in the program.
-/
import Derived.Test.YtcfibfbenccimaaGreatDoorBunHTwoColours3
import Derived.Test.YtcfibfbenccimaaGreatDoorBunHTwoColours6
import Derived.Sort.QuietIn
import Derived.BigRegionIn
import Derived.Test.YtcfibfbenccimaaGreatDoorBunHTwoColours1
import Derived.Test.YtcfibfbenccimaaGreatDoorBunHTwoColours2
import Derived.Laws.CopyOwn
import Derived.Deep.MidRow
import Derived.IntWalk
import Derived.Deep.RegionHeld3
import Derived.Test.YtcfibfbenccimaaGreatDoorBunHTwoColours9
import Derived.ControlIn
import Derived.Deep.RegionWith
namespace Go.Proofs.YtcfibfbenccimaaGreatDoor
open Go.RowKit Go.Shelf
attribute [local go_sem] Oper.semAt_some

set_option maxRecDepth 100000 in
set_option maxHeartbeats 1000000 in
/-- 'each' yields the cells of a set, least first, so long as it is told to go on; it may be told to stop. -/
theorem each_inS (n l s : Nat) (hs : s < 18446744073709551616) (J Jx : List Int → World → Prop) (W : World) (hT : ∀ pre w, J pre w → Tab64 w)
    (hY : ∀ (pre : List Int) (x : Int) (rest : List Int) (w : World), bitsL s = pre ++ x :: rest → J pre w → YieldAt Fence.wide (n - 1) Tryz.prog l #[.int .i64 x] w fun e w' => (e = .returned (.bool true) ∧ J (pre ++ [x]) w') ∨ (e = .returned (.bool false) ∧ Jx (pre ++ [x]) w'))
    (h0 : J [] W) :
    CallsIn Fence.wide n Tryz.prog 61 #[.int .u64 (s : Int), .func (.yield l) #[] #[]] W fun e w' => (∃ v, e = .returned v) ∧ (J (bitsL s) w' ∨ ∃ pre, Jx pre w') := by
  refine callsIn_of_wp Tryz.func61 rfl trivial ?_ rfl
  simp only [Tryz.ntmps61, List.size_toArray, List.length_cons, List.length_nil, Nat.reduceAdd, Nat.reduceSub, Array.replicate_succ, Array.replicate_zero, List.push_toArray, List.append_toArray, List.nil_append, List.cons_append]
  gi_wp2
  gi_loopw [0] (fun v wr => ∃ (r : Nat) (pre : List Int), v = .int .u64 (r : Int) ∧ r < 18446744073709551616 ∧ bitsL s = pre ++ bitsL r ∧ J pre wr) (fun v _ => (intOf v).toNat)
  case atStart => exact ⟨s, [], rfl, hs, rfl, h0⟩
  case round =>
    obtain ⟨r, pre, rfl, hr, hsp, hJ⟩ := hrel
    by_cases hz : r = 0
    · subst hz
      have HF := Lib.hid (show bitsL s = pre by rw [hsp, bitsL_zero, List.append_nil])
      clear hsp
      have h00 : ((((0 : Nat) : Int)) != 0) = false := rfl
      gi_wp2
      refine ⟨trivial, ?_⟩
      gi_wp2
      refine ⟨fun _ h => (by cases h), ?_⟩
      gi_wp2
      go_end0
      exact ⟨⟨_, rfl⟩, .inl (by rw [HF.out]; exact hJ)⟩
    · have hz0 : ((r : Int) == 0) = false := by simp; omega
      have hz1 : ¬ ((r : Int) = 0) := by omega
      obtain ⟨hk, hb, hlow⟩ := ctz_facts hz hr
      have hst := bitsL_step hz hr
      have hL1 := least_any r hr wr (hT pre wr hJ)
      have hclt := clr_lt hk hb
      generalize hkd : Lib.ctz 64 r = k at hk hb hlow hst hL1 hclt
      have HK := Lib.hid hkd
      have HN := Lib.hid (show bitsL s = (pre ++ [(k : Int)]) ++ bitsL (clr r k) by rw [hsp, hst]; simp)
      obtain ⟨fn, tmps, assign, body, hy, hR⟩ := hY pre (k : Int) (bitsL (clr r k)) wr (by rw [hsp, hst]) hJ
      have HC := Lib.hid hclt
      have HR := Lib.hid (Nat.lt_of_lt_of_le hclt (Nat.le_of_lt hr))
      clear hsp hst hb hlow hkd hclt
      gi_wp2
      refine ⟨trivial, (fun h => by cases h), (callsIn_wide.2 hL1).mono ?_⟩
      rintro e w' ⟨rfl, rfl⟩
      clear hL1
      gi_wp2
      refine ⟨(fun h => by cases h), hR.mono ?_⟩
      rintro e w' (⟨rfl, hJ2⟩ | ⟨rfl, hJx⟩)
      rotate_left
      · clear hR hy
        gi_wp2
        go_end0
        exact ⟨⟨_, rfl⟩, .inr ⟨_, hJx⟩⟩
      clear hR hy
      have hL2 := least_any r hr w' (hT _ w' hJ2)
      have hW2 := without_any r k hr hk w'
      rw [HK.out] at hL2
      gi_wp2
      refine ⟨trivial, (fun h => by cases h), (callsIn_wide.2 hL2).mono ?_⟩
      rintro e w'' ⟨rfl, rfl⟩
      clear hL2
      gi_wp2
      refine ⟨trivial, (fun h => by cases h), (callsIn_wide.2 hW2).mono ?_⟩
      rintro e w'' ⟨rfl, rfl⟩
      clear hW2
      gi_wp2
      go_roundw
      case rel => exact ⟨clr r k, pre ++ [(k : Int)], rfl, HR.out, HN.out, hJ2⟩
      case measure => have := HC.out; simp [intOf]; omega
/-- What an iterator with a bound receiver promises that may be told to stop. -/
def HandsS (P : Program) (n gf : Nat) (sv : Value) (xs : List Int) (T : World → Prop) : Prop :=
  ∀ (l : Nat) (J Jx : List Int → World → Prop) (W : World), (∀ pre w, J pre w → T w) →
    (∀ (pre : List Int) (x : Int) (rest : List Int) (w : World), xs = pre ++ x :: rest → J pre w → YieldAt Fence.wide (n - 1) P l #[.int .i64 x] w fun e w' => (e = .returned (.bool true) ∧ J (pre ++ [x]) w') ∨ (e = .returned (.bool false) ∧ Jx (pre ++ [x]) w')) →
    J [] W → CallsIn Fence.wide n P gf #[sv, .func (.yield l) #[] #[]] W fun e w' => (∃ v, e = .returned v) ∧ (J xs w' ∨ ∃ pre, Jx pre w')

theorem each_handsS (n s : Nat) (hs : s < 18446744073709551616) : HandsS Tryz.prog n 61 (.int .u64 (s : Int)) (bitsL s) Tab64 :=
  fun l J Jx W hT hY h0 => each_inS n l s hs J Jx W hT hY h0

theorem wpIn_handsS {P : Program} {n : Nat} {g : Operand} {p : Tmp} {assign body : Code} {Q : Exit → Act → World → Prop} {a : Act} {w : World} {gf : Nat} {sv : Value}
    (hg : a.eval g = .func (.func gf) #[sv] #[]) (eg : ∀ args w, (callFunc gf args).run P w = .ok (.enter gf args) w)
    {xs : List Int} {T : World → Prop} (hit : HandsS P (n - 1) gf sv xs T)
    (I : List Int → World → Prop) (Ix : Code → List Int → World → Prop) (hT : ∀ pre w, I pre w → T w) (hI : OwnFrom w.heap.size I) (hIx : ∀ c, OwnFrom w.heap.size (Ix c)) (h0 : I [] w) (a₁ : Int → Act)
    (hassign : ∀ (l : Nat) (x : Int) (W : World) (K : Act → World → Prop), K (a₁ x) W →
      assign.wpIn (Fence.wide.inRound l) (n - 1 - 1) P (Exit.then K (fun _ _ _ => False)) { tmps := ((#[p] : Array Tmp).zip #[Value.int .i64 x]).foldl (fun t (p, v) => t.setIfInBounds p v) a.tmps, defers := [] } W)
    (hbody : ∀ (l : Nat) (pre : List Int) (x : Int) (rest : List Int) (W : World), w.heap.size ≤ l → xs = pre ++ x :: rest → I pre W →
      body.wpIn (Fence.wide.inRound l) (n - 1 - 1) P (ownPostG w.heap.size (fun _ _ => True) I Ix (pre ++ [x]) W) (a₁ x) W)
    (hdone : ∀ (D : Nat) (W : World), w.heap.size ≤ D → I xs W → W.heap[D]? = some (.deferred (some [])) → Q .normal { a with defers := { target := .collected D, args := #[] } :: a.defers } W)
    (hstop : ∀ (D : Nat) (c : Code) (pre : List Int) (W : World), w.heap.size ≤ D → Ix c pre W → W.heap[D]? = some (.deferred (some [])) → c.wpIn Fence.wide n P Q { a with defers := { target := .collected D, args := #[] } :: a.defers } W) :
    (Code.rangeFunc g #[p] assign body).wpIn Fence.wide n P Q a w := by
  refine wpIn_rangeFunc ?_
  intro fn _
  obtain ⟨rec, hrec⟩ : ∃ rec : LoopState → Option Code → Loop, rec = fun st pe => { state := st, pending := pe, fn, tmps := a.tmps, params := #[p], assign, body, defers := w.heap.size } := ⟨_, rfl⟩
  obtain ⟨W1, hW1⟩ : ∃ W1, W1 = (w.alloc (.deferred (some []))).alloc (.loop (rec .ready none)) := ⟨_, rfl⟩
  have hL1 : W1.heap[w.heap.size + 1]? = some (.loop (rec .ready none)) := by
    rw [hW1]
    have h := World.alloc_heap_new (w.alloc (.deferred (some []))) (.loop (rec .ready none))
    rw [World.size_alloc] at h
    exact h
  have hK1 : W1.heap[w.heap.size]? = some (.deferred (some [])) := by
    rw [hW1]
    exact (Below.heap_alloc _ _ _ (by simp)).trans (World.alloc_heap_new w _)
  have hI1 : I [] W1 := by rw [hW1]; exact hI.alloc _ (hI.alloc _ h0)
  refine ⟨w.heap.size + 1, [{ target := .collected w.heap.size, args := #[] }], W1, { target := .fn (.func gf) #[], args := #[sv, .func (.yield (w.heap.size + 1)) #[] #[]] }, W1, gf,
    #[sv, .func (.yield (w.heap.size + 1)) #[] #[]], W1, ?_, ?_, fun _ _ => trivial, ?_, (fun h => by cases h), ?_⟩
  · rw [hW1, hrec]; exact run_enterLoop_outer fn a.tmps #[p] assign body
  · simp only [resolve, hg]
    simp [go_sem]
  · simp [invoke, go_sem, eg]
  · refine (hit (w.heap.size + 1) (fun pre W => I pre W ∧ W.heap[w.heap.size + 1]? = some (.loop (rec .ready none)) ∧ W.heap[w.heap.size]? = some (.deferred (some [])))
      (fun pre W => ∃ c, Ix c pre W ∧ W.heap[w.heap.size + 1]? = some (.loop (rec .done (some c))) ∧ W.heap[w.heap.size]? = some (.deferred (some []))) W1
      (fun pre W h => hT pre W h.1) ?_ ⟨hI1, hL1, hK1⟩).mono ?_
    · rintro pre x rest W hsp ⟨hi, hl, hk⟩
      have hlt := (Array.getElem?_eq_some_iff.1 hl).1
      have hy := run_yield (P := P) (args := #[.int .i64 x]) hl (by rw [hrec]; rfl)
      have hbg := run_beginRound (P := P) hl (by rw [hrec])
      obtain ⟨busy, hbusy⟩ : ∃ busy : Loop, busy = { rec .ready none with state := .busy } := ⟨_, rfl⟩
      rw [← hbusy] at hbg
      have hl2 : (W.putObj (w.heap.size + 1) (.loop busy)).heap[w.heap.size + 1]? = some (.loop busy) := World.putObj_heap_same hlt
      have hk2 : (W.putObj (w.heap.size + 1) (.loop busy)).heap[w.heap.size]? = some (.deferred (some [])) := (World.putObj_heap_other (by omega)).trans hk
      rw [hrec] at hy
      refine ⟨fn, _, assign, body, hy, roundIn_of_wpIn trivial (hassign _ x W _ ⟨_, hbg, ?_⟩)⟩
      refine wpIn_mono (hbody (w.heap.size + 1) pre x rest _ (by omega) hsp (hI.putObj _ hi (by omega) hl rfl)) ?_
      have fin : ∀ (jump : Option Code) (W3 : World), KeepsFrom w.heap.size (W.putObj (w.heap.size + 1) (.loop busy)) W3 →
          (Instr.endRound (w.heap.size + 1) jump).run P W3 = .ok (.bool jump.isNone) (W3.putObj (w.heap.size + 1) (.loop (rec (if jump.isNone then .ready else .done) jump))) ∧
          W3.heap[w.heap.size + 1]? = some (.loop busy) ∧
          (W3.putObj (w.heap.size + 1) (.loop (rec (if jump.isNone then .ready else .done) jump))).heap[w.heap.size + 1]? = some (.loop (rec (if jump.isNone then .ready else .done) jump)) ∧
          (W3.putObj (w.heap.size + 1) (.loop (rec (if jump.isNone then .ready else .done) jump))).heap[w.heap.size]? = some (.deferred (some [])) := fun jump W3 hk3 => by
        have hl3 := hk3.same _ _ (by omega) hl2 rfl
        have hend := run_endRound (P := P) jump hl3
        have hre : ({ busy with state := if jump.isNone then .ready else .done, pending := jump } : Loop) = rec (if jump.isNone then .ready else .done) jump := by rw [hbusy, hrec]
        rw [hre] at hend
        exact ⟨hend, hl3, World.putObj_heap_same (Array.getElem?_eq_some_iff.1 hl3).1, (World.putObj_heap_other (by omega)).trans (hk3.same _ _ (Nat.le_refl _) hk2 rfl)⟩
      intro e a3 W3 hp
      cases e with
      | normal =>
        obtain ⟨hk3, _, hi3⟩ := hp
        obtain ⟨hr, hl3, hl4, hk4⟩ := fin none W3 hk3
        exact ⟨_, _, hr, .inl ⟨rfl, hI.putObj _ hi3 (by omega) hl3 rfl, hl4, hk4⟩⟩
      | ret =>
        obtain ⟨hk3, hi3⟩ := hp
        obtain ⟨hr, hl3, hl4, hk4⟩ := fin (some .ret) W3 hk3
        exact ⟨_, _, hr, .inr ⟨rfl, .ret, (hIx _).putObj _ hi3 (by omega) hl3 rfl, hl4, hk4⟩⟩
      | exit id =>
        obtain ⟨hk3, hi3⟩ := hp
        obtain ⟨hr, hl3, hl4, hk4⟩ := fin (some (.exit id)) W3 hk3
        exact ⟨_, _, hr, .inr ⟨rfl, .exit id, (hIx _).putObj _ hi3 (by omega) hl3 rfl, hl4, hk4⟩⟩
      | goto t =>
        obtain ⟨hk3, hi3⟩ := hp
        obtain ⟨hr, hl3, hl4, hk4⟩ := fin (some (.goto t)) W3 hk3
        exact ⟨_, _, hr, .inr ⟨rfl, .goto t, (hIx _).putObj _ hi3 (by omega) hl3 rfl, hl4, hk4⟩⟩
      | panic ch => exact hp.elim
      | outgrown => exact hp.elim
    · rintro e W2 ⟨⟨v, rfl⟩, (⟨hi, hl, hk⟩ | ⟨pre, c, hi, hl, hk⟩)⟩
      · have hend := run_endLoop (P := P) hl (by rw [hrec]; simp)
        exact ⟨none, _, by rw [hrec] at hend; exact hend, hdone _ _ (Nat.le_refl _) (hI.putObj _ hi (by omega) hl rfl) ((World.putObj_heap_other (by omega)).trans hk)⟩
      · have hend := run_endLoop (P := P) hl (by rw [hrec]; simp)
        exact ⟨some c, _, by rw [hrec] at hend; exact hend, hstop _ c pre _ (Nat.le_refl _) ((hIx c).putObj _ hi (by omega) hl rfl) ((World.putObj_heap_other (by omega)).trans hk)⟩
end Go.Proofs.YtcfibfbenccimaaGreatDoor

namespace Go.Proofs.YtcfibfbenccimaaGreatDoor
open Go.RowKit Go.Shelf
attribute [local go_sem] Oper.semAt_some

theorem wpIn_handsSQ {P : Program} {n : Nat} {g : Operand} {p q : Tmp} {assign body : Code} {Q : Exit → Act → World → Prop} {a : Act} {w : World} {gf : Nat} {sv : Value}
    (hg : a.eval g = .func (.func gf) #[sv] #[]) (eg : ∀ args w, (callFunc gf args).run P w = .ok (.enter gf args) w)
    {xs : List Int} {T : World → Prop} (hit : HandsS P (n - 1) gf sv xs T)
    (I : List Int → World → Prop) (Ix : Code → List Int → World → Prop) (hT : ∀ pre w, I pre w → T w) (hI : OwnFrom w.heap.size I) (hIx : ∀ c, OwnFrom w.heap.size (Ix c)) (h0 : I [] w)
    (hassign : ∀ (l : Nat) (x : Int) (W : World) (K : Act → World → Prop), K { tmps := (a.tmps.setIfInBounds p (.int .i64 x)).setIfInBounds q (.int .i64 x), defers := [] } W →
      assign.wpIn (Fence.wide.inRound l) (n - 1 - 1) P (Exit.then K (fun _ _ _ => False)) { tmps := ((#[p] : Array Tmp).zip #[Value.int .i64 x]).foldl (fun t (p, v) => t.setIfInBounds p v) a.tmps, defers := [] } W)
    (hbody : ∀ (l : Nat) (pre : List Int) (x : Int) (rest : List Int) (W : World), w.heap.size ≤ l → xs = pre ++ x :: rest → I pre W →
      body.wpIn (Fence.wide.inRound l) (n - 1 - 1) P (ownPostG w.heap.size (fun _ _ => True) I Ix (pre ++ [x]) W) { tmps := (a.tmps.setIfInBounds p (.int .i64 x)).setIfInBounds q (.int .i64 x), defers := [] } W)
    (hdone : ∀ (D : Nat) (W : World), w.heap.size ≤ D → I xs W → W.heap[D]? = some (.deferred (some [])) → Q .normal { a with defers := { target := .collected D, args := #[] } :: a.defers } W)
    (hstop : ∀ (D : Nat) (c : Code) (pre : List Int) (W : World), w.heap.size ≤ D → Ix c pre W → W.heap[D]? = some (.deferred (some [])) → c.wpIn Fence.wide n P Q { a with defers := { target := .collected D, args := #[] } :: a.defers } W) :
    (Code.rangeFunc g #[p] assign body).wpIn Fence.wide n P Q a w :=
  wpIn_handsS hg eg hit I Ix hT hI hIx h0 (fun x => { tmps := (a.tmps.setIfInBounds p (.int .i64 x)).setIfInBounds q (.int .i64 x), defers := [] }) hassign hbody hdone hstop
theorem results_cell_one {P : Program} {fn : Func} {p : Tmp} {ty : TypeId} (h : fn.results = #[.cell p ty]) (tmps : Array Value) (w : World) (a : Addr) (v : Value)
    (hp : tmps.getD p undef = .pointer (some a)) (hl : (loadVar ty a).run P w = .ok v w) : (results fn tmps).run P w = .ok v w := by
  have hp' : tmps[p]?.getD undef = .pointer (some a) := by simpa using hp
  simp [results, h, hp', asAddr, hl]

/-- No cell of a set is near to another one, by the ground's words. -/
def freeB (G : List Nat) (s : Nat) : Bool := (bitsL s).all fun x => (G.getD (1 + x.toNat) 0 &&& s) == 0

theorem load_bool {W : World} {p : Addr} {b : Bool} (h : W.cell? p = some (.bool b)) : (loadVar 4 p).run Tryz.prog W = .ok (.bool b) W := by
  have ha := Tryz.isAgg4
  simp [loadVar, Sem.run_bind, ha, go_sem, h]

def StopF (G : List Nat) (s : Nat) (c : Code) (_ : List Int) : Prop := c = .ret ∧ freeB G s = false
/-- One block in the midst of a range: what it holds, and a word on the cells that were handed over. -/
def MidC {α : Type} (W3 : World) (g : Nat) (t : TypeId) (C : α → Array Value) (p : α → Prop) (x : α) (W' : World) : Prop :=
  W3.grownBy W' (some g) ∧ W'.heap[g]? = some (.cells (C x) t (0, 0)) ∧ p x
theorem midC_own {α : Type} {W3 : World} {g : Nat} {t : TypeId} {C : α → Array Value} {p : α → Prop} (hg : g < W3.heap.size) : OwnFrom W3.heap.size (MidC W3 g t C p) := by
  intro s W W' row hs hgr hr
  have hne : some g ≠ row := fun e => by have := (hr g e.symm).1; omega
  refine ⟨⟨hgr.os.trans hs.1.os, hgr.tape.trans hs.1.tape, hgr.output.trans hs.1.output, Nat.le_trans hs.1.size hgr.size, fun k hk hkg => ?_⟩, ?_, hs.2.2⟩
  · refine (hgr.block k (Nat.lt_of_lt_of_le hk hs.1.size) (fun e => ?_)).trans (hs.1.block k hk hkg)
    have := (hr k e.symm).1
    omega
  · exact (hgr.block g (Array.getElem?_eq_some_iff.1 hs.2.1).1 hne).trans hs.2.1

set_option maxRecDepth 100000 in
set_option maxHeartbeats 1000000 in
theorem isFree_any (G : List Nat) (hG : G.length = 65) (hGb : ∀ x ∈ G, x < 18446744073709551616) (s : Nat) (hs : s < 18446744073709551616) (w : World) (hT : Tab64 w) (hgb : 0 < w.heap.size) :
    Calls Tryz.prog 46 #[.agg (words G).toArray, .int .u64 (s : Int)] w fun e w' => e = .returned (.bool (freeB G s)) ∧ Below w.heap.size w w' := by
  refine (callsIn_wide (n := 9)).1 ?_
  refine callsIn_of_wp_marks Tryz.func46 rfl trivial ?_ rfl
  simp only [Tryz.ntmps46, List.size_toArray, List.length_cons, List.length_nil, Nat.reduceAdd, Nat.reduceSub, Array.replicate_succ, Array.replicate_zero, List.push_toArray, List.append_toArray, List.nil_append, List.cons_append]
  have HT := Lib.hid hT
  have HGB := Lib.hid hGb
  obtain ⟨W3, hW3⟩ : ∃ W3, W3 = ((w.alloc (.cells (words G).toArray 52)).alloc (.cells #[.int .u64 (s : Int)] 49)).alloc (.cells #[.bool false] 4) := ⟨_, rfl⟩
  have hs3 : W3.heap.size = w.heap.size + 3 := by rw [hW3]; simp
  have hb3 : Below w.heap.size w W3 := by rw [hW3]; exact ((below_new (Below.refl _ _) _).alloc (by simp) _).alloc (by simp; omega) _
  have hg3 : W3.heap[w.heap.size]? = some (.cells (words G).toArray 52 (0, 0)) := by
    rw [hW3, Below.heap_alloc _ _ _ (by simp; omega), Below.heap_alloc _ _ _ (by simp)]; exact World.alloc_heap_new _ _
  have hc3 : W3.heap[w.heap.size + 1]? = some (.cells #[.int .u64 (s : Int)] 49 (0, 0)) := by
    have h := World.alloc_heap_new (w.alloc (.cells (words G).toArray 52)) (.cells #[.int .u64 (s : Int)] 49)
    rw [hW3, Below.heap_alloc _ _ _ (by simp)]; rw [World.size_alloc] at h; exact h
  have hr3 : W3.heap[w.heap.size + 1 + 1]? = some (.cells #[.bool false] 4 (0, 0)) := by
    have h := World.alloc_heap_new ((w.alloc (.cells (words G).toArray 52)).alloc (.cells #[.int .u64 (s : Int)] 49)) (.cells #[.bool false] 4)
    rw [hW3]; rw [World.size_alloc, World.size_alloc] at h; exact h
  clear hT hGb
  gi_wp2
  rw [← hW3]
  clear hW3
  have hit := each_handsS (9 - 1) s hs
  refine wpIn_handsSQ (q := 5) rfl (fun args w => by simp [go_sem]) hit (MidC W3 (w.heap.size + 1 + 1) 4 (fun _ => #[.bool false]) (fun pre => ∀ x ∈ pre, (G.getD (1 + x.toNat) 0 &&& s) = 0))
    (fun c => MidC W3 (w.heap.size + 1 + 1) 4 (fun _ => #[.bool false]) (StopF G s c)) (fun pre w' h => HT.out.keep hgb (hb3.grown h.1 hb3.size (fun k e => by cases e; omega)))
    (midC_own (by omega)) (fun c => midC_own (by omega)) ⟨World.grownBy.refl _ _, hr3, by simp⟩ ?_ ?_ ?_ ?_
  · intro l x W' K hK
    gi_wp2
    exact hK
  · rintro l pre x rest W' hl hsp ⟨hgw, hrw, hpre⟩
    have hx : x ∈ bitsL s := by rw [hsp]; simp
    obtain ⟨hx0, hx1, -⟩ := bitsL_mem.1 hx
    have h0x : 0 ≤ x := hx0
    have h1x : x < 64 := hx1
    obtain ⟨y, hy⟩ : ∃ y, y = G.getD (1 + x.toNat) 0 := ⟨_, rfl⟩
    have hyg : G[1 + x.toNat]? = some y := by rw [hy, List.getD_eq_getElem?_getD, List.getElem?_eq_getElem (by omega)]; rfl
    have hy9 : y < 18446744073709551616 := HGB.out y (List.mem_of_getElem? hyg)
    have HY := Lib.hid hy
    have HSP := Lib.hid hsp
    have hcell : W'.cell? ⟨w.heap.size, 1 + x.toNat, none⟩ = some (.int .u64 (y : Int)) := by
      rw [cell_of_row _ _ _ _ _ _ ((hgw.block w.heap.size (by omega) (by simp; omega)).trans hg3), List.getElem?_toArray, words, List.getElem?_map, hyg]; rfl
    have hsc : W'.cell? ⟨w.heap.size + 1, 0, none⟩ = some (.int .u64 (s : Int)) := by
      rw [cell_of_row _ _ _ _ _ _ ((hgw.block (w.heap.size + 1) (by omega) (by simp)).trans hc3)]; rfl
    have hrc : W'.cell? ⟨w.heap.size + 1 + 1, 0, none⟩ = some (.bool false) := by rw [cell_of_row _ _ _ _ _ _ hrw]; rfl
    have hrf : W'.frozen? ⟨w.heap.size + 1 + 1, 0, none⟩ = false := frozen_of_row _ _ _ _ _ hrw
    have hand := and_nat y s (y : Int) hy9 hs rfl
    have HGW := Lib.hid hgw
    have HRW := Lib.hid hrw
    have HPRE := Lib.hid hpre
    clear hy hgw hrw hpre hsp hx hit hyg hx0 hx1
    by_cases hz : y &&& s = 0
    · have hz0 : (((y &&& s : Nat) : Int) != 0) = false := by rw [hz]; rfl
      have HZ := Lib.hid hz
      clear hz
      have hgo : KeepsFrom W3.heap.size W' W'.drew ∧ True ∧ MidC W3 (w.heap.size + 1 + 1) 4 (fun _ => #[.bool false]) (fun pre => ∀ x ∈ pre, (G.getD (1 + x.toNat) 0 &&& s) = 0) (pre ++ [x]) W'.drew := by
        refine ⟨KeepsFrom.of_grownBy (row := none) ⟨rfl, rfl, rfl, Nat.le_refl _, fun _ _ _ => rfl⟩ (fun j e => by cases e), trivial, ⟨HGW.out.os, HGW.out.tape, HGW.out.output, HGW.out.size, HGW.out.block⟩, HRW.out, ?_⟩
        intro z hz
        rcases List.mem_append.1 hz with h | h
        · exact HPRE.out z h
        · simp at h; subst h; rw [← HY.out]; exact HZ.out
      gi_wp2
      gi_region
      all_goals gi_wp2
      all_goals exact hgo
    · have hz0 : (((y &&& s : Nat) : Int) != 0) = true := by simp; omega
      have HZ := Lib.hid hz
      clear hz
      have hfr : freeB G s = false := by
        rw [freeB, Bool.eq_false_iff]
        intro h
        have := List.all_eq_true.1 h x (by rw [HSP.out]; simp)
        rw [← HY.out] at this
        simp at this
        exact HZ.out this
      have hgs := grown_set W' (w.heap.size + 1 + 1) 0 (.bool false)
      have hgo : KeepsFrom W3.heap.size W' (W'.setCell ⟨w.heap.size + 1 + 1, 0, none⟩ (.bool false)).drew ∧ MidC W3 (w.heap.size + 1 + 1) 4 (fun _ => #[.bool false]) (StopF G s .ret) (pre ++ [x]) (W'.setCell ⟨w.heap.size + 1 + 1, 0, none⟩ (.bool false)).drew := by
        refine ⟨KeepsFrom.of_grownBy (row := some (w.heap.size + 1 + 1)) ⟨hgs.os, hgs.tape, hgs.output, hgs.size, hgs.block⟩ (fun j e => by cases e; omega), grown_next (b := W') ⟨HGW.out.os, HGW.out.tape, HGW.out.output, HGW.out.size, HGW.out.block⟩ ⟨hgs.os, hgs.tape, hgs.output, hgs.size, hgs.block⟩, ?_, rfl, hfr⟩
        have h := heap_set (W := W') (j := 0) (.bool false) HRW.out
        change (W'.setCell ⟨w.heap.size + 1 + 1, 0, none⟩ (.bool false)).heap[w.heap.size + 1 + 1]? = _
        simpa using h
      have HGO := Lib.hid hgo
      clear hgs hfr hgo
      gi_wp2
      gi_region
      all_goals gi_wp2
      all_goals exact HGO.out
  · rintro D W' hD ⟨hgw, hrw, hpre⟩ hd
    have hfr : freeB G s = true := by
      rw [freeB, List.all_eq_true]
      intro x hx
      rw [hpre x hx]; rfl
    have hrc : W'.cell? ⟨w.heap.size + 1 + 1, 0, none⟩ = some (.bool false) := by rw [cell_of_row _ _ _ _ _ _ hrw]; rfl
    have hrf : W'.frozen? ⟨w.heap.size + 1 + 1, 0, none⟩ = false := frozen_of_row _ _ _ _ _ hrw
    have hbw : Below w.heap.size w W' := hb3.grown hgw hb3.size (fun k e => by cases e; omega)
    have hgs := grown_set W' (w.heap.size + 1 + 1) 0 (.bool true)
    have hh2 := heap_set (W := W') (j := 0) (.bool true) hrw
    have hd2 := (hgs.block D (Array.getElem?_eq_some_iff.1 hd).1 (by simp; omega)).trans hd
    have hb4 : Below w.heap.size w (W'.setCell ⟨w.heap.size + 1 + 1, 0, none⟩ (.bool true)) := hbw.grown hgs hbw.size (fun k e => by cases e; omega)
    have HH := Lib.hid hh2
    clear hit hgs hh2 hgw hpre
    gi_wp2
    generalize W'.setCell ⟨w.heap.size + 1 + 1, 0, none⟩ (.bool true) = W4 at *
    refine ⟨by simp, .inl ⟨_, _, rfl, run_takeDeferred hd2, ?_⟩⟩
    have hne : w.heap.size + 1 + 1 ≠ D := by omega
    refine ⟨_, results_cell_one rfl _ _ _ (.bool true) rfl ?_, rfl, hb4.grown (grownBy_putObj' W4 D _) hb4.size (fun k e => by cases e; omega)⟩
    have hc : (W4.putObj D (.deferred none)).cell? ⟨w.heap.size + 1 + 1, 0, none⟩ = some (.bool true) := by
      rw [cell_of_row _ _ _ _ _ _ ((World.putObj_heap_other hne).trans HH.out)]; rfl
    exact load_bool hc
  · rintro D cd pre W' hD ⟨hgw, hrw, rfl, hfr⟩ hd
    have hbw : Below w.heap.size w W' := hb3.grown hgw hb3.size (fun k e => by cases e; omega)
    have HH := Lib.hid hrw
    have HF := Lib.hid hfr
    clear hit hgw hrw hfr
    gi_wp2
    refine ⟨by simp, .inl ⟨_, _, rfl, run_takeDeferred hd, ?_⟩⟩
    have hne : w.heap.size + 1 + 1 ≠ D := by omega
    have hc : (W'.putObj D (.deferred none)).cell? ⟨w.heap.size + 1 + 1, 0, none⟩ = some (.bool false) := by
      rw [cell_of_row _ _ _ _ _ _ ((World.putObj_heap_other hne).trans HH.out)]; rfl
    exact ⟨_, results_cell_one rfl _ _ _ (.bool false) rfl (load_bool hc), by rw [HF.out], hbw.grown (grownBy_putObj' W' D _) hbw.size (fun k e => by cases e; omega)⟩
end Go.Proofs.YtcfibfbenccimaaGreatDoor

namespace Go.Proofs.YtcfibfbenccimaaGreatDoor
open Go.RowKit

/-- The row in the midst of its filling. -/
def rowR (v : Int) (n N : Nat) : List Value := List.replicate n (.int .i64 v) ++ List.replicate (N - n) (.int .i64 0)
theorem rowR_len (v : Int) {n N : Nat} (h : n ≤ N) : (rowR v n N).length = N := by simp [rowR]; omega
theorem rowR_full (v : Int) (N : Nat) : rowR v N N = (List.replicate N v).map (Value.int .i64) := by simp [rowR]
theorem rowR_copy (v : Int) {n k N : Nat} : (rowR v n N).take n ++ (List.replicate k (.int .i64 v) ++ (rowR v n N).drop (n + k)) = rowR v (n + k) N := by
  unfold rowR
  rw [List.take_append, List.drop_append]
  simp
  rw [← List.append_assoc, List.replicate_append_replicate]
  congr 2; omega
theorem rowR_at (v : Int) {n N j : Nat} (h : j < n) : (rowR v n N)[j]? = some (.int .i64 v) := by
  unfold rowR; rw [List.getElem?_append_left (by simpa using h)]; simp [h]

theorem row_of_made {w : World} {base g N : Nat} {e : TypeId} (v : Int) (h : w.ownsRow base e 1 (.slice (some ⟨g, 0, none⟩) N N) N (madeCells (Value.cells (.int .i64 0)) (N * 1)).toList) :
    w.heap[g]? = some (.cells (rowR v 0 N).toArray e (0, 0)) := by
  rcases h.2 with ⟨hv, _⟩ | ⟨g', cap, cur, hv, _, hg, _, _, hs, ht⟩
  · cases hv
  · injection hv with h1 h2 h3
    injection h1 with h1
    injection h1 with h1
    subst h1; subst h3
    have e1 : (madeCells (Value.cells (.int .i64 0)) (N * 1)).toList = List.replicate N (.int .i64 0) := by rw [Nat.mul_one]; exact toList_madeCells_one (.int .i64 0) N
    rw [e1, List.take_of_length_le (by simp [hs])] at ht
    rw [hg]
    congr 2
    rw [← Array.toList_inj, ht]
    simp [rowR]
theorem own_of_row {w : World} {lo g N : Nat} {e : TypeId} {L : List Int} (hl : L.length = N) (hlo : lo ≤ g) (hN : N ≤ maxLen) (h : w.heap[g]? = some (.cells (L.map (Value.int .i64)).toArray e (0, 0))) :
    OwnI e w lo (some ⟨g, 0, none⟩) N N L :=
  ⟨by simp [hl], .inr ⟨g, N, _, rfl, hlo, h, Nat.le_refl _, hN, by simp [hl], by simp [hl, List.take_of_length_le]⟩⟩

theorem heap_setRowF {W : World} {g : Nat} {cs c' : Array Value} {t : TypeId} (h : W.heap[g]? = some (.cells cs t (0, 0))) : (W.setRow g c').heap[g]? = some (.cells c' t (0, 0)) := by
  simp [World.setRow, Array.getElem?_modify, h]

theorem wpList_copy_rowR {P : Program} {w : World} {ops : Array Oper} {rest : List Oper} {o : Oper} {a : Act} {Q : Exit → Act → World → Prop} (hgd : o.guard = none) (d s : Operand) (T : TypeId)
    (ho : o.op = .call { callee := .builtin .copy, args := #[d, s], argTypes := #[T, T] }) (elem : TypeId) (hu : P.underlying T = some (.slice elem)) (hsz : (P.info? elem).map (·.size) = some 1)
    (v : Int) (g n k N dLen dCap : Nat) (ad : Addr) (sLen sCap : Nat) (hd : a.eval d = .slice (some ⟨g, n, none⟩) dLen dCap) (hs : a.eval s = .slice (some ad) sLen sCap) (t : TypeId)
    (hg : w.heap[g]? = some (.cells (rowR v n N).toArray t (0, 0))) (hk : k = Nat.min sLen dLen) (hsrc : ∀ j, j < k → w.cell? (ad.add j) = some (.int .i64 v)) (hfit : n + k ≤ N) (lo : Nat) (w0 : World) (hb : Below lo w0 w) (hlo : lo ≤ g)
    (h : ∀ w', w'.heap[g]? = some (.cells (rowR v (n + k) N).toArray t (0, 0)) → Below lo w0 w' → wpList P ops Q rest (a.put o.dst (goInt k)) w') : wpList P ops Q (o :: rest) a w := by
  have hl : (List.replicate k (Value.int .i64 v)).length = k := by simp
  refine wpList_copy_own hgd d s T T ho elem hu hsz g n dLen dCap ad sLen sCap hd hs _ t hg (List.replicate k (.int .i64 v)) (by rw [hl, hk]) (fun j u hj => ?_) (by rw [hl]; simp [rowR_len v (show n ≤ N by omega)]; omega) (fun u hu => by rw [List.eq_of_mem_replicate hu]; rfl) ?_
  · have hjk : j < k := by have := (List.getElem?_eq_some_iff.1 hj).1; simpa using this
    rw [List.getElem?_replicate, if_pos hjk] at hj
    injection hj with hj
    rw [← hj]; exact hsrc j hjk
  · rw [hl]
    refine h _ ?_ (below_setRow hb hlo _)
    have h1 := heap_setRowF (c' := ((rowR v n N).toArray.toList.take n ++ (List.replicate k (Value.int .i64 v) ++ (rowR v n N).toArray.toList.drop (n + k))).toArray) hg
    rw [show (rowR v n N).toArray.toList.take n ++ (List.replicate k (Value.int .i64 v) ++ (rowR v n N).toArray.toList.drop (n + k)) = rowR v (n + k) N from rowR_copy v] at h1 ⊢
    exact h1

theorem step_copy_rowR {P : Program} {w : World} {ops : Array Oper} {o : Oper} {a : Act} {K : Act → World → Prop} {Q : Exit → Act → World → Prop} {E0 : Prop} (hgd : o.guard = none) (d s : Operand) (T : TypeId)
    (ho : o.op = .call { callee := .builtin .copy, args := #[d, s], argTypes := #[T, T] }) (elem : TypeId) (hu : P.underlying T = some (.slice elem)) (hsz : (P.info? elem).map (·.size) = some 1)
    (v : Int) (g n k N dLen dCap : Nat) (ad : Addr) (sLen sCap : Nat) (hd : a.eval d = .slice (some ⟨g, n, none⟩) dLen dCap) (hs : a.eval s = .slice (some ad) sLen sCap) (t : TypeId)
    (hg : w.heap[g]? = some (.cells (rowR v n N).toArray t (0, 0))) (hk : k = Nat.min sLen dLen) (hsrc : ∀ j, j < k → w.cell? (ad.add j) = some (.int .i64 v)) (hfit : n + k ≤ N) (lo : Nat) (w0 : World) (hb : Below lo w0 w) (hlo : lo ≤ g)
    (h : ∀ w', w'.heap[g]? = some (.cells (rowR v (n + k) N).toArray t (0, 0)) → Below lo w0 w' → K (a.put o.dst (goInt k)) w') : if Region.wanted o (yielded ops a.tmps) = true then Oper.wp P o a w K Q else E0 := by
  have hl : (List.replicate k (Value.int .i64 v)).length = k := by simp
  have hw : Region.wanted o (yielded ops a.tmps) = true := by simp [Region.wanted, hgd]
  rw [if_pos hw]
  have hrun := run_copy_row (P := P) w T T o.type elem g n dLen dCap ad sLen sCap (rowR v n N).toArray t (List.replicate k (.int .i64 v)) hu hsz hg (by rw [hl, hk]) (fun j u hj => by
    have hjk : j < k := by have := (List.getElem?_eq_some_iff.1 hj).1; simpa using this
    rw [List.getElem?_replicate, if_pos hjk] at hj
    injection hj with hj
    rw [← hj]; exact hsrc j hjk) (by rw [hl]; simp [rowR_len v (show n ≤ N by omega)]; omega) (fun u hu => by rw [List.eq_of_mem_replicate hu]; rfl)
  unfold Oper.wp
  simp only [execOp, ho, resolve, invoke, builtin, Sem.run_bind, Sem.run_pure, Result.andThen_ok, List.map_toArray, List.map_cons, List.map_nil, hd, hs, hrun]
  rw [hl, List.append_assoc]
  rw [show (rowR v n N).toArray.toList.take n ++ (List.replicate k (Value.int .i64 v) ++ (rowR v n N).toArray.toList.drop (n + k)) = rowR v (n + k) N from rowR_copy v]
  exact h _ (heap_setRowF hg) (below_setRow hb hlo _)

theorem rowR_src {w : World} {g n k N : Nat} {v : Int} {t : TypeId} (h : w.heap[g]? = some (.cells (rowR v n N).toArray t (0, 0))) (hk : k ≤ n) : ∀ j, j < k → w.cell? ((⟨g, 0, none⟩ : Addr).add j) = some (.int .i64 v) := fun j hj => by
  rw [Addr.add_mid, Nat.zero_add, cell_of_row _ _ _ _ _ _ h, List.getElem?_toArray, rowR_at v (show j < n by omega)]
theorem rowR_fit {n N : Nat} (h : n ≤ N) : n + Nat.min n (N - n) ≤ N := by show n + min n (N - n) ≤ N; omega
theorem rowR_more {n N : Nat} (h1 : 1 ≤ n) (h2 : n < N) : 1 ≤ Nat.min n (N - n) := by
  have h : n.min (N - n) = n ∨ n.min (N - n) = N - n := by
    rcases Nat.le_total n (N - n) with h | h
    · exact .inl (Nat.min_eq_left h)
    · exact .inr (Nat.min_eq_right h)
  omega

set_option maxRecDepth 100000 in
set_option maxHeartbeats 4000000 in
theorem repeat_any (A : Option Addr) (v : Int) (N : Nat) (w : World) (ha : Rd w A 1 [v]) (hN1 : 1 ≤ N) (hN2 : N ≤ 64) :
    Calls Tryz.prog 72 #[.slice A 1 1, .int .i64 (N : Int)] w fun e w' => ∃ g, e = .returned (.slice (some ⟨g, 0, none⟩) N N) ∧ OwnI 3 w' w.heap.size (some ⟨g, 0, none⟩) N N (List.replicate N v) ∧ Below w.heap.size w w' := by
  obtain ⟨i0, hi, hz0, hz1, hz2⟩ := info_parts infoI
  have HI := Lib.hid hi; have HZ0 := Lib.hid hz0; have HZ1 := Lib.hid hz1; have HZ2 := Lib.hid hz2
  clear hi hz0 hz1 hz2
  obtain ⟨b0, o0, x, rfl, hg0, hx, hx0⟩ := ha.at_ (show 0 < 1 by decide)
  obtain rfl : v = x := by simpa using hx
  go_enter Tryz.func72, Tryz.ntmps72
  go_wp2_with fail
  have hM := Tryz.bits_Mul 1 N (by omega) (by omega) w
  rw [show 1 * N / 18446744073709551616 = 0 by omega, show 1 * N % 18446744073709551616 = N by omega] at hM
  refine hM.mono ?_
  rintro e w1 ⟨rfl, rfl⟩
  clear hM
  have hszI : (Tryz.prog.info? 3).map (·.size) = some 1 := by rw [HI.out]; exact congrArg some HZ1.out
  have hu := Tryz.underlying22
  have B0 := Below.refl w1.heap.size w1
  go_wp2_with (first
    | (at_make; refine wpList_make_full _ rfl _ _ 22 rfl w1.heap.size 3 i0 (.int .i64 0) 1 Tryz.underlying22 HI.out HZ0.out HZ1.out .i64 .i64 _ _ N rfl rfl rfl rfl (by rw [HZ2.out]; omega) (by unfold maxLen; omega) (by first | omega | (simp; omega) | simp) ?_; intro w2 hown1 hg1; have hrow := row_of_made v hown1; have hb2 : Below w1.heap.size w1 w2 := ⟨hg1.os, hg1.tape, hg1.output, hg1.size, fun i hi => hg1.block i hi (by simp)⟩; have hs2 := cell_keep hx0 hg0 hb2; have hs3 : ∀ j, j < 1 → w2.cell? ((⟨b0, o0, none⟩ : Addr).add j) = some (.int .i64 v) := (by intro j hj; obtain rfl : j = 0 := (by omega); rw [Addr.add_mid]; exact hs2))
    | (refine wpList_copy_rowR rfl (.tmp 31) (.tmp 32) 22 rfl 3 hu hszI v w1.heap.size 0 1 N N N ⟨b0, o0, none⟩ 1 1 rfl rfl 3 hrow (Nat.min_eq_left hN1).symm hs3 (by omega) w1.heap.size w1 hb2 (Nat.le_refl _) ?_; intro w3 hr3 hb3))
  have HR := Lib.hid hr3; have HB3 := Lib.hid hb3
  clear hr3 hb3 hrow hb2 hs2 hs3 hown1 hg1 hx0 hg0 hx ha
  obtain ⟨g, hg⟩ : ∃ g, g = w1.heap.size := ⟨_, rfl⟩
  rw [← hg] at HR HB3 ⊢
  have HGG := Lib.hid hg
  clear hg
  go_loopw [8] (fun s wr => ∃ n : Nat, 1 ≤ n ∧ n ≤ N ∧ s = .int .i64 n ∧ wr.heap[g]? = some (.cells (rowR v n N).toArray 3 (0, 0)) ∧ Below g w1 wr) (fun s _ => N - (intOf s).toNat)
  case atStart => exact ⟨1, by omega, hN1, rfl, HR.out, HB3.out⟩
  case round =>
    obtain ⟨n, hn1, hn, rfl, hrow, hbw⟩ := hrel
    have HROW := Lib.hid hrow; have HB := Lib.hid hbw
    clear hrow hbw
    by_cases hlt : n < N
    · have hne : ¬ N = n := by omega
      obtain ⟨k, hk⟩ : ∃ k, k = Nat.min n (N - n) := ⟨_, rfl⟩
      have HK := Lib.hid hk
      have hk1 : 1 ≤ k := by rw [hk]; exact rowR_more hn1 hlt
      have hfit : n + k ≤ N := by rw [hk]; exact rowR_fit hn
      have hkn : k ≤ n := by rw [hk]; exact Nat.min_le_left _ _
      clear hk
      have hsum : IntKind.i64.wrap ((n : Int) + (k : Int)) = (n : Int) + (k : Int) := IntWalk.i64_in _ (by omega)
      go_wp2
      go_region_held3 (fun _ => True) (first | exact trivial)
        (first | (refine step_copy_rowR rfl (.tmp 41) (.tmp 44) 22 rfl 3 hu hszI v g n k N (N - n) (N - n) ⟨g, 0, none⟩ n N rfl rfl 3 HROW.out HK.out (rowR_src HROW.out hkn) hfit g w1 (HB.out.drew) (Nat.le_refl _) ?_; intro w4 hr4 hb4))
      all_goals go_wp2
      all_goals go_roundw
      all_goals (first | exact ⟨n + k, by omega, hfit, by simp, hr4, hb4⟩ | (clear hsum; simp [intOf]; omega))
    · have hnN : n = N := by omega
      subst hnN
      go_wp2
      go_ret
      exact ⟨g, rfl, own_of_row (by simp) (by rw [HGG.out]; exact Nat.le_refl _) (by unfold maxLen; omega) (by rw [← rowR_full]; exact HROW.out), by rw [← HGG.out]; exact HB.out⟩
end Go.Proofs.YtcfibfbenccimaaGreatDoor

namespace Go.Proofs.YtcfibfbenccimaaGreatDoor
open Go.RowKit Go.Shelf
attribute [local go_sem] Oper.semAt_some

/-- The list when the cells ys get the colour c. -/
def putC (c : Nat) (L : List Int) (ys : List Int) : List Int := ys.foldl (fun L y => L.set y.toNat (c : Int)) L
def colsK (P : List Nat) (N : Nat) : Nat → List Int
  | 0 => List.replicate N (-1)
  | k + 1 => putC k (colsK P N k) (bitsL (P.getD k 0))
theorem putC_snoc (c : Nat) (L ys : List Int) (y : Int) : putC c L (ys ++ [y]) = (putC c L ys).set y.toNat (c : Int) := by simp [putC, List.foldl_append]
theorem putC_len (c : Nat) : ∀ (ys L : List Int), (putC c L ys).length = L.length
  | [], _ => rfl
  | y :: t, L => by rw [putC, List.foldl_cons]; exact (putC_len c t _).trans (by simp)
theorem colsK_len (P : List Nat) (N : Nat) : ∀ k, (colsK P N k).length = N
  | 0 => by simp [colsK]
  | k + 1 => by rw [colsK, putC_len, colsK_len P N k]

/-- The deferred calls that ranges over an iterator leave behind. -/
def dl (ds : List Nat) : List Deferred := ds.map fun D => { target := .collected D, args := #[] }
theorem leaves_dl {F : Fence} {n : Nat} {P : Program} {fn : Func} {tmps : Array Value} {R : Ending → World → Prop} (B : Nat) (w : World) : ∀ (ds : List Nat) (W : World), (∀ D ∈ ds, B ≤ D ∧ W.heap[D]? = some (.deferred (some []))) → ds.Pairwise (· ≠ ·) → Below B w W →
    (∀ W', Below B w W' → (∀ k, k ∉ ds → W'.heap[k]? = W.heap[k]?) → LeavesInM F n P fn tmps R [] .returning W') → LeavesInM F n P fn tmps R (dl ds) .returning W
  | [], W, _, _, hb, h => h W hb (fun _ _ => rfl)
  | D :: ds, W, hds, hp, hb, h => by
    obtain ⟨hD1, hD2⟩ := hds D List.mem_cons_self
    rw [List.pairwise_cons] at hp
    refine ⟨by simp, .inl ⟨D, W.putObj D (.deferred none), rfl, run_takeDeferred hD2, ?_⟩⟩
    have hbW : B ≤ W.heap.size := by have := (Array.getElem?_eq_some_iff.1 hD2).1; omega
    refine leaves_dl B w ds _ (fun E hE => ?_) hp.2 (hb.grown (grownBy_putObj' W D _) hbW (fun k e => by cases e; exact hD1)) (fun W' hb' hk => h W' hb' (fun k hk' => ?_))
    · obtain ⟨h1, h2⟩ := hds E (List.mem_cons_of_mem _ hE)
      exact ⟨h1, (World.putObj_heap_other (hp.1 E hE).symm).trans h2⟩
    · rw [List.mem_cons, not_or] at hk'
      exact (hk k hk'.2).trans (World.putObj_heap_other hk'.1)
theorem row_of_own {E : TypeId} {w : World} {lo g N : Nat} {L : List Int} (h : OwnI E w lo (some ⟨g, 0, none⟩) N N L) : w.heap[g]? = some (.cells (L.map (Value.int .i64)).toArray E (0, 0)) := by
  rcases h.2 with ⟨hv, _⟩ | ⟨g', cap, cur, hv, _, hg, _, _, hs, ht⟩
  · cases hv
  · injection hv with h1 h2 h3
    injection h1 with h1
    injection h1 with h1
    subst h1; subst h3
    rw [List.take_of_length_le (by simp [hs])] at ht
    rw [hg]
    congr 2
    rw [← Array.toList_inj, ht]

set_option maxRecDepth 100000 in
set_option maxHeartbeats 2000000 in
theorem coloursOf_any (W H : Int) (A : Option Addr) (n c : Nat) (P : List Nat) (hP : P.length = 9) (N : Nat) (hWH : W * H = (N : Int)) (hW1 : 1 ≤ W) (hW2 : W ≤ 8) (hH1 : 1 ≤ H) (hH2 : H ≤ 8) (hPb : ∀ x ∈ P, x < 18446744073709551616) (hPN : ∀ x ∈ P, ∀ y ∈ bitsL x, y < (N : Int)) (w : World) (hT : Tab64 w) (hgb : 0 < w.heap.size) :
    Calls Tryz.prog 49 #[brd W H A n c, .agg (words P).toArray] w fun e w' => ∃ g, e = .returned (.slice (some ⟨g, 0, none⟩) N N) ∧ OwnI 3 w' w.heap.size (some ⟨g, 0, none⟩) N N (colsK P N 9) ∧ Below w.heap.size w w' := by
  refine (callsIn_wide (n := 9)).1 ?_
  refine callsIn_of_wp_marks Tryz.func49 rfl trivial ?_ rfl
  simp only [Tryz.ntmps49, List.size_toArray, List.length_cons, List.length_nil, Nat.reduceAdd, Nat.reduceSub, Array.replicate_succ, Array.replicate_zero, List.push_toArray, List.append_toArray, List.nil_append, List.cons_append]
  have HT := Lib.hid hT
  have HPB := Lib.hid hPb; have HPN := Lib.hid hPN
  have hN := cells_le ⟨hW1, hW2⟩ ⟨hH1, hH2⟩
  rw [hWH] at hN
  obtain ⟨hN1', hN2'⟩ := hN
  have hN1 : 1 ≤ N := by omega
  have hN2 : N ≤ 64 := by omega
  clear hN1' hN2'
  clear hT hPb hPN
  obtain ⟨W3, hW3⟩ : ∃ W3, W3 = ((w.alloc (.cells #[.int .i64 W, .int .i64 H, .slice A n c] 30)).alloc (.cells (words P).toArray 64)).alloc (.cells #[.int .i64 (-1)] 3) := ⟨_, rfl⟩
  have hs3 : W3.heap.size = w.heap.size + 3 := by rw [hW3]; simp
  have hb3 : Below w.heap.size w W3 := by rw [hW3]; exact ((below_new (Below.refl _ _) _).alloc (by simp) _).alloc (by simp; omega) _
  have hp3 : W3.heap[w.heap.size + 1]? = some (.cells (words P).toArray 64 (0, 0)) := by
    have h := World.alloc_heap_new (w.alloc (.cells #[.int .i64 W, .int .i64 H, .slice A n c] 30)) (.cells (words P).toArray 64)
    rw [hW3, Below.heap_alloc _ _ _ (by simp)]; rw [World.size_alloc] at h; exact h
  have hc3 : W3.cell? ⟨w.heap.size + 1 + 1, 0, none⟩ = some (.int .i64 (-1)) := by rw [hW3]; go_simp
  have hrd : Rd W3 (some ⟨w.heap.size + 1 + 1, 0, none⟩) 1 [-1] := ⟨rfl, by omega, fun j hj => by
    obtain rfl : j = 0 := by omega
    exact ⟨_, _, -1, rfl, by omega, rfl, hc3⟩⟩
  have hRp := repeat_any (some ⟨w.heap.size + 1 + 1, 0, none⟩) (-1) N W3 hrd hN1 hN2
  clear hrd hc3
  gi_wp2
  rw [← hW3]
  clear hW3
  refine ⟨trivial, (callsIn_wide.2 hRp).mono ?_⟩
  rintro e w4 ⟨g, rfl, hown, hb4⟩
  have hp4 := (hb4.block (w.heap.size + 1) (by omega)).trans hp3
  have hs4 := hb4.size
  replace hb3 := below_next hb3 hb4
  clear hRp hp3 hb4
  have hld := paint_load (W := w4.alloc (.cells #[.slice (some ⟨g, 0, none⟩) N N] 22)) ((Below.heap_alloc w4 (.cells #[.slice (some ⟨g, 0, none⟩) N N] 22) (w.heap.size + 1) (by omega)).trans hp4) hP
  gi_wp2_with (refine wpIn_load_run 64 _ _ _ rfl rfl hld ?_)
  have hrow4 := row_of_own hown
  have hg4 : W3.heap.size ≤ g ∧ g < w4.heap.size := by rcases hown.some_ (k := 0) (by omega) with ⟨g9, h9, h7, h8⟩; injection h9 with h9; injection h9 with h9; omega
  obtain ⟨W0, hW0⟩ : ∃ W0, W0 = w4.alloc (.cells #[.slice (some ⟨g, 0, none⟩) N N] 22) := ⟨_, rfl⟩
  have hs0 : W0.heap.size = w4.heap.size + 1 := by rw [hW0]; simp
  have hb0 : Below w.heap.size w W0 := by rw [hW0]; exact hb3.alloc hb3.size _
  have hr0 : W0.heap[g]? = some (.cells ((colsK P N 0).map (Value.int .i64)).toArray 3 (0, 0)) := by rw [hW0, Below.heap_alloc _ _ _ hg4.2]; exact hrow4
  have hx0 : W0.heap[w4.heap.size]? = some (.cells #[.slice (some ⟨g, 0, none⟩) N N] 22 (0, 0)) := by rw [hW0]; exact World.alloc_heap_new _ _
  obtain ⟨hg5, hg6⟩ := hg4
  rw [← hW0]
  have HR0 := Lib.hid hr0; have HX0 := Lib.hid hx0
  clear hW0 hown hrow4 hld hp4 hr0 hx0
  obtain ⟨I, hI⟩ : ∃ I : Act → World → Prop, I = fun a V => ∃ (k : Nat) (v6 v7 v18 v19 v20 v21 v22 v28 : Value) (ds : List Nat), k ≤ 9 ∧ a = { tmps := #[brd W H A n c, .agg (words P).toArray, .pointer (some ⟨w.heap.size, 0, none⟩), .pointer (some ⟨w.heap.size + 1, 0, none⟩), .slice none 0 0, .pointer (some ⟨w4.heap.size, 0, none⟩), v6, v7, undef, .slice (some ⟨w.heap.size + 1 + 1, 0, none⟩) 1 1, .pointer (some ⟨w.heap.size, 0, none⟩), .int .i64 W, .pointer (some ⟨w.heap.size, 1, none⟩), .int .i64 H, .int .i64 (N : Int), .slice (some ⟨g, 0, none⟩) N N, .agg (words P).toArray, .int .i64 (k : Int), v18, v19, v20, v21, v22, undef, undef, undef, undef, undef, v28, undef], defers := dl ds } ∧
    (W0.grownBy V (some g) ∧ V.heap[g]? = some (.cells ((colsK P N k).map (Value.int .i64)).toArray 3 (0, 0))) ∧ (∀ D ∈ ds, W0.heap.size ≤ D ∧ V.heap[D]? = some (.deferred (some []))) ∧ ds.Pairwise (· ≠ ·) := ⟨_, rfl⟩
  have HI := Lib.hid hI
  clear hI
  refine wpIn_loop I (fun a _ => 9 - (intOf (a.tmps.getD 17 undef)).toNat) ?_ ?_
  · rw [HI.out]
    exact ⟨0, undef, undef, undef, undef, undef, undef, undef, undef, [], by omega, rfl, ⟨World.grownBy.refl _ _, HR0.out⟩, by simp, List.Pairwise.nil⟩
  · intro a V hIa
    obtain ⟨K, hK⟩ : ∃ K : Act → World → Prop, K = fun a' w' => I a' w' ∧ 9 - (intOf (a'.tmps.getD 17 undef)).toNat < 9 - (intOf (a.tmps.getD 17 undef)).toNat := ⟨_, rfl⟩
    rw [← hK]
    rw [HI.out] at hIa
    obtain ⟨k, v6, v7, v18, v19, v20, v21, v22, v28, ds, hk, rfl, ⟨hgv, hrv⟩, hds, hpw⟩ := hIa
    have HK := Lib.hid hK
    have hbv : Below w.heap.size w V := hb0.grown hgv hb0.size (fun k e => by cases e; omega)
    have HDS := Lib.hid hds; have HRV := Lib.hid hrv; have HGV := Lib.hid hgv; have HBV := Lib.hid hbv; have HPW := Lib.hid hpw
    have hsv := hgv.size
    have hxv := Lib.hid ((hgv.block w4.heap.size (by omega) (by simp; omega)).trans HX0.out)
    clear hds hrv hgv hbv hK hpw
    by_cases hlt : k < 9
    · obtain ⟨s, hPk⟩ : ∃ s, P[k]? = some s := ⟨_, List.getElem?_eq_getElem (by omega)⟩
      have hrun := run_paint P k s hlt hPk
      have hPm := List.mem_of_getElem? hPk
      have HSK := Lib.hid (show P.getD k 0 = s by rw [List.getD_eq_getElem?_getD, hPk]; rfl)
      have HSN := Lib.hid (HPN.out s hPm)
      have hit := each_hands (9 - 1) s (HPB.out _ hPm)
      clear hPk hPm
      obtain ⟨W1, hW1⟩ : ∃ W1, W1 = V.alloc (.cells #[.int .i64 (k : Int)] 3) := ⟨_, rfl⟩
      have hs1 : W1.heap.size = V.heap.size + 1 := by rw [hW1]; simp
      have hb1 : Below w.heap.size w W1 := by rw [hW1]; exact HBV.out.alloc HBV.out.size _
      have hgV : g < V.heap.size := (Array.getElem?_eq_some_iff.1 HRV.out).1
      have hr1 : W1.heap[g]? = some (.cells ((colsK P N k).map (Value.int .i64)).toArray 3 (0, 0)) := by rw [hW1, Below.heap_alloc _ _ _ hgV]; exact HRV.out
      have hx1 := Lib.hid (show W1.heap[w4.heap.size]? = some (.cells #[.slice (some ⟨g, 0, none⟩) N N] 22 (0, 0)) by rw [hW1, Below.heap_alloc _ _ _ (by omega)]; exact hxv.out)
      have hc1 := Lib.hid (show W1.heap[V.heap.size]? = some (.cells #[.int .i64 (k : Int)] 3 (0, 0)) by rw [hW1]; exact World.alloc_heap_new _ _)
      have hds1 := Lib.hid (show ∀ D ∈ ds, W0.heap.size ≤ D ∧ D < V.heap.size ∧ W1.heap[D]? = some (.deferred (some [])) from fun D hD => by
        obtain ⟨h1, h2⟩ := HDS.out D hD
        have h3 := (Array.getElem?_eq_some_iff.1 h2).1
        exact ⟨h1, h3, by rw [hW1, Below.heap_alloc _ _ _ h3]; exact h2⟩)
      have hgr1 := Lib.hid (show W0.grownBy W1 (some g) by rw [hW1]; exact grown_next HGV.out (World.grownBy_alloc V _ _))
      have HR1 := Lib.hid hr1
      clear hr1
      gi_wp2
      rw [← hW1]
      clear hW1 hrun
      have hgW1 : g < W1.heap.size := by omega
      refine wpIn_handsQ (q := 8) rfl (fun args w => by simp [go_sem]) hit (MidC W1 g 3 (fun pre => ((putC k (colsK P N k) pre).map (Value.int .i64)).toArray) (fun _ => True)) (fun pre w' h => HT.out.keep hgb (hb1.grown h.1 hb1.size (fun k e => by cases e; omega)))
        (midC_own hgW1) ⟨World.grownBy.refl _ _, HR1.out, trivial⟩ ?_ ?_ ?_
      · intro l x W' K' hK'
        gi_wp2
        exact hK'
      · rintro l pre y rest W' hl hsp ⟨hgw, hrw, -⟩
        have hy : y ∈ bitsL s := by rw [hsp]; simp
        obtain ⟨hy0, hy1, -⟩ := bitsL_mem.1 hy
        have hyN := HSN.out y hy
        obtain ⟨j, rfl⟩ : ∃ j : Nat, y = (j : Int) := ⟨y.toNat, by omega⟩
        have hjN : j < N := by omega
        have hxc : W'.cell? ⟨w4.heap.size, 0, none⟩ = some (.slice (some ⟨g, 0, none⟩) N N) := by
          rw [cell_of_row _ _ _ _ _ _ ((hgw.block w4.heap.size (by omega) (by simp; omega)).trans hx1.out)]; rfl
        have hcc : W'.cell? ⟨V.heap.size, 0, none⟩ = some (.int .i64 (k : Int)) := by
          rw [cell_of_row _ _ _ _ _ _ ((hgw.block V.heap.size (by omega) (by simp; omega)).trans hc1.out)]; rfl
        have hlen : (putC k (colsK P N k) pre).length = N := by rw [putC_len, colsK_len]
        obtain ⟨u, hrc⟩ : ∃ u : Int, W'.cell? ⟨g, j, none⟩ = some (.int .i64 u) := by
          refine ⟨(putC k (colsK P N k) pre)[j]'(by omega), ?_⟩
          rw [cell_of_row _ _ _ _ _ _ hrw, List.getElem?_toArray, List.getElem?_map, List.getElem?_eq_getElem (by omega)]; rfl
        have hrf : W'.frozen? ⟨g, j, none⟩ = false := frozen_of_row _ _ _ _ _ hrw
        have HGW := Lib.hid hgw; have HRW := Lib.hid hrw
        clear hgw hrw hsp hy hit hyN
        gi_wp2
        have hgs := grown_set W' g j (.int .i64 (k : Int))
        refine ⟨KeepsFrom.of_grownBy hgs (fun i e => by cases e; omega), trivial, grown_next HGW.out hgs, ?_, trivial⟩
        refine Eq.trans (heap_set _ HRW.out) ?_
        show _ = some (Obj.cells ((putC k (colsK P N k) (pre ++ [(j : Int)])).map (Value.int .i64)).toArray 3 (0, 0))
        rw [putC_snoc]
        simp [List.map_set]
      · rintro D V' hD ⟨hgw, hrw, -⟩ hd
        have HGW := Lib.hid hgw; have HRW := Lib.hid hrw; have HD := Lib.hid hd
        clear hgw hrw hd hit
        gi_wp2
        rw [HK.out, HI.out]
        refine ⟨⟨k + 1, _, _, _, _, _, _, _, _, D :: ds, by omega, by rw [show ((k + 1 : Nat) : Int) = (k : Int) + 1 by omega]; rfl, ⟨grown_next hgr1.out HGW.out, ?_⟩, ?_, ?_⟩, ?_⟩
        · rw [colsK, HSK.out]; exact HRW.out
        · intro E hE
          rcases List.mem_cons.1 hE with rfl | hE
          · exact ⟨by omega, HD.out⟩
          · obtain ⟨h1, h2, h3⟩ := hds1.out E hE
            exact ⟨h1, (HGW.out.block E (by omega) (by simp; omega)).trans h3⟩
        · refine List.pairwise_cons.2 ⟨fun E hE => ?_, HPW.out⟩
          obtain ⟨h1, h2, h3⟩ := hds1.out E hE
          omega
        · simp [intOf]; omega
    · have hk9 : k = 9 := by omega
      subst hk9
      have hxc : V.cell? ⟨w4.heap.size, 0, none⟩ = some (.slice (some ⟨g, 0, none⟩) N N) := by rw [cell_of_row _ _ _ _ _ _ hxv.out]; rfl
      gi_wp2
      refine leaves_dl w.heap.size w ds V (fun D hD => ?_) HPW.out HBV.out (fun V' hbV' hkV' => ?_)
      · obtain ⟨h1, h2⟩ := HDS.out D hD
        exact ⟨by have := hb0.size; omega, h2⟩
      · refine ⟨_, results_tmp rfl _ _ _, g, rfl, own_of_row (colsK_len _ _ _) (by omega) (by unfold maxLen; omega) ((hkV' g (fun hg => ?_)).trans HRV.out), hbV'⟩
        have h := (HDS.out g hg).2
        rw [HRV.out] at h
        cases h
end Go.Proofs.YtcfibfbenccimaaGreatDoor

namespace Go.Proofs.YtcfibfbenccimaaGreatDoor
open Go.RowKit

def stepsOk (p q m : Int) : Bool := decide (1 ≤ m ∧ m ≤ 9 ∧ 0 ≤ p ∧ p < m ∧ 0 ≤ q ∧ q < m)
/-- Where the three numbers of a colouring by steps lie. -/
def ByAt (w : World) (gp gq gm : Nat) (p q m : Int) : Prop := w.cell? ⟨gp, 0, none⟩ = some (.int .i64 p) ∧ w.cell? ⟨gq, 0, none⟩ = some (.int .i64 q) ∧ w.cell? ⟨gm, 0, none⟩ = some (.int .i64 m) ∧ gp < w.heap.size ∧ gq < w.heap.size ∧ gm < w.heap.size
theorem ByAt.keep {w w' : World} {gp gq gm : Nat} {p q m : Int} (h : ByAt w gp gq gm p q m) (hb : Below w.heap.size w w') : ByAt w' gp gq gm p q m :=
  ⟨cell_keep h.1 h.2.2.2.1 hb, cell_keep h.2.1 h.2.2.2.2.1 hb, cell_keep h.2.2.1 h.2.2.2.2.2 hb, lt_keep h.2.2.2.1 hb, lt_keep h.2.2.2.2.1 hb, lt_keep h.2.2.2.2.2 hb⟩
theorem steps_split (p q m : Int) : stepsOk p q m = (inB m 1 9 && (inB p 0 (m - 1) && inB q 0 (m - 1))) := by
  rw [Bool.eq_iff_iff]; simp [stepsOk, inB]; omega

end Go.Proofs.YtcfibfbenccimaaGreatDoor

namespace Go.Proofs.YtcfibfbenccimaaGreatDoor
open Go.RowKit Go.Shelf
attribute [local go_sem] Oper.semAt_some

/-- The colour of a cell by steps. -/
def byV (W p q m x : Int) : Int := (p * (x % W) + q * (x / W)) % m
def byOk (W H : Int) (xs : List Int) (p q m : Int) : Bool := goodB W H xs && stepsOk p q m
def byL (W H : Int) (xs : List Int) (p q m : Int) : List Int := (upTo (W * H).toNat).map fun x => if hasB W H xs x then byV W p q m x else -1
def byLV (W H : Int) (xs : List Int) (p q m : Int) : List Int := if byOk W H xs p q m then byL W H xs p q m else []
theorem paintF_bit {f : Int → Nat} {ys : List Int} (h : ∀ y ∈ ys, 0 ≤ y ∧ y < 64) {c : Nat} {z : Int} : z ∈ bitsL (setBits ((ys.filter fun y => f y == c).map Int.toNat)) ↔ z ∈ ys ∧ f z = c := by
  rw [bitsL_mem, setBits_test _ _ _ rfl]
  constructor
  · rintro ⟨h0, h1, hm⟩
    obtain ⟨y, hy, e⟩ := List.mem_map.1 hm
    obtain ⟨hy1, hy2⟩ := List.mem_filter.1 hy
    have := h y hy1
    obtain rfl : y = z := by omega
    exact ⟨hy1, by simpa using hy2⟩
  · rintro ⟨h1, h2⟩
    have := h z h1
    exact ⟨this.1, this.2, List.mem_map.2 ⟨z, List.mem_filter.2 ⟨h1, by simpa using h2⟩, rfl⟩⟩
theorem putC_at (c : Nat) : ∀ (ys L : List Int) (i : Nat), (∀ y ∈ ys, 0 ≤ y) → i < L.length → (putC c L ys)[i]? = if (i : Int) ∈ ys then some (c : Int) else L[i]?
  | [], L, i, _, _ => by simp [putC]
  | y :: t, L, i, h, hi => by
    have ht := putC_at c t (L.set y.toNat (c : Int)) i (fun z hz => h z (List.mem_cons_of_mem _ hz)) (by simpa using hi)
    rw [show putC c L (y :: t) = putC c (L.set y.toNat (c : Int)) t from rfl, ht, List.getElem?_set]
    have hy := h y List.mem_cons_self
    by_cases h1 : (i : Int) ∈ t
    · simp [h1]
    · by_cases h2 : (i : Int) = y
      · simp [h2]; rw [show y.toNat = i by omega]; simp [hi]
      · have : ¬ y.toNat = i := by omega
        simp [h1, h2, this]
theorem colsK_at {f : Int → Nat} {ys : List Int} {N : Nat} (h : ∀ y ∈ ys, 0 ≤ y ∧ y < 64) {i : Nat} (hi : i < N) : ∀ k, k ≤ 9 → (colsK (paintF f ys) N k)[i]? = some (if (i : Int) ∈ ys ∧ f i < k then (f i : Int) else -1)
  | 0, _ => by simp [colsK, hi]
  | k + 1, hk => by
    have ih := colsK_at (f := f) h hi k (by omega)
    have hg : (paintF f ys).getD k 0 = setBits ((ys.filter fun y => f y == k).map Int.toNat) := by rw [List.getD_eq_getElem?_getD, paintF_at (by omega)]; rfl
    rw [colsK, putC_at k _ _ i (fun y hy => (bitsL_mem.1 hy).1) (by rw [colsK_len]; exact hi), ih, hg]
    by_cases hm : (i : Int) ∈ ys
    · by_cases hf : f i = k
      · rw [if_pos ((paintF_bit h).2 ⟨hm, hf⟩), if_pos ⟨hm, by omega⟩, hf]
      · rw [if_neg (fun h9 => hf ((paintF_bit h).1 h9).2)]
        by_cases hl : f i < k
        · rw [if_pos ⟨hm, hl⟩, if_pos ⟨hm, by omega⟩]
        · rw [if_neg (fun h9 => hl h9.2), if_neg (fun h9 => by have := h9.2; omega)]
    · rw [if_neg (fun h9 => hm ((paintF_bit h).1 h9).1), if_neg (fun h9 => hm h9.1), if_neg (fun h9 => hm h9.1)]

theorem ByAt.keepG {w w' : World} {gp gq gm g : Nat} {p q m : Int} (h : ByAt w gp gq gm p q m) (hg : w.grownBy w' (some g)) (h1 : gp ≠ g) (h2 : gq ≠ g) (h3 : gm ≠ g) : ByAt w' gp gq gm p q m :=
  ⟨hg.cell h.1 (by simpa using h1), hg.cell h.2.1 (by simpa using h2), hg.cell h.2.2.1 (by simpa using h3), Nat.lt_of_lt_of_le h.2.2.2.1 hg.size, Nat.lt_of_lt_of_le h.2.2.2.2.1 hg.size, Nat.lt_of_lt_of_le h.2.2.2.2.2 hg.size⟩
theorem byV_rng {W p q m x : Int} (hs : stepsOk p q m = true) : 0 ≤ byV W p q m x ∧ byV W p q m x < m ∧ m ≤ 9 := by
  obtain ⟨m1, m2, _⟩ := of_decide_eq_true hs
  exact ⟨Int.emod_nonneg _ (by omega), Int.emod_lt_of_pos _ (by omega), m2⟩
theorem byV_tmod {W p q m x : Int} (hW : 1 ≤ W ∧ W ≤ 8) (hs : stepsOk p q m = true) (hx : 0 ≤ x) : (p * (x % W) + q * (x / W)).tmod m = byV W p q m x := by
  obtain ⟨m1, m2, p1, p2, q1, q2⟩ := of_decide_eq_true hs
  have h1 := Int.emod_nonneg x (show W ≠ 0 by omega)
  have h2 := Int.ediv_nonneg hx (show 0 ≤ W by omega)
  exact Int.tmod_eq_emod_of_nonneg (Int.add_nonneg (Int.mul_nonneg p1 h1) (Int.mul_nonneg q1 h2))

theorem cols_by {W H : Int} {xs : List Int} {p q m : Int} {f : Int → Nat} {N : Nat} (hWH : W * H = (N : Int)) (hg : goodB W H xs = true) (hs : stepsOk p q m = true) (hf : f = fun y => (byV W p q m y).toNat) :
    colsK (paintF f (cellsL W H xs)) N 9 = byL W H xs p q m := by
  have hcl : ∀ y ∈ cellsL W H xs, 0 ≤ y ∧ y < 64 := fun y hy => by
    have h1 := (hasB_iff.1 (cellsL_mem.1 hy)).1
    obtain ⟨hW, hH, _, _⟩ := goodB_iff.1 hg
    have := cells_le hW hH
    omega
  have hn : (W * H).toNat = N := by omega
  apply List.ext_getElem?
  intro i
  rw [byL, hn, List.getElem?_map]
  by_cases hi : i < N
  · rw [colsK_at hcl hi 9 (Nat.le_refl _), upTo, List.getElem?_map, List.getElem?_range hi]
    have hr := byV_rng (W := W) (x := (i : Int)) hs
    have hfi : f (i : Int) < 9 := by rw [hf]; show (byV W p q m (i : Int)).toNat < 9; omega
    have hfv : ((f (i : Int) : Nat) : Int) = byV W p q m (i : Int) := by rw [hf]; show (((byV W p q m (i : Int)).toNat : Nat) : Int) = _; omega
    simp only [Option.map_some]
    congr 1
    by_cases hm : (i : Int) ∈ cellsL W H xs
    · rw [if_pos ⟨hm, hfi⟩, if_pos (cellsL_mem.1 hm), hfv]
    · rw [if_neg (fun h => hm h.1), if_neg (fun h => hm (cellsL_mem.2 h))]
  · rw [List.getElem?_eq_none (by rw [colsK_len]; omega), upTo, List.getElem?_map, List.getElem?_eq_none (by simp; omega)]; rfl

end Go.Proofs.YtcfibfbenccimaaGreatDoor
