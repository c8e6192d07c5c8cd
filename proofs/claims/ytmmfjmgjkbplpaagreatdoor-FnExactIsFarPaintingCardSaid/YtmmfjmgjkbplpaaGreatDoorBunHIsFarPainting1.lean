/-
  The cells of a set as an iterator whose caller may stop it; a range that may be left.
  Contracts: whether no two of some cells are near to each other.
  Paintings: for each colour the cells that have it; colours of a board.
  Paintings, in plain terms: sets that are free, and colours of leaps.
  Paintings by a colouring: plain facts; loads and stores of a painting in a drawn region.
  Contracts: the painting of a list of colours.
-/
import Derived.Test.YtmmfjmgjkbplpaaGreatDoorE3
import Derived.Test.YtmmfjmgjkbplpaaGreatDoorE4
import Derived.Sort.QuietIn
import Derived.BigRegionIn
import Derived.Test.YtmmfjmgjkbplpaaGreatDoorE0
import Derived.Test.YtmmfjmgjkbplpaaGreatDoorPop
import Derived.Test.YtmmfjmgjkbplpaaGreatDoorK1
import Derived.Test.YtmmfjmgjkbplpaaGreatDoorB3
import Derived.RangeFuncLeaves
import Derived.OwnWalkIn
import Derived.WalkKit
import Derived.LoopIn
import Derived.Test.YtmmfjmgjkbplpaaGreatDoorE21
import Derived.Deep.RegionWith
import Derived.Test.YtmmfjmgjkbplpaaGreatDoorApp
namespace Go.Proofs.YtmmfjmgjkbplpaaGreatDoor
open Go.RowKit Go.Shelf
attribute [local go_sem] Oper.semAt_some

set_option maxRecDepth 100000 in
set_option maxHeartbeats 1000000 in
/-- 'each' yields the cells of a set, least first, so long as it is told to go on; it may be told to stop. -/
theorem each_inS (n l s : Nat) (hs : s < 18446744073709551616) (J Jx : List Int → World → Prop) (W : World) (hT : ∀ pre w, J pre w → Tab64 w)
    (hY : ∀ (pre : List Int) (x : Int) (rest : List Int) (w : World), bitsL s = pre ++ x :: rest → J pre w → YieldAt Fence.wide (n - 1) Tryz.prog l #[.int .i64 x] w fun e w' => (e = .returned (.bool true) ∧ J (pre ++ [x]) w') ∨ (e = .returned (.bool false) ∧ Jx (pre ++ [x]) w'))
    (h0 : J [] W) :
    CallsIn Fence.wide n Tryz.prog 32 #[.int .u64 (s : Int), .func (.yield l) #[] #[]] W fun e w' => (∃ v, e = .returned v) ∧ (J (bitsL s) w' ∨ ∃ pre, Jx pre w') := by
  refine callsIn_of_wp Tryz.func32 rfl trivial ?_ rfl
  simp only [Tryz.ntmps32, List.size_toArray, List.length_cons, List.length_nil, Nat.reduceAdd, Nat.reduceSub, Array.replicate_succ, Array.replicate_zero, List.push_toArray, List.append_toArray, List.nil_append, List.cons_append]
  gi_wp2
  gi_loopw [0] (fun v wr => ∃ (r : Nat) (pre : List Int), v = .int .u64 (r : Int) ∧ r < 18446744073709551616 ∧ bitsL s = pre ++ bitsL r ∧ J pre wr) (fun v _ => (intOf v).toNat)
  case atStart => exact ⟨s, [], rfl, hs, rfl, h0⟩
  case round =>
    obtain ⟨r, pre, rfl, hr, hsp, hJ⟩ := hrel
    by_cases hz : r = 0
    · subst hz
      have HF := Lib.hid (show bitsL s = pre by rw [hsp, bitsL_zero, List.append_nil])
      clear hsp
      have h00 : ((((0 : Nat) : Int)) != 0) = false := rfl
      gi_wp2
      refine ⟨trivial, ?_⟩
      gi_wp2
      refine ⟨fun _ h => (by cases h), ?_⟩
      gi_wp2
      go_end0
      exact ⟨⟨_, rfl⟩, .inl (by rw [HF.out]; exact hJ)⟩
    · have hz0 : ((r : Int) == 0) = false := by simp; omega
      have hz1 : ¬ ((r : Int) = 0) := by omega
      obtain ⟨hk, hb, hlow⟩ := ctz_facts hz hr
      have hst := bitsL_step hz hr
      have hL1 := least_any r hr wr (hT pre wr hJ)
      have hclt := clr_lt hk hb
      generalize hkd : Lib.ctz 64 r = k at hk hb hlow hst hL1 hclt
      have HK := Lib.hid hkd
      have HN := Lib.hid (show bitsL s = (pre ++ [(k : Int)]) ++ bitsL (clr r k) by rw [hsp, hst]; simp)
      obtain ⟨fn, tmps, assign, body, hy, hR⟩ := hY pre (k : Int) (bitsL (clr r k)) wr (by rw [hsp, hst]) hJ
      have HC := Lib.hid hclt
      have HR := Lib.hid (Nat.lt_of_lt_of_le hclt (Nat.le_of_lt hr))
      clear hsp hst hb hlow hkd hclt
      gi_wp2
      refine ⟨trivial, (fun h => by cases h), (callsIn_wide.2 hL1).mono ?_⟩
      rintro e w' ⟨rfl, rfl⟩
      clear hL1
      gi_wp2
      refine ⟨(fun h => by cases h), hR.mono ?_⟩
      rintro e w' (⟨rfl, hJ2⟩ | ⟨rfl, hJx⟩)
      rotate_left
      · clear hR hy
        gi_wp2
        go_end0
        exact ⟨⟨_, rfl⟩, .inr ⟨_, hJx⟩⟩
      clear hR hy
      have hL2 := least_any r hr w' (hT _ w' hJ2)
      have hW2 := without_any r k hr hk w'
      rw [HK.out] at hL2
      gi_wp2
      refine ⟨trivial, (fun h => by cases h), (callsIn_wide.2 hL2).mono ?_⟩
      rintro e w'' ⟨rfl, rfl⟩
      clear hL2
      gi_wp2
      refine ⟨trivial, (fun h => by cases h), (callsIn_wide.2 hW2).mono ?_⟩
      rintro e w'' ⟨rfl, rfl⟩
      clear hW2
      gi_wp2
      go_roundw
      case rel => exact ⟨clr r k, pre ++ [(k : Int)], rfl, HR.out, HN.out, hJ2⟩
      case measure => have := HC.out; simp [intOf]; omega
/-- What an iterator with a bound receiver promises that may be told to stop. -/
def HandsS (P : Program) (n gf : Nat) (sv : Value) (xs : List Int) (T : World → Prop) : Prop :=
  ∀ (l : Nat) (J Jx : List Int → World → Prop) (W : World), (∀ pre w, J pre w → T w) →
    (∀ (pre : List Int) (x : Int) (rest : List Int) (w : World), xs = pre ++ x :: rest → J pre w → YieldAt Fence.wide (n - 1) P l #[.int .i64 x] w fun e w' => (e = .returned (.bool true) ∧ J (pre ++ [x]) w') ∨ (e = .returned (.bool false) ∧ Jx (pre ++ [x]) w')) →
    J [] W → CallsIn Fence.wide n P gf #[sv, .func (.yield l) #[] #[]] W fun e w' => (∃ v, e = .returned v) ∧ (J xs w' ∨ ∃ pre, Jx pre w')

theorem each_handsS (n s : Nat) (hs : s < 18446744073709551616) : HandsS Tryz.prog n 32 (.int .u64 (s : Int)) (bitsL s) Tab64 :=
  fun l J Jx W hT hY h0 => each_inS n l s hs J Jx W hT hY h0

theorem wpIn_handsS {P : Program} {n : Nat} {g : Operand} {p : Tmp} {assign body : Code} {Q : Exit → Act → World → Prop} {a : Act} {w : World} {gf : Nat} {sv : Value}
    (hg : a.eval g = .func (.func gf) #[sv] #[]) (eg : ∀ args w, (callFunc gf args).run P w = .ok (.enter gf args) w)
    {xs : List Int} {T : World → Prop} (hit : HandsS P (n - 1) gf sv xs T)
    (I : List Int → World → Prop) (Ix : Code → List Int → World → Prop) (hT : ∀ pre w, I pre w → T w) (hI : OwnFrom w.heap.size I) (hIx : ∀ c, OwnFrom w.heap.size (Ix c)) (h0 : I [] w) (a₁ : Int → Act)
    (hassign : ∀ (l : Nat) (x : Int) (W : World) (K : Act → World → Prop), K (a₁ x) W →
      assign.wpIn (Fence.wide.inRound l) (n - 1 - 1) P (Exit.then K (fun _ _ _ => False)) { tmps := ((#[p] : Array Tmp).zip #[Value.int .i64 x]).foldl (fun t (p, v) => t.setIfInBounds p v) a.tmps, defers := [] } W)
    (hbody : ∀ (l : Nat) (pre : List Int) (x : Int) (rest : List Int) (W : World), w.heap.size ≤ l → xs = pre ++ x :: rest → I pre W →
      body.wpIn (Fence.wide.inRound l) (n - 1 - 1) P (ownPostG w.heap.size (fun _ _ => True) I Ix (pre ++ [x]) W) (a₁ x) W)
    (hdone : ∀ (D : Nat) (W : World), w.heap.size ≤ D → I xs W → W.heap[D]? = some (.deferred (some [])) → Q .normal { a with defers := { target := .collected D, args := #[] } :: a.defers } W)
    (hstop : ∀ (D : Nat) (c : Code) (pre : List Int) (W : World), w.heap.size ≤ D → Ix c pre W → W.heap[D]? = some (.deferred (some [])) → c.wpIn Fence.wide n P Q { a with defers := { target := .collected D, args := #[] } :: a.defers } W) :
    (Code.rangeFunc g #[p] assign body).wpIn Fence.wide n P Q a w := by
  refine wpIn_rangeFunc ?_
  intro fn _
  obtain ⟨rec, hrec⟩ : ∃ rec : LoopState → Option Code → Loop, rec = fun st pe => { state := st, pending := pe, fn, tmps := a.tmps, params := #[p], assign, body, defers := w.heap.size } := ⟨_, rfl⟩
  obtain ⟨W1, hW1⟩ : ∃ W1, W1 = (w.alloc (.deferred (some []))).alloc (.loop (rec .ready none)) := ⟨_, rfl⟩
  have hL1 : W1.heap[w.heap.size + 1]? = some (.loop (rec .ready none)) := by
    rw [hW1]
    have h := World.alloc_heap_new (w.alloc (.deferred (some []))) (.loop (rec .ready none))
    rw [World.size_alloc] at h
    exact h
  have hK1 : W1.heap[w.heap.size]? = some (.deferred (some [])) := by
    rw [hW1]
    exact (Below.heap_alloc _ _ _ (by simp)).trans (World.alloc_heap_new w _)
  have hI1 : I [] W1 := by rw [hW1]; exact hI.alloc _ (hI.alloc _ h0)
  refine ⟨w.heap.size + 1, [{ target := .collected w.heap.size, args := #[] }], W1, { target := .fn (.func gf) #[], args := #[sv, .func (.yield (w.heap.size + 1)) #[] #[]] }, W1, gf,
    #[sv, .func (.yield (w.heap.size + 1)) #[] #[]], W1, ?_, ?_, fun _ _ => trivial, ?_, (fun h => by cases h), ?_⟩
  · rw [hW1, hrec]; exact run_enterLoop_outer fn a.tmps #[p] assign body
  · simp only [resolve, hg]
    simp [go_sem]
  · simp [invoke, go_sem, eg]
  · refine (hit (w.heap.size + 1) (fun pre W => I pre W ∧ W.heap[w.heap.size + 1]? = some (.loop (rec .ready none)) ∧ W.heap[w.heap.size]? = some (.deferred (some [])))
      (fun pre W => ∃ c, Ix c pre W ∧ W.heap[w.heap.size + 1]? = some (.loop (rec .done (some c))) ∧ W.heap[w.heap.size]? = some (.deferred (some []))) W1
      (fun pre W h => hT pre W h.1) ?_ ⟨hI1, hL1, hK1⟩).mono ?_
    · rintro pre x rest W hsp ⟨hi, hl, hk⟩
      have hlt := (Array.getElem?_eq_some_iff.1 hl).1
      have hy := run_yield (P := P) (args := #[.int .i64 x]) hl (by rw [hrec]; rfl)
      have hbg := run_beginRound (P := P) hl (by rw [hrec])
      obtain ⟨busy, hbusy⟩ : ∃ busy : Loop, busy = { rec .ready none with state := .busy } := ⟨_, rfl⟩
      rw [← hbusy] at hbg
      have hl2 : (W.putObj (w.heap.size + 1) (.loop busy)).heap[w.heap.size + 1]? = some (.loop busy) := World.putObj_heap_same hlt
      have hk2 : (W.putObj (w.heap.size + 1) (.loop busy)).heap[w.heap.size]? = some (.deferred (some [])) := (World.putObj_heap_other (by omega)).trans hk
      rw [hrec] at hy
      refine ⟨fn, _, assign, body, hy, roundIn_of_wpIn trivial (hassign _ x W _ ⟨_, hbg, ?_⟩)⟩
      refine wpIn_mono (hbody (w.heap.size + 1) pre x rest _ (by omega) hsp (hI.putObj _ hi (by omega) hl rfl)) ?_
      have fin : ∀ (jump : Option Code) (W3 : World), KeepsFrom w.heap.size (W.putObj (w.heap.size + 1) (.loop busy)) W3 →
          (Instr.endRound (w.heap.size + 1) jump).run P W3 = .ok (.bool jump.isNone) (W3.putObj (w.heap.size + 1) (.loop (rec (if jump.isNone then .ready else .done) jump))) ∧
          W3.heap[w.heap.size + 1]? = some (.loop busy) ∧
          (W3.putObj (w.heap.size + 1) (.loop (rec (if jump.isNone then .ready else .done) jump))).heap[w.heap.size + 1]? = some (.loop (rec (if jump.isNone then .ready else .done) jump)) ∧
          (W3.putObj (w.heap.size + 1) (.loop (rec (if jump.isNone then .ready else .done) jump))).heap[w.heap.size]? = some (.deferred (some [])) := fun jump W3 hk3 => by
        have hl3 := hk3.same _ _ (by omega) hl2 rfl
        have hend := run_endRound (P := P) jump hl3
        have hre : ({ busy with state := if jump.isNone then .ready else .done, pending := jump } : Loop) = rec (if jump.isNone then .ready else .done) jump := by rw [hbusy, hrec]
        rw [hre] at hend
        exact ⟨hend, hl3, World.putObj_heap_same (Array.getElem?_eq_some_iff.1 hl3).1, (World.putObj_heap_other (by omega)).trans (hk3.same _ _ (Nat.le_refl _) hk2 rfl)⟩
      intro e a3 W3 hp
      cases e with
      | normal =>
        obtain ⟨hk3, _, hi3⟩ := hp
        obtain ⟨hr, hl3, hl4, hk4⟩ := fin none W3 hk3
        exact ⟨_, _, hr, .inl ⟨rfl, hI.putObj _ hi3 (by omega) hl3 rfl, hl4, hk4⟩⟩
      | ret =>
        obtain ⟨hk3, hi3⟩ := hp
        obtain ⟨hr, hl3, hl4, hk4⟩ := fin (some .ret) W3 hk3
        exact ⟨_, _, hr, .inr ⟨rfl, .ret, (hIx _).putObj _ hi3 (by omega) hl3 rfl, hl4, hk4⟩⟩
      | exit id =>
        obtain ⟨hk3, hi3⟩ := hp
        obtain ⟨hr, hl3, hl4, hk4⟩ := fin (some (.exit id)) W3 hk3
        exact ⟨_, _, hr, .inr ⟨rfl, .exit id, (hIx _).putObj _ hi3 (by omega) hl3 rfl, hl4, hk4⟩⟩
      | goto t =>
        obtain ⟨hk3, hi3⟩ := hp
        obtain ⟨hr, hl3, hl4, hk4⟩ := fin (some (.goto t)) W3 hk3
        exact ⟨_, _, hr, .inr ⟨rfl, .goto t, (hIx _).putObj _ hi3 (by omega) hl3 rfl, hl4, hk4⟩⟩
      | panic ch => exact hp.elim
      | outgrown => exact hp.elim
    · rintro e W2 ⟨⟨v, rfl⟩, (⟨hi, hl, hk⟩ | ⟨pre, c, hi, hl, hk⟩)⟩
      · have hend := run_endLoop (P := P) hl (by rw [hrec]; simp)
        exact ⟨none, _, by rw [hrec] at hend; exact hend, hdone _ _ (Nat.le_refl _) (hI.putObj _ hi (by omega) hl rfl) ((World.putObj_heap_other (by omega)).trans hk)⟩
      · have hend := run_endLoop (P := P) hl (by rw [hrec]; simp)
        exact ⟨some c, _, by rw [hrec] at hend; exact hend, hstop _ c pre _ (Nat.le_refl _) ((hIx c).putObj _ hi (by omega) hl rfl) ((World.putObj_heap_other (by omega)).trans hk)⟩
end Go.Proofs.YtmmfjmgjkbplpaaGreatDoor

namespace Go.Proofs.YtmmfjmgjkbplpaaGreatDoor
open Go.RowKit Go.Shelf
attribute [local go_sem] Oper.semAt_some

theorem wpIn_handsSQ {P : Program} {n : Nat} {g : Operand} {p q : Tmp} {assign body : Code} {Q : Exit → Act → World → Prop} {a : Act} {w : World} {gf : Nat} {sv : Value}
    (hg : a.eval g = .func (.func gf) #[sv] #[]) (eg : ∀ args w, (callFunc gf args).run P w = .ok (.enter gf args) w)
    {xs : List Int} {T : World → Prop} (hit : HandsS P (n - 1) gf sv xs T)
    (I : List Int → World → Prop) (Ix : Code → List Int → World → Prop) (hT : ∀ pre w, I pre w → T w) (hI : OwnFrom w.heap.size I) (hIx : ∀ c, OwnFrom w.heap.size (Ix c)) (h0 : I [] w)
    (hassign : ∀ (l : Nat) (x : Int) (W : World) (K : Act → World → Prop), K { tmps := (a.tmps.setIfInBounds p (.int .i64 x)).setIfInBounds q (.int .i64 x), defers := [] } W →
      assign.wpIn (Fence.wide.inRound l) (n - 1 - 1) P (Exit.then K (fun _ _ _ => False)) { tmps := ((#[p] : Array Tmp).zip #[Value.int .i64 x]).foldl (fun t (p, v) => t.setIfInBounds p v) a.tmps, defers := [] } W)
    (hbody : ∀ (l : Nat) (pre : List Int) (x : Int) (rest : List Int) (W : World), w.heap.size ≤ l → xs = pre ++ x :: rest → I pre W →
      body.wpIn (Fence.wide.inRound l) (n - 1 - 1) P (ownPostG w.heap.size (fun _ _ => True) I Ix (pre ++ [x]) W) { tmps := (a.tmps.setIfInBounds p (.int .i64 x)).setIfInBounds q (.int .i64 x), defers := [] } W)
    (hdone : ∀ (D : Nat) (W : World), w.heap.size ≤ D → I xs W → W.heap[D]? = some (.deferred (some [])) → Q .normal { a with defers := { target := .collected D, args := #[] } :: a.defers } W)
    (hstop : ∀ (D : Nat) (c : Code) (pre : List Int) (W : World), w.heap.size ≤ D → Ix c pre W → W.heap[D]? = some (.deferred (some [])) → c.wpIn Fence.wide n P Q { a with defers := { target := .collected D, args := #[] } :: a.defers } W) :
    (Code.rangeFunc g #[p] assign body).wpIn Fence.wide n P Q a w :=
  wpIn_handsS hg eg hit I Ix hT hI hIx h0 (fun x => { tmps := (a.tmps.setIfInBounds p (.int .i64 x)).setIfInBounds q (.int .i64 x), defers := [] }) hassign hbody hdone hstop
theorem results_cell_one {P : Program} {fn : Func} {p : Tmp} {ty : TypeId} (h : fn.results = #[.cell p ty]) (tmps : Array Value) (w : World) (a : Addr) (v : Value)
    (hp : tmps.getD p undef = .pointer (some a)) (hl : (loadVar ty a).run P w = .ok v w) : (results fn tmps).run P w = .ok v w := by
  have hp' : tmps[p]?.getD undef = .pointer (some a) := by simpa using hp
  simp [results, h, hp', asAddr, hl]

/-- No cell of a set is near to another one, by the ground's words. -/
def freeB (G : List Nat) (s : Nat) : Bool := (bitsL s).all fun x => (G.getD (1 + x.toNat) 0 &&& s) == 0

theorem load_bool {W : World} {p : Addr} {b : Bool} (h : W.cell? p = some (.bool b)) : (loadVar 4 p).run Tryz.prog W = .ok (.bool b) W := by
  have ha := Tryz.isAgg4
  simp [loadVar, Sem.run_bind, ha, go_sem, h]

def StopF (G : List Nat) (s : Nat) (c : Code) (_ : List Int) : Prop := c = .ret ∧ freeB G s = false
/-- One block in the midst of a range: what it holds, and a word on the cells that were handed over. -/
def MidC {α : Type} (W3 : World) (g : Nat) (t : TypeId) (C : α → Array Value) (p : α → Prop) (x : α) (W' : World) : Prop :=
  W3.grownBy W' (some g) ∧ W'.heap[g]? = some (.cells (C x) t (0, 0)) ∧ p x
theorem midC_own {α : Type} {W3 : World} {g : Nat} {t : TypeId} {C : α → Array Value} {p : α → Prop} (hg : g < W3.heap.size) : OwnFrom W3.heap.size (MidC W3 g t C p) := by
  intro s W W' row hs hgr hr
  have hne : some g ≠ row := fun e => by have := (hr g e.symm).1; omega
  refine ⟨⟨hgr.os.trans hs.1.os, hgr.tape.trans hs.1.tape, hgr.output.trans hs.1.output, Nat.le_trans hs.1.size hgr.size, fun k hk hkg => ?_⟩, ?_, hs.2.2⟩
  · refine (hgr.block k (Nat.lt_of_lt_of_le hk hs.1.size) (fun e => ?_)).trans (hs.1.block k hk hkg)
    have := (hr k e.symm).1
    omega
  · exact (hgr.block g (Array.getElem?_eq_some_iff.1 hs.2.1).1 hne).trans hs.2.1

set_option maxRecDepth 100000 in
set_option maxHeartbeats 1000000 in
theorem isFree_any (G : List Nat) (hG : G.length = 65) (hGb : ∀ x ∈ G, x < 18446744073709551616) (s : Nat) (hs : s < 18446744073709551616) (w : World) (hT : Tab64 w) (hgb : 0 < w.heap.size) :
    Calls Tryz.prog 36 #[.agg (words G).toArray, .int .u64 (s : Int)] w fun e w' => e = .returned (.bool (freeB G s)) ∧ Below w.heap.size w w' := by
  refine (callsIn_wide (n := 9)).1 ?_
  refine callsIn_of_wp_marks Tryz.func36 rfl trivial ?_ rfl
  simp only [Tryz.ntmps36, List.size_toArray, List.length_cons, List.length_nil, Nat.reduceAdd, Nat.reduceSub, Array.replicate_succ, Array.replicate_zero, List.push_toArray, List.append_toArray, List.nil_append, List.cons_append]
  have HT := Lib.hid hT
  have HGB := Lib.hid hGb
  obtain ⟨W3, hW3⟩ : ∃ W3, W3 = ((w.alloc (.cells (words G).toArray 48)).alloc (.cells #[.int .u64 (s : Int)] 45)).alloc (.cells #[.bool false] 4) := ⟨_, rfl⟩
  have hs3 : W3.heap.size = w.heap.size + 3 := by rw [hW3]; simp
  have hb3 : Below w.heap.size w W3 := by rw [hW3]; exact ((below_new (Below.refl _ _) _).alloc (by simp) _).alloc (by simp; omega) _
  have hg3 : W3.heap[w.heap.size]? = some (.cells (words G).toArray 48 (0, 0)) := by
    rw [hW3, Below.heap_alloc _ _ _ (by simp; omega), Below.heap_alloc _ _ _ (by simp)]; exact World.alloc_heap_new _ _
  have hc3 : W3.heap[w.heap.size + 1]? = some (.cells #[.int .u64 (s : Int)] 45 (0, 0)) := by
    have h := World.alloc_heap_new (w.alloc (.cells (words G).toArray 48)) (.cells #[.int .u64 (s : Int)] 45)
    rw [hW3, Below.heap_alloc _ _ _ (by simp)]; rw [World.size_alloc] at h; exact h
  have hr3 : W3.heap[w.heap.size + 1 + 1]? = some (.cells #[.bool false] 4 (0, 0)) := by
    have h := World.alloc_heap_new ((w.alloc (.cells (words G).toArray 48)).alloc (.cells #[.int .u64 (s : Int)] 45)) (.cells #[.bool false] 4)
    rw [hW3]; rw [World.size_alloc, World.size_alloc] at h; exact h
  clear hT hGb
  gi_wp2
  rw [← hW3]
  clear hW3
  have hit := each_handsS (9 - 1) s hs
  refine wpIn_handsSQ (q := 5) rfl (fun args w => by simp [go_sem]) hit (MidC W3 (w.heap.size + 1 + 1) 4 (fun _ => #[.bool false]) (fun pre => ∀ x ∈ pre, (G.getD (1 + x.toNat) 0 &&& s) = 0))
    (fun c => MidC W3 (w.heap.size + 1 + 1) 4 (fun _ => #[.bool false]) (StopF G s c)) (fun pre w' h => HT.out.keep hgb (hb3.grown h.1 hb3.size (fun k e => by cases e; omega)))
    (midC_own (by omega)) (fun c => midC_own (by omega)) ⟨World.grownBy.refl _ _, hr3, by simp⟩ ?_ ?_ ?_ ?_
  · intro l x W' K hK
    gi_wp2
    exact hK
  · rintro l pre x rest W' hl hsp ⟨hgw, hrw, hpre⟩
    have hx : x ∈ bitsL s := by rw [hsp]; simp
    obtain ⟨hx0, hx1, -⟩ := bitsL_mem.1 hx
    have h0x : 0 ≤ x := hx0
    have h1x : x < 64 := hx1
    obtain ⟨y, hy⟩ : ∃ y, y = G.getD (1 + x.toNat) 0 := ⟨_, rfl⟩
    have hyg : G[1 + x.toNat]? = some y := by rw [hy, List.getD_eq_getElem?_getD, List.getElem?_eq_getElem (by omega)]; rfl
    have hy9 : y < 18446744073709551616 := HGB.out y (List.mem_of_getElem? hyg)
    have HY := Lib.hid hy
    have HSP := Lib.hid hsp
    have hcell : W'.cell? ⟨w.heap.size, 1 + x.toNat, none⟩ = some (.int .u64 (y : Int)) := by
      rw [cell_of_row _ _ _ _ _ _ ((hgw.block w.heap.size (by omega) (by simp; omega)).trans hg3), List.getElem?_toArray, words, List.getElem?_map, hyg]; rfl
    have hsc : W'.cell? ⟨w.heap.size + 1, 0, none⟩ = some (.int .u64 (s : Int)) := by
      rw [cell_of_row _ _ _ _ _ _ ((hgw.block (w.heap.size + 1) (by omega) (by simp)).trans hc3)]; rfl
    have hrc : W'.cell? ⟨w.heap.size + 1 + 1, 0, none⟩ = some (.bool false) := by rw [cell_of_row _ _ _ _ _ _ hrw]; rfl
    have hrf : W'.frozen? ⟨w.heap.size + 1 + 1, 0, none⟩ = false := frozen_of_row _ _ _ _ _ hrw
    have hand := and_nat y s (y : Int) hy9 hs rfl
    have HGW := Lib.hid hgw
    have HRW := Lib.hid hrw
    have HPRE := Lib.hid hpre
    clear hy hgw hrw hpre hsp hx hit hyg hx0 hx1
    by_cases hz : y &&& s = 0
    · have hz0 : (((y &&& s : Nat) : Int) != 0) = false := by rw [hz]; rfl
      have HZ := Lib.hid hz
      clear hz
      have hgo : KeepsFrom W3.heap.size W' W'.drew ∧ True ∧ MidC W3 (w.heap.size + 1 + 1) 4 (fun _ => #[.bool false]) (fun pre => ∀ x ∈ pre, (G.getD (1 + x.toNat) 0 &&& s) = 0) (pre ++ [x]) W'.drew := by
        refine ⟨KeepsFrom.of_grownBy (row := none) ⟨rfl, rfl, rfl, Nat.le_refl _, fun _ _ _ => rfl⟩ (fun j e => by cases e), trivial, ⟨HGW.out.os, HGW.out.tape, HGW.out.output, HGW.out.size, HGW.out.block⟩, HRW.out, ?_⟩
        intro z hz
        rcases List.mem_append.1 hz with h | h
        · exact HPRE.out z h
        · simp at h; subst h; rw [← HY.out]; exact HZ.out
      gi_wp2
      gi_region
      all_goals gi_wp2
      all_goals exact hgo
    · have hz0 : (((y &&& s : Nat) : Int) != 0) = true := by simp; omega
      have HZ := Lib.hid hz
      clear hz
      have hfr : freeB G s = false := by
        rw [freeB, Bool.eq_false_iff]
        intro h
        have := List.all_eq_true.1 h x (by rw [HSP.out]; simp)
        rw [← HY.out] at this
        simp at this
        exact HZ.out this
      have hgs := grown_set W' (w.heap.size + 1 + 1) 0 (.bool false)
      have hgo : KeepsFrom W3.heap.size W' (W'.setCell ⟨w.heap.size + 1 + 1, 0, none⟩ (.bool false)).drew ∧ MidC W3 (w.heap.size + 1 + 1) 4 (fun _ => #[.bool false]) (StopF G s .ret) (pre ++ [x]) (W'.setCell ⟨w.heap.size + 1 + 1, 0, none⟩ (.bool false)).drew := by
        refine ⟨KeepsFrom.of_grownBy (row := some (w.heap.size + 1 + 1)) ⟨hgs.os, hgs.tape, hgs.output, hgs.size, hgs.block⟩ (fun j e => by cases e; omega), grown_next (b := W') ⟨HGW.out.os, HGW.out.tape, HGW.out.output, HGW.out.size, HGW.out.block⟩ ⟨hgs.os, hgs.tape, hgs.output, hgs.size, hgs.block⟩, ?_, rfl, hfr⟩
        have h := heap_set (W := W') (j := 0) (.bool false) HRW.out
        change (W'.setCell ⟨w.heap.size + 1 + 1, 0, none⟩ (.bool false)).heap[w.heap.size + 1 + 1]? = _
        simpa using h
      have HGO := Lib.hid hgo
      clear hgs hfr hgo
      gi_wp2
      gi_region
      all_goals gi_wp2
      all_goals exact HGO.out
  · rintro D W' hD ⟨hgw, hrw, hpre⟩ hd
    have hfr : freeB G s = true := by
      rw [freeB, List.all_eq_true]
      intro x hx
      rw [hpre x hx]; rfl
    have hrc : W'.cell? ⟨w.heap.size + 1 + 1, 0, none⟩ = some (.bool false) := by rw [cell_of_row _ _ _ _ _ _ hrw]; rfl
    have hrf : W'.frozen? ⟨w.heap.size + 1 + 1, 0, none⟩ = false := frozen_of_row _ _ _ _ _ hrw
    have hbw : Below w.heap.size w W' := hb3.grown hgw hb3.size (fun k e => by cases e; omega)
    have hgs := grown_set W' (w.heap.size + 1 + 1) 0 (.bool true)
    have hh2 := heap_set (W := W') (j := 0) (.bool true) hrw
    have hd2 := (hgs.block D (Array.getElem?_eq_some_iff.1 hd).1 (by simp; omega)).trans hd
    have hb4 : Below w.heap.size w (W'.setCell ⟨w.heap.size + 1 + 1, 0, none⟩ (.bool true)) := hbw.grown hgs hbw.size (fun k e => by cases e; omega)
    have HH := Lib.hid hh2
    clear hit hgs hh2 hgw hpre
    gi_wp2
    generalize W'.setCell ⟨w.heap.size + 1 + 1, 0, none⟩ (.bool true) = W4 at *
    refine ⟨by simp, .inl ⟨_, _, rfl, run_takeDeferred hd2, ?_⟩⟩
    have hne : w.heap.size + 1 + 1 ≠ D := by omega
    refine ⟨_, results_cell_one rfl _ _ _ (.bool true) rfl ?_, rfl, hb4.grown (grownBy_putObj' W4 D _) hb4.size (fun k e => by cases e; omega)⟩
    have hc : (W4.putObj D (.deferred none)).cell? ⟨w.heap.size + 1 + 1, 0, none⟩ = some (.bool true) := by
      rw [cell_of_row _ _ _ _ _ _ ((World.putObj_heap_other hne).trans HH.out)]; rfl
    exact load_bool hc
  · rintro D cd pre W' hD ⟨hgw, hrw, rfl, hfr⟩ hd
    have hbw : Below w.heap.size w W' := hb3.grown hgw hb3.size (fun k e => by cases e; omega)
    have HH := Lib.hid hrw
    have HF := Lib.hid hfr
    clear hit hgw hrw hfr
    gi_wp2
    refine ⟨by simp, .inl ⟨_, _, rfl, run_takeDeferred hd, ?_⟩⟩
    have hne : w.heap.size + 1 + 1 ≠ D := by omega
    have hc : (W'.putObj D (.deferred none)).cell? ⟨w.heap.size + 1 + 1, 0, none⟩ = some (.bool false) := by
      rw [cell_of_row _ _ _ _ _ _ ((World.putObj_heap_other hne).trans HH.out)]; rfl
    exact ⟨_, results_cell_one rfl _ _ _ (.bool false) rfl (load_bool hc), by rw [HF.out], hbw.grown (grownBy_putObj' W' D _) hbw.size (fun k e => by cases e; omega)⟩
end Go.Proofs.YtmmfjmgjkbplpaaGreatDoor

namespace Go.Proofs.YtmmfjmgjkbplpaaGreatDoor
open Go.RowKit Go.Shelf
attribute [local go_sem] Oper.semAt_some

def cellOk (W H : Int) (xs : List Int) (k x : Int) : Bool := if hasB W H xs k then inB x 0 8 else x == -1
def goodFrom (W H : Int) (xs : List Int) : Nat → List Int → Bool
  | _, [] => true
  | k, x :: t => cellOk W H xs k x && goodFrom W H xs (k + 1) t
/-- Whether a list are colours of a board. -/
def goodCols (W H : Int) (xs cs : List Int) : Bool := decide ((cs.length : Int) = W * H) && goodFrom W H xs 0 cs
theorem goodFrom_drop {W H x : Int} {xs cs : List Int} {k : Nat} (hx : cs[k]? = some x) : goodFrom W H xs k (cs.drop k) = (cellOk W H xs k x && goodFrom W H xs (k + 1) (cs.drop (k + 1))) := by
  rw [drop_cons_of hx]; rfl
theorem goodFrom_at {W H : Int} {xs : List Int} : ∀ (cs : List Int) (i : Nat), goodFrom W H xs i cs = true → ∀ k x, cs[k]? = some x → cellOk W H xs ((i + k : Nat) : Int) x = true
  | [], _, _, k, x, h => by simp at h
  | y :: t, i, hg, 0, x, h => by
    simp only [goodFrom, Bool.and_eq_true] at hg
    simp at h; subst h; exact hg.1
  | y :: t, i, hg, k + 1, x, h => by
    simp only [goodFrom, Bool.and_eq_true] at hg
    have := goodFrom_at t (i + 1) hg.2 k x (by simpa using h)
    rwa [show i + 1 + k = i + (k + 1) by omega] at this
theorem good_at {W H : Int} {xs cs : List Int} (h : goodCols W H xs cs = true) {k : Nat} {x : Int} (hx : cs[k]? = some x) : cellOk W H xs k x = true := by
  simp only [goodCols, Bool.and_eq_true] at h
  have := goodFrom_at cs 0 h.2 k x hx
  rwa [Nat.zero_add] at this
theorem good_len {W H : Int} {xs cs : List Int} (h : goodCols W H xs cs = true) : (cs.length : Int) = W * H := by
  simp only [goodCols, Bool.and_eq_true, decide_eq_true_eq] at h; exact h.1
theorem ok_rng {W H k x : Int} {xs : List Int} (h : cellOk W H xs k x = true) : -1 ≤ x ∧ x ≤ 8 := by
  unfold cellOk at h
  split at h
  · have := inB_iff.1 h; omega
  · simp at h; omega

/-- The cells before the k-th one that have a colour. -/
def paintN (cs : List Int) (k c : Nat) : Nat := setBits ((List.range k).filter fun i => cs[i]? == some (c : Int))
def paintL (cs : List Int) (k : Nat) : List Nat := (List.range 9).map (paintN cs k)
theorem paintL_len (cs : List Int) (k : Nat) : (paintL cs k).length = 9 := by simp [paintL]
theorem paintN_yes {cs : List Int} {k c : Nat} (h : cs[k]? = some (c : Int)) : paintN cs (k + 1) c = paintN cs k c ||| 2 ^ k := by
  rw [paintN, List.range_succ, List.filter_append, List.filter_cons, if_pos (by simp [h]), List.filter_nil, setBits_snoc]; rfl
theorem paintN_no {cs : List Int} {k c : Nat} (h : cs[k]? ≠ some (c : Int)) : paintN cs (k + 1) c = paintN cs k c := by
  rw [paintN, List.range_succ, List.filter_append, List.filter_cons, if_neg (by simpa using h), List.filter_nil, List.append_nil]; rfl
theorem paintN_test {cs : List Int} {k c i : Nat} : (paintN cs k c).testBit i = true ↔ i < k ∧ cs[i]? = some (c : Int) := by
  rw [paintN, setBits_test i _ _ rfl]; simp
theorem paintN_lt {cs : List Int} {k c : Nat} (hk : k ≤ 64) : paintN cs k c < 18446744073709551616 := setBits_lt _ (fun i hi => by simp at hi; omega)
theorem paintN_pop (cs : List Int) (c : Nat) : ∀ k, k ≤ 64 → k ≤ cs.length → popN 64 (paintN cs k c) = (cs.take k).count (c : Int)
  | 0, _, _ => by simp [paintN, setBits]; decide
  | k + 1, h, hl => by
    have ih := paintN_pop cs c k (by omega) (by omega)
    have hx : cs[k]? = some cs[k] := List.getElem?_eq_getElem (by omega)
    have hb : (paintN cs k c).testBit k = false := by
      cases hh : (paintN cs k c).testBit k
      · rfl
      · have := paintN_test.1 hh; omega
    rw [List.take_add_one, hx, List.count_append]
    by_cases he : cs[k] = (c : Int)
    · rw [paintN_yes (by rw [hx, he]), popN_or _ _ _ (by omega), hb, ih]; simp [he]
    · rw [paintN_no (by rw [hx]; simpa using he), ih]; simp [he]
theorem paintL_at {cs : List Int} {k c : Nat} (hc : c < 9) : (paintL cs k)[c]? = some (paintN cs k c) := by
  simp [paintL, hc]
theorem paintL_set {cs : List Int} {k c : Nat} (h : cs[k]? = some (c : Int)) : (paintL cs k).set c (paintN cs k c ||| 2 ^ k) = paintL cs (k + 1) := by
  apply List.ext_getElem?
  intro j
  rw [List.getElem?_set]
  by_cases hj : j < 9
  · by_cases e : c = j
    · subst e
      rw [if_pos rfl, if_pos (by rw [paintL_len]; omega), paintL_at hj, paintN_yes h]
    · rw [if_neg e, paintL_at hj, paintL_at hj, paintN_no (by rw [h]; simp; omega)]
  · have e1 : (paintL cs (k + 1))[j]? = none := List.getElem?_eq_none (by rw [paintL_len]; omega)
    have e2 : (paintL cs k)[j]? = none := List.getElem?_eq_none (by rw [paintL_len]; omega)
    rw [e1, e2]
    split
    · rw [if_neg (by rw [paintL_len]; omega)]
    · rfl
theorem paintL_skip {cs : List Int} {k : Nat} {x : Int} (h : cs[k]? = some x) (hx : x < 0) : paintL cs (k + 1) = paintL cs k := by
  unfold paintL
  refine List.map_congr_left fun c _ => paintN_no (by rw [h]; simp; omega)


theorem info_painting : (Tryz.prog.info? 60).map (·.size) = some 9 := by kernel_rfl
/-- Nine empty sets. -/
def nine0 : Array Value := #[.int .u64 0, .int .u64 0, .int .u64 0, .int .u64 0, .int .u64 0, .int .u64 0, .int .u64 0, .int .u64 0, .int .u64 0]
def none9 : List Nat := List.replicate 9 0
theorem paintL_zero (cs : List Int) : paintL cs 0 = none9 := by rfl
theorem none9_len : none9.length = 9 := by rfl
theorem nine0_size : nine0.size = 9 := by rfl
theorem nine_words : nine0 = (words none9).toArray := by rfl

set_option maxRecDepth 100000 in
theorem paint_load {W : World} {g : Nat} {P : List Nat} (h : W.heap[g]? = some (.cells (words P).toArray 60 (0, 0))) (hP : P.length = 9) :
    (Instr.loadAt 60 (.pointer (some ⟨g, 0, none⟩))).run Tryz.prog W = .ok (.agg (words P).toArray) W :=
  run_loadAt_mid (P := Tryz.prog) W g 0 60 (words P) (.array _ _) (fun j v hv => by rw [Nat.zero_add, cell_of_row _ _ _ _ _ _ h]; simpa using hv) rfl rfl (by rw [info_painting]; simp [words, hP])
set_option maxRecDepth 100000 in
theorem paint_store {W : World} {g : Nat} {c : Array Value} {P : List Nat} (h : W.heap[g]? = some (.cells c 60 (0, 0))) (hc : c.size = 9) (hP : P.length = 9) :
    (Instr.storeAt 60 (.pointer (some ⟨g, 0, none⟩)) (.agg (words P).toArray)).run Tryz.prog W = .ok () (W.setRow g (words P).toArray) := by
  simp only [Instr.storeAt, Instr.sureAddr, Sem.run_bind, Sem.run_pure, Result.andThen_ok]
  exact run_storeVar_row _ _ _ _ _ _ h (by rw [info_painting]; simp [words, hP]) (by simp [words, hP, hc]) (all_oneCell_toArray (words_one _))

theorem run_paint (L : List Nat) (k v : Nat) (hk : k < 9) (hv : L[k]? = some v) (w : World) :
    (Instr.index 60 (.agg (words L).toArray) (.int .i64 (k : Int))).run Tryz.prog w = .ok (.int .u64 (v : Int)) w := by
  have hu := Tryz.underlying60
  have hz := Tryz.sizeOf45
  have ha := Tryz.isAgg45
  simp [Instr.index, run_underlying hu, asIntOf, go_sem]
  rw [if_pos hk, words, List.getElem?_map, hv]
  rfl
set_option maxRecDepth 100000 in
theorem paint_lay (w : World) {P : List Nat} (hP : P.length = 9) :
    (storeCells ⟨w.heap.size, 0, none⟩ (words P)).run Tryz.prog (w.alloc (.cells nine0 60)) = .ok () (w.alloc (.cells (words P).toArray 60)) :=
  run_storeCells_new (P := Tryz.prog) w 60 nine0 (words P).toArray (by rw [info_painting]; simp [words, hP]) (by rw [nine0_size]; simp [words, hP]) (all_oneCell_toArray (words_one _))

set_option maxRecDepth 100000 in
set_option maxHeartbeats 1000000 in
theorem with_any (P : List Nat) (hP : P.length = 9) (cell colour x : Nat) (hc : cell < 64) (hk : colour < 9) (hx : P[colour]? = some x) (hx9 : x < 18446744073709551616) (w : World) :
    Calls Tryz.prog 50 #[.agg (words P).toArray, .int .i64 cell, .int .i64 colour] w fun e w' => e = .returned (.agg (words (P.set colour (x ||| 2 ^ cell))).toArray) ∧ Below w.heap.size w w' := by
  refine (callsIn_wide (n := 5)).1 ?_
  refine callsIn_of_wp_marks Tryz.func50 rfl trivial ?_ rfl
  simp only [Tryz.ntmps50, List.size_toArray, List.length_cons, List.length_nil, Nat.reduceAdd, Nat.reduceSub, Array.replicate_succ, Array.replicate_zero, List.push_toArray, List.append_toArray, List.nil_append, List.cons_append]
  obtain ⟨W2, hW2⟩ : ∃ W2, W2 = (w.alloc (.cells (words P).toArray 60)).alloc (.cells nine0 60) := ⟨_, rfl⟩
  have hh : W2.heap[w.heap.size]? = some (.cells (words P).toArray 60 (0, 0)) := by rw [hW2, Below.heap_alloc _ _ _ (by simp)]; exact World.alloc_heap_new _ _
  have hr : W2.heap[w.heap.size + 1]? = some (.cells nine0 60 (0, 0)) := by
    have h := World.alloc_heap_new (w.alloc (.cells (words P).toArray 60)) (.cells nine0 60)
    rw [hW2]; rw [World.size_alloc] at h; exact h
  have hcell : W2.cell? ⟨w.heap.size, colour, none⟩ = some (.int .u64 (x : Int)) := by
    rw [cell_of_row _ _ _ _ _ _ hh, List.getElem?_toArray, words, List.getElem?_map, hx]; rfl
  have hfro : W2.frozen? ⟨w.heap.size, colour, none⟩ = false := frozen_of_row _ _ _ _ _ hh
  have hb1 : Below w.heap.size w W2 := by rw [hW2]; exact ((Below.refl _ _).alloc (Nat.le_refl _) _).alloc (by simp) _
  have HWI := Lib.hid (fun V => withS_any x cell hx9 hc V)
  obtain ⟨y, hy⟩ : ∃ y, y = x ||| 2 ^ cell := ⟨_, rfl⟩
  rw [← hy] at HWI ⊢
  have hh3 := heap_set (j := colour) (.int .u64 (y : Int)) hh
  have hg3 := grown_set W2 w.heap.size colour (.int .u64 (y : Int))
  have hr3 := (hg3.block (w.heap.size + 1) (Array.getElem?_eq_some_iff.1 hr).1 (by simp)).trans hr
  have hb3 := hb1.grown hg3 hb1.size (fun k e => by cases e; omega)
  have hset : (words P).toArray.setIfInBounds colour (.int .u64 (y : Int)) = (words (P.set colour y)).toArray := by simp [words, List.map_set]
  rw [hset] at hh3
  have hL9 : (P.set colour y).length = 9 := by simp [hP]
  have hld := paint_load hh3 hL9
  have hst := paint_store hr3 (by rfl) hL9
  have hh4 := Lib.hid (heap_setRow (c' := (words (P.set colour y)).toArray) hr3)
  have hg4 := grown_setRow (W2.setCell ⟨w.heap.size, colour, none⟩ (.int .u64 (y : Int))) (w.heap.size + 1) (words (P.set colour y)).toArray
  have hb4 := Lib.hid (hb3.grown hg4 hb3.size (fun k e => by cases e; omega))
  clear hset hg3 hb1 hh hr hh3 hr3 hb3 hg4 hy
  unfold nine0 at hW2
  gi_wp2_with (rw [← hW2]; clear hW2)
  refine ⟨trivial, (callsIn_wide.2 (HWI.out _)).mono ?_⟩
  rintro e w' ⟨rfl, rfl⟩
  gi_wp2_with (first
    | refine wpIn_load_run 60 _ _ _ rfl rfl hld ?_
    | refine wpIn_store_run 60 _ _ _ _ rfl rfl rfl hst ?_)
  refine ⟨_, results_cell_row rfl _ _ _ _ (words (P.set colour y)).toArray _ _ rfl hh4.out rfl rfl (by rw [info_painting]; simp [words, hP]), rfl, hb4.out⟩
end Go.Proofs.YtmmfjmgjkbplpaaGreatDoor

namespace Go.Proofs.YtmmfjmgjkbplpaaGreatDoor
open Go.RowKit

theorem gl_near {W H a b x : Int} {xs pre : List Int} (h0 : 0 ≤ x) (h1 : x < 64) (hx : x ∈ pre) : (gl W H xs a b pre).getD (1 + x.toNat) 0 = nearS W H xs a b x := by
  rw [List.getD_eq_getElem?_getD, gl, show 1 + x.toNat = x.toNat + 1 by omega, List.getElem?_cons_succ, List.getElem?_map, List.getElem?_range (by omega)]
  simp [show ((x.toNat : Nat) : Int) = x by omega, hx]
theorem near_test {W H a b x y : Int} {xs : List Int} (hy : ∀ z ∈ leapsL W H xs a b x, 0 ≤ z) (h0 : 0 ≤ y) : (nearS W H xs a b x).testBit y.toNat = true ↔ y ∈ leapsL W H xs a b x := by
  rw [nearS, setBits_test _ _ _ rfl]
  simp only [List.mem_map]
  constructor
  · rintro ⟨z, hz, e⟩
    have := hy z hz
    rw [show y = z by omega]; exact hz
  · intro h; exact ⟨y, h, rfl⟩
theorem col_of {W H : Int} {xs cs : List Int} (hc : goodCols W H xs cs = true) {x : Int} (hx : hasB W H xs x = true) : ∃ c : Nat, c < 9 ∧ cs[x.toNat]? = some (c : Int) := by
  have hr := (hasB_iff.1 hx).1
  have hl := good_len hc
  have hlt : x.toNat < cs.length := by omega
  have hv : cs[x.toNat]? = some cs[x.toNat] := List.getElem?_eq_getElem hlt
  have hok := good_at hc hv
  rw [show ((x.toNat : Nat) : Int) = x by omega, cellOk, if_pos hx] at hok
  have := inB_iff.1 hok
  exact ⟨cs[x.toNat].toNat, by omega, by rw [hv]; congr 1; omega⟩
theorem has_of_col {W H : Int} {xs cs : List Int} (hc : goodCols W H xs cs = true) {k c : Nat} (h : cs[k]? = some (c : Int)) : hasB W H xs (k : Int) = true := by
  have hok := good_at hc h
  unfold cellOk at hok
  split at hok
  · assumption
  · simp at hok

theorem painted_eq {W H a b : Int} {xs cs : List Int} (hg : goodB W H xs = true) (hc : goodCols W H xs cs = true) :
    ((List.range 9).all fun c => freeB (gl W H xs a b (cellsL W H xs)) (paintN cs cs.length c)) = paIsB W H xs a b cs := by
  have hcl := cells_rng64 hg
  have hlen := good_len hc
  have hnn : ∀ x, ∀ z ∈ leapsL W H xs a b x, 0 ≤ z := fun x z hz => (hcl z (List.mem_filter.1 hz).1).1
  rw [Bool.eq_iff_iff]
  constructor
  · intro h
    unfold paIsB
    rw [List.all_eq_true]
    intro x hx
    rw [List.all_eq_true]
    intro y hy
    obtain ⟨hx0, hx1⟩ := hcl x hx
    obtain ⟨hy0, hy1⟩ := hcl y (List.mem_filter.1 hy).1
    obtain ⟨c, hc9, hxc⟩ := col_of hc (cellsL_mem.1 hx)
    obtain ⟨d, hd9, hyd⟩ := col_of hc (cellsL_mem.1 (List.mem_filter.1 hy).1)
    have hxl : x.toNat < cs.length := by have := (hasB_iff.1 (cellsL_mem.1 hx)).1; omega
    have hyl : y.toNat < cs.length := by have := (hasB_iff.1 (cellsL_mem.1 (List.mem_filter.1 hy).1)).1; omega
    rw [cAt, cAt, List.getD_eq_getElem?_getD, List.getD_eq_getElem?_getD, hxc, hyd]
    have hf := List.all_eq_true.1 h c (by simpa using hc9)
    have hz := List.all_eq_true.1 hf x (bitsL_mem.2 ⟨hx0, hx1, paintN_test.2 ⟨hxl, hxc⟩⟩)
    rw [gl_near hx0 hx1 hx] at hz
    have hz0 : nearS W H xs a b x &&& paintN cs cs.length c = 0 := by simpa using hz
    simp only [Option.getD_some, Bool.not_eq_true', beq_eq_false_iff_ne, ne_eq]
    intro e
    have hb : (nearS W H xs a b x &&& paintN cs cs.length c).testBit y.toNat = true := by
      rw [Nat.testBit_and, (near_test (hnn x) hy0).2 hy, paintN_test.2 ⟨hyl, by rw [hyd, ← e]⟩]; rfl
    rw [hz0] at hb
    simp at hb
  · intro h
    rw [List.all_eq_true]
    intro c hc9
    unfold freeB
    rw [List.all_eq_true]
    intro x hx
    obtain ⟨hx0, hx1, hxt⟩ := bitsL_mem.1 hx
    obtain ⟨hxl, hxc⟩ := paintN_test.1 hxt
    have hxh := has_of_col hc hxc
    rw [show ((x.toNat : Nat) : Int) = x by omega] at hxh
    have hxm := cellsL_mem.2 hxh
    rw [gl_near hx0 hx1 hxm, beq_iff_eq]
    apply Nat.eq_of_testBit_eq
    intro i
    rw [Nat.zero_testBit, Nat.testBit_and, Bool.and_eq_false_iff]
    by_cases hn : (nearS W H xs a b x).testBit i = true
    · right
      rw [Bool.eq_false_iff]
      intro hp
      obtain ⟨hil, hic⟩ := paintN_test.1 hp
      have hil2 : ((i : Int)).toNat = i := by omega
      have hm : (i : Int) ∈ leapsL W H xs a b x := (near_test (hnn x) (by omega)).1 (by rw [hil2]; exact hn)
      have hq := List.all_eq_true.1 (List.all_eq_true.1 h x hxm) (i : Int) hm
      rw [cAt, cAt, List.getD_eq_getElem?_getD, List.getD_eq_getElem?_getD, hxc, hil2, hic] at hq
      simp at hq
    · left; simpa using hn

end Go.Proofs.YtmmfjmgjkbplpaaGreatDoor

namespace Go.Proofs.YtmmfjmgjkbplpaaGreatDoor
open Go.RowKit Go.Shelf
attribute [local go_sem] Oper.semAt_some

/-- The painting of some cells by a colouring. -/
def paintF (f : Int → Nat) (ys : List Int) : List Nat := (List.range 9).map fun c => setBits ((ys.filter fun y => f y == c).map Int.toNat)
theorem paintF_len (f : Int → Nat) (ys : List Int) : (paintF f ys).length = 9 := by simp [paintF]
theorem paintF_at {f : Int → Nat} {ys : List Int} {c : Nat} (hc : c < 9) : (paintF f ys)[c]? = some (setBits ((ys.filter fun y => f y == c).map Int.toNat)) := by simp [paintF, hc]
theorem paintF_snoc {f : Int → Nat} {ys : List Int} {y : Int} : (paintF f ys).set (f y) (setBits ((ys.filter fun z => f z == f y).map Int.toNat) ||| 2 ^ y.toNat) = paintF f (ys ++ [y]) := by
  apply List.ext_getElem?
  intro j
  rw [List.getElem?_set]
  by_cases hj : j < 9
  · rw [paintF_at hj, paintF_at hj]
    by_cases e : f y = j
    · subst e
      rw [if_pos rfl, if_pos (by rw [paintF_len]; omega), List.filter_append, List.map_append]
      simp [setBits_snoc]
    · rw [if_neg e, List.filter_append, List.map_append]
      have : (f y == j) = false := by simpa using e
      simp [this]
  · have e1 : (paintF f (ys ++ [y]))[j]? = none := List.getElem?_eq_none (by rw [paintF_len]; omega)
    have e2 : (paintF f ys)[j]? = none := List.getElem?_eq_none (by rw [paintF_len]; omega)
    rw [e1, e2]
    split
    · rw [if_neg (by rw [paintF_len]; omega)]
    · rfl
theorem paintF_nil (f : Int → Nat) : paintF f [] = none9 := by rfl
theorem paintF_lt {f : Int → Nat} {ys : List Int} (h : ∀ y ∈ ys, 0 ≤ y ∧ y < 64) : ∀ s ∈ paintF f ys, s < 18446744073709551616 := by
  intro s hs
  obtain ⟨c, _, rfl⟩ := List.mem_map.1 hs
  refine setBits_lt _ (fun i hi => ?_)
  obtain ⟨y, hy, rfl⟩ := List.mem_map.1 hi
  have := h y (List.mem_filter.1 hy).1
  omega
/-- The painting in the midst of its making. -/
def MidP (W3 : World) (g : Nat) (L : List Nat) (W' : World) : Prop :=
  W3.grownBy W' (some g) ∧ W'.heap[g]? = some (.cells (words L).toArray 60 (0, 0))
theorem midP_below {W3 W W' : World} {g : Nat} {L : List Nat} (h : MidP W3 g L W) (hb : Below W.heap.size W W') : MidP W3 g L W' :=
  ⟨grown_next h.1 (grown_of_below hb _), (hb.block g (Array.getElem?_eq_some_iff.1 h.2).1).trans h.2⟩
theorem midP_set {W3 W : World} {g : Nat} {L : List Nat} (L' : List Nat) (h : MidP W3 g L W) : MidP W3 g L' (W.setRow g (words L').toArray) :=
  ⟨grown_next h.1 (grown_setRow _ _ _), heap_setRow h.2⟩

theorem cell_setRow_ne {W : World} {b o g : Nat} {v : Value} {cs : Array Value} (h : W.cell? ⟨b, o, none⟩ = some v) (hne : b ≠ g) : (W.setRow g cs).cell? ⟨b, o, none⟩ = some v := by
  rw [← h]
  simp [World.cell?, World.setRow, Array.getElem?_modify, show ¬ g = b from fun e => hne e.symm]

theorem range_of_row {w : World} {g : Nat} {L : List Value} {T : TypeId} (h : w.heap[g]? = some (.cells L.toArray T (0, 0))) : w.rangeAt g 0 L := fun j v hv => by
  rw [Nat.zero_add, cell_of_row _ _ _ _ _ _ h]; simpa using hv
theorem there_of_row {w : World} {g n : Nat} {L : List Value} {T : TypeId} (h : w.heap[g]? = some (.cells L.toArray T (0, 0))) (hn : L.length = n) : w.there g 0 n := fun j hj => by
  refine ⟨?_, frozen_of_row _ _ _ _ _ h⟩
  rw [Nat.zero_add, cell_of_row _ _ _ _ _ _ h, List.getElem?_toArray, List.getElem?_eq_getElem (by omega)]; rfl
theorem step_load_paint {ops : Array Oper} {o : Oper} {a : Act} {w : World} {K : Act → World → Prop} {Q : Exit → Act → World → Prop} {E0 : Prop} (hgd : o.guard = none) (x : Operand) (ho : o.op = .load 60 x)
    (g : Nat) (hx : a.eval x = .pointer (some ⟨g, 0, none⟩)) (L : List Nat) (h : w.heap[g]? = some (.cells (words L).toArray 60 (0, 0))) (hL : L.length = 9)
    (hK : K (a.put o.dst (.agg (words L).toArray)) w) : if Region.wanted o (yielded ops a.tmps) = true then Oper.wp Tryz.prog o a w K Q else E0 := by
  have hw : Region.wanted o (yielded ops a.tmps) = true := by simp [Region.wanted, hgd]
  rw [if_pos hw]
  unfold Oper.wp execOp
  simp only [ho, hx, Sem.run_bind, paint_load h hL, Sem.run_pure, Result.andThen_ok]
  exact hK
theorem step_store_paint {ops : Array Oper} {o : Oper} {a : Act} {w : World} {K : Act → World → Prop} {Q : Exit → Act → World → Prop} {E0 : Prop} (hgd : o.guard = none) (x y : Operand) (ho : o.op = .store 60 x y)
    (g : Nat) (hx : a.eval x = .pointer (some ⟨g, 0, none⟩)) (L L0 : List Nat) (hy : a.eval y = .agg (words L).toArray) (h : w.heap[g]? = some (.cells (words L0).toArray 60 (0, 0))) (hL0 : L0.length = 9) (hL : L.length = 9)
    (hK : K (a.put o.dst undef) (w.setRow g (words L).toArray)) : if Region.wanted o (yielded ops a.tmps) = true then Oper.wp Tryz.prog o a w K Q else E0 := by
  have hw : Region.wanted o (yielded ops a.tmps) = true := by simp [Region.wanted, hgd]
  rw [if_pos hw]
  unfold Oper.wp execOp
  simp only [ho, hx, hy, Sem.run_bind, paint_store h (by simp [words, hL0]) hL, Sem.run_pure, Result.andThen_ok]
  exact hK
theorem nine_of_len {P : List Nat} (h : P.length = 9) : ∃ y0 y1 y2 y3 y4 y5 y6 y7 y8 : Nat, P = [y0, y1, y2, y3, y4, y5, y6, y7, y8] := by
  match P, h with
  | [y0, y1, y2, y3, y4, y5, y6, y7, y8], _ => exact ⟨y0, y1, y2, y3, y4, y5, y6, y7, y8, rfl⟩
theorem nine_cells {W : World} {g : Nat} {T : TypeId} {y0 y1 y2 y3 y4 y5 y6 y7 y8 : Nat} (h : W.heap[g]? = some (.cells (words [y0, y1, y2, y3, y4, y5, y6, y7, y8]).toArray T (0, 0))) :
    W.cell? ⟨g, 0, none⟩ = some (.int .u64 ((y0 : Nat) : Int)) ∧ W.cell? ⟨g, 1, none⟩ = some (.int .u64 ((y1 : Nat) : Int)) ∧ W.cell? ⟨g, 2, none⟩ = some (.int .u64 ((y2 : Nat) : Int)) ∧ W.cell? ⟨g, 3, none⟩ = some (.int .u64 ((y3 : Nat) : Int)) ∧ W.cell? ⟨g, 4, none⟩ = some (.int .u64 ((y4 : Nat) : Int)) ∧ W.cell? ⟨g, 5, none⟩ = some (.int .u64 ((y5 : Nat) : Int)) ∧ W.cell? ⟨g, 6, none⟩ = some (.int .u64 ((y6 : Nat) : Int)) ∧ W.cell? ⟨g, 7, none⟩ = some (.int .u64 ((y7 : Nat) : Int)) ∧ W.cell? ⟨g, 8, none⟩ = some (.int .u64 ((y8 : Nat) : Int)) :=
  ⟨by rw [cell_of_row _ _ _ _ _ _ h]; rfl, by rw [cell_of_row _ _ _ _ _ _ h]; rfl, by rw [cell_of_row _ _ _ _ _ _ h]; rfl, by rw [cell_of_row _ _ _ _ _ _ h]; rfl, by rw [cell_of_row _ _ _ _ _ _ h]; rfl, by rw [cell_of_row _ _ _ _ _ _ h]; rfl, by rw [cell_of_row _ _ _ _ _ _ h]; rfl, by rw [cell_of_row _ _ _ _ _ _ h]; rfl, by rw [cell_of_row _ _ _ _ _ _ h]; rfl⟩
end Go.Proofs.YtmmfjmgjkbplpaaGreatDoor

namespace Go.Proofs.YtmmfjmgjkbplpaaGreatDoor
open Go.RowKit Go.Shelf
attribute [local go_sem] Oper.semAt_some

def paintA (W H : Int) (xs cs : List Int) : List Nat := if goodCols W H xs cs then paintL cs cs.length else none9

theorem results_row_tmp {P : Program} {fn : Func} {p t : Tmp} {ty : TypeId} (h : fn.results = #[.cell p ty, .tmp t]) (tmps : Array Value) (w : World) (g : Nat) (T : TypeId) (cs : Array Value) (fr : Nat × Nat) (d : TypeDesc) (v : Value)
    (hp : tmps.getD p undef = .pointer (some ⟨g, 0, none⟩)) (hv : tmps.getD t undef = v) (hg : w.heap[g]? = some (.cells cs T fr))
    (hu : P.underlying ty = some d) (hd : (match d with | .struct _ | .array _ _ => true | _ => false) = true) (hi : (P.info? ty).map (·.size) = some cs.size) :
    (results fn tmps).run P w = .ok (.tuple #[.agg cs, v]) w := by
  have hp' : tmps[p]?.getD undef = .pointer (some ⟨g, 0, none⟩) := by simpa using hp
  have hv' : tmps[t]?.getD undef = v := by simpa using hv
  simp [results, h, hp', hv', asAddr, run_loadVar_row w g T ty cs fr d hg hu hd hi]

set_option maxRecDepth 100000 in
set_option maxHeartbeats 2000000 in
theorem paintingOf_any (W H : Int) (A : Option Addr) (n c : Nat) (xs : List Int) (A2 : Option Addr) (m c2 : Nat) (cs : List Int) (w : World) (ha : Rd w A n xs) (hc : Rd w A2 m cs) (hg : goodB W H xs = true) :
    Calls Tryz.prog 35 #[brd W H A n c, .slice A2 m c2] w fun e w' => e = .returned (.tuple #[.agg (words (paintA W H xs cs)).toArray, .bool (goodCols W H xs cs)]) ∧ Below w.heap.size w w' := by
  refine (callsIn_wide (n := 5)).1 ?_
  refine callsIn_of_wp_marks Tryz.func35 rfl trivial ?_ rfl
  simp only [Tryz.ntmps35, List.size_toArray, List.length_cons, List.length_nil, Nat.reduceAdd, Nat.reduceSub, Array.replicate_succ, Array.replicate_zero, List.push_toArray, List.append_toArray, List.nil_append, List.cons_append]
  have m9 := hc.2.1
  have HML := Lib.hid hc.1
  have HG := Lib.hid hg
  obtain ⟨hW, hH, _, _⟩ := goodB_iff.1 hg
  obtain ⟨hN1, hN2⟩ := cells_le hW hH
  obtain ⟨hW1, hW2⟩ := hW
  obtain ⟨hH1, hH2⟩ := hH
  clear hg
  obtain ⟨W4, hW4⟩ : ∃ W4, W4 = ((w.alloc (.cells #[.int .i64 W, .int .i64 H, .slice A n c] 30)).alloc (.cells nine0 60)).alloc (.cells nine0 60) := ⟨_, rfl⟩
  have hs4 : W4.heap.size = w.heap.size + 3 := by rw [hW4]; simp
  have B := Lib.hid (show Below w.heap.size w W4 by rw [hW4]; exact ((below_new (Below.refl _ _) _).alloc (by simp) _).alloc (by simp; omega) _)
  have hbd : W4.heap[w.heap.size]? = some (.cells #[.int .i64 W, .int .i64 H, .slice A n c] 30 (0, 0)) := by
    rw [hW4, Below.heap_alloc _ _ _ (by simp; omega), Below.heap_alloc _ _ _ (by simp)]; exact World.alloc_heap_new _ _
  have hr4 : W4.heap[w.heap.size + 1]? = some (.cells nine0 60 (0, 0)) := by
    have h := World.alloc_heap_new (w.alloc (.cells #[.int .i64 W, .int .i64 H, .slice A n c] 30)) (.cells nine0 60)
    rw [hW4, Below.heap_alloc _ _ _ (by simp)]; rw [World.size_alloc] at h; exact h
  have hp4 : W4.heap[w.heap.size + 1 + 1]? = some (.cells nine0 60 (0, 0)) := by
    have h := World.alloc_heap_new ((w.alloc (.cells #[.int .i64 W, .int .i64 H, .slice A n c] 30)).alloc (.cells nine0 60)) (.cells nine0 60)
    rw [hW4]; rw [World.size_alloc, World.size_alloc] at h; exact h
  have hz : (nine0).size = 9 := by rfl
  unfold nine0 at hW4
  by_cases hlen : (m : Int) = W * H
  rotate_left
  · have hne : ((m : Int) != W * H) = true := by simpa using hlen
    have hbad : goodCols W H xs cs = false := by rw [goodCols, show decide ((cs.length : Int) = W * H) = false by have := HML.out; rw [this]; simpa using hlen]; rfl
    have hld := paint_load (W := W4) (g := w.heap.size + 1 + 1) (P := none9) (by rw [← nine_words]; exact hp4) none9_len
    have hst := paint_store (W := W4) (P := none9) hr4 hz none9_len
    have hh5 := heap_setRow (W := W4) (c' := (words none9).toArray) hr4
    have hb5 := B.out.grown (grown_setRow W4 (w.heap.size + 1) (words none9).toArray) B.out.size (fun k e => by cases e; omega)
    clear hbd hr4 hp4 hs4
    subst hW4
    gi_wp2_with (first | (refine wpIn_load_run 60 _ _ _ rfl rfl hld ?_) | refine wpIn_store_run 60 _ _ _ _ rfl rfl rfl hst ?_)
    refine ⟨_, results_row_tmp rfl _ _ _ _ (words none9).toArray _ _ (.bool false) rfl rfl hh5 rfl rfl (by rw [info_painting]; simp [words, none9_len]), ?_, hb5⟩
    rw [paintA, hbad]; rfl
  have hne : ((m : Int) != W * H) = false := by simpa using hlen
  have hm8 : m ≤ 64 := by omega
  have HLEN := Lib.hid hlen
  have hmid : MidP W4 (w.heap.size + 1 + 1) (paintL cs 0) W4 := ⟨grown_refl _ _, by rw [paintL_zero, ← nine_words]; exact hp4⟩
  have HA := Lib.hid ha; have HC := Lib.hid hc
  have HB4 := Lib.hid hbd; have HR4 := Lib.hid hr4; have HM4 := Lib.hid hmid
  clear hbd hr4 hp4 hmid ha hc hlen
  gi_wp2
  rw [← hW4]
  clear hW4
  gi_loopw [20] (fun i wr => ∃ k : Nat, k ≤ m ∧ i = .int .i64 k ∧ goodFrom W H xs 0 cs = goodFrom W H xs k (cs.drop k) ∧ MidP W4 (w.heap.size + 1 + 1) (paintL cs k) wr) (fun i _ => m - (intOf i).toNat)
  case atStart => exact ⟨0, Nat.zero_le _, rfl, rfl, HM4.out⟩
  case round =>
    obtain ⟨k, hk, rfl, hgf, hmp⟩ := hrel
    have HGF := Lib.hid hgf
    have HMP := Lib.hid hmp
    have hwr : Below w.heap.size w wr := B.out.grown hmp.1 B.out.size (fun k e => by cases e; omega)
    have HWR := Lib.hid hwr
    have hszr : w.heap.size + 3 ≤ wr.heap.size := by have := hmp.1.size; omega
    have hb0 := (hmp.1.block w.heap.size (by omega) (by simp; omega)).trans HB4.out
    have b0 : wr.cell? ⟨w.heap.size, 0, none⟩ = some (.int .i64 W) := by rw [cell_of_row _ _ _ _ _ _ hb0]; rfl
    have b1 : wr.cell? ⟨w.heap.size, 1, none⟩ = some (.int .i64 H) := by rw [cell_of_row _ _ _ _ _ _ hb0]; rfl
    have b2 : wr.cell? ⟨w.heap.size, 2, none⟩ = some (.slice A n c) := by rw [cell_of_row _ _ _ _ _ _ hb0]; rfl
    have hrr := Lib.hid ((hmp.1.block (w.heap.size + 1) (by omega) (by simp)).trans HR4.out)
    clear hgf hmp hwr hb0
    by_cases hlt : k < m
    · obtain ⟨b1', o1, x, rfl, hl1, hx, hc1⟩ := HC.out.at_ hlt
      have HX := Lib.hid hx
      have x0 := cell_keep hc1 hl1 HWR.out
      have hI := isThere_any W H A n c k xs wr (HA.out.keep HWR.out) HG.out
      have hk8 : k < 64 := by omega
      clear hx hc1 hl1
      cases hs : hasB W H xs k with
      | true =>
        by_cases hx8 : 0 ≤ x ∧ x ≤ 8
        · obtain ⟨j, rfl⟩ : ∃ j : Nat, x = (j : Int) := ⟨x.toNat, by omega⟩
          have hj : j < 9 := by omega
          have hj9 : ((j : Int) == -1) = false := by simp
          have hj1 : ((j : Int) != -1) = true := by simp
          clear hx8
          gi_wp2
          refine ⟨trivial, (callsIn_wide.2 hI).mono ?_⟩
          rw [hs]
          rintro e w2 ⟨rfl, hb2⟩
          have hmp2 := midP_below HMP.out hb2
          have hrr2 := Lib.hid ((hb2.block (w.heap.size + 1) (by omega)).trans hrr.out)
          have HW2 := Lib.hid (HWR.out.trans (hb2.mono HWR.out.size))
          have hsz2 := Nat.le_trans hszr hb2.size
          clear hb2 hI b0 b1 b2 x0
          have hld := paint_load hmp2.2 (paintL_len cs k)
          gi_wp2_with (refine wpIn_load_run 60 _ _ _ rfl rfl hld ?_)
          have hwi := with_any (paintL cs k) (paintL_len cs k) k j (paintN cs k j) hk8 hj (paintL_at hj) (paintN_lt (by omega)) w2
          rw [paintL_set HX.out] at hwi
          refine ⟨trivial, (callsIn_wide.2 hwi).mono ?_⟩
          rintro e w3 ⟨rfl, hb3⟩
          have hmp3 := midP_below hmp2 hb3
          have hst := paint_store (W := w3) hmp3.2 (by simp [words, paintL_len]) (paintL_len cs (k + 1))
          clear hmp2 hld hwi
          gi_wp2_with (refine wpIn_store_run 60 _ _ _ _ rfl rfl rfl hst ?_)
          go_roundw
          case rel => exact ⟨k + 1, by omega, by go_num, by rw [HGF.out, goodFrom_drop HX.out, show cellOk W H xs k (j : Int) = true by rw [cellOk, hs]; simp [inB]; omega]; rfl, midP_set _ hmp3⟩
          case measure => simp [intOf]; omega
        · have HX8 := Lib.hid hx8
          clear hx8
          rcases (show x = -1 ∨ x < -1 ∨ 8 < x by have := HX8.out; omega) with rfl | h9 | h9
          · skip
            gi_wp2
            refine ⟨trivial, (callsIn_wide.2 hI).mono ?_⟩
            rw [hs]
            rintro e w2 ⟨rfl, hb2⟩
            have hmp2 := midP_below HMP.out hb2
            have hrr2 := Lib.hid ((hb2.block (w.heap.size + 1) (by omega)).trans hrr.out)
            have HW2 := Lib.hid (HWR.out.trans (hb2.mono HWR.out.size))
            have hsz2 := Nat.le_trans hszr hb2.size
            clear hb2 hI b0 b1 b2 x0
            have hbad : goodCols W H xs cs = false := by rw [goodCols, HGF.out, goodFrom_drop HX.out, show cellOk W H xs k (-1) = false by rw [cellOk, hs]; simp [inB]]; simp
            have hst := paint_store (W := w2) (P := none9) hrr2.out nine0_size none9_len
            have hh5 := heap_setRow (W := w2) (c' := (words none9).toArray) hrr2.out
            have hb5 := HW2.out.grown (grown_setRow w2 (w.heap.size + 1) (words none9).toArray) HW2.out.size (fun k e => by cases e; omega)
            clear hmp2
            gi_wp2_with (refine wpIn_store_run 60 _ _ _ _ rfl rfl rfl hst ?_)
            refine ⟨_, results_row_tmp rfl _ _ _ _ (words none9).toArray _ _ (.bool false) rfl rfl hh5 rfl rfl (by rw [info_painting]; simp [words, none9_len]), ?_, hb5⟩
            rw [paintA, hbad]; rfl
          · have hj9 : (x == -1) = false := by simp; omega
            gi_wp2
            refine ⟨trivial, (callsIn_wide.2 hI).mono ?_⟩
            rw [hs]
            rintro e w2 ⟨rfl, hb2⟩
            have hmp2 := midP_below HMP.out hb2
            have hrr2 := Lib.hid ((hb2.block (w.heap.size + 1) (by omega)).trans hrr.out)
            have HW2 := Lib.hid (HWR.out.trans (hb2.mono HWR.out.size))
            have hsz2 := Nat.le_trans hszr hb2.size
            clear hb2 hI b0 b1 b2 x0
            have hbad : goodCols W H xs cs = false := by rw [goodCols, HGF.out, goodFrom_drop HX.out, show cellOk W H xs k x = false by rw [cellOk, hs]; simp [inB]; omega]; simp
            have hst := paint_store (W := w2) (P := none9) hrr2.out nine0_size none9_len
            have hh5 := heap_setRow (W := w2) (c' := (words none9).toArray) hrr2.out
            have hb5 := HW2.out.grown (grown_setRow w2 (w.heap.size + 1) (words none9).toArray) HW2.out.size (fun k e => by cases e; omega)
            clear hmp2
            gi_wp2_with (refine wpIn_store_run 60 _ _ _ _ rfl rfl rfl hst ?_)
            refine ⟨_, results_row_tmp rfl _ _ _ _ (words none9).toArray _ _ (.bool false) rfl rfl hh5 rfl rfl (by rw [info_painting]; simp [words, none9_len]), ?_, hb5⟩
            rw [paintA, hbad]; rfl
          · have hj9 : (x == -1) = false := by simp; omega
            gi_wp2
            refine ⟨trivial, (callsIn_wide.2 hI).mono ?_⟩
            rw [hs]
            rintro e w2 ⟨rfl, hb2⟩
            have hmp2 := midP_below HMP.out hb2
            have hrr2 := Lib.hid ((hb2.block (w.heap.size + 1) (by omega)).trans hrr.out)
            have HW2 := Lib.hid (HWR.out.trans (hb2.mono HWR.out.size))
            have hsz2 := Nat.le_trans hszr hb2.size
            clear hb2 hI b0 b1 b2 x0
            have hbad : goodCols W H xs cs = false := by rw [goodCols, HGF.out, goodFrom_drop HX.out, show cellOk W H xs k x = false by rw [cellOk, hs]; simp [inB]; omega]; simp
            have hst := paint_store (W := w2) (P := none9) hrr2.out nine0_size none9_len
            have hh5 := heap_setRow (W := w2) (c' := (words none9).toArray) hrr2.out
            have hb5 := HW2.out.grown (grown_setRow w2 (w.heap.size + 1) (words none9).toArray) HW2.out.size (fun k e => by cases e; omega)
            clear hmp2
            gi_wp2_with (refine wpIn_store_run 60 _ _ _ _ rfl rfl rfl hst ?_)
            refine ⟨_, results_row_tmp rfl _ _ _ _ (words none9).toArray _ _ (.bool false) rfl rfl hh5 rfl rfl (by rw [info_painting]; simp [words, none9_len]), ?_, hb5⟩
            rw [paintA, hbad]; rfl
      | false =>
        by_cases hx1 : x = -1
        · subst hx1
          gi_wp2
          refine ⟨trivial, (callsIn_wide.2 hI).mono ?_⟩
          rw [hs]
          rintro e w2 ⟨rfl, hb2⟩
          have hmp2 := midP_below HMP.out hb2
          have hrr2 := Lib.hid ((hb2.block (w.heap.size + 1) (by omega)).trans hrr.out)
          have HW2 := Lib.hid (HWR.out.trans (hb2.mono HWR.out.size))
          have hsz2 := Nat.le_trans hszr hb2.size
          clear hb2 hI b0 b1 b2 x0
          gi_wp2
          go_roundw
          case rel => exact ⟨k + 1, by omega, by go_num, by rw [HGF.out, goodFrom_drop HX.out, show cellOk W H xs k (-1) = true by rw [cellOk, hs]; rfl]; rfl, by rw [paintL_skip HX.out (by omega)]; exact hmp2⟩
          case measure => simp [intOf]; omega
        · have hj9 : (x == -1) = false := by simpa using hx1
          gi_wp2
          refine ⟨trivial, (callsIn_wide.2 hI).mono ?_⟩
          rw [hs]
          rintro e w2 ⟨rfl, hb2⟩
          have hmp2 := midP_below HMP.out hb2
          have hrr2 := Lib.hid ((hb2.block (w.heap.size + 1) (by omega)).trans hrr.out)
          have HW2 := Lib.hid (HWR.out.trans (hb2.mono HWR.out.size))
          have hsz2 := Nat.le_trans hszr hb2.size
          clear hb2 hI b0 b1 b2 x0
          have hbad : goodCols W H xs cs = false := by rw [goodCols, HGF.out, goodFrom_drop HX.out, show cellOk W H xs k x = false by rw [cellOk, hs]; simpa using hx1]; simp
          have hst := paint_store (W := w2) (P := none9) hrr2.out nine0_size none9_len
          have hh5 := heap_setRow (W := w2) (c' := (words none9).toArray) hrr2.out
          have hb5 := HW2.out.grown (grown_setRow w2 (w.heap.size + 1) (words none9).toArray) HW2.out.size (fun k e => by cases e; omega)
          clear hmp2
          gi_wp2_with (refine wpIn_store_run 60 _ _ _ _ rfl rfl rfl hst ?_)
          refine ⟨_, results_row_tmp rfl _ _ _ _ (words none9).toArray _ _ (.bool false) rfl rfl hh5 rfl rfl (by rw [info_painting]; simp [words, none9_len]), ?_, hb5⟩
          rw [paintA, hbad]; rfl
    · have hkm : k = m := by omega
      subst hkm
      have hgood : goodCols W H xs cs = true := by rw [goodCols, HGF.out, List.drop_of_length_le (by have := HML.out; omega)]; have := HLEN.out; have := HML.out; simp [goodFrom]; omega
      have hld := paint_load HMP.out.2 (paintL_len cs k)
      have hst := paint_store (W := wr) hrr.out nine0_size (paintL_len cs k)
      have hh5 := heap_setRow (W := wr) (c' := (words (paintL cs k)).toArray) hrr.out
      have hb5 := HWR.out.grown (grown_setRow wr (w.heap.size + 1) (words (paintL cs k)).toArray) HWR.out.size (fun k e => by cases e; omega)
      clear b0 b1 b2
      gi_wp2_with (first | refine wpIn_load_run 60 _ _ _ rfl rfl hld ?_ | refine wpIn_store_run 60 _ _ _ _ rfl rfl rfl hst ?_)
      refine ⟨_, results_row_tmp rfl _ _ _ _ (words (paintL cs k)).toArray _ _ (.bool true) rfl rfl hh5 rfl rfl (by rw [info_painting]; simp [words, paintL_len]), ?_, hb5⟩
      rw [paintA, hgood, HML.out]; rfl

end Go.Proofs.YtmmfjmgjkbplpaaGreatDoor
