/-
  Cells of a set, least first: pure facts; least, without, size and each of a set.
  The cells of a set as an iterator: its contract.
  A range over a method value (an iterator with its receiver bound), whose body always goes on: the caller's law.
  Rows of words that a block holds: loaded and stored whole.
  Contracts: IsLeap.
  Contracts: paths.
  Contracts: IsPath.
  Contracts: sets of cells as bits.
  Contracts: walks.
  Memory words: a row of elements of k cells that the call owns.
  Memory words: a row of the call's own in the library's sort's words.
  Memory words: rows of pairs that the call owns: a store, a cut, cells cleared.
  DERIVED: THE SHELF's CONTRACTS AT THIS DUMP, IN PLAIN WORDS (tools/lay-plain.mjs out of 'TryzSortfShelf.lean', which tools/lay-shelf.mjs wrote): THE SAME DECLARATIONS UNDER THE SAME NAMES: 'import', 'namespace', 'open', 'def', 'theorem' AND NOTHING ELSE: no command of the shelf's: FOR A HAND-IN. Each laying: the table of numbers ('.._ren') and one theorem, a field a fact of the dump's own or the kernel's comparison; each contract: ONE APPLICATION.
  Contracts: spots compared.
-/
import Derived.Test.YtjplcnbifcpebaaGreatDoorBunHFillPeaceful2
import Derived.Laws.BitsAllLaws
import Derived.RangeFuncNested
import Derived.RangeFuncBound
import Derived.RangeFuncCalls
import Derived.RangeFuncLeaves
import Derived.Shelf.Abstract
import Derived.Shelf.RegionOpen
import Derived.WalkKit
import Derived.OwnWalkIn
import Derived.TacticsInMore
import Derived.LoopNIn
import Derived.LoopIn
import Derived.RangeFuncWrites
import Derived.Test.YtjplcnbifcpebaaGreatDoorProg
import Derived.Test.YtjplcnbifcpebaaGreatDoorBunHFillPeaceful1
import Derived.Deep.WholeRow
import Derived.Deep.MidRow
import Derived.Deep.Heap
import Derived.Maps.RangeWalk
import Derived.Deep.RegionHeld3
import Derived.Laws.Bits64b
import Derived.Laws.Bits128
import Derived.Laws.OwnMore
import Derived.Shelf.GgSortFunc.InsertionK
import Derived.Lib.SliceRun
import Derived.Shelf.SlSortCmp.WholeK
import Derived.Ground.SlsfProg
import Derived.Outline
namespace Go.Proofs.YtjplcnbifcpebaaGreatDoor
open Go.RowKit

/-- The cells of a set, increasing. -/
def bitsL (s : Nat) : List Int := ((List.range 64).filter fun i => s.testBit i).map fun i : Nat => (i : Int)
def clr (s c : Nat) : Nat := s &&& (18446744073709551615 - 2 ^ c)
theorem bitsL_mem {s : Nat} {x : Int} : x ∈ bitsL s ↔ 0 ≤ x ∧ x < 64 ∧ s.testBit x.toNat = true := by
  unfold bitsL
  rw [List.mem_map]
  constructor
  · rintro ⟨i, hi, rfl⟩
    rw [List.mem_filter, List.mem_range] at hi
    exact ⟨by omega, by omega, by simpa using hi.2⟩
  · rintro ⟨h0, h1, h2⟩
    exact ⟨x.toNat, by rw [List.mem_filter, List.mem_range]; exact ⟨by omega, h2⟩, by omega⟩
theorem bitsL_rise (s : Nat) : (bitsL s).Pairwise (· < ·) := by
  unfold bitsL
  rw [List.pairwise_map]
  have h : (List.range 64).Pairwise (· < ·) := List.pairwise_lt_range
  exact (h.filter _).imp (fun h => by omega)
theorem bitsL_zero : bitsL 0 = [] := by
  apply List.eq_nil_iff_forall_not_mem.2
  intro x hx
  have := (bitsL_mem.1 hx).2.2
  simp at this
theorem mask_bit {c i : Nat} (hc : c < 64) : (18446744073709551615 - 2 ^ c).testBit i = (decide (i < 64) && decide (i ≠ c)) := by
  have h := Nat.testBit_two_pow_sub_succ (x := 2 ^ c) (n := 64) (Nat.pow_lt_pow_right (by decide) hc) i
  rw [show 2 ^ 64 - (2 ^ c + 1) = 18446744073709551615 - 2 ^ c by omega, Nat.testBit_two_pow] at h
  rw [h]
  by_cases e : c = i <;> simp [e, eq_comm]
theorem clr_bit {s c i : Nat} (hc : c < 64) : (clr s c).testBit i = (s.testBit i && (decide (i < 64) && decide (i ≠ c))) := by
  rw [clr, Nat.testBit_and, mask_bit hc]
theorem clr_le (s c : Nat) : clr s c ≤ s := Nat.and_le_left
theorem clr_lt {s c : Nat} (hc : c < 64) (h : s.testBit c = true) : clr s c < s := by
  rcases Nat.lt_or_eq_of_le (clr_le s c) with h1 | h1
  · exact h1
  · have := clr_bit (s := s) (i := c) hc
    rw [h1, h] at this; simp at this
theorem ctz_facts {s : Nat} (h0 : s ≠ 0) (hs : s < 18446744073709551616) : Lib.ctz 64 s < 64 ∧ s.testBit (Lib.ctz 64 s) = true ∧ ∀ i, i < Lib.ctz 64 s → s.testBit i = false := by
  obtain ⟨m, hm, hk⟩ := Lib.ctzFrom_spec 64 s (by omega) (by omega)
  have e : Lib.ctz 64 s = Lib.ctzFrom 64 s := by rw [Lib.ctz, if_neg h0]
  rw [e]
  generalize Lib.ctzFrom 64 s = k at hm hk
  refine ⟨hk, ?_, fun i hi => ?_⟩
  · rw [hm, Nat.mul_comm, Nat.testBit_mul_two_pow]; simp [Nat.testBit_zero]
  · rw [hm, Nat.mul_comm, Nat.testBit_mul_two_pow]; simp; omega
theorem bitsL_step {s : Nat} (h0 : s ≠ 0) (hs : s < 18446744073709551616) : bitsL s = ((Lib.ctz 64 s : Nat) : Int) :: bitsL (clr s (Lib.ctz 64 s)) := by
  obtain ⟨hk, hb, hlow⟩ := ctz_facts h0 hs
  generalize Lib.ctz 64 s = k at hk hb hlow
  refine rise_unique (bitsL_rise s) (List.Pairwise.cons (fun x hx => ?_) (bitsL_rise _)) fun x => ?_
  · obtain ⟨h1, h2, h3⟩ := bitsL_mem.1 hx
    rw [clr_bit hk] at h3
    simp only [Bool.and_eq_true, decide_eq_true_eq] at h3
    rcases Nat.lt_or_ge x.toNat k with h | h
    · rw [hlow _ h] at h3; simp at h3
    · omega
  · rw [List.mem_cons, bitsL_mem, bitsL_mem, clr_bit hk]
    constructor
    · rintro ⟨h1, h2, h3⟩
      by_cases e : x = (k : Int)
      · exact .inl e
      · refine .inr ⟨h1, h2, ?_⟩
        rw [h3]; simp; omega
    · rintro (rfl | ⟨h1, h2, h3⟩)
      · exact ⟨by omega, by omega, by simpa using hb⟩
      · simp only [Bool.and_eq_true] at h3
        exact ⟨h1, h2, h3.1⟩

/-- The table of bits.TrailingZeros64 lies in its variable. -/
def Tab64 (w : World) : Prop := TabAt 0 Lib.deBruijn64tab w
theorem Tab64.keep {w w' : World} (h : Tab64 w) (hlt : 0 < w.heap.size) (hb : Below w.heap.size w w') : Tab64 w' := fun j hj => (hb.cell (p := ⟨0, j, none⟩) hlt).trans (h j hj)
theorem tab_keep {w w' : World} (h : Tab64 w ∧ 0 < w.heap.size) (hb : Below w.heap.size w w') : Tab64 w' ∧ 0 < w'.heap.size := ⟨h.1.keep h.2 hb, Nat.lt_of_lt_of_le h.2 hb.size⟩

theorem least_any (s : Nat) (hs : s < 18446744073709551616) (w : World) (hT : Tab64 w) :
    Calls Tryz.prog 39 #[.int .u64 (s : Int)] w fun e w' => e = .returned (.int .i64 (Lib.ctz 64 s : Int)) ∧ w = w' := by
  have h := Any7.bits_TrailingZeros64 Tryz.tz64 s hs w (fun _ => hT)
  go_enter Tryz.func39, Tryz.ntmps39
  go_wp2_with fail
  refine h.mono ?_
  rintro e wv ⟨rfl, rfl⟩
  go_wp2
  go_ret
  exact ⟨rfl, rfl⟩

theorem wrap_natE (a : Nat) (v : Int) (ha : a < 18446744073709551616) (hv : v = (a : Int)) : IntKind.u64.wrap v = (a : Int) := by
  rw [IntKind.wrap_u64, hv]; omega

theorem without_any (s c : Nat) (hs : s < 18446744073709551616) (hc : c < 64) (w : World) :
    Calls Tryz.prog 49 #[.int .u64 (s : Int), .int .i64 (c : Int)] w fun e w' => e = .returned (.int .u64 (clr s c : Int)) ∧ w = w' := by
  have hp : (2 : Nat) ^ c < 18446744073709551616 := Nat.lt_of_lt_of_le (Nat.pow_lt_pow_right (by decide) hc) (by decide)
  have hw2 : IntKind.u64.wrap ((2 : Int) ^ c) = ((2 ^ c : Nat) : Int) := wrap_natE _ _ hp (by simp)
  have han := u64_andNot_nat s (2 ^ c) hs hp
  go_enter Tryz.func49, Tryz.ntmps49
  go_wp2
  go_ret
  exact ⟨by
    show Ending.returned (.int .u64 (bits BinOp.andNot IntKind.u64 (s : Int) _)) = _
    rw [show ((2 : Int) ^ c) = ((2 ^ c : Nat) : Int) by simp, han]; rfl, rfl⟩
end Go.Proofs.YtjplcnbifcpebaaGreatDoor

namespace Go.Proofs.YtjplcnbifcpebaaGreatDoor
open Go.RowKit Go.Shelf
attribute [local go_sem] Oper.semAt_some

set_option maxRecDepth 100000 in
set_option maxHeartbeats 1000000 in
/-- 'each' yields the cells of a set, least first, so long as it is told to go on. -/
theorem each_in (n l s : Nat) (hs : s < 18446744073709551616) (J : List Int → World → Prop) (W : World) (hT : ∀ pre w, J pre w → Tab64 w)
    (hY : ∀ (pre : List Int) (x : Int) (rest : List Int) (w : World), bitsL s = pre ++ x :: rest → J pre w → YieldAt Fence.wide (n - 1) Tryz.prog l #[.int .i64 x] w fun e w' => e = .returned (.bool true) ∧ J (pre ++ [x]) w')
    (h0 : J [] W) :
    CallsIn Fence.wide n Tryz.prog 35 #[.int .u64 (s : Int), .func (.yield l) #[] #[]] W fun e w' => (∃ v, e = .returned v) ∧ J (bitsL s) w' := by
  refine callsIn_of_wp Tryz.func35 rfl trivial ?_ rfl
  simp only [Tryz.ntmps35, List.size_toArray, List.length_cons, List.length_nil, Nat.reduceAdd, Nat.reduceSub, Array.replicate_succ, Array.replicate_zero, List.push_toArray, List.append_toArray, List.nil_append, List.cons_append]
  gi_wp2
  gi_loopw [0] (fun v wr => ∃ (r : Nat) (pre : List Int), v = .int .u64 (r : Int) ∧ r < 18446744073709551616 ∧ bitsL s = pre ++ bitsL r ∧ J pre wr) (fun v _ => (intOf v).toNat)
  case atStart => exact ⟨s, [], rfl, hs, rfl, h0⟩
  case round =>
    obtain ⟨r, pre, rfl, hr, hsp, hJ⟩ := hrel
    by_cases hz : r = 0
    · subst hz
      have HF := Lib.hid (show bitsL s = pre by rw [hsp, bitsL_zero, List.append_nil])
      clear hsp
      have h00 : ((((0 : Nat) : Int)) != 0) = false := rfl
      gi_wp2
      refine ⟨trivial, ?_⟩
      gi_wp2
      refine ⟨fun _ h => (by cases h), ?_⟩
      gi_wp2
      go_end0
      exact ⟨⟨_, rfl⟩, by rw [HF.out]; exact hJ⟩
    · have hz0 : ((r : Int) == 0) = false := by simp; omega
      have hz1 : ¬ ((r : Int) = 0) := by omega
      obtain ⟨hk, hb, hlow⟩ := ctz_facts hz hr
      have hst := bitsL_step hz hr
      have hL1 := least_any r hr wr (hT pre wr hJ)
      have hclt := clr_lt hk hb
      generalize hkd : Lib.ctz 64 r = k at hk hb hlow hst hL1 hclt
      have HK := Lib.hid hkd
      have HN := Lib.hid (show bitsL s = (pre ++ [(k : Int)]) ++ bitsL (clr r k) by rw [hsp, hst]; simp)
      obtain ⟨fn, tmps, assign, body, hy, hR⟩ := hY pre (k : Int) (bitsL (clr r k)) wr (by rw [hsp, hst]) hJ
      have HC := Lib.hid hclt
      have HR := Lib.hid (Nat.lt_of_lt_of_le hclt (Nat.le_of_lt hr))
      clear hsp hst hb hlow hkd hclt
      gi_wp2
      refine ⟨trivial, (fun h => by cases h), (callsIn_wide.2 hL1).mono ?_⟩
      rintro e w' ⟨rfl, rfl⟩
      clear hL1
      gi_wp2
      refine ⟨(fun h => by cases h), hR.mono ?_⟩
      rintro e w' ⟨rfl, hJ2⟩
      clear hR hy
      have hL2 := least_any r hr w' (hT _ w' hJ2)
      have hW2 := without_any r k hr hk w'
      rw [HK.out] at hL2
      gi_wp2
      refine ⟨trivial, (fun h => by cases h), (callsIn_wide.2 hL2).mono ?_⟩
      rintro e w'' ⟨rfl, rfl⟩
      clear hL2
      gi_wp2
      refine ⟨trivial, (fun h => by cases h), (callsIn_wide.2 hW2).mono ?_⟩
      rintro e w'' ⟨rfl, rfl⟩
      clear hW2
      gi_wp2
      go_roundw
      case rel => exact ⟨clr r k, pre ++ [(k : Int)], rfl, HR.out, HN.out, hJ2⟩
      case measure => have := HC.out; simp [intOf]; omega
end Go.Proofs.YtjplcnbifcpebaaGreatDoor

namespace Go.Proofs.YtjplcnbifcpebaaGreatDoor
open Go.RowKit Go.Shelf

/-- What an iterator with a bound receiver promises: it hands over the numbers xs, one after the other. -/
def Hands (P : Program) (n gf : Nat) (sv : Value) (xs : List Int) (T : World → Prop) : Prop :=
  ∀ (l : Nat) (J : List Int → World → Prop) (W : World), (∀ pre w, J pre w → T w) →
    (∀ (pre : List Int) (x : Int) (rest : List Int) (w : World), xs = pre ++ x :: rest → J pre w → YieldAt Fence.wide (n - 1) P l #[.int .i64 x] w fun e w' => e = .returned (.bool true) ∧ J (pre ++ [x]) w') →
    J [] W → CallsIn Fence.wide n P gf #[sv, .func (.yield l) #[] #[]] W fun e w' => (∃ v, e = .returned v) ∧ J xs w'

theorem each_hands (n s : Nat) (hs : s < 18446744073709551616) : Hands Tryz.prog n 35 (.int .u64 (s : Int)) (bitsL s) Tab64 :=
  fun l J W hT hY h0 => each_in n l s hs J W hT hY h0

theorem wpIn_hands {P : Program} {n : Nat} {g : Operand} {p : Tmp} {assign body : Code} {Q : Exit → Act → World → Prop} {a : Act} {w : World} {gf : Nat} {sv : Value}
    (hg : a.eval g = .func (.func gf) #[sv] #[]) (eg : ∀ args w, (callFunc gf args).run P w = .ok (.enter gf args) w)
    {xs : List Int} {T : World → Prop} (hit : Hands P (n - 1) gf sv xs T)
    (I : List Int → World → Prop) (hT : ∀ pre w, I pre w → T w) (hI : OwnFrom w.heap.size I) (h0 : I [] w) (a₁ : Int → Act)
    (hassign : ∀ (l : Nat) (x : Int) (W : World) (K : Act → World → Prop), K (a₁ x) W →
      assign.wpIn (Fence.wide.inRound l) (n - 1 - 1) P (Exit.then K (fun _ _ _ => False)) { tmps := ((#[p] : Array Tmp).zip #[Value.int .i64 x]).foldl (fun t (p, v) => t.setIfInBounds p v) a.tmps, defers := [] } W)
    (hbody : ∀ (l : Nat) (pre : List Int) (x : Int) (rest : List Int) (W : World), w.heap.size ≤ l → xs = pre ++ x :: rest → I pre W →
      body.wpIn (Fence.wide.inRound l) (n - 1 - 1) P (ownPostG w.heap.size (fun _ _ => True) I (fun _ _ _ => False) (pre ++ [x]) W) (a₁ x) W)
    (hdone : ∀ (D : Nat) (W : World), w.heap.size ≤ D → I xs W → W.heap[D]? = some (.deferred (some [])) → Q .normal { a with defers := { target := .collected D, args := #[] } :: a.defers } W) :
    (Code.rangeFunc g #[p] assign body).wpIn Fence.wide n P Q a w := by
  refine wpIn_rangeFunc ?_
  intro fn _
  obtain ⟨rec, hrec⟩ : ∃ rec : LoopState → Loop, rec = fun st => { state := st, pending := none, fn, tmps := a.tmps, params := #[p], assign, body, defers := w.heap.size } := ⟨_, rfl⟩
  obtain ⟨W1, hW1⟩ : ∃ W1, W1 = (w.alloc (.deferred (some []))).alloc (.loop (rec .ready)) := ⟨_, rfl⟩
  have hL1 : W1.heap[w.heap.size + 1]? = some (.loop (rec .ready)) := by
    rw [hW1]
    have h := World.alloc_heap_new (w.alloc (.deferred (some []))) (.loop (rec .ready))
    rw [World.size_alloc] at h
    exact h
  have hK1 : W1.heap[w.heap.size]? = some (.deferred (some [])) := by
    rw [hW1]
    exact (Below.heap_alloc _ _ _ (by simp)).trans (World.alloc_heap_new w _)
  have hI1 : I [] W1 := by rw [hW1]; exact hI.alloc _ (hI.alloc _ h0)
  refine ⟨w.heap.size + 1, [{ target := .collected w.heap.size, args := #[] }], W1, { target := .fn (.func gf) #[], args := #[sv, .func (.yield (w.heap.size + 1)) #[] #[]] }, W1, gf,
    #[sv, .func (.yield (w.heap.size + 1)) #[] #[]], W1, ?_, ?_, fun _ _ => trivial, ?_, (fun h => by cases h), ?_⟩
  · rw [hW1, hrec]; exact run_enterLoop_outer fn a.tmps #[p] assign body
  · simp only [resolve, hg]
    simp [go_sem]
  · simp [invoke, go_sem, eg]
  · refine (hit (w.heap.size + 1) (fun pre W => I pre W ∧ W.heap[w.heap.size + 1]? = some (.loop (rec .ready)) ∧ W.heap[w.heap.size]? = some (.deferred (some []))) W1
      (fun pre W h => hT pre W h.1) ?_ ⟨hI1, hL1, hK1⟩).mono ?_
    · rintro pre x rest W hsp ⟨hi, hl, hk⟩
      have hlt := (Array.getElem?_eq_some_iff.1 hl).1
      have hy := run_yield (P := P) (args := #[.int .i64 x]) hl (by rw [hrec]; rfl)
      have hbg := run_beginRound (P := P) hl (by rw [hrec])
      obtain ⟨busy, hbusy⟩ : ∃ busy : Loop, busy = { rec .ready with state := .busy } := ⟨_, rfl⟩
      rw [← hbusy] at hbg
      have hl2 : (W.putObj (w.heap.size + 1) (.loop busy)).heap[w.heap.size + 1]? = some (.loop busy) := World.putObj_heap_same hlt
      have hk2 : (W.putObj (w.heap.size + 1) (.loop busy)).heap[w.heap.size]? = some (.deferred (some [])) := (World.putObj_heap_other (by omega)).trans hk
      rw [hrec] at hy
      refine ⟨fn, _, assign, body, hy, roundIn_of_wpIn trivial (hassign _ x W _ ⟨_, hbg, ?_⟩)⟩
      refine wpIn_mono (hbody (w.heap.size + 1) pre x rest _ (by omega) hsp (hI.putObj _ hi (by omega) hl rfl)) ?_
      intro e a3 W3 hp
      cases e with
      | normal =>
        obtain ⟨hk3, _, hi3⟩ := hp
        have hl3 := hk3.same _ _ (by omega) hl2 rfl
        have hd3 := hk3.same _ _ (Nat.le_refl _) hk2 rfl
        have hend := run_endRound (P := P) none hl3
        have hre : ({ busy with state := if (none : Option Code).isNone then .ready else .done, pending := none } : Loop) = rec .ready := by rw [hbusy, hrec]; rfl
        rw [hre] at hend
        exact ⟨_, _, hend, rfl, hI.putObj _ hi3 (by omega) hl3 rfl, World.putObj_heap_same (Array.getElem?_eq_some_iff.1 hl3).1, (World.putObj_heap_other (by omega)).trans hd3⟩
      | ret => exact hp.2.elim
      | exit id => exact hp.2.elim
      | goto t => exact hp.2.elim
      | panic ch => exact hp.elim
      | outgrown => exact hp.elim
    · rintro e W2 ⟨⟨v, rfl⟩, hi, hl, hk⟩
      have hend := run_endLoop (P := P) hl (by rw [hrec]; simp)
      exact ⟨none, _, by rw [hrec] at hend; exact hend, hdone _ _ (Nat.le_refl _) (hI.putObj _ hi (by omega) hl rfl) ((World.putObj_heap_other (by omega)).trans hk)⟩
end Go.Proofs.YtjplcnbifcpebaaGreatDoor

namespace Go.Proofs.YtjplcnbifcpebaaGreatDoor
open Go.RowKit Go.Shelf
attribute [local go_sem] Oper.semAt_some

def words (L : List Nat) : List Value := L.map fun n : Nat => .int .u64 (n : Int)
theorem words_one (L : List Nat) : ∀ v ∈ words L, v.oneCell' = true := by
  intro v hv
  obtain ⟨n, _, rfl⟩ := List.mem_map.1 hv
  rfl
theorem grown_set (W : World) (g j : Nat) (v : Value) : W.grownBy (W.setCell ⟨g, j, none⟩ v) (some g) :=
  ⟨rfl, rfl, rfl, by rw [Deep.nblk_setCell]; exact Nat.le_refl _, fun k _ hne => Deep.blk_setCell_other W _ v k (fun e => hne (by rw [e]))⟩
theorem heap_set {W : World} {g j : Nat} {cs : Array Value} {t : TypeId} (v : Value) (h : W.heap[g]? = some (.cells cs t (0, 0))) : (W.setCell ⟨g, j, none⟩ v).heap[g]? = some (.cells (cs.setIfInBounds j v) t (0, 0)) := by
  simp [World.setCell, Array.getElem?_modify, h]
theorem load_row {P : Program} {w : World} {g : Nat} {cs : List Value} {t : TypeId} (h : w.heap[g]? = some (.cells cs.toArray t (0, 0))) (n : Nat) (hn : cs.length = n) :
    (loadCellsFrom ⟨g, 0, none⟩ 0 n #[]).run P w = .ok cs.toArray w := by
  subst hn
  have := run_loadCells_list (P := P) w ⟨g, 0, none⟩ cs (fun j v hv => by
    rw [Addr.add_mid, Nat.zero_add, cell_of_row _ _ j _ t (0, 0) h]
    simpa using hv)
  simpa [loadCells] using this
theorem store_row {P : Program} {w : World} {g : Nat} {c : Array Value} {cs : List Value} {t : TypeId} (h : w.heap[g]? = some (.cells c t (0, 0))) (hi : (P.info? t).map (·.size) = some cs.length) (ho : c.size = cs.length) (h1 : ∀ v ∈ cs, v.oneCell' = true) :
    (storeCells ⟨g, 0, none⟩ cs 0).run P w = .ok () (w.setRow g cs.toArray) := by
  have := run_storeVar_row (P := P) w g t t c cs.toArray h (by simpa using hi) (by simpa using ho) (all_oneCell_toArray h1)
  cases hq : P.info? t with
  | none => simp [hq] at hi
  | some i =>
    have hs : cs.length = i.size := by simp [hq] at hi; omega
    simpa [storeVar, sizeOf, typeInfo, hq, Value.cells, hs] using this
theorem heap_setRow {W : World} {g : Nat} {cs c' : Array Value} {t : TypeId} (h : W.heap[g]? = some (.cells cs t (0, 0))) : (W.setRow g c').heap[g]? = some (.cells c' t (0, 0)) := by
  simp [World.setRow, Array.getElem?_modify, h]
theorem grown_setRow (W : World) (g : Nat) (c' : Array Value) : W.grownBy (W.setRow g c') (some g) :=
  ⟨rfl, rfl, rfl, by simp [World.setRow], fun k _ hne => by
    have : ¬ g = k := fun e => hne (by rw [e])
    simp [World.setRow, Array.getElem?_modify, this]⟩

theorem wpIn_load_run {F : Fence} {n : Nat} {P : Program} {op : Oper} {a : Act} {w : World} {K : Act → World → Prop} {Q : Exit → Act → World → Prop} (ty : TypeId) (x : Operand) (p v : Value) (ho : op.op = .load ty x)
    (hx : a.eval x = p) (hr : (Instr.loadAt ty p).run P w = .ok v w) (h : K (a.put op.dst v) w) : op.wpIn F n P a w K Q := by
  refine ⟨fun f hf => (by simp [Oper.about, ho] at hf), ?_⟩
  rw [Oper.semAt_plain F _ _ (fun c => by rw [ho]; simp)]
  unfold execOp
  simp only [ho, hx, Sem.run_bind, hr, Sem.run_pure, Result.andThen_ok]
  exact h
theorem wpIn_store_run {F : Fence} {n : Nat} {P : Program} {op : Oper} {a : Act} {w w' : World} {K : Act → World → Prop} {Q : Exit → Act → World → Prop} (ty : TypeId) (x y : Operand) (p v : Value) (ho : op.op = .store ty x y)
    (hx : a.eval x = p) (hy : a.eval y = v) (hr : (Instr.storeAt ty p v).run P w = .ok () w') (h : K (a.put op.dst undef) w') : op.wpIn F n P a w K Q := by
  refine ⟨fun f hf => (by simp [Oper.about, ho] at hf), ?_⟩
  rw [Oper.semAt_plain F _ _ (fun c => by rw [ho]; simp)]
  unfold execOp
  simp only [ho, hx, hy, Sem.run_bind, hr, Sem.run_pure, Result.andThen_ok]
  exact h


end Go.Proofs.YtjplcnbifcpebaaGreatDoor

namespace Go.Proofs.YtjplcnbifcpebaaGreatDoor
open Go.RowKit

def okLeap (W H : Int) (xs : List Int) (a b p q : Int) : Bool := leaperB a b && (hasV W H xs p && hasV W H xs q)
def isLeapV (W H : Int) (xs : List Int) (a b p q : Int) : Bool := okLeap W H xs a b p q && leapB W a b p q

set_option maxHeartbeats 400000 in
theorem boTwo_any (W H : Int) (A : Option Addr) (n c : Nat) (xs : List Int) (a b : Int) (w : World) (ha : Rd w A n xs) :
    Calls Tryz.prog 28 #[brd W H A n c, lpr a b] w fun e w' => e = .returned (.bool (goodB W H xs && leaperB a b)) ∧ Below w.heap.size w w' := by
  by_cases hg : goodB W H xs = true
  · go_enter Tryz.func28, Tryz.ntmps28
    go_wp2_with fail
    refine (boGood_any _ _ _ _ _ _ _ ((ha.alloc _).alloc _)).mono ?_
    rw [hg]
    rintro e wv ⟨rfl, hb⟩
    have hbx := below_box hb
    have a0 : wv.cell? ⟨w.heap.size, 0, none⟩ = some (.int .i64 W) := by simpa using newbox hbx 0
    have a1 : wv.cell? ⟨w.heap.size, 1, none⟩ = some (.int .i64 H) := by simpa using newbox hbx 1
    have a2 : wv.cell? ⟨w.heap.size, 2, none⟩ = some (.slice A n c) := by simpa using newbox hbx 2
    have al : w.heap.size < wv.heap.size := by simpa using newbox_lt hbx
    have l0 : wv.cell? ⟨w.heap.size + 1, 0, none⟩ = some (.int .i64 a) := by simpa using newbox hb 0
    have l1 : wv.cell? ⟨w.heap.size + 1, 1, none⟩ = some (.int .i64 b) := by simpa using newbox hb 1
    have ll : w.heap.size + 1 < wv.heap.size := by simpa using newbox_lt hb
    have B := Lib.hid (below_box hbx)
    clear hb hbx
    go_wp2_with fail
    refine (boLeaper_any _ _ _).mono ?_
    rintro e wv ⟨rfl, hb⟩
    replace a0 := cell_keep a0 al hb; replace a1 := cell_keep a1 al hb; replace a2 := cell_keep a2 al hb; replace al := lt_keep al hb
    replace l0 := cell_keep l0 ll hb; replace l1 := cell_keep l1 ll hb; replace ll := lt_keep ll hb
    replace B := Lib.hid (below_next B.out hb)
    clear hb
    go_wp2
    go_ret
    exact ⟨ret_bool (by rw [hg]; rfl), B.out⟩
  · have hg' : goodB W H xs = false := by simpa using hg
    go_enter Tryz.func28, Tryz.ntmps28
    go_wp2_with fail
    refine (boGood_any _ _ _ _ _ _ _ ((ha.alloc _).alloc _)).mono ?_
    rw [hg']
    rintro e wv ⟨rfl, hb⟩
    have hbx := below_box hb
    have a0 : wv.cell? ⟨w.heap.size, 0, none⟩ = some (.int .i64 W) := by simpa using newbox hbx 0
    have a1 : wv.cell? ⟨w.heap.size, 1, none⟩ = some (.int .i64 H) := by simpa using newbox hbx 1
    have a2 : wv.cell? ⟨w.heap.size, 2, none⟩ = some (.slice A n c) := by simpa using newbox hbx 2
    have al : w.heap.size < wv.heap.size := by simpa using newbox_lt hbx
    have l0 : wv.cell? ⟨w.heap.size + 1, 0, none⟩ = some (.int .i64 a) := by simpa using newbox hb 0
    have l1 : wv.cell? ⟨w.heap.size + 1, 1, none⟩ = some (.int .i64 b) := by simpa using newbox hb 1
    have ll : w.heap.size + 1 < wv.heap.size := by simpa using newbox_lt hb
    have B := Lib.hid (below_box hbx)
    clear hb hbx
    go_wp2
    go_ret
    exact ⟨ret_bool (by rw [hg']; rfl), B.out⟩

theorem range_of {W H q : Int} {xs : List Int} (hN : 1 ≤ W * H ∧ W * H ≤ 64) (h : hasB W H xs q = true) : 0 ≤ q ∧ q ≤ 64 := by
  have := (hasB_iff.1 h).1; omega

end Go.Proofs.YtjplcnbifcpebaaGreatDoor

namespace Go.Proofs.YtjplcnbifcpebaaGreatDoor
open Go.RowKit

def goesB (W H : Int) (hs : List Int) (a b : Int) : Option Int → List Int → Bool
  | _, [] => true
  | p, c :: t => hasB W H hs c && (match p with | none => true | some q => leapB W a b q c) && goesB W H hs a b (some c) t
def pathB (W H : Int) (hs : List Int) (a b : Int) (ps : List Int) : Bool := decide (1 ≤ ps.length ∧ ps.length ≤ 64) && goesB W H hs a b none ps
def prevOf (ps : List Int) : Nat → Option Int
  | 0 => none
  | k + 1 => ps[k]?
theorem goes_drop {W H a b x : Int} {hs ps : List Int} {k : Nat} {p : Option Int} (hx : ps[k]? = some x) :
    goesB W H hs a b p (ps.drop k) = (hasB W H hs x && (match p with | none => true | some q => leapB W a b q x) && goesB W H hs a b (some x) (ps.drop (k + 1))) := by
  rw [drop_cons_of hx]; rfl
theorem below_undrewN {w w' : World} {k : Nat} (h : Below (w.drewN k).heap.size (w.drewN k) w') : Below w.heap.size w w' := ⟨h.os, h.tape, h.output, h.size, h.block⟩

end Go.Proofs.YtjplcnbifcpebaaGreatDoor

namespace Go.Proofs.YtjplcnbifcpebaaGreatDoor
open Go.RowKit

def twoV (W H : Int) (xs : List Int) (a b : Int) : Bool := goodB W H xs && leaperB a b
def isPathV (W H : Int) (xs : List Int) (a b : Int) (ps : List Int) : Bool := if twoV W H xs a b then pathB W H xs a b ps else false

end Go.Proofs.YtjplcnbifcpebaaGreatDoor

namespace Go.Proofs.YtjplcnbifcpebaaGreatDoor
open Go.RowKit

theorem and_nat (a b : Nat) (v : Int) (ha : a < 18446744073709551616) (hb : b < 18446744073709551616) (hv : v = (a : Int)) : bits .and .u64 v (b : Int) = ((a &&& b : Nat) : Int) := by
  rw [hv]; exact bits_and_u64_nat a b ha hb
theorem wrap_nat (a : Nat) (v : Int) (ha : a < 18446744073709551616) (hv : v = (a : Int)) : IntKind.u64.wrap v = (a : Int) := by
  rw [IntKind.wrap_u64, hv]; omega

theorem withS_any (s c : Nat) (hs : s < 18446744073709551616) (hc : c < 64) (w : World) :
    Calls Tryz.prog 37 #[.int .u64 (s : Int), .int .i64 (c : Int)] w fun e w' => e = .returned (.int .u64 ((s ||| 2 ^ c : Nat) : Int)) ∧ w = w' := by
  have hp : (2 : Nat) ^ c < 18446744073709551616 := Nat.lt_of_lt_of_le (Nat.pow_lt_pow_right (by decide) hc) (by decide)
  have hw2 : IntKind.u64.wrap ((2 : Int) ^ c) = ((2 ^ c : Nat) : Int) := wrap_nat _ _ hp (by simp)
  have hor := bits_or_u64_nat s (2 ^ c) hs hp
  go_enter Tryz.func37, Tryz.ntmps37
  go_wp2
  go_ret
  exact ⟨by rw [show ((2 : Int) ^ c) = ((2 ^ c : Nat) : Int) by simp, hor]; rfl, rfl⟩

set_option maxHeartbeats 1000000 in
theorem setOf_any (A : Option Addr) (n c : Nat) (ps : List Int) (w : World) (ha : Rd w A n ps) (hc : ∀ x ∈ ps, 0 ≤ x ∧ x < 64) :
    Calls Tryz.prog 24 #[.slice A n c] w fun e w' => e = .returned (.int .u64 (setBits (ps.map Int.toNat) : Int)) ∧ Below w.heap.size w w' := by
  have h3 := ha.2.1
  have H1 := Lib.hid ha.1
  have HC := Lib.hid hc
  clear hc
  go_enter Tryz.func24, Tryz.ntmps24
  go_wp2
  go_loopw [3, 8] (fun s i wr => ∃ (k S : Nat), k ≤ n ∧ i = .int .i64 k ∧ s = .int .u64 (S : Int) ∧ S = setBits ((ps.take k).map Int.toNat) ∧ Below w.heap.size w wr) (fun _ i _ => n - (intOf i).toNat)
  case atStart => exact ⟨0, 0, Nat.zero_le _, rfl, rfl, by simp [setBits], Below.refl _ _⟩
  case round =>
    obtain ⟨k, S, hk, rfl, rfl, hs, hbw⟩ := hrel
    have HS := Lib.hid hs
    have hS : S < 18446744073709551616 := by
      rw [hs]; refine setBits_lt _ (fun c hm => ?_)
      obtain ⟨y, hy, rfl⟩ := List.mem_map.1 hm
      have := HC.out y (List.mem_of_mem_take hy); omega
    clear hs
    by_cases hlt : k < n
    · obtain ⟨b1, o1, x, rfl, hl1, hx, hc1⟩ := (ha.keep hbw).at_ hlt
      have HX := Lib.hid hx
      obtain ⟨hx0, hx64⟩ := HC.out x (List.mem_of_getElem? hx)
      clear hx
      obtain ⟨j, rfl⟩ : ∃ j : Nat, x = (j : Int) := ⟨x.toNat, by omega⟩
      have hj : j < 64 := by omega
      go_wp2_with fail
      refine (withS_any S j hS hj _).mono ?_
      rintro e wv ⟨rfl, rfl⟩
      go_wp2
      go_roundw
      case rel => exact ⟨k + 1, S ||| 2 ^ j, by omega, by go_num, rfl, by rw [List.take_add_one, HX.out, List.map_append, HS.out]; exact (setBits_snoc _ _).symm, hbw⟩
      case measure => simp [intOf]; omega
    · go_wp2
      go_ret
      exact ⟨by rw [HS.out, List.take_of_length_le (by have := H1.out; omega)]; rfl, hbw⟩

end Go.Proofs.YtjplcnbifcpebaaGreatDoor

namespace Go.Proofs.YtjplcnbifcpebaaGreatDoor
open Go.RowKit

theorem goes_all {W H a b : Int} {hs : List Int} : ∀ (ps : List Int) (p : Option Int), goesB W H hs a b p ps = true → ∀ x ∈ ps, hasB W H hs x = true
  | [], _, _, x, h => by cases h
  | c :: t, p, h, x, hx => by
    simp only [goesB, Bool.and_eq_true] at h
    rcases List.mem_cons.1 hx with rfl | h1
    · exact h.1.1
    · exact goes_all t _ h.2 x h1
theorem path_has {W H a b : Int} {hs ps : List Int} (h : pathB W H hs a b ps = true) : ∀ x ∈ ps, hasB W H hs x = true := by
  simp only [pathB, Bool.and_eq_true] at h
  exact goes_all ps none h.2
theorem path_len {W H a b : Int} {hs ps : List Int} (h : pathB W H hs a b ps = true) : 1 ≤ ps.length ∧ ps.length ≤ 64 := by
  simp only [pathB, Bool.and_eq_true, decide_eq_true_eq] at h
  exact h.1
theorem path_64 {W H a b : Int} {hs ps : List Int} (hg : goodB W H hs = true) (h : pathB W H hs a b ps = true) : ∀ x ∈ ps, 0 ≤ x ∧ x < 64 := by
  intro x hx
  have h1 := (hasB_iff.1 (path_has h x hx)).1
  obtain ⟨hW, hH, _, _⟩ := goodB_iff.1 hg
  have := cells_le hW hH
  omega
def walkB (W H : Int) (hs : List Int) (a b : Int) (ps : List Int) : Bool := pathB W H hs a b ps && decide ps.Nodup
def tourB (W H : Int) (hs : List Int) (a b : Int) (ps : List Int) : Bool := walkB W H hs a b ps && decide (ps.length = (cellsL W H hs).length)
def closedB (W H : Int) (hs : List Int) (a b : Int) (ps : List Int) : Bool := decide (3 ≤ ps.length) && tourB W H hs a b ps && leapB W a b (ps.getD (ps.length - 1) 0) (ps.getD 0 0)
theorem two_gK {W H a b : Int} {xs : List Int} (h : twoV W H xs a b = true) : goodB W H xs = true := by simp only [twoV, Bool.and_eq_true] at h; exact h.1
theorem nodup_snoc {ps : List Int} {k : Nat} {x : Int} (hx : ps[k]? = some x) (h : (ps.take k).Nodup) (hn : (ps.take k).contains x = false) : (ps.take (k + 1)).Nodup := by
  rw [List.take_add_one, hx]
  simp only [List.contains_eq_mem, decide_eq_false_iff_not] at hn
  rw [List.nodup_append]
  refine ⟨h, by simp, fun y hy z hz e => ?_⟩
  have : z = x := by simpa using hz
  exact hn (this ▸ e ▸ hy)
theorem nodup_hit {ps : List Int} {k : Nat} {x : Int} (hx : ps[k]? = some x) (hn : (ps.take k).contains x = true) : ¬ ps.Nodup := by
  intro h
  have h2 : (ps.take (k + 1)).Nodup := h.sublist (List.take_sublist _ _)
  rw [List.take_add_one, hx, List.nodup_append] at h2
  simp only [List.contains_eq_mem, decide_eq_true_eq] at hn
  exact h2.2.2 x hn x (by simp) rfl
theorem nodup_map {ps : List Int} (h : ∀ x ∈ ps, 0 ≤ x ∧ x < 64) : (ps.map Int.toNat).Nodup ↔ ps.Nodup := by
  induction ps with
  | nil => simp
  | cons x t ih =>
    rw [List.map_cons, List.nodup_cons, List.nodup_cons, ih (fun y hy => h y (List.mem_cons_of_mem _ hy))]
    have : x.toNat ∈ t.map Int.toNat ↔ x ∈ t := by
      rw [List.mem_map]
      constructor
      · rintro ⟨y, hy, e⟩
        have h1 := h x List.mem_cons_self; have h2 := h y (List.mem_cons_of_mem _ hy)
        have : y = x := by omega
        exact this ▸ hy
      · intro hx; exact ⟨x, hx, rfl⟩
    rw [this]
/-- How many bits the set of a walk has. -/
theorem pop_walk {ps : List Int} (h : ∀ x ∈ ps, 0 ≤ x ∧ x < 64) : popN 64 (setBits (ps.map Int.toNat)) = ps.length ↔ ps.Nodup := by
  have := (popN_set _ (ps.map Int.toNat) rfl (fun c hc => by obtain ⟨y, hy, rfl⟩ := List.mem_map.1 hc; have := h y hy; omega)).2
  rw [List.length_map, nodup_map h] at this
  exact this
theorem set_lt {ps : List Int} (h : ∀ x ∈ ps, 0 ≤ x ∧ x < 64) : setBits (ps.map Int.toNat) < 18446744073709551616 := setBits_lt _ (fun c hc => by obtain ⟨y, hy, rfl⟩ := List.mem_map.1 hc; have := h y hy; omega)

theorem boTwoV_any (W H : Int) (A : Option Addr) (n c : Nat) (xs : List Int) (a b : Int) (w : World) (ha : Rd w A n xs) :
    Calls Tryz.prog 28 #[brd W H A n c, lpr a b] w fun e w' => e = .returned (.bool (twoV W H xs a b)) ∧ Below w.heap.size w w' := boTwo_any W H A n c xs a b w ha
def onK (W H : Int) (xs : List Int) (a b : Int) (ps : List Int) : Bool := twoV W H xs a b && ps.all (hasB W H xs)

set_option maxRecDepth 100000 in
set_option maxHeartbeats 2000000 in
theorem isLeaperOnK_any (W H : Int) (A : Option Addr) (n c : Nat) (xs : List Int) (a b : Int) (A2 : Option Addr) (m c2 : Nat) (ps : List Int) (w : World) (ha : Rd w A n xs) (hp : Rd w A2 m ps) :
    Calls Tryz.prog 32 #[brd W H A n c, lpr a b, .slice A2 m c2] w fun e w' => e = .returned (.bool (onK W H xs a b ps)) ∧ Below w.heap.size w w' := by
  by_cases hl : leaperB a b = true
  · by_cases hg : goodB W H xs = true
    · have HG := Lib.hid hg; have HL := Lib.hid hl
      go_enter Tryz.func32, Tryz.ntmps32
      go_wp2_with fail
      refine (isLeaper_any _ _ _).mono ?_
      rw [hl]
      rintro e wv ⟨rfl, hb⟩
      have hbx0 := below_box hb
      have a0 : wv.cell? ⟨w.heap.size, 0, none⟩ = some (.int .i64 W) := by simpa using newbox hbx0 0
      have a1 : wv.cell? ⟨w.heap.size, 1, none⟩ = some (.int .i64 H) := by simpa using newbox hbx0 1
      have a2 : wv.cell? ⟨w.heap.size, 2, none⟩ = some (.slice A n c) := by simpa using newbox hbx0 2
      have al : w.heap.size < wv.heap.size := by simpa using newbox_lt hbx0
      have l0 : wv.cell? ⟨w.heap.size + 1, 0, none⟩ = some (.int .i64 a) := by simpa using newbox hb 0
      have l1 : wv.cell? ⟨w.heap.size + 1, 1, none⟩ = some (.int .i64 b) := by simpa using newbox hb 1
      have ll : w.heap.size + 1 < wv.heap.size := by simpa using newbox_lt hb
      have B := Lib.hid (below_box hbx0)
      clear hb hbx0
      go_wp2_with fail
      refine (isBoard_any _ _ _ _ _ _ _ (ha.keep B.out)).mono ?_
      rw [hg]
      rintro e wv ⟨rfl, hb⟩
      replace a0 := cell_keep a0 al hb
      replace a1 := cell_keep a1 al hb
      replace a2 := cell_keep a2 al hb
      replace al := lt_keep al hb
      replace l0 := cell_keep l0 ll hb
      replace l1 := cell_keep l1 ll hb
      replace ll := lt_keep ll hb
      replace B := Lib.hid (below_next B.out hb)
      clear hb
      have R := Lib.hid (ha.keep B.out); have RP := Lib.hid (hp.keep B.out)
      have HPL := Lib.hid hp.1
      have m9 := hp.2.1
      have HA := Lib.hid (⟨a0, a1, a2⟩ : wv.cell? ⟨w.heap.size, 0, none⟩ = some (.int .i64 W) ∧ wv.cell? ⟨w.heap.size, 1, none⟩ = some (.int .i64 H) ∧ wv.cell? ⟨w.heap.size, 2, none⟩ = some (.slice A n c))
      clear a0 a1 a2 l0 l1 ll
      go_wp2
      go_loopw [19] (fun i wr => ∃ k : Nat, k ≤ m ∧ i = .int .i64 k ∧ (ps.take k).all (hasB W H xs) = true ∧ Below wv.heap.size wv wr) (fun i _ => m - (intOf i).toNat)
      case atStart => exact ⟨0, Nat.zero_le _, rfl, by simp, Below.refl _ _⟩
      case round =>
        obtain ⟨k, hk, rfl, hall, hbw⟩ := hrel
        have HALL := Lib.hid hall
        clear hall
        by_cases hlt : k < m
        · obtain ⟨bb, oo, x, rfl, hg1, hx, x0⟩ := RP.out.at_ hlt
          have HX := Lib.hid hx
          replace x0 := cell_keep x0 hg1 hbw
          have a0 := cell_keep HA.out.1 al hbw; have a1 := cell_keep HA.out.2.1 al hbw; have a2 := cell_keep HA.out.2.2 al hbw
          have HB := Lib.hid hbw
          have RR := Lib.hid (R.out.keep hbw)
          clear hx hbw
          cases hs : hasB W H xs x with
          | true =>
            have HS := Lib.hid hs
            clear hs
            go_wp2_with fail
            refine (isThere_any W H A n c x xs _ RR.out HG.out).mono ?_
            rw [HS.out]
            rintro e wz ⟨rfl, hb⟩
            replace HB := Lib.hid (below_next HB.out hb)
            clear hb
            go_wp2
            go_roundw
            case rel => exact ⟨k + 1, by omega, by go_num, by rw [List.take_add_one, HX.out, List.all_append, HALL.out]; simp [HS.out], HB.out⟩
            case measure => simp [intOf]; omega
          | false =>
            have HS := Lib.hid hs
            clear hs
            go_wp2_with fail
            refine (isThere_any W H A n c x xs _ RR.out HG.out).mono ?_
            rw [HS.out]
            rintro e wz ⟨rfl, hb⟩
            replace HB := Lib.hid (below_next HB.out hb)
            clear hb
            go_wp2
            go_ret
            exact ⟨ret_bool (by symm; rw [onK, Bool.and_eq_false_iff]; right; rw [List.all_eq_false]; exact ⟨x, List.mem_of_getElem? HX.out, by simp [HS.out]⟩), B.out.trans (HB.out.mono B.out.size)⟩
        · go_wp2
          go_ret
          exact ⟨ret_bool (by have h : ps.take k = ps := List.take_of_length_le (by have := HPL.out; omega); rw [onK, twoV, HL.out, HG.out, ← h, HALL.out]; rfl), B.out.trans (hbw.mono B.out.size)⟩
    · have hg' : goodB W H xs = false := by simpa using hg
      go_enter Tryz.func32, Tryz.ntmps32
      go_wp2_with fail
      refine (isLeaper_any _ _ _).mono ?_
      rw [hl]
      rintro e wv ⟨rfl, hb⟩
      have hbx0 := below_box hb
      have a0 : wv.cell? ⟨w.heap.size, 0, none⟩ = some (.int .i64 W) := by simpa using newbox hbx0 0
      have a1 : wv.cell? ⟨w.heap.size, 1, none⟩ = some (.int .i64 H) := by simpa using newbox hbx0 1
      have a2 : wv.cell? ⟨w.heap.size, 2, none⟩ = some (.slice A n c) := by simpa using newbox hbx0 2
      have al : w.heap.size < wv.heap.size := by simpa using newbox_lt hbx0
      have l0 : wv.cell? ⟨w.heap.size + 1, 0, none⟩ = some (.int .i64 a) := by simpa using newbox hb 0
      have l1 : wv.cell? ⟨w.heap.size + 1, 1, none⟩ = some (.int .i64 b) := by simpa using newbox hb 1
      have ll : w.heap.size + 1 < wv.heap.size := by simpa using newbox_lt hb
      have B := Lib.hid (below_box hbx0)
      clear hb hbx0
      go_wp2_with fail
      refine (isBoard_any _ _ _ _ _ _ _ (ha.keep B.out)).mono ?_
      rw [hg']
      rintro e wv ⟨rfl, hb⟩
      replace a0 := cell_keep a0 al hb
      replace a1 := cell_keep a1 al hb
      replace a2 := cell_keep a2 al hb
      replace al := lt_keep al hb
      replace l0 := cell_keep l0 ll hb
      replace l1 := cell_keep l1 ll hb
      replace ll := lt_keep ll hb
      replace B := Lib.hid (below_next B.out hb)
      clear hb
      go_wp2
      go_ret
      exact ⟨ret_bool (by rw [onK, twoV, hg']; simp), B.out⟩
  · have hl' : leaperB a b = false := by simpa using hl
    go_enter Tryz.func32, Tryz.ntmps32
    go_wp2_with fail
    refine (isLeaper_any _ _ _).mono ?_
    rw [hl']
    rintro e wv ⟨rfl, hb⟩
    have hbx0 := below_box hb
    have a0 : wv.cell? ⟨w.heap.size, 0, none⟩ = some (.int .i64 W) := by simpa using newbox hbx0 0
    have a1 : wv.cell? ⟨w.heap.size, 1, none⟩ = some (.int .i64 H) := by simpa using newbox hbx0 1
    have a2 : wv.cell? ⟨w.heap.size, 2, none⟩ = some (.slice A n c) := by simpa using newbox hbx0 2
    have al : w.heap.size < wv.heap.size := by simpa using newbox_lt hbx0
    have l0 : wv.cell? ⟨w.heap.size + 1, 0, none⟩ = some (.int .i64 a) := by simpa using newbox hb 0
    have l1 : wv.cell? ⟨w.heap.size + 1, 1, none⟩ = some (.int .i64 b) := by simpa using newbox hb 1
    have ll : w.heap.size + 1 < wv.heap.size := by simpa using newbox_lt hb
    have B := Lib.hid (below_box hbx0)
    clear hb hbx0
    go_wp2
    go_ret
    exact ⟨ret_bool (by rw [onK, twoV, hl']; simp), B.out⟩


end Go.Proofs.YtjplcnbifcpebaaGreatDoor

namespace Go.Proofs.YtjplcnbifcpebaaGreatDoor
open Go.RowKit

/-! ### A row of elements of k cells that the call owns -/
/-- The slice '.slice A n c' owns, in a block from lo on, the list xs of elements, each of k cells. -/
def OwnK {α : Type} (enc : α → List Value) (k : Nat) (E : TypeId) (w : World) (lo : Nat) (A : Option Addr) (n c : Nat) (xs : List α) : Prop := xs.length = n ∧ w.ownsRow lo E k (.slice A n c) n (xs.flatMap enc)

theorem flat_len {α : Type} {enc : α → List Value} {k : Nat} (hk : ∀ x, (enc x).length = k) (xs : List α) : (xs.flatMap enc).length = xs.length * k := by
  induction xs with
  | nil => simp
  | cons x t ih => rw [List.flatMap_cons, List.length_append, ih, hk, List.length_cons, Nat.add_mul, Nat.one_mul]; omega
theorem flat_at {α : Type} {enc : α → List Value} {k : Nat} (hk : ∀ x, (enc x).length = k) : ∀ (xs : List α) {i j : Nat} {x : α}, xs[i]? = some x → j < k → (xs.flatMap enc)[i * k + j]? = (enc x)[j]?
  | [], i, j, x, h, _ => by simp at h
  | y :: t, 0, j, x, h, hj => by
    simp at h; subst h
    rw [List.flatMap_cons, Nat.zero_mul, Nat.zero_add, List.getElem?_append_left (by rw [hk]; exact hj)]
  | y :: t, i + 1, j, x, h, hj => by
    rw [List.flatMap_cons, List.getElem?_append_right (by rw [hk, Nat.add_mul]; omega), hk, show (i + 1) * k + j - k = i * k + j by rw [Nat.add_mul]; omega]
    exact flat_at hk t (by simpa using h) hj
section
variable {α : Type} {enc : α → List Value} {k : Nat} {E : TypeId} {w w' : World} {lo : Nat} {A : Option Addr} {n c : Nat} {xs : List α}
theorem OwnK.len (h : OwnK enc k E w lo A n c xs) : xs.length = n := h.1
theorem OwnK.form (h : OwnK enc k E w lo A n c xs) : (A = none ∧ n = 0 ∧ c = 0 ∧ xs = []) ∨ ∃ g, A = some ⟨g, 0, none⟩ ∧ lo ≤ g ∧ g < w.heap.size ∧ n ≤ c ∧ c ≤ maxLen := by
  have hl := h.1
  rcases h.2.2 with ⟨hv, hn⟩ | ⟨g, cap, cur, hv, hb, hg, hnc, hm, _⟩
  · injection hv with h1 h2 h3
    subst hn
    exact .inl ⟨h1, rfl, h3, List.eq_nil_of_length_eq_zero hl⟩
  · injection hv with h1 h2 h3
    subst h3
    exact .inr ⟨g, h1, hb, (Array.getElem?_eq_some_iff.1 hg).1, hnc, hm⟩
theorem OwnK.some_ {i : Nat} (h : OwnK enc k E w lo A n c xs) (hi : i < n) : ∃ g, A = some ⟨g, 0, none⟩ ∧ lo ≤ g ∧ g < w.heap.size := by
  rcases h.form with ⟨_, h0, _⟩ | ⟨g, h1, h2, h3, _⟩
  · omega
  · exact ⟨g, h1, h2, h3⟩
/-- Element i's cell j. -/
theorem OwnK.cell {g i j : Nat} {x : α} {u : Value} (hk : ∀ x, (enc x).length = k) (h : OwnK enc k E w lo (some ⟨g, 0, none⟩) n c xs) (hx : xs[i]? = some x) (hu : (enc x)[j]? = some u) : w.cell? ⟨g, i * k + j, none⟩ = some u := by
  have hl := h.1
  have hi : i < n := by
    rcases Nat.lt_or_ge i xs.length with h' | h'
    · omega
    · rw [List.getElem?_eq_none h'] at hx; cases hx
  have hj : j < k := by
    rcases Nat.lt_or_ge j (enc x).length with h' | h'
    · rwa [hk] at h'
    · rw [List.getElem?_eq_none h'] at hu; cases hu
  have hb : i * k + j < n * k := by
    have := Nat.mul_le_mul_right k (show i + 1 ≤ n from hi); rw [Nat.add_mul, Nat.one_mul] at this; omega
  rw [World.ownsRow.cellAt h.2 _ hb, flat_at hk xs hx hj, hu]
theorem OwnK.frozen {g : Nat} (h : OwnK enc k E w lo (some ⟨g, 0, none⟩) n c xs) (j : Nat) : w.frozen? ⟨g, j, none⟩ = false := World.ownsRow.frozenAt h.2 j
theorem OwnK.keep (h : OwnK enc k E w lo A n c xs) (hb : Below w.heap.size w w') : OwnK enc k E w' lo A n c xs := by
  refine ⟨h.1, h.2.1, ?_⟩
  rcases h.2.2 with hn | ⟨g, cap, cur, hv, hlo, hg, r⟩
  · exact .inl hn
  · exact .inr ⟨g, cap, cur, hv, hlo, (hb.block g (Array.getElem?_eq_some_iff.1 hg).1).trans hg, r⟩
theorem OwnK.lower {lo' : Nat} (h : OwnK enc k E w lo A n c xs) (hl : lo' ≤ lo) : OwnK enc k E w lo' A n c xs := by
  refine ⟨h.1, h.2.1, ?_⟩
  rcases h.2.2 with hn | ⟨g, cap, cur, hv, hlo, hg, r⟩
  · exact .inl hn
  · exact .inr ⟨g, cap, cur, hv, Nat.le_trans hl hlo, hg, r⟩
theorem OwnK.alloc (h : OwnK enc k E w lo A n c xs) (o : Obj) : OwnK enc k E (w.alloc o) lo A n c xs := h.keep ((Below.refl _ _).alloc (Nat.le_refl _) o)
theorem OwnK.drewN (h : OwnK enc k E w lo A n c xs) (m : Nat) : OwnK enc k E (w.drewN m) lo A n c xs := h
theorem OwnK.drew1 (h : OwnK enc k E w lo A n c xs) : OwnK enc k E w.drew lo A n c xs := h
theorem OwnK.none_ (enc : α → List Value) (k : Nat) (E : TypeId) (w : World) (lo : Nat) : OwnK enc k E w lo none 0 0 [] := ⟨rfl, World.ownsRow_nil w lo E k⟩
theorem OwnK.other {row : Option Nat} (h : OwnK enc k E w lo A n c xs) (hg : w.grownBy w' row) (hne : ∀ a, A = some a → some a.block ≠ row) : OwnK enc k E w' lo A n c xs := by
  refine ⟨h.1, h.2.1, ?_⟩
  rcases h.2.2 with hn | ⟨g, cap, cur, hv, hlo, hgg, r⟩
  · exact .inl hn
  · refine .inr ⟨g, cap, cur, hv, hlo, ?_, r⟩
    injection hv with h1
    rw [hg.block g (Array.getElem?_eq_some_iff.1 hgg).1 (hne _ h1)]
    exact hgg
theorem OwnK.of_row {v : Value} (hxs : xs.length = n) (h : w.ownsRow lo E k v n (xs.flatMap enc)) : ∃ A c, v = .slice A n c ∧ OwnK enc k E w lo A n c xs := by
  have h2 := h.2
  rcases h2 with ⟨rfl, rfl⟩ | ⟨g, cap, cur, rfl, _⟩
  · exact ⟨none, 0, rfl, hxs, h⟩
  · exact ⟨_, cap, rfl, hxs, h⟩

/-- append of some elements onto a row of the call's own. -/
theorem wpList_appK {P : Program} {w : World} {ops : Array Oper} {rest : List Oper} {o : Oper} {a : Act} {Q : Exit → Act → World → Prop} (hgd : o.guard = none) (s x : Operand) (T : TypeId)
    (ho : o.op = .call { callee := .builtin .append, args := #[s, x], argTypes := #[T, T] }) (i0 : TypeInfo) (z : Value) (bytes : Nat)
    (hT : P.underlying T = some (.slice E)) (hi : P.info? E = some i0) (hz0 : i0.zero = some z) (hz1 : i0.size = k) (hz2 : i0.bytes = bytes) (hzs : z.cells.size = k) (hk0 : 0 < k) (hby : bytes ≤ 64)
    (hk : ∀ x, (enc x).length = k) (h1 : ∀ x, ∀ u ∈ enc x, u.oneCell' = true)
    (ys : List α) (ad : Addr) (m cy : Nat) (hs : a.eval s = .slice A n c) (hown : OwnK enc k E w lo A n c xs) (hx : a.eval x = .slice (some ad) m cy) (hm : ys.length = m)
    (hy : ∀ j u, (ys.flatMap enc)[j]? = some u → w.cell? (ad.add j) = some u)
    (hn : n + m ≤ 1000000) (hlo : lo ≤ w.heap.size)
    (h : ∀ A' c' w', OwnK enc k E w' lo A' (n + m) c' (xs ++ ys) → w.grownBy w' (match A with | some b => some b.block | none => none) → Below lo w w' → wpList P ops Q rest (a.put o.dst (.slice A' (n + m) c')) w') :
    wpList P ops Q (o :: rest) a w := by
  refine wpList_append_own w hgd s x T ho lo E i0 z k bytes hT hi hz0 hz1 hz2 hzs hk0 (.slice A n c) n (xs.flatMap enc) hs hown.2 ad m cy (ys.flatMap enc) hx (by rw [flat_len hk, hm]) hy ?_ (by unfold maxLen; omega) ?_ hlo ?_
  · intro u hu
    obtain ⟨y, _, hu⟩ := List.mem_flatMap.1 hu
    exact h1 y u hu
  · have := Nat.mul_le_mul hn hby; omega
  · intro v' w' hown' hgrow _
    rw [← List.flatMap_append] at hown'
    obtain ⟨A', c', rfl, hO⟩ := OwnK.of_row (by rw [List.length_append, hown.1, hm]) hown'
    refine h A' c' w' hO ?_ ((Below.refl _ _).grown hgrow hlo (fun k hk => (World.ownsRow.lt hown.2 k hk).1))
    rcases A with _ | b
    · exact hgrow
    · exact hgrow
end

end Go.Proofs.YtjplcnbifcpebaaGreatDoor

namespace Go.Proofs.YtjplcnbifcpebaaGreatDoor
open Go.RowKit Go.Lib Go.Sort Go.Shelf

/-! ### A row of the call's own in the sort's words -/
section
variable {α : Type} [Inhabited α] {enc : α → List Value} {k : Nat} {E : TypeId} {w : World} {lo g n c : Nat} {xs : List α}
theorem flat_flatK (hk : ∀ x, (enc x).length = k) (xs : List α) {t : Nat} (h : t < xs.length * k) : (xs.flatMap enc)[t]? = some ((flatK enc k xs.toArray)[t]!) := by
  have k0 : 0 < k := by
    rcases Nat.eq_zero_or_pos k with e | e
    · subst e; simp at h
    · exact e
  have hi : t / k < xs.length := Nat.div_lt_of_lt_mul (by rw [Nat.mul_comm]; exact h)
  have hj : t % k < k := Nat.mod_lt _ k0
  have hx : xs[t / k]? = some xs[t / k] := List.getElem?_eq_getElem hi
  have h1 := flat_at hk xs hx hj
  rw [show t / k * k + t % k = t by rw [Nat.mul_comm]; exact Nat.div_add_mod t k] at h1
  rw [h1, get_flatK enc k xs.toArray t (by simpa using h)]
  have e : xs.toArray[t / k]! = xs[t / k] := by rw [getElem!_pos xs.toArray (t / k) (by simpa using hi)]; simp
  rw [e, List.getElem?_eq_getElem (by rw [hk]; exact hj), getElem!_pos (enc xs[t / k]) (t % k) (by rw [hk]; exact hj)]
theorem OwnK.holds (hk : ∀ x, (enc x).length = k) (h : OwnK enc k E w lo (some ⟨g, 0, none⟩) n c xs) : HoldsK enc k w g 0 xs.toArray := by
  intro t ht
  rw [size_flatK] at ht
  have ht' : t < xs.length * k := by simpa using ht
  rw [Nat.zero_add]
  refine ⟨?_, h.frozen t⟩
  rw [World.ownsRow.cellAt h.2 t (by rw [← h.1]; exact ht'), flat_flatK hk xs ht']
  rfl
theorem OwnK.sorted (hk : ∀ x, (enc x).length = k) (h : OwnK enc k E w lo (some ⟨g, 0, none⟩) n c xs) (d : Array α) (hd : d.size = n) (m : Nat) (os : Array Obj) :
    OwnK enc k E (sortWorldK enc k w g 0 m d os) lo (some ⟨g, 0, none⟩) n c d.toList ∧ w.grownBy (sortWorldK enc k w g 0 m d os) (some g) := by
  obtain ⟨hl, hx, hr⟩ := h
  rcases hr with ⟨hv, _⟩ | ⟨g', cap, cur, hv, hlo, hg, hnc, hm, hcs, htake⟩
  · injection hv with h1; cases h1
  · injection hv with h1 h2 h3
    injection h1 with h1
    injection h1 with h1
    subst h1 h3
    have hglt := (Array.getElem?_eq_some_iff.1 hg).1
    have hheap : (sortWorldK enc k w g 0 m d os).heap = w.heap.modify g (onCells (putCells id 0 (flatK enc k d))) ++ os := rfl
    have hg' : (sortWorldK enc k w g 0 m d os).heap[g]? = some (.cells (putCells id 0 (flatK enc k d) cur) E (0, 0)) := by
      rw [hheap, Array.getElem?_append_left (by simpa using hglt), Array.getElem?_modify, if_pos rfl, hg]
      rfl
    refine ⟨⟨by simp [hd], by rw [flat_len hk]; simp [hd], .inr ⟨g, c, _, rfl, hlo, hg', hnc, hm, by simp [putCells, hcs], ?_⟩⟩, ⟨rfl, rfl, rfl, by rw [hheap]; simp, fun i hi hne => ?_⟩⟩
    · apply List.ext_getElem?
      intro t
      rw [List.getElem?_take]
      by_cases ht : t < n * k
      · have hdk : t < d.toList.length * k := by simpa [hd] using ht
        rw [if_pos ht, flat_flatK hk d.toList hdk]
        have hc : t < cur.size := by rw [hcs]; exact Nat.lt_of_lt_of_le ht (Nat.mul_le_mul_right k hnc)
        simp only [putCells, Array.getElem?_toList, Array.getElem?_mapIdx, Array.getElem?_eq_getElem hc, Option.map_some, size_flatK, hd]
        rw [if_pos ⟨by omega, by omega⟩]
        simp
      · rw [if_neg ht, List.getElem?_eq_none (by rw [flat_len hk]; simp [hd]; omega)]
    · rw [hheap, Array.getElem?_append_left (by simpa using hi), Array.getElem?_modify, if_neg (fun e => hne (by rw [e]))]
end

end Go.Proofs.YtjplcnbifcpebaaGreatDoor

namespace Go.Proofs.YtjplcnbifcpebaaGreatDoor
open Go.RowKit

def encP (p : Int × Int) : List Value := [.int .i64 p.1, .int .i64 p.2]
theorem encP_len (p : Int × Int) : (encP p).length = 2 := rfl
theorem encP_one (p : Int × Int) : ∀ u ∈ encP p, u.oneCell' = true := fun u hu => by simp [encP] at hu; rcases hu with rfl | rfl <;> rfl
abbrev OwnP (E : TypeId) (w : World) (lo : Nat) (A : Option Addr) (n c : Nat) (xs : List (Int × Int)) : Prop := OwnK encP 2 E w lo A n c xs

theorem flatP_set : ∀ (xs : List (Int × Int)) (i : Nat) (p : Int × Int), i < xs.length → ((xs.flatMap encP).set (i * 2) (.int .i64 p.1)).set (i * 2 + 1) (.int .i64 p.2) = (xs.set i p).flatMap encP
  | [], _, _, h => by simp at h
  | q :: t, 0, p, _ => by simp [encP]
  | q :: t, i + 1, p, h => by
    have ih := flatP_set t i p (by simpa using h)
    rw [List.set_cons_succ, List.flatMap_cons, List.flatMap_cons, ← ih]
    rw [List.set_append_right _ _ (by simp [encP]; omega), List.set_append_right _ _ (by simp [encP]; omega)]
    congr 3
    all_goals simp [encP]; omega
section
variable {E : TypeId} {w : World} {lo g n c : Nat} {xs : List (Int × Int)}
theorem OwnP.stored (h : OwnP E w lo (some ⟨g, 0, none⟩) n c xs) {i : Nat} (hi : i < n) (p : Int × Int) :
    OwnP E ((w.setCell ⟨g, i * 2, none⟩ (.int .i64 p.1)).setCell ⟨g, i * 2 + 1, none⟩ (.int .i64 p.2)) lo (some ⟨g, 0, none⟩) n c (xs.set i p) ∧ w.grownBy ((w.setCell ⟨g, i * 2, none⟩ (.int .i64 p.1)).setCell ⟨g, i * 2 + 1, none⟩ (.int .i64 p.2)) (some g) := by
  obtain ⟨h1, g1⟩ := World.ownsRow.stored h.2 (i * 2) (.int .i64 p.1)
  obtain ⟨h2, g2⟩ := World.ownsRow.stored h1 (i * 2 + 1) (.int .i64 p.2)
  rw [flatP_set xs i p (by rw [h.1]; exact hi)] at h2
  exact ⟨⟨by rw [List.length_set]; exact h.1, h2⟩, grown_next g1 g2⟩
theorem OwnK.cut {α : Type} {enc : α → List Value} {k : Nat} (hk : ∀ x, (enc x).length = k) {xs : List α} (h : OwnK enc k E w lo (some ⟨g, 0, none⟩) n c xs) {m : Nat} (hm : m ≤ n) : OwnK enc k E w lo (some ⟨g, 0, none⟩) m c (xs.take m) := by
  obtain ⟨hl, hx, hr⟩ := h
  have hlm : (xs.take m).length = m := by rw [List.length_take]; omega
  refine ⟨hlm, by rw [flat_len hk, hlm], ?_⟩
  rcases hr with ⟨hv, _⟩ | ⟨g', cap, cur, hv, hlo, hg, hnc, hcm, hcs, htake⟩
  · injection hv with h1; cases h1
  · injection hv with h1 h2 h3
    subst h3
    refine .inr ⟨g', c, cur, by rw [h1], hlo, hg, by omega, hcm, hcs, ?_⟩
    have e : (xs.take m).flatMap enc = (xs.flatMap enc).take (m * k) := by
      have e1 : xs.flatMap enc = (xs.take m).flatMap enc ++ (xs.drop m).flatMap enc := by rw [← List.flatMap_append, List.take_append_drop]
      have e2 : ((xs.take m).flatMap enc).length = m * k := by rw [flat_len hk, hlm]
      rw [e1, ← e2, List.take_left']
      rfl
    rw [e, ← htake, List.take_take, Nat.min_eq_left (Nat.mul_le_mul_right k hm)]
theorem OwnK.cells_behind {α : Type} {enc : α → List Value} {k : Nat} : ∀ (vs : List Value) (o : Nat) {w : World} {xs : List α}, (∀ x, (enc x).length = k) → OwnK enc k E w lo (some ⟨g, 0, none⟩) n c xs → n * k ≤ o →
    OwnK enc k E (w.setCells g o vs) lo (some ⟨g, 0, none⟩) n c xs ∧ w.grownBy (w.setCells g o vs) (some g)
  | [], _, _, _, _, h, _ => ⟨h, grown_refl _ _⟩
  | v :: vs, o, w, xs, hk, h, ho => by
    obtain ⟨h1, g1⟩ := World.ownsRow.stored h.2 o v
    rw [List.set_eq_of_length_le (by rw [flat_len hk, h.1]; exact ho)] at h1
    obtain ⟨h2, g2⟩ := OwnK.cells_behind vs (o + 1) hk ⟨h.1, h1⟩ (by omega)
    exact ⟨h2, grown_next g1 g2⟩
end

/-- 'clear(s)', s a slice of n > 0 pairs. -/
theorem run_clear_pairs {P : Program} (w : World) (t e ty : TypeId) (ht : P.underlying t = some (.slice e)) (hv : ∀ w, (zeroValue e).run P w = .ok (.agg #[.int .i64 0, .int .i64 0]) w) (b o n c : Nat) (hn : 0 < n)
    (hc : ∀ j, j < n * 2 → (w.cell? ⟨b, o + j, none⟩).isSome = true) (hf : ∀ j, j < n * 2 → w.frozen? ⟨b, o + j, none⟩ = false) :
    (Builtin.clear_ #[t] ty #[.slice (some ⟨b, o, none⟩) n c]).run P w = .ok (.tuple #[]) (w.setCells b o (List.replicate (n * 2) (.int .i64 0))) := by
  have hzc : (Builtin.zeroCells (Value.agg #[.int .i64 0, .int .i64 0]).cells n).toList = List.replicate (n * 2) (.int .i64 0) := by
    simp [Builtin.zeroCells, Value.cells]
    apply List.ext_getElem
    · simp
    · intro i h1 h2
      have : i % 2 = 0 ∨ i % 2 = 1 := by omega
      rcases this with h | h <;> simp [h]
  have hst := run_storeCells_cells (P := P) b o (List.replicate (n * 2) (.int .i64 0)) 0 w (by simpa using hc) (by simpa using hf) (by intro v hv'; rw [List.eq_of_mem_replicate hv']; rfl)
  simp only [Nat.add_zero] at hst
  obtain ⟨m, rfl⟩ : ∃ m, n = m + 1 := ⟨n - 1, by omega⟩
  simp [Builtin.clear_, run_underlying ht, hv, hzc, hst]

end Go.Proofs.YtjplcnbifcpebaaGreatDoor

namespace Go.Proofs
open Go.Shelf
def Tryz.sortSpot_ren : Go.Shelf.Ren := ⟨fun | 6 => 68 | 15 => 65 | 14 => 82 | 28 => 79 | 29 => 80 | 20 => 90 | 21 => 91 | 22 => 92 | 23 => 93 | 24 => 94 | 25 => 95 | 26 => 96 | 27 => 97 | 46 => 99 | 47 => 86 | 48 => 87 | 49 => 100 | 50 => 101 | 57 => 102 | n => n, fun | 22 => 85 | 24 => 72 | 25 => 95 | 3 => 3 | 39 => 91 | 0 => 0 | 53 => 105 | 55 => 44 | 4 => 4 | 46 => 100 | 45 => 99 | 50 => 83 | 5 => 5 | 9 => 9 | 66 => 108 | 70 => 112 | 76 => 119 | 77 => 120 | n => n, fun | n => n⟩
theorem Tryz.sortSpot : Go.Proofs.SlLaysF0.n6 Tryz.prog Tryz.sortSpot_ren := {
  mixed := by kernel_rfl
  f6 := ⟨Tryz.f68.name, by decide, Tryz.func68.trans (congrArg some (by kernel_rfl))⟩
  f14 := ⟨Tryz.f82.name, by decide, Tryz.func82.trans (congrArg some (by kernel_rfl))⟩
  f15 := Tryz.func65.trans (congrArg some (by kernel_rfl))
  f20 := ⟨Tryz.f90.name, by decide, Tryz.func90.trans (congrArg some (by kernel_rfl))⟩
  f21 := ⟨Tryz.f91.name, by decide, Tryz.func91.trans (congrArg some (by kernel_rfl))⟩
  f22 := ⟨Tryz.f92.name, by decide, Tryz.func92.trans (congrArg some (by kernel_rfl))⟩
  f23 := ⟨Tryz.f93.name, by decide, Tryz.func93.trans (congrArg some (by kernel_rfl))⟩
  f24 := ⟨Tryz.f94.name, by decide, Tryz.func94.trans (congrArg some (by kernel_rfl))⟩
  f25 := ⟨Tryz.f95.name, by decide, Tryz.func95.trans (congrArg some (by kernel_rfl))⟩
  f26 := ⟨Tryz.f96.name, by decide, Tryz.func96.trans (congrArg some (by kernel_rfl))⟩
  f27 := ⟨Tryz.f97.name, by decide, Tryz.func97.trans (congrArg some (by kernel_rfl))⟩
  f28 := Tryz.func79.trans (congrArg some (by kernel_rfl))
  f29 := Tryz.func80.trans (congrArg some (by kernel_rfl))
  f46 := ⟨Tryz.f99.name, by decide, Tryz.func99.trans (congrArg some (by kernel_rfl))⟩
  f47 := Tryz.func86.trans (congrArg some (by kernel_rfl))
  f48 := Tryz.func87.trans (congrArg some (by kernel_rfl))
  f49 := ⟨Tryz.f100.name, by decide, Tryz.func100.trans (congrArg some (by kernel_rfl))⟩
  f50 := ⟨Tryz.f101.name, by decide, Tryz.func101.trans (congrArg some (by kernel_rfl))⟩
  f57 := ⟨Tryz.f102.name, by decide, Tryz.func102.trans (congrArg some (by kernel_rfl))⟩
  t0 := Tryz.underlying0
  a0 := Tryz.isAgg0
  z0 := Tryz.sizeOf0
  v0 := Tryz.zeroValue0
  t3 := Tryz.underlying3
  a3 := Tryz.isAgg3
  z3 := Tryz.sizeOf3
  v3 := Tryz.zeroValue3
  t4 := Tryz.underlying4
  a4 := Tryz.isAgg4
  z4 := Tryz.sizeOf4
  v4 := Tryz.zeroValue4
  t5 := Tryz.underlying5
  a5 := Tryz.isAgg5
  z5 := Tryz.sizeOf5
  v5 := Tryz.zeroValue5
  t9 := Tryz.underlying9
  a9 := Tryz.isAgg9
  z9 := Tryz.sizeOf9
  v9 := Tryz.zeroValue9
  t22 := Tryz.underlying85
  a22 := Tryz.isAgg85
  z22 := Tryz.sizeOf85
  v22 := Tryz.zeroValue85
  t25 := Tryz.underlying95
  a25 := Tryz.isAgg95
  z25 := Tryz.sizeOf95
  v25 := Tryz.zeroValue95
  t39 := Tryz.underlying91
  a39 := Tryz.isAgg91
  z39 := Tryz.sizeOf91
  v39 := Tryz.zeroValue91
  t45 := Tryz.underlying99
  a45 := Tryz.isAgg99
  z45 := Tryz.sizeOf99
  v45 := Tryz.zeroValue99
  t46 := Tryz.underlying100
  a46 := Tryz.isAgg100
  z46 := Tryz.sizeOf100
  v46 := Tryz.zeroValue100
  t50 := Tryz.underlying83
  a50 := Tryz.isAgg83
  z50 := Tryz.sizeOf83
  v50 := Tryz.zeroValue83
  t53 := Tryz.underlying105
  a53 := Tryz.isAgg105
  z53 := Tryz.sizeOf105
  v53 := Tryz.zeroValue105
  t55 := Tryz.underlying44
  a55 := Tryz.isAgg44
  z55 := Tryz.sizeOf44
  v55 := Tryz.zeroValue44
  t66 := Tryz.underlying108
  a66 := Tryz.isAgg108
  z66 := Tryz.sizeOf108
  v66 := Tryz.zeroValue108
  t70 := Tryz.underlying112
  a70 := Tryz.isAgg112
  z70 := Tryz.sizeOf112
  v70 := Tryz.zeroValue112
  t76 := Tryz.underlying119
  a76 := Tryz.isAgg119
  z76 := Tryz.sizeOf119
  v76 := Tryz.zeroValue119
  t77 := Tryz.underlying120
  a77 := Tryz.isAgg120
  z77 := Tryz.sizeOf120
  v77 := Tryz.zeroValue120 }
end Go.Proofs

namespace Go.Proofs.YtjplcnbifcpebaaGreatDoor
open Go.RowKit

/-- A world with draws and blocks more. -/
def Grown (W w : World) : Prop := ∃ q os, w = Go.Sort.grow (W.drewN q) os
theorem Grown.refl (W : World) : Grown W W := ⟨0, #[], by simp; rfl⟩
theorem Grown.alloc {W w : World} (h : Grown W w) (o : Obj) : Grown W (w.alloc o) := by
  obtain ⟨q, os, rfl⟩ := h
  exact ⟨q, os ++ #[o], by rw [Go.Sort.alloc_eq_grow, Go.Sort.grow_grow]⟩
theorem Grown.drewN {W w : World} (h : Grown W w) (k : Nat) : Grown W (w.drewN k) := by
  obtain ⟨q, os, rfl⟩ := h
  exact ⟨q + k, os, by rw [← World.drewN_drewN]; rfl⟩
theorem Grown.drew1 {W w : World} (h : Grown W w) : Grown W w.drew := h.drewN 1

def cmpP (p q : Int × Int) : Int := if Lib.compareInt p.1 q.1 = 0 then Lib.compareInt p.2 q.2 else Lib.compareInt p.1 q.1

set_option maxHeartbeats 400000 in
theorem or2_any (g : Nat) (u v : Int) (w : World) (h0 : w.cell? ⟨g, 0, none⟩ = some (.int .i64 u)) (h1 : w.cell? ⟨g, 1, none⟩ = some (.int .i64 v)) :
    Calls Tryz.prog 83 #[.slice (some ⟨g, 0, none⟩) 2 2] w fun e w' => e = .returned (.int .i64 (if u = 0 then v else u)) ∧ w = w' := by
  by_cases hu : u = 0
  · subst hu
    by_cases hv : v = 0
    · subst hv
      go_enter Tryz.func83, Tryz.ntmps83
      go_wp2
      go_loop [8] (fun i => ∃ k : Nat, k ≤ 2 ∧ i = .int .i64 k) (fun i => 2 - (intOf i).toNat)
      case atStart => exact ⟨0, by omega, rfl⟩
      case round =>
        obtain ⟨k, hk, rfl⟩ := hrel
        have hk2 : k = 0 ∨ k = 1 ∨ k = 2 := by omega
        rcases hk2 with rfl | rfl | rfl
        · go_wp2
          go_round
          case rel => exact ⟨1, by omega, rfl⟩
          case measure => simp [intOf]
        · go_wp2
          go_round
          case rel => exact ⟨2, by omega, rfl⟩
          case measure => simp [intOf]
        · go_wp2
          go_ret
          exact ⟨rfl, rfl⟩
    · have hv' : (v == 0) = false := by simpa using hv
      have hv2 : (v != 0) = true := by simpa using hv
      go_enter Tryz.func83, Tryz.ntmps83
      go_wp2
      go_loop [8] (fun i => ∃ k : Nat, k ≤ 1 ∧ i = .int .i64 k) (fun i => 2 - (intOf i).toNat)
      case atStart => exact ⟨0, by omega, rfl⟩
      case round =>
        obtain ⟨k, hk, rfl⟩ := hrel
        have hk2 : k = 0 ∨ k = 1 := by omega
        rcases hk2 with rfl | rfl
        · go_wp2
          go_round
          case rel => exact ⟨1, by omega, rfl⟩
          case measure => simp [intOf]
        · go_wp2
          go_ret
          exact ⟨ret_int (by first | rfl | simp), rfl⟩
  · have hu' : (u == 0) = false := by simpa using hu
    have hu2 : (u != 0) = true := by simpa using hu
    go_enter Tryz.func83, Tryz.ntmps83
    go_wp2
    go_loop [8] (fun i => i = .int .i64 ((0 : Nat) : Int)) (fun i => 2 - (intOf i).toNat)
    case atStart => rfl
    case round =>
      obtain rfl := hrel
      go_wp2
      go_ret
      exact ⟨ret_int (by first | rfl | simp [hu]), rfl⟩

def cI (x y : Int) : Int := Lib.compareInt x y
def orI (u v : Int) : Int := if u = 0 then v else u
theorem compI_any (x y : Int) (w : World) : Calls Tryz.prog 84 #[.int .i64 x, .int .i64 y] w fun e w' => e = .returned (.int .i64 (cI x y)) ∧ w = w' :=
  (Tryz.cmp_Compare_int x y w).mono fun _ _ ⟨he, hw⟩ => ⟨he, hw.symm⟩
theorem orI_any (g : Nat) (u v : Int) (w : World) (h0 : w.cell? ⟨g, 0, none⟩ = some (.int .i64 u)) (h1 : w.cell? ⟨g, 1, none⟩ = some (.int .i64 v)) :
    Calls Tryz.prog 83 #[.slice (some ⟨g, 0, none⟩) 2 2] w fun e w' => e = .returned (.int .i64 (orI u v)) ∧ w = w' := or2_any g u v w h0 h1

set_option maxRecDepth 100000 in
set_option maxHeartbeats 1000000 in
theorem compare_any (p q : Int × Int) (W : World) :
    Calls Tryz.prog 69 #[.agg #[.int .i64 p.1, .int .i64 p.2], .agg #[.int .i64 q.1, .int .i64 q.2]] W fun e w' => e = .returned (.int .i64 (cmpP p q)) ∧ Grown W w' := by
  obtain ⟨x, y⟩ := p
  obtain ⟨x2, y2⟩ := q
  have G : Hid (Grown W ((W.alloc (.cells #[.int .i64 x, .int .i64 y] 72)).alloc (.cells #[.int .i64 x2, .int .i64 y2] 72))) := Lib.hid (((Grown.refl W).alloc _).alloc _)
  rw [show cmpP (x, y) (x2, y2) = orI (cI x x2) (cI y y2) from rfl]
  obtain ⟨W2, hW2⟩ : ∃ W2, W2 = (W.alloc (.cells #[.int .i64 x, .int .i64 y] 72)).alloc (.cells #[.int .i64 x2, .int .i64 y2] 72) := ⟨_, rfl⟩
  have a0 : W2.cell? ⟨W.heap.size, 0, none⟩ = some (.int .i64 x) := by rw [hW2]; go_simp
  have a1 : W2.cell? ⟨W.heap.size, 1, none⟩ = some (.int .i64 y) := by rw [hW2]; go_simp
  have b0 : W2.cell? ⟨W.heap.size + 1, 0, none⟩ = some (.int .i64 x2) := by rw [hW2]; go_simp
  have b1 : W2.cell? ⟨W.heap.size + 1, 1, none⟩ = some (.int .i64 y2) := by rw [hW2]; go_simp
  rw [← hW2] at G
  go_enter Tryz.func69, Tryz.ntmps69
  go_wp2
  rw [← hW2]
  have hsz : (W.heap.size + 2) ≤ W2.heap.size := by rw [hW2]; simp
  clear hW2
  have ga : W.heap.size < W2.heap.size := by omega
  have gb : W.heap.size + 1 < W2.heap.size := by omega
  go_region_held3 (fun w' => w'.cell? ⟨W.heap.size, 0, none⟩ = some (.int .i64 x) ∧ w'.cell? ⟨W.heap.size, 1, none⟩ = some (.int .i64 y) ∧ w'.cell? ⟨W.heap.size + 1, 0, none⟩ = some (.int .i64 x2) ∧ w'.cell? ⟨W.heap.size + 1, 1, none⟩ = some (.int .i64 y2)) (first | exact ⟨a0, a1, b0, b1⟩ | (refine ⟨?_, ?_, ?_, ?_⟩ <;> (first | assumption | go_simp)))
    (first
      | (go_at_call 84; (with_reducible refine (compI_any _ _ _).mono ?_); rintro e wv ⟨rfl, rfl⟩)
      | (go_at_call 83; (with_reducible refine (orI_any W2.heap.size (cI x x2) (cI y y2) _ ?_ ?_).mono ?_); (go_simp); (go_simp); rintro e wv ⟨rfl, rfl⟩))
  all_goals go_wp2
  all_goals go_ret
  all_goals (refine ⟨rfl, ?_⟩)
  all_goals (repeat (first | exact G.out | refine Grown.alloc ?_ _ | refine Grown.drewN ?_ _ | refine Grown.drew1 ?_))

end Go.Proofs.YtjplcnbifcpebaaGreatDoor
