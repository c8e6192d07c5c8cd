/-
  Contracts: the ground of a board and a leaper.
  Contracts: DeadEnds.
  From a law's contract to its statement: how the arguments are opened, and what the statement's end asks.
  What the row's condition (the table of math/bits lies as its initialiser laid it) gives the walks; the witness's world.
  What the laws' walks need beside the helpers' contracts.
  Memory words: a map from ints that the call owns, read value by value.
  Memory words: leaps onward, as a map from cells.
  Memory words: a queue of ints: a slice that is cut at its head and appended to.
  Plain functions and facts: distances by a search in width.
  Plain facts: a search in width, cell by cell.
-/
import Derived.Test.YtcfibfbenccimaaGreatDoorBunHTwoColours3
import Derived.Test.YtcfibfbenccimaaGreatDoorBunHTwoColours4
import Derived.Test.YtcfibfbenccimaaGreatDoorBunHTwoColours5
import Derived.Deep.WholeRow
import Derived.Deep.MidRow
import Derived.Deep.Heap
import Derived.Maps.RangeWalk
import Derived.Test.YtcfibfbenccimaaGreatDoorRows
import Derived.Test.YtcfibfbenccimaaGreatDoorBunHTwoColours1
import Derived.ProofKit
import Derived.Lib.SmallJoins
import Derived.Lib.LaidTab
import Derived.LaidMore
import Derived.LaidSub
import Derived.OpenShut
import Derived.MakeChecks
import Derived.Test.YtcfibfbenccimaaGreatDoorBunHTwoColours2
import Derived.Deep.RegionHeld3
import Derived.Maps.Views
import Derived.Maps.OwnOps
import Derived.Deep.RegionLaw
import Derived.Deep.RegionLawGrows
namespace Go.Proofs.YtcfibfbenccimaaGreatDoor
open Go.RowKit Go.Shelf
attribute [local go_sem] Oper.semAt_some

def nearS (W H : Int) (xs : List Int) (a b c : Int) : Nat := setBits ((leapsL W H xs a b c).map Int.toNat)
def allS (W H : Int) (xs : List Int) : Nat := setBits ((cellsL W H xs).map Int.toNat)
def gl (W H : Int) (xs : List Int) (a b : Int) (pre : List Int) : List Nat := allS W H xs :: (List.range 64).map fun c : Nat => if (c : Int) ∈ pre then nearS W H xs a b c else 0
theorem gl_len (W H : Int) (xs : List Int) (a b : Int) (pre : List Int) : (gl W H xs a b pre).length = 65 := by simp [gl]
theorem gl_set {W H a b x : Int} {xs pre : List Int} (h0 : 0 ≤ x) (h1 : x < 64) : (gl W H xs a b pre).set (1 + x.toNat) (nearS W H xs a b x) = gl W H xs a b (pre ++ [x]) := by
  unfold gl
  rw [show 1 + x.toNat = x.toNat + 1 by omega, List.set_cons_succ]
  congr 1
  apply List.ext_getElem?
  intro i
  rw [List.getElem?_set, List.length_map, List.length_range, List.getElem?_map, List.getElem?_map]
  by_cases hi : i < 64
  · rw [List.getElem?_range hi]
    by_cases e : x.toNat = i
    · rw [if_pos e, if_pos (by omega)]
      simp [show (i : Int) = x by omega]
    · rw [if_neg e]
      have : (i : Int) ≠ x := by omega
      simp [this]
  · rw [List.getElem?_eq_none (by simpa using hi)]
    rw [if_neg (by omega)]; rfl
theorem set_bits {l : List Int} (hr : l.Pairwise (· < ·)) (h : ∀ x ∈ l, 0 ≤ x ∧ x < 64) : bitsL (setBits (l.map Int.toNat)) = l := by
  refine rise_unique (bitsL_rise _) hr fun x => ?_
  rw [bitsL_mem, setBits_test _ _ _ rfl, List.mem_map]
  constructor
  · rintro ⟨h0, h1, y, hy, e⟩
    have := h y hy
    have : y = x := by omega
    exact this ▸ hy
  · intro hx
    have := h x hx
    exact ⟨this.1, this.2, x, hx, rfl⟩

theorem zero_ground : Tryz.zeroCells52 = (words (List.replicate 65 0)).toArray := by rfl
theorem gl_nil (W H : Int) (xs : List Int) (a b : Int) : gl W H xs a b [] = allS W H xs :: List.replicate 64 0 := by
  unfold gl
  congr 1
theorem info_ground : (Tryz.prog.info? 52).map (·.size) = some 65 := by kernel_rfl
theorem store_ground (W H : Int) (xs : List Int) (a b : Int) (w : World) :
    (storeCells ⟨w.heap.size, 0, none⟩ (Tryz.zeroCells52.toList.set 0 (.int .u64 (allS W H xs : Nat)))).run Tryz.prog (w.alloc (.cells Tryz.zeroCells52 52)) =
      .ok () (w.alloc (.cells (words (gl W H xs a b [])).toArray 52)) := by
  have h := run_storeCells_new (P := Tryz.prog) w 52 Tryz.zeroCells52 (words (gl W H xs a b [])).toArray (by rw [info_ground]; simp [words, gl]) (by rw [zero_ground]; simp [words, gl]) (all_oneCell_toArray (words_one _))
  rw [zero_ground, gl_nil] at h
  rw [zero_ground, gl_nil]
  exact h

theorem cellsL_rise (W H : Int) (xs : List Int) : (cellsL W H xs).Pairwise (· < ·) := by
  unfold cellsL cellsTo
  refine List.Pairwise.filter _ ?_
  unfold upTo
  rw [List.pairwise_map]
  have h : (List.range (W * H).toNat).Pairwise (· < ·) := List.pairwise_lt_range
  exact h.imp (fun h => by omega)
theorem wpIn_handsQ {P : Program} {n : Nat} {g : Operand} {p q : Tmp} {assign body : Code} {Q : Exit → Act → World → Prop} {a : Act} {w : World} {gf : Nat} {sv : Value}
    (hg : a.eval g = .func (.func gf) #[sv] #[]) (eg : ∀ args w, (callFunc gf args).run P w = .ok (.enter gf args) w)
    {xs : List Int} {T : World → Prop} (hit : Hands P (n - 1) gf sv xs T)
    (I : List Int → World → Prop) (hT : ∀ pre w, I pre w → T w) (hI : OwnFrom w.heap.size I) (h0 : I [] w)
    (hassign : ∀ (l : Nat) (x : Int) (W : World) (K : Act → World → Prop), K { tmps := (a.tmps.setIfInBounds p (.int .i64 x)).setIfInBounds q (.int .i64 x), defers := [] } W →
      assign.wpIn (Fence.wide.inRound l) (n - 1 - 1) P (Exit.then K (fun _ _ _ => False)) { tmps := ((#[p] : Array Tmp).zip #[Value.int .i64 x]).foldl (fun t (p, v) => t.setIfInBounds p v) a.tmps, defers := [] } W)
    (hbody : ∀ (l : Nat) (pre : List Int) (x : Int) (rest : List Int) (W : World), w.heap.size ≤ l → xs = pre ++ x :: rest → I pre W →
      body.wpIn (Fence.wide.inRound l) (n - 1 - 1) P (ownPostG w.heap.size (fun _ _ => True) I (fun _ _ _ => False) (pre ++ [x]) W) { tmps := (a.tmps.setIfInBounds p (.int .i64 x)).setIfInBounds q (.int .i64 x), defers := [] } W)
    (hdone : ∀ (D : Nat) (W : World), w.heap.size ≤ D → I xs W → W.heap[D]? = some (.deferred (some [])) → Q .normal { a with defers := { target := .collected D, args := #[] } :: a.defers } W) :
    (Code.rangeFunc g #[p] assign body).wpIn Fence.wide n P Q a w :=
  wpIn_hands hg eg hit I hT hI h0 (fun x => { tmps := (a.tmps.setIfInBounds p (.int .i64 x)).setIfInBounds q (.int .i64 x), defers := [] }) hassign hbody hdone
/-- The ground's variable in the midst of its filling. -/
def MidG (W3 : World) (g : Nat) (F : List Int → List Nat) (pre : List Int) (W' : World) : Prop :=
  W3.grownBy W' (some g) ∧ W'.heap[g]? = some (.cells (words (F pre)).toArray 52 (0, 0))
theorem midG_own {W3 : World} {g : Nat} {F : List Int → List Nat} (hg : g < W3.heap.size) : OwnFrom W3.heap.size (MidG W3 g F) := by
  intro s W W' row hs hgr hr
  have hne : some g ≠ row := fun e => by have := (hr g e.symm).1; omega
  refine ⟨⟨hgr.os.trans hs.1.os, hgr.tape.trans hs.1.tape, hgr.output.trans hs.1.output, Nat.le_trans hs.1.size hgr.size, fun k hk hkg => ?_⟩, ?_⟩
  · refine (hgr.block k (Nat.lt_of_lt_of_le hk hs.1.size) (fun e => ?_)).trans (hs.1.block k hk hkg)
    have := (hr k e.symm).1
    omega
  · exact (hgr.block g (Array.getElem?_eq_some_iff.1 hs.2).1 hne).trans hs.2

set_option maxRecDepth 100000 in
set_option maxHeartbeats 1000000 in
theorem groundOf_any (W H : Int) (A : Option Addr) (n c : Nat) (xs : List Int) (a b : Int) (w : World) (ha : Rd w A n xs) (hg : goodB W H xs = true) (hl : leaperB a b = true) (hT : Tab64 w) (hgb : 0 < w.heap.size) :
    Calls Tryz.prog 32 #[brd W H A n c, lpr a b] w fun e w' => e = .returned (.agg (words (gl W H xs a b (cellsL W H xs))).toArray) ∧ Below w.heap.size w w' := by
  refine (callsIn_wide (n := 5)).1 ?_
  refine callsIn_of_wp_marks Tryz.func32 rfl trivial ?_ rfl
  simp only [Tryz.ntmps32, List.size_toArray, List.length_cons, List.length_nil, Nat.reduceAdd, Nat.reduceSub, Array.replicate_succ, Array.replicate_zero, List.push_toArray, List.append_toArray, List.nil_append, List.cons_append]
  have HT := Lib.hid hT; have HG := Lib.hid hg; have HLp := Lib.hid hl
  have hb0 : Below w.heap.size w ((((w.alloc (Obj.cells #[Value.int IntKind.i64 W, Value.int IntKind.i64 H, Value.slice A n c] 30)).alloc (Obj.cells #[Value.int IntKind.i64 a, Value.int IntKind.i64 b] 32)).alloc (Obj.cells Tryz.zeroCells52 52))) :=
    (((Below.refl _ _).alloc (Nat.le_refl _) _).alloc (by simp) _).alloc (by simp; omega) _
  clear hT hl
  gi_wp2
  refine ⟨trivial, (callsIn_wide.2 (cellsThere_any W H A n c xs _ (ha.keep hb0) hg)).mono ?_⟩
  rintro e w1 ⟨A', n', c', rfl, ho, hB⟩
  gi_wp2
  have hcl : ∀ x ∈ cellsL W H xs, 0 ≤ x ∧ x < 64 := fun x hx => by
    have h1 := (hasB_iff.1 (cellsL_mem.1 hx)).1
    obtain ⟨hW, hH, _, _⟩ := goodB_iff.1 HG.out
    have := cells_le hW hH
    omega
  refine ⟨trivial, (callsIn_wide.2 (setOf_any A' n' c' _ _ ho.rd hcl)).mono ?_⟩
  rintro e w2 ⟨rfl, hB2⟩
  have hst := store_ground W H xs a b w2
  rw [show allS W H xs = setBits ((cellsL W H xs).map Int.toNat) from rfl] at hst
  obtain ⟨W3, hW3⟩ : ∃ W3, W3 = w2.alloc (.cells (words (gl W H xs a b [])).toArray 52) := ⟨_, rfl⟩
  have hh3 : W3.heap[w2.heap.size]? = some (.cells (words (gl W H xs a b [])).toArray 52 (0, 0)) := by rw [hW3]; exact World.alloc_heap_new _ _
  have hc3 : W3.cell? ⟨w2.heap.size, 0, none⟩ = some (.int .u64 ((setBits ((cellsL W H xs).map Int.toNat) : Nat) : Int)) := by
    rw [cell_of_row _ _ 0 _ _ _ hh3]; simp [words, gl, allS]
  have hs3 : W3.heap.size = w2.heap.size + 1 := by rw [hW3]; simp
  have hb3 : Below w.heap.size w W3 := by
    rw [hW3]
    exact ((hb0.trans (hB.mono hb0.size)).trans (hB2.mono (Nat.le_trans hb0.size hB.size))).alloc (Nat.le_trans hb0.size (Nat.le_trans hB.size hB2.size)) _
  have HGr := Lib.hid (show Below (w.heap.size + 3) _ W3 by
    rw [hW3]
    exact (((hB.trans (hB2.mono hB.size)).alloc (Nat.le_trans hB.size hB2.size) _)).mono (by simp))
  rw [← hW3] at hst
  clear hW3
  have HS := Lib.hid hh3
  clear hh3
  gi_wp2
  have hlt : setBits ((cellsL W H xs).map Int.toNat) < 18446744073709551616 := set_lt hcl
  have hit := each_hands (5 - 1) _ hlt
  rw [set_bits (cellsL_rise W H xs) hcl] at hit
  have hT3 : ∀ pre w', MidG W3 w2.heap.size (gl W H xs a b) pre w' → Tab64 w' := fun pre w' h => HT.out.keep hgb (hb3.grown h.1 hb3.size (fun k e => by cases e; exact Nat.le_trans hb0.size (Nat.le_trans hB.size hB2.size)))
  have hBd : W3.heap[w.heap.size]? = some (.cells #[Value.int IntKind.i64 W, Value.int IntKind.i64 H, Value.slice A n c] 30 (0, 0)) := by
    rw [HGr.out.block w.heap.size (by omega), Below.heap_alloc _ _ _ (by simp; omega), Below.heap_alloc _ _ _ (by simp), World.alloc_heap_new]
  have hLd : W3.heap[w.heap.size + 1]? = some (.cells #[Value.int IntKind.i64 a, Value.int IntKind.i64 b] 32 (0, 0)) := by
    rw [HGr.out.block (w.heap.size + 1) (by omega), Below.heap_alloc _ _ _ (by simp)]
    have h := World.alloc_heap_new (w.alloc (Obj.cells #[Value.int IntKind.i64 W, Value.int IntKind.i64 H, Value.slice A n c] 30)) (Obj.cells #[Value.int IntKind.i64 a, Value.int IntKind.i64 b] 32)
    rw [World.size_alloc] at h
    exact h
  have hRd : W3.heap[w.heap.size + 1 + 1]? = some (.cells Tryz.zeroCells52 52 (0, 0)) := by
    rw [HGr.out.block (w.heap.size + 1 + 1) (by omega)]
    have h := World.alloc_heap_new ((w.alloc (Obj.cells #[Value.int IntKind.i64 W, Value.int IntKind.i64 H, Value.slice A n c] 30)).alloc (Obj.cells #[Value.int IntKind.i64 a, Value.int IntKind.i64 b] 32)) (Obj.cells Tryz.zeroCells52 52)
    rw [World.size_alloc, World.size_alloc] at h
    exact h
  refine wpIn_handsQ (q := 6) rfl (fun args w => by simp [go_sem]) hit (MidG W3 w2.heap.size (gl W H xs a b)) hT3 (midG_own (by omega)) ⟨World.grownBy.refl _ _, HS.out⟩ ?_ ?_ ?_
  · intro l x W' K hK
    clear hst
    gi_wp2
    exact hK
  · intro l pre x rest W' hl hsp hm
    have hx : x ∈ cellsL W H xs := by rw [hsp]; simp
    have hxw := (hasB_iff.1 (cellsL_mem.1 hx)).1
    have hx6 := hcl x hx
    have hgs : W3.heap.size ≤ W'.heap.size := hm.1.size
    have hle : w.heap.size + 3 ≤ w2.heap.size := by have := hb0.size; have := hB.size; have := hB2.size; simp at *; omega
    have hBd' := (hm.1.block _ (by omega) (by simp; omega)).trans hBd
    have hLd' := (hm.1.block (w.heap.size + 1) (by omega) (by simp; omega)).trans hLd
    have b0 : W'.cell? ⟨w.heap.size, 0, none⟩ = some (.int .i64 W) := by rw [cell_of_row _ _ _ _ _ _ hBd']; rfl
    have b1 : W'.cell? ⟨w.heap.size, 1, none⟩ = some (.int .i64 H) := by rw [cell_of_row _ _ _ _ _ _ hBd']; rfl
    have b2 : W'.cell? ⟨w.heap.size, 2, none⟩ = some (.slice A n c) := by rw [cell_of_row _ _ _ _ _ _ hBd']; rfl
    have l0 : W'.cell? ⟨w.heap.size + 1, 0, none⟩ = some (.int .i64 a) := by rw [cell_of_row _ _ _ _ _ _ hLd']; rfl
    have l1 : W'.cell? ⟨w.heap.size + 1, 1, none⟩ = some (.int .i64 b) := by rw [cell_of_row _ _ _ _ _ _ hLd']; rfl
    have hbw : Below w.heap.size w W' := hb3.grown hm.1 hb3.size (fun k e => by cases e; omega)
    have hL := leapCells_any W H A n c xs a b x W' (ha.keep hbw) HG.out HLp.out hxw
    have HC := Lib.hid hcl; have HM := Lib.hid hm; have HSP := Lib.hid hsp
    clear hm hsp hBd hLd hBd' hLd' hst hB hB2 hc3 hit hcl
    gi_wp2
    refine ⟨trivial, (callsIn_wide.2 hL).mono ?_⟩
    rintro e w4 ⟨A4, n4, c4, rfl, ho4, hB4⟩
    have hlb : ∀ y ∈ leapsL W H xs a b x, 0 ≤ y ∧ y < 64 := fun y hy => HC.out y (List.mem_filter.1 hy).1
    clear hL
    have hS := setOf_any A4 n4 c4 _ w4 ho4.rd hlb
    gi_wp2
    refine ⟨trivial, (callsIn_wide.2 hS).mono ?_⟩
    rintro e w5 ⟨rfl, hB5⟩
    clear hS
    have hg5 : w5.heap[w2.heap.size]? = some (.cells (words (gl W H xs a b pre)).toArray 52 (0, 0)) := ((hB4.trans (hB5.mono hB4.size)).block _ (by omega)).trans HM.out.2
    have hcell : w5.cell? ⟨w2.heap.size, 1 + x.toNat, none⟩ = some (.int .u64 (((gl W H xs a b pre).getD (1 + x.toNat) 0 : Nat) : Int)) := by
      rw [cell_of_row _ _ _ _ _ _ hg5, List.getElem?_toArray, words, List.getElem?_map, List.getD_eq_getElem?_getD]
      have hlen : 1 + x.toNat < (gl W H xs a b pre).length := by rw [gl_len]; omega
      rw [List.getElem?_eq_getElem hlen]; rfl
    have hfro : w5.frozen? ⟨w2.heap.size, 1 + x.toNat, none⟩ = false := frozen_of_row _ _ _ _ _ hg5
    have h0x : 0 ≤ x := hx6.1
    have h1x : x < 64 := hx6.2
    have HG5 := Lib.hid hg5
    clear hg5
    gi_wp2
    have hg0 : W'.grownBy w5 none := ⟨hB5.os.trans hB4.os, hB5.tape.trans hB4.tape, hB5.output.trans hB4.output, Nat.le_trans hB4.size hB5.size, fun k hk _ => (hB4.trans (hB5.mono hB4.size)).block k hk⟩
    have hgr5 : W'.grownBy (w5.setCell ⟨w2.heap.size, 1 + x.toNat, none⟩ (.int .u64 ((setBits ((leapsL W H xs a b x).map Int.toNat) : Nat) : Int))) (some w2.heap.size) :=
      (hg0.but _).trans (grown_set _ _ _ _)
    refine ⟨KeepsFrom.of_grownBy hgr5 (fun j e => by cases e; omega), trivial, HM.out.1.trans hgr5, ?_⟩
    rw [heap_set _ HG5.out, ← gl_set h0x h1x]
    simp [words, List.map_set, nearS]
  · intro D W' hD hm hd
    have hgs : W3.heap.size ≤ W'.heap.size := hm.1.size
    have hbw : Below w.heap.size w W' := hb3.grown hm.1 hb3.size (fun k e => by cases e; have := hb0.size; have := hB.size; have := hB2.size; simp at *; omega)
    have hle : w.heap.size + 3 ≤ w2.heap.size := by have := hb0.size; have := hB.size; have := hB2.size; simp at *; omega
    have hRd' := (hm.1.block (w.heap.size + 1 + 1) (by omega) (by simp; omega)).trans hRd
    have hld := run_loadAt_mid (P := Tryz.prog) W' w2.heap.size 0 52 (words (gl W H xs a b (cellsL W H xs))) (.struct _) (fun j v hv => by rw [Nat.zero_add, cell_of_row _ _ _ _ _ _ hm.2]; simpa using hv) rfl rfl (by rw [info_ground]; simp [words, gl])
    have hst2 : (Instr.storeAt 52 (.pointer (some ⟨w.heap.size + 1 + 1, 0, none⟩)) (.agg (words (gl W H xs a b (cellsL W H xs))).toArray)).run Tryz.prog W' = .ok () (W'.setRow (w.heap.size + 1 + 1) (words (gl W H xs a b (cellsL W H xs))).toArray) := by
      simp only [Instr.storeAt, Instr.sureAddr, Sem.run_bind, Sem.run_pure, Result.andThen_ok]
      exact run_storeVar_row _ _ _ _ _ _ hRd' (by rw [info_ground]; simp [words, gl]) (by rw [zero_ground]; simp [words, gl]) (all_oneCell_toArray (words_one _))
    have hh2 := heap_setRow (c' := (words (gl W H xs a b (cellsL W H xs))).toArray) hRd'
    have hg2 := grown_setRow W' (w.heap.size + 1 + 1) (words (gl W H xs a b (cellsL W H xs))).toArray
    have hb4 : Below w.heap.size w (W'.setRow (w.heap.size + 1 + 1) (words (gl W H xs a b (cellsL W H xs))).toArray) := hbw.grown hg2 hbw.size (fun k e => by cases e; omega)
    have hd2 := (hg2.block D (Array.getElem?_eq_some_iff.1 hd).1 (by simp; omega)).trans hd
    generalize W'.setRow (w.heap.size + 1 + 1) (words (gl W H xs a b (cellsL W H xs))).toArray = W4 at hst2 hh2 hg2 hb4 hd2
    clear hm hst hB hB2 hc3 hit hcl hRd hRd' hg2 hbw
    have HH := Lib.hid hh2
    clear hh2
    gi_wp2_with (first | refine wpIn_load_run 52 _ _ _ rfl rfl hld ?_ | refine wpIn_store_run 52 _ _ _ _ rfl rfl rfl hst2 ?_)
    refine ⟨by simp, .inl ⟨_, _, rfl, run_takeDeferred hd2, ?_⟩⟩
    have hne : w.heap.size + 1 + 1 ≠ D := by omega
    refine ⟨_, results_cell_row rfl _ _ _ _ (words (gl W H xs a b (cellsL W H xs))).toArray _ _ rfl ((World.putObj_heap_other hne).trans HH.out) rfl rfl (by rw [info_ground]; simp [words, gl]), rfl, ?_⟩
    exact hb4.grown (grownBy_putObj' W4 D _) hb4.size (fun k e => by cases e; omega)
end Go.Proofs.YtcfibfbenccimaaGreatDoor

namespace Go.Proofs.YtcfibfbenccimaaGreatDoor
open Go.RowKit Go.Shelf
attribute [local go_sem] Oper.semAt_some

theorem isOnE_any (W H : Int) (A : Option Addr) (n c : Nat) (xs : List Int) (a b : Int) (w : World) (ha : Rd w A n xs) :
    Calls Tryz.prog 31 #[brd W H A n c, lpr a b, .slice none 0 0] w fun e w' => e = .returned (.bool (twoV W H xs a b)) ∧ Below w.heap.size w w' := by
  have h := isLeaperOnK_any W H A n c xs a b none 0 0 [] w ha (Rd.nil w none)
  rw [show onK W H xs a b [] = twoV W H xs a b by simp [onK]] at h
  exact h
theorem two_lp {W H a b : Int} {xs : List Int} (h : twoV W H xs a b = true) : leaperB a b = true := by simp only [twoV, Bool.and_eq_true] at h; exact h.2
def deadB (W H : Int) (xs : List Int) (a b c : Int) : Bool := decide ((leapsL W H xs a b c).length ≤ 1)
def deadL (W H : Int) (xs : List Int) (a b : Int) : List Int := (cellsL W H xs).filter (deadB W H xs a b)
def deadV (W H : Int) (xs : List Int) (a b : Int) : List Int := if twoV W H xs a b then deadL W H xs a b else []

theorem wpListIn_app1 {F : Fence} {nF : Nat} {P : Program} {w : World} {ops : Array Oper} {rest : List Oper} {o : Oper} {a : Act} {Q : Exit → Act → World → Prop} (hgd : o.guard = none) (s x : Operand) (T E : TypeId)
    (ho : o.op = .call { callee := .builtin .append, args := #[s, x], argTypes := #[T, T] }) (i0 : TypeInfo)
    (hT : P.underlying T = some (.slice E)) (hi : P.info? E = some i0) (hz0 : i0.zero = some (.int .i64 0)) (hz1 : i0.size = 1) (hz2 : i0.bytes = 8)
    (lo : Nat) (A : Option Addr) (n c : Nat) (xs : List Int) (q : Int) (hs : a.eval s = .slice A n c) (hown : OwnI E w lo A n c xs) (hx : a.eval x = .slice (some ⟨w.heap.size, 0, none⟩) 1 1)
    (hn : n ≤ 1000000) (hlo : lo ≤ w.heap.size)
    (h : ∀ A' c' w', OwnI E w' lo A' (n + 1) c' (xs ++ [q]) → Below lo w w' → KeepsFrom lo w w' → wpListIn F nF P ops Q rest (a.put o.dst (.slice A' (n + 1) c')) w') :
    wpListIn F nF P ops Q (o :: rest) a (w.alloc (.cells #[.int .i64 q] E)) := by
  refine wpListIn_append_own (w.alloc (.cells #[.int .i64 q] E)) hgd s x T ho lo E i0 (.int .i64 0) 1 8 hT hi hz0 hz1 hz2 rfl (by decide) (.slice A n c) n (xs.map (Value.int .i64)) hs (World.ownsRow.alloc hown _)
    ⟨w.heap.size, 0, none⟩ 1 1 [.int .i64 q] hx rfl ?_ ?_ (by unfold maxLen; omega) (by omega) (by simp; omega) ?_
  · intro j u hj
    match j, hj with
    | 0, hj =>
      simp at hj; subst hj
      exact cell_of_row (w.alloc (.cells #[.int .i64 q] E)) w.heap.size 0 #[.int .i64 q] E (0, 0) (World.alloc_heap_new w _)
  · intro u hu; simp at hu; subst hu; rfl
  · intro v' w' hown' hgrow _
    have e : xs.map (Value.int .i64) ++ [.int .i64 q] = (xs ++ [q]).map (Value.int .i64) := by simp
    rw [e] at hown'
    obtain ⟨A', c', rfl, hO⟩ := own_form hown'
    have hb : Below lo w (w.alloc (.cells #[.int .i64 q] E)) := (Below.refl _ _).alloc hlo _
    refine h A' c' w' hO (hb.grown hgrow (by simp; omega) (fun k hk => (World.ownsRow.lt hown k hk).1)) ⟨Nat.le_trans (by simp) hgrow.size, fun k o hk ho hc => ?_⟩
    have hlt := (Array.getElem?_eq_some_iff.1 ho).1
    refine ((hgrow.block k (by simp; omega) (fun e => ?_)).trans (Below.heap_alloc w _ k hlt)).trans ho
    rcases hown.2 with ⟨e1, _⟩ | ⟨g, cap, cur, e1, _, e2, _⟩
    · rw [e1] at e; cases e
    · rw [e1] at e
      have : k = g := by simpa [Value.ownBlock] using e
      rw [this, e2] at ho
      cases ho
      cases hc

/-- The ends that have been found when the cells of pre have been looked at. -/
def EndsG (w Wb : World) (gb q : Nat) (C : Array Value) (p : Int → Bool) (pre : List Int) (W' : World) : Prop :=
  Below w.heap.size w W' ∧ Wb.heap.size ≤ W'.heap.size ∧ W'.heap[gb]? = some (.cells C 52 (0, 0)) ∧
    ∃ A n c, W'.heap[q]? = some (.cells #[.slice A n c] 22 (0, 0)) ∧ OwnI 3 W' Wb.heap.size A n c (pre.filter p)
theorem endsG_own {w Wb : World} {gb q : Nat} {C : Array Value} {p : Int → Bool} (hg : gb < Wb.heap.size) (hq : q < Wb.heap.size) (hw : w.heap.size ≤ Wb.heap.size) : OwnFrom Wb.heap.size (EndsG w Wb gb q C p) := by
  rintro s W1 W2 row ⟨hb, hs, hc, A, n, c, hqq, ho⟩ hgr hr
  have hne : ∀ k, k < Wb.heap.size → some k ≠ row := fun k hk e => by have := (hr k e.symm).1; omega
  refine ⟨hb.grown hgr (Nat.le_trans hw hs) (fun k e => Nat.le_trans hw (hr k e).1), Nat.le_trans hs hgr.size, (hgr.block gb (by omega) (hne _ hg)).trans hc, A, n, c, (hgr.block q (by omega) (hne _ hq)).trans hqq, ho.other hgr ?_⟩
  intro ad e er
  obtain ⟨_, ob, h1, h2⟩ := hr _ er.symm
  rcases ho.2 with ⟨e1, _⟩ | ⟨g, cap, cur, e1, _, e2, _⟩
  · rw [e] at e1; cases e1
  · rw [e] at e1
    have : ad = ⟨g, 0, none⟩ := by injection e1 with e3; injection e3
    rw [this, e2] at h1
    cases h1
    cases h2
theorem own_ne {E : TypeId} {w : World} {lo n c r : Nat} {A : Option Addr} {xs : List Int} {o : Obj} (ho : OwnI E w lo A n c xs) (h : w.heap[r]? = some o) (hc : o.isCells = false) : ∀ ad, A = some ad → some ad.block ≠ some r := by
  intro ad e er
  rcases ho.2 with ⟨e1, _⟩ | ⟨g, cap, cur, e1, _, e2, _⟩
  · rw [e] at e1; cases e1
  · rw [e] at e1
    have e5 : ad = ⟨g, 0, none⟩ := by injection e1 with e3; injection e3
    have e6 : g = r := by rw [e5] at er; simpa using er
    rw [e6, h] at e2
    injection e2 with e7
    rw [e7] at hc
    cases hc
theorem gl_get {W H a b x : Int} {xs pre : List Int} (h0 : 0 ≤ x) (h1 : x < 64) (hx : x ∈ pre) : (words (gl W H xs a b pre)).toArray[1 + x.toNat]? = some (.int .u64 ((nearS W H xs a b x : Nat) : Int)) := by
  rw [List.getElem?_toArray, words, List.getElem?_map, gl, show 1 + x.toNat = x.toNat + 1 by omega, List.getElem?_cons_succ, List.getElem?_map, List.getElem?_range (by omega)]
  simp [show ((x.toNat : Nat) : Int) = x by omega, hx]
theorem leaps_pop {W H a b x : Int} {xs : List Int} (h : ∀ y ∈ leapsL W H xs a b x, 0 ≤ y ∧ y < 64) : popN 64 (nearS W H xs a b x) = (leapsL W H xs a b x).length :=
  (pop_walk h).2 (((cellsL_rise W H xs).filter _).imp (fun h => by omega))

end Go.Proofs.YtcfibfbenccimaaGreatDoor

namespace Go.Proofs.YtcfibfbenccimaaGreatDoor
open Go.ChangeShapes Go.WideShapes Go.ChangeAt Go.RowKit Go.Joins
set_option linter.unusedVariables false

theorem own : ownKnob Tryz.prog.godebug = none := by kernel_rfl
theorem laidOut : laidOutB Tryz.prog = true := by kernel_rfl
theorem rkI : Tryz.prog.cellsOf 3 = 1 := by kernel_rfl
theorem rkL : Tryz.prog.cellsOf 26 = 2 := by kernel_rfl
theorem rkB : Tryz.prog.cellsOf 24 = 3 := by kernel_rfl

theorem okT_I : Tryz.prog.readableRec 3 = true ∧ 3 < Tryz.prog.types.size := ⟨by kernel_rfl, of_decide_eq_true (by kernel_rfl)⟩
theorem okT_L : Tryz.prog.readableRec 26 = true ∧ 26 < Tryz.prog.types.size := ⟨by kernel_rfl, of_decide_eq_true (by kernel_rfl)⟩
theorem okT_B : Tryz.prog.readableRec 24 = true ∧ 24 < Tryz.prog.types.size := ⟨by kernel_rfl, of_decide_eq_true (by kernel_rfl)⟩
theorem okT_P : Tryz.prog.readableRec 22 = true ∧ 22 < Tryz.prog.types.size := ⟨by kernel_rfl, of_decide_eq_true (by kernel_rfl)⟩
theorem okT_S : Tryz.prog.readableRec 9 = true ∧ 9 < Tryz.prog.types.size := ⟨by kernel_rfl, of_decide_eq_true (by kernel_rfl)⟩

/-! ### The closed facts of the program, once for all laws -/
theorem pf_laid : laidOutB Tryz.pinned.checked.prog = true := laidOut
theorem pf_maps : mapsRowed Tryz.pinned.checked.prog = true := by kernel_rfl
theorem pf_stops : (Tryz.pinned.checked.prog.stops == []) = true := by kernel_rfl
theorem pf_knobs : (Tryz.pinned.checked.prog.stopKnobs == []) = true := by kernel_rfl
theorem pf_heard : Tryz.pinned.checked.prog.stopsHeard = true := by kernel_rfl
theorem pf_plain : (true == Tryz.pinned.checked.prog.plainKeys) = true := by kernel_rfl
theorem pf_later : Tryz.pinned.checked.prog.laysLater = false := by kernel_rfl
theorem pf_reflect : Tryz.pinned.checked.prog.bearsReflect = false := by kernel_rfl
theorem pf_door : Tryz.pinned.checked.prog.doorFits [] = true := by kernel_rfl
/-- The signs of the dump's head, as numbers: so the kernel reads it once, and quickly. -/
def headNats : List Nat := [104, 97, 114, 110, 101, 115, 115, 32, 50, 101, 50, 56, 51, 97, 97, 98, 52, 101, 101, 52, 56, 49, 53, 52, 99, 50, 54, 100, 53, 97, 57, 49, 49, 48, 50, 101, 98,
  97, 50, 99, 49, 101, 57, 100, 50, 101, 100, 57, 57, 48, 48, 55, 57, 100, 54, 102, 97, 49, 48, 48, 97, 57, 56, 97, 98, 101, 51, 52, 48, 100, 102, 57, 32, 99, 117,
  116, 32, 97, 116, 32, 108, 111, 111, 112, 46, 101, 120, 97, 109, 112, 108, 101, 47, 103, 48, 49, 50, 51, 57, 47, 108, 97, 119, 115, 46, 70, 110, 69, 120, 97, 99,
  116, 73, 115, 80, 97, 105, 110, 116, 105, 110, 103, 32, 108, 111, 111, 112, 46, 101, 120, 97, 109, 112, 108, 101, 47, 103, 48, 49, 50, 51, 57, 47, 108, 97, 119,
  115, 46, 70, 110, 69, 120, 97, 99, 116, 71, 117, 97, 114, 100, 101, 100, 66, 121, 32, 108, 111, 111, 112, 46, 101, 120, 97, 109, 112, 108, 101, 47, 103, 48, 49,
  50, 51, 57, 47, 108, 97, 119, 115, 46, 70, 110, 69, 120, 97, 99, 116, 65, 114, 101, 71, 117, 97, 114, 100, 115, 32, 108, 111, 111, 112, 46, 101, 120, 97, 109,
  112, 108, 101, 47, 103, 48, 49, 50, 51, 57, 47, 108, 97, 119, 115, 46, 70, 110, 69, 120, 97, 99, 116, 70, 105, 108, 108, 80, 101, 97, 99, 101, 102, 117, 108, 32,
  108, 111, 111, 112, 46, 101, 120, 97, 109, 112, 108, 101, 47, 103, 48, 49, 50, 51, 57, 47, 108, 97, 119, 115, 46, 70, 110, 69, 120, 97, 99, 116, 84, 119, 111,
  67, 111, 108, 111, 117, 114, 115]
set_option maxRecDepth 100000 in
theorem head_eq : Tryz.pinned.checked.prog.initOrder = String.ofList (headNats.map Char.ofNat) := by kernel_rfl
theorem head_list : Tryz.pinned.checked.prog.initOrder.toList = headNats.map Char.ofNat := by rw [head_eq, String.toList_ofList]
theorem pf_head : (behindMainWord (wordsSigns (headNats.map Char.ofNat))).head? = some "cut".toList := by kernel_rfl
theorem strip_cut (rest : List (List Char)) : stripLifts liftWords ("cut".toList :: rest) = ([], "cut".toList :: rest) := by kernel_rfl
/-- A head that opens with the one word, over whatever program. -/
theorem enter_of {P : Program} {L : List Char} {rest : List (List Char)} (h1 : P.initOrder.toList = L) (h2 : behindMainWord (wordsSigns L) = "cut".toList :: rest)
    (ha : P.laysLater = false) (hb : P.bearsReflect = false) (hc : P.doorFits [] = true) : P.mayEnter = true := by
  unfold Program.mayEnter
  rw [h1, h2]
  simp only [strip_cut, ha, hb, hc]
  simp
theorem final_of {P : Program} {L : List Char} {rest : List (List Char)} (h1 : P.initOrder.toList = L) (h2 : behindMainWord (wordsSigns L) = "cut".toList :: rest) : P.liftsFinal = false := by
  unfold Program.liftsFinal Program.headLifts
  rw [h1, h2]
  simp only [strip_cut]
  simp
theorem make_of {P : Program} {L : List Char} {rest : List (List Char)} (h1 : P.initOrder.toList = L) (h2 : behindMainWord (wordsSigns L) = "cut".toList :: rest) : P.make = some .cut := by
  unfold Program.make
  rw [h1, h2]
  simp
theorem pf_make : Tryz.pinned.checked.prog.make = some .cut := by
  obtain ⟨rest, hr⟩ := List.head?_eq_some_iff.1 pf_head
  exact make_of head_list hr
theorem pf_enter : Tryz.pinned.checked.prog.mayEnter = true := by
  obtain ⟨rest, hr⟩ := List.head?_eq_some_iff.1 pf_head
  exact enter_of head_list hr pf_later pf_reflect pf_door
theorem pf_final : Tryz.pinned.checked.prog.liftsFinal = false := by
  obtain ⟨rest, hr⟩ := List.head?_eq_some_iff.1 pf_head
  exact final_of head_list hr

/-- The closed facts of a law, one by one. -/
theorem joined_of {P : Program} {f : FuncId} {fn : Func} {s : ChangeSpec} {c : OpenClaim}
    (a1 : c.wf (OpenSpec.ofChange s) = true) (a2 : laidOutB P = true) (a3 : mapsRowed P = true) (a4 : fn.params.all (P.readableRec ·) = true) (a5 : namedTie P c.named s.vars = true)
    (a6 : (c.stops == []) = true) (a7 : (P.stops == []) = true) (a8 : (c.knobs == []) = true) (a9 : (P.stopKnobs == []) = true)
    (b1 : (c.inPlace == P.inPlace f) = true) (b2 : (c.unfollowed == P.unfollowed f) = true) (b3 : (c.recurses == P.recurses f) = true) (b4 : (c.named == P.varsNamed f) = true)
    (c1 : (c.maps == (fn.params.toList ++ s.plain.varTypes P).any (P.mapsRec ·)) = true) (c2 : (c.ifaces == (fn.params.toList ++ s.plain.varTypes P).any (P.ifacesRec ·)) = true) (c3 : (c.mapsOut == P.mapsAmong fn.resultTypes.toList) = true)
    (c4 : (c.loops == (fn.params.toList ++ s.plain.varTypes P).any (P.loopsFrom ·)) = true) (c5 : (c.wideKeys == (fn.params.toList ++ s.plain.varTypes P ++ fn.resultTypes.toList).any (P.wideKeysFrom ·)) = true)
    (c6 : s.vars.all (P.varReadable ·) = true) (c7 : fn.resultTypes.all (fun t => P.readableRec t && decide (t < P.types.size)) = true) (c8 : (c.ifacesOut == fn.resultTypes.toList.any (P.ifacesRec ·)) = true) (c9 : (c.loopsOut == fn.resultTypes.toList.any (P.loopsFrom ·)) = true)
    (d1 : (c.plainKeys == P.plainKeys) = true) (d2 : c.shortTexts.isNone = true) (d3 : P.stopsHeard = true) (d4 : P.mayEnter = true) (d5 : P.liftsFinal = false) (d6 : c.lifted = false) (d7 : P.make = some .cut) (d7' : c.make = .cut)
    (d8 : c.kinds = []) (d0 : c.domain = []) (d9 : (c.pinned == c.pinnedBy) = true)
    (e1 : (c.veiled == (fn.params.toList ++ s.plain.varTypes P ++ fn.resultTypes.toList).any (P.veiledRec ·)) = true) (e2 : c.veiledFits P fn.params.toList (fn.params.toList ++ s.plain.varTypes P ++ fn.resultTypes.toList) = true) :
    joinedFacts P f fn s c = true := by
  unfold joinedFacts
  rw [a1, a2, a3, a4, a5, a6, a7, a8, a9, b1, b2, b3, b4, c1, c2, c3, c4, c5, c6, c7, c8, c9, d1, d2, d3, d4, d5, d6, d7, d7', d8, d0, d9, e1, e2]
  rfl

section
variable {H : Type} {enc : TypeId × Value → H}

set_option maxRecDepth 100000 in
/-- All arguments read behind the call as they read before it, one after the other. -/
theorem trodAll_below {W W' : World} (hb : Below W.heap.size W W') : ∀ (ts : List TypeId) (vs : List Value) (ds : List (DataW H)) (ps : List MemPlace),
    (∀ t ∈ ts, Tryz.prog.readableRec t = true ∧ t < Tryz.prog.types.size) → (∀ x ∈ ps, x.block < W.heap.size) →
    DataW.TrodAll enc Tryz.prog W 0 (fun _ => true) true ts vs ds ps → DataW.TrodAll enc Tryz.prog W' 0 (fun b => decide (b < W.heap.size)) true ts vs ds ps
  | [], vs, ds, ps, _, _, h => by
    obtain ⟨rfl, rfl, rfl⟩ := trodAll_nil h
    exact trodAll_mk0
  | t :: ts, vs, ds, ps, ht, hp, h => by
    obtain ⟨v, vs', d, ds', p, q, rfl, rfl, rfl, h0, r0⟩ := trodAll_cons h
    have h1 := ht t (List.mem_cons_self)
    exact trodAll_cons_mk (Below.trod laidOut h1.1 h1.2 h0 hb (fun x hx => hp x (by simp [hx])))
      (trodAll_below hb ts vs' ds' q (fun t' h' => ht t' (List.mem_cons_of_mem _ h')) (fun x hx => hp x (by simp [hx])) r0)

set_option maxRecDepth 100000 in
/-- A slice of ints that came in reads as a list. -/
theorem open_trod_row {W : World} {base fuel : Nat} {v : Value} {y : DataW H × List MemPlace} (h : DataW.trod enc Tryz.prog W base (fun _ => true) true fuel 22 [v] = some y) (hlt : ∀ x ∈ y.2, x.block < W.heap.size) :
    ∃ A n c xs, v = .slice A n c ∧ Rd W A n xs := by
  rcases open_ints Tryz.underlying22 Tryz.underlying3 rkI h with ⟨hcs, hx⟩ | ⟨a, len, cap, zs, hcs, _, hl, hm, hz, hx, hcell, hwz⟩
  · injection hcs with hv _
    exact ⟨none, 0, 0, [], hv, Rd.nil _ _⟩
  · injection hcs with hv _
    have hz' : zs.length = cap := by simpa using hz
    refine ⟨some a, len, cap, zs.take len, hv, by rw [List.length_take]; omega, by unfold maxLen at hm; omega, fun k hk => ?_⟩
    have hck := hcell k (by omega)
    obtain ⟨b, off, spot⟩ := a
    have hspot : spot = none := by simpa [Addr.add] using World.cell?_spot (hcell 0 (by omega))
    subst hspot
    have hbW : b < W.heap.size := hlt (.cell b off) (by rw [hx]; exact MemPlace.mem_row.2 ⟨0, by omega, by simp⟩)
    refine ⟨b, off, zs.getD k 0, rfl, hbW, ?_, ?_⟩
    · rw [List.getElem?_take, if_pos hk, List.getD_eq_getElem?_getD, List.getElem?_eq_getElem (by omega)]; rfl
    · rw [← add_plain]; exact hck

set_option maxRecDepth 100000 in
theorem open_row {W : World} {base : Nat} {v : Value} {d : DataW H} {p : List MemPlace} {r : Reach} {b0 : Nat} (hv : Value.okWide Tryz.prog W r b0 22 v) (h : DataW.Trod enc Tryz.prog W base (fun _ => true) true 22 v d p) (hlt : ∀ x ∈ p, x.block < W.heap.size) :
    ∃ A n c xs, v = .slice A n c ∧ Rd W A n xs := by
  obtain ⟨a0, len, cap, hv'⟩ := okWide_slice Tryz.underlying22 hv
  obtain ⟨fuel, hf⟩ := h
  rw [hv'] at hf ⊢
  exact open_trod_row hf hlt

set_option maxRecDepth 100000 in
theorem open_leaper {W : World} {base : Nat} {v : Value} {d : DataW H} {p : List MemPlace} {r : Reach} {b0 : Nat} (hv : Value.okWide Tryz.prog W r b0 26 v) (h : DataW.Trod enc Tryz.prog W base (fun _ => true) true 26 v d p) :
    ∃ a b, v = lpr a b := by
  obtain ⟨c0, c1, y0, y1, m, hv', _, _, hy0, hy1⟩ := open_agg2 Tryz.underlying26 (by kernel_rfl) rkL hv h
  obtain ⟨a, e0, _, _⟩ := DataW.trod_int Tryz.underlying3 hy0
  obtain ⟨b, e1, _, _⟩ := DataW.trod_int Tryz.underlying3 hy1
  injection e0 with e0 _
  injection e1 with e1 _
  exact ⟨a, b, by rw [hv', e0, e1]⟩

set_option maxRecDepth 100000 in
theorem open_board {W : World} {base : Nat} {v : Value} {d : DataW H} {p : List MemPlace} {r : Reach} {b0 : Nat} (hv : Value.okWide Tryz.prog W r b0 24 v) (h : DataW.Trod enc Tryz.prog W base (fun _ => true) true 24 v d p) (hlt : ∀ x ∈ p, x.block < W.heap.size) :
    ∃ V G A n c xs, v = brd V G A n c ∧ Rd W A n xs := by
  obtain ⟨c0, c1, c2, y0, y1, y2, m, hv', _, hp, hy0, hy1, hy2⟩ := open_agg3 Tryz.underlying24 (by kernel_rfl) rkB hv h
  obtain ⟨a, e0, _, _⟩ := DataW.trod_int Tryz.underlying3 hy0
  obtain ⟨b, e1, _, _⟩ := DataW.trod_int Tryz.underlying3 hy1
  injection e0 with e0 _
  injection e1 with e1 _
  obtain ⟨A, n, c, xs, e2, hr⟩ := open_trod_row hy2 (fun x hx => hlt x (by rw [hp]; simp [hx]))
  exact ⟨a, b, A, n, c, xs, by rw [hv', e0, e1, e2], hr⟩

set_option maxRecDepth 100000 in
/-- The statement's end: the law has answered true, and nothing that was there has turned. -/
theorem law_post {f : Func} {s : ChangeSpec} {W W' : World} {args : Array Value} {ds : List (DataW H)} {before : List MemPlace} (hf : f.resultTypes = #[4])
    (hps : ∀ t ∈ f.params.toList, Tryz.prog.readableRec t = true ∧ t < Tryz.prog.types.size)
    (hW : DataW.Whole enc Tryz.prog f.params.toList s.vars false W args.toList ds [] before)
    (hA : DataW.TrodAll enc Tryz.prog W 0 (fun _ => true) true f.params.toList args.toList ds before)
    (hr : (s.fn H (ds ++ [])).results = [.lit (.bool true)]) (ha : (s.fn H (ds ++ [])).args = ds) (hv : (s.fn H (ds ++ [])).vars = []) (hsv : s.vars = [])
    (hb : Below W.heap.size W W') : s.post enc Tryz.prog f false true false false W args (.bool true) W' := by
  refine ⟨_, _, _, [], before, [], hW, ?_, ?_, ?_, hb.frame _, fun h => by cases h⟩
  · rw [hf, hr]; exact trodAll_mk1 (shut_bool Tryz.underlying4 _)
  · rw [ha]; exact trodAll_below hb _ _ _ _ hps (fun x hx => by simpa using hW.lt x hx) hA
  · rw [hv, hsv]; rfl

end
end Go.Proofs.YtcfibfbenccimaaGreatDoor

namespace Go.Proofs.YtcfibfbenccimaaGreatDoor
open Go.ChangeShapes Go.WideShapes Go.ChangeAt Go.RowKit

abbrev laidTab {H : Type} : List (String × DataW H) := [("math/bits.deBruijn64tab", Rows.laid_math_bits_deBruijn64tab)]
theorem tab_name : Tryz.prog.globalNamed "math/bits.deBruijn64tab" = some 0 := by kernel_rfl
theorem tab_type : (Tryz.prog.globals[0]?).map (·.type) = some (Tryz.tz64_ren.t 54) := by kernel_rfl
theorem tab_under : Tryz.prog.underlying (Tryz.tz64_ren.t 54) = some (.array 64 (Tryz.tz64_ren.t 5)) := Tryz.tz64.t54
theorem tab_elem : Tryz.prog.underlying (Tryz.tz64_ren.t 5) = some (.int .u8) := Tryz.tz64.t5
theorem tab_cells : Tryz.prog.cellsOf (Tryz.tz64_ren.t 54) = 64 := by kernel_rfl
theorem tab_one : Tryz.prog.cellsOf (Tryz.tz64_ren.t 5) = 1 := by kernel_rfl
theorem tab_datum : (Rows.laid_math_bits_deBruijn64tab : DataW Unit) = Lib.tabData .u8 (Lib.deBruijn64tab.map fun n : Nat => (n : Int)) := by kernel_rfl
theorem tab_of_laid {W : World} (h : laidMetH Tryz.prog laidTab W) : Tab64 W ∧ 0 < W.heap.size := by
  rw [MakeChecks.laidMetH_plain _ _ _ (by kernel_rfl), laidTab, tab_datum] at h
  have hT := Lib.tabIs_of_head tab_name tab_type tab_under tab_elem tab_one tab_cells h
  have hc : Tab64 W := by
    intro j hj
    have := hT.cell tab_name j (by simpa using hj)
    rw [this]
    simp [List.getD_eq_getElem?_getD, List.getElem?_map, List.getElem?_eq_getElem hj]
  exact ⟨hc, World.block_lt_of_cell? _ _ (hc 0 (by decide))⟩
set_option maxRecDepth 100000 in
/-- The door's own heap meets the condition. -/
theorem door_met (os : Os) (args : Array Value) : laidMetH Tryz.prog laidTab ((World.doorLaid Tryz.prog 400 os).forCall (fun _ _ => 0) ⟨#[], args, []⟩).memory :=
  laidMetH_of_parts3 (fuel := 8) (laidMet_of_run' 8 (by kernel_rfl) (by kernel_rfl)) (by kernel_rfl) (by kernel_rfl)
end Go.Proofs.YtcfibfbenccimaaGreatDoor

namespace Go.Proofs.YtcfibfbenccimaaGreatDoor
open Go.RowKit

theorem OwnI.span {E : TypeId} {w : World} {lo : Nat} {A : Option Addr} {n c : Nat} {xs : List Int} (h : OwnI E w lo A n c xs) : ∀ a, A = some a → lo ≤ a.block ∧ a.block < w.heap.size := by
  intro a ha
  rcases h.form with ⟨h0, _⟩ | ⟨g, h1, h2, h3, _⟩
  · rw [h0] at ha; cases ha
  · rw [h1] at ha; injection ha with ha; subst ha; exact ⟨h2, h3⟩
theorem row_ne {A : Option Addr} {β : Nat} (h : ∀ a, A = some a → β ≠ a.block) : some β ≠ rowOf A := by
  cases A with
  | none => simp [rowOf]
  | some a => have := h a rfl; simp [rowOf]; exact this
theorem cell_mark {w w' : World} {b i : Nat} {v : Value} {row : Option Nat} (h : w.cell? ⟨b, i, none⟩ = some v) (hg : w.grownBy w' row) (hne : some b ≠ row) : w'.cell? ⟨b, i, none⟩ = some v := hg.cell h hne
theorem row_ge {A : Option Addr} {β : Nat} (h : ∀ a, A = some a → β ≤ a.block) : ∀ k, rowOf A = some k → β ≤ k := by
  intro k hk
  cases A with
  | none => simp [rowOf] at hk
  | some a => have := h a rfl; simp [rowOf] at hk; omega
theorem World.lt_alloc (w : World) (o : Obj) : w.heap.size + 1 ≤ (w.alloc o).heap.size := by simp
theorem World.le_alloc (w : World) (o : Obj) : w.heap.size ≤ (w.alloc o).heap.size := by simp

end Go.Proofs.YtcfibfbenccimaaGreatDoor

namespace Go.Proofs.YtcfibfbenccimaaGreatDoor
open Go.RowKit Go.Maps

/-- An element reads as itself. -/
def rawR (v : Value) : Option (DataW Value × List MemPlace) := some (.held v, [])
/-- Block b of w is a map from ints with at most n entries; under x it gives f x (z: what it gives where there is no entry). -/
def MapI (P : Program) (k : TypeId) (w : World) (b n : Nat) (z : Value) (f : Int → Value) : Prop :=
  ∃ D : DataW Value, w.ownsMap P k rawR b n D ∧ IsMap D ∧ ∀ x, D.atKey (.int .i64 x) (.held z) = .held (f x)

section
variable {P : Program} {k e t : TypeId} {w w' : World} {b n : Nat} {z : Value} {f : Int → Value}
theorem MapI.made (P : Program) (k : TypeId) (w : World) (z : Value) : MapI P k (w.alloc (.map #[] 0)) w.heap.size 0 z (fun _ => z) :=
  ⟨_, World.ownsMap_made _ _ _ _, isMap_empty, fun _ => rfl⟩
theorem MapI.lt (h : MapI P k w b n z f) : b < w.heap.size := by obtain ⟨D, h, _⟩ := h; exact h.lt
theorem MapI.other {row : Option Nat} (h : MapI P k w b n z f) (hg : w.grownBy w' row) (hne : some b ≠ row) : MapI P k w' b n z f := by
  obtain ⟨D, h1, h2, h3⟩ := h
  exact ⟨D, h1.kept hg hne, h2, h3⟩
theorem MapI.keep (h : MapI P k w b n z f) (hb : Below w.heap.size w w') : MapI P k w' b n z f := h.other (grown_of_below hb none) (by simp)
theorem MapI.lookup (h : MapI P k w b n z f) (hk : P.underlying k = some (.int .i64)) (ht : P.underlying t = some (.map k e)) (hz : (zeroValue e).run P w = .ok z w) {x : Int} (hx : (Lit.int .i64 x).wf = true) :
    (Instr.lookup t (.map (some b)) (.int .i64 x) false).run P w = .ok (f x) w := by
  obtain ⟨D, h1, h2, h3⟩ := h
  obtain ⟨v, ps, hr, hv⟩ := h1.lookup (int_keyed hk) ht hz (show rawR z = some (.held z, []) from rfl) (keyOf_int_mk hk hx)
  rw [h3 x] at hv
  injection hv with hv
  injection hv with hv _
  injection hv with hv
  rw [hr, hv]
theorem wpList_update {ops : Array Oper} {rest : List Oper} {o : Oper} {a : Act} {Q : Exit → Act → World → Prop}
    (hg : o.guard = none) (m x v : Operand) (hop : o.op = Op.mapUpdate t m x v) (hk : P.underlying k = some (.int .i64)) (ht : P.underlying t = some (.map k e))
    (hm : a.eval m = .map (some b)) (hown : MapI P k w b n z f) (hn : n < 1000000) (q : Int) (val : Value) (hx : a.eval x = .int .i64 q) (hv : a.eval v = val) (hq : (Lit.int .i64 q).wf = true)
    (hK : ∀ w', MapI P k w' b (n + 1) z (fun y => if y = q then val else f y) → w.grownBy w' (some b) → wpList P ops Q rest (a.put o.dst undef) w') :
    wpList P ops Q (o :: rest) a w := by
  obtain ⟨D, h1, h2, h3⟩ := hown
  refine wpList_mapUpdate_own w hg m x v t hop k e (int_keyed hk) ht rawR b n D hm h1 (by unfold maxLen; omega) _ _ (.int .i64 q) hx hv (keyOf_int_mk hk hq) (.held val) [] rfl ?_
  intro w' hw hgr
  refine hK w' ⟨_, hw, h2.put _ _, fun y => ?_⟩ hgr
  show _ = DataW.held (if y = q then val else f y)
  by_cases e : y = q
  · subst e
    rw [if_pos rfl]
    exact atKey_put_same h2 (by trivial) _ _
  · rw [if_neg e, atKey_put_other (fun h => e (by injection h)) _ _]
    exact h3 y
end

end Go.Proofs.YtcfibfbenccimaaGreatDoor

namespace Go.Proofs.YtcfibfbenccimaaGreatDoor
open Go.RowKit

/-- The slice value v reads as l, in a block of its own from lo on that is not mb. -/
def RowAt (w : World) (lo mb : Nat) (v : Value) (l : List Int) : Prop := ∃ A n c, v = .slice A n c ∧ Rd w A n l ∧ n ≤ 64 ∧ ∀ y, A = some y → lo ≤ y.block ∧ y.block < w.heap.size ∧ y.block ≠ mb
theorem RowAt.keep {w w' : World} {lo mb : Nat} {v : Value} {l : List Int} (h : RowAt w lo mb v l) (hb : Below w.heap.size w w') : RowAt w' lo mb v l := by
  obtain ⟨A, n, c, rfl, h1, h2, h3⟩ := h
  exact ⟨A, n, c, rfl, h1.keep hb, h2, fun y hy => ⟨(h3 y hy).1, Nat.lt_of_lt_of_le (h3 y hy).2.1 hb.size, (h3 y hy).2.2⟩⟩
theorem RowAt.other {w w' : World} {lo mb : Nat} {v : Value} {l : List Int} (h : RowAt w lo mb v l) (hg : w.grownBy w' (some mb)) : RowAt w' lo mb v l := by
  obtain ⟨A, n, c, rfl, h1, h2, h3⟩ := h
  exact ⟨A, n, c, rfl, h1.other hg (fun y hy => by have := (h3 y hy).2.2; simpa using this), h2, fun y hy => ⟨(h3 y hy).1, Nat.lt_of_lt_of_le (h3 y hy).2.1 hg.size, (h3 y hy).2.2⟩⟩
/-- Block mb is a map that has for each of the cells the row adj gives. -/
def OnMap (w : World) (lo mb : Nat) (cells : List Int) (adj : Int → List Int) : Prop :=
  lo ≤ mb ∧ ∃ (n : Nat) (f : Int → Value), n ≤ 144 ∧ MapI Tryz.prog 3 w mb n (.slice none 0 0) f ∧ ∀ x ∈ cells, RowAt w lo mb (f x) (adj x)
theorem OnMap.keep {w w' : World} {lo mb : Nat} {cells : List Int} {adj : Int → List Int} (h : OnMap w lo mb cells adj) (hb : Below w.heap.size w w') : OnMap w' lo mb cells adj := by
  obtain ⟨h0, n, f, h1, h2, h3⟩ := h
  exact ⟨h0, n, f, h1, h2.keep hb, fun x hx => (h3 x hx).keep hb⟩
theorem OnMap.lt {w : World} {lo mb : Nat} {cells : List Int} {adj : Int → List Int} (h : OnMap w lo mb cells adj) : mb < w.heap.size := by
  obtain ⟨_, n, f, _, h2, _⟩ := h; exact h2.lt
theorem wf_small {x : Int} (h : 0 ≤ x ∧ x ≤ 144) : (Lit.int .i64 x).wf = true := by
  have := Go.RowKit.wrap64_wf x
  rwa [show wrap64 x = x by unfold wrap64; omega] at this
theorem zero_ints : ∀ w, (zeroValue 22).run Tryz.prog w = .ok (.slice none 0 0) w := fun _ => by kernel_rfl
theorem OnMap.lookup {w : World} {lo mb : Nat} {cells : List Int} {adj : Int → List Int} (h : OnMap w lo mb cells adj) {x : Int} (hx : x ∈ cells) (hr : 0 ≤ x ∧ x ≤ 144) :
    ∃ A n c, (Instr.lookup 67 (.map (some mb)) (.int .i64 x) false).run Tryz.prog w = .ok (.slice A n c) w ∧ Rd w A n (adj x) ∧ n ≤ 64 := by
  obtain ⟨_, m, f, _, h2, h3⟩ := h
  obtain ⟨A, n, c, hv, h4, h5, _⟩ := h3 x hx
  exact ⟨A, n, c, by rw [h2.lookup Tryz.underlying3 Tryz.underlying67 (zero_ints w) (wf_small hr), hv], h4, h5⟩


end Go.Proofs.YtcfibfbenccimaaGreatDoor

namespace Go.Proofs.YtcfibfbenccimaaGreatDoor
open Go.RowKit

section
variable {E : TypeId} {w w' : World} {lo g k0 n c : Nat} {xs : List Int}
theorem ownI_block {N C : Nat} {ys : List Int} (h : OwnI E w lo (some ⟨g, 0, none⟩) N C ys) : ∃ cur, w.heap[g]? = some (.cells cur E (0, 0)) ∧ lo ≤ g ∧ N ≤ C ∧ C ≤ maxLen ∧ cur.size = C ∧ cur.toList.take N = ys.map (Value.int .i64) := by
  rcases h.2 with ⟨hv, _⟩ | ⟨g', cap, cur, hv, hb, hg, hnc, hm, hcs, ht⟩
  · injection hv with h1; cases h1
  · injection hv with h1 h2 h3
    injection h1 with h1
    injection h1 with h1
    subst h1 h3
    exact ⟨cur, hg, hb, hnc, hm, by simpa using hcs, by simpa using ht⟩
theorem OwnI.cut {N C M : Nat} {ys : List Int} (h : OwnI E w lo (some ⟨g, 0, none⟩) N C ys) (hM : M ≤ N) : OwnI E w lo (some ⟨g, 0, none⟩) M C (ys.take M) := by
  obtain ⟨cur, hg, hb, hnc, hm, hcs, ht⟩ := ownI_block h
  have hl := h.len
  refine ⟨by simp; omega, .inr ⟨g, C, cur, rfl, hb, hg, by omega, hm, by simpa using hcs, ?_⟩⟩
  rw [Nat.mul_one, List.map_take, ← ht, List.take_take, Nat.min_eq_left hM]
theorem OwnI.extend {N C : Nat} {ys : List Int} (h : OwnI E w lo (some ⟨g, 0, none⟩) N C ys) (hN : N < C) (q : Int) :
    OwnI E (w.setCell ⟨g, N, none⟩ (.int .i64 q)) lo (some ⟨g, 0, none⟩) (N + 1) C (ys ++ [q]) ∧ w.grownBy (w.setCell ⟨g, N, none⟩ (.int .i64 q)) (some g) := by
  obtain ⟨cur, hg, hb, hnc, hm, hcs, ht⟩ := ownI_block h
  have hl := h.len
  refine ⟨⟨by simp [hl], .inr ⟨g, C, _, rfl, hb, heap_setCell_same w g N cur E (.int .i64 q) hg, by omega, hm, by simpa using hcs, ?_⟩⟩, (World.ownsRow.stored h N (.int .i64 q)).2⟩
  rw [Nat.mul_one, List.map_append, ← ht]
  simp only [Array.toList_setIfInBounds]
  apply List.ext_getElem?
  intro j
  rw [List.getElem?_take]
  by_cases h1 : j < N
  · rw [if_pos (by omega), List.getElem?_set_ne (by omega), List.getElem?_append_left (by rw [List.length_take, Array.length_toList]; omega), List.getElem?_take, if_pos h1]
  · by_cases h2 : j = N
    · subst h2
      rw [if_pos (by omega), List.getElem?_set_self (by rw [Array.length_toList]; omega), List.getElem?_append_right (by rw [List.length_take]; omega)]
      simp [hcs, Nat.min_eq_left (Nat.le_of_lt hN)]
    · rw [if_neg (by omega), List.getElem?_eq_none (by simp [hcs]; omega)]

/-- The slice '.slice (some ⟨g, k0⟩) n c' is a queue that reads as xs. -/
def QAt (E : TypeId) (w : World) (lo g k0 n c : Nat) (xs : List Int) : Prop :=
  ∃ (C : Nat) (done : List Int), done.length = k0 ∧ OwnI E w lo (some ⟨g, 0, none⟩) (k0 + n) C (done ++ xs) ∧ k0 + c ≤ C ∧ n ≤ c
theorem QAt.len (h : QAt E w lo g k0 n c xs) : xs.length = n := by
  obtain ⟨C, done, h1, h2, _⟩ := h
  have := h2.len; rw [List.length_append] at this; omega
theorem QAt.le (h : QAt E w lo g k0 n c xs) : n ≤ c ∧ c ≤ 9223372036854775807 := by
  obtain ⟨C, done, h1, h2, h3, h4⟩ := h
  obtain ⟨_, _, _, _, h5, _⟩ := ownI_block h2
  unfold maxLen at h5; exact ⟨h4, by omega⟩
theorem QAt.lt (h : QAt E w lo g k0 n c xs) : lo ≤ g ∧ g < w.heap.size := by
  obtain ⟨C, done, h1, h2, _⟩ := h
  obtain ⟨cur, hg, hb, _⟩ := ownI_block h2
  exact ⟨hb, (Array.getElem?_eq_some_iff.1 hg).1⟩
theorem QAt.cell (h : QAt E w lo g k0 n c xs) {j : Nat} {x : Int} (hx : xs[j]? = some x) : w.cell? ⟨g, k0 + j, none⟩ = some (.int .i64 x) := by
  obtain ⟨C, done, h1, h2, _⟩ := h
  exact h2.cell (by rw [List.getElem?_append_right (by omega), h1, show k0 + j - k0 = j by omega, hx])
theorem QAt.other {row : Option Nat} (h : QAt E w lo g k0 n c xs) (hg : w.grownBy w' row) (hne : some g ≠ row) : QAt E w' lo g k0 n c xs := by
  obtain ⟨C, done, h1, h2, h3, h4⟩ := h
  exact ⟨C, done, h1, h2.other hg (fun a ha => by injection ha with ha; rw [← ha]; exact hne), h3, h4⟩
theorem QAt.keep (h : QAt E w lo g k0 n c xs) (hb : Below w.heap.size w w') : QAt E w' lo g k0 n c xs := by
  obtain ⟨C, done, h1, h2, h3, h4⟩ := h
  exact ⟨C, done, h1, h2.keep hb, h3, h4⟩
theorem QAt.start {C : Nat} (h : OwnI E w lo (some ⟨g, 0, none⟩) n C xs) : QAt E w lo g 0 n C xs :=
  ⟨C, [], rfl, by simpa using h, by omega, by obtain ⟨_, _, _, h5, _⟩ := ownI_block h; exact h5⟩
theorem QAt.pop_last {x : Int} (h : QAt E w lo g k0 1 1 [x]) : QAt E w lo g k0 0 0 [] := by
  obtain ⟨C, done, h1, h2, h3, h4⟩ := h
  refine ⟨C, done, h1, ?_, by omega, Nat.le_refl _⟩
  have := h2.cut (M := k0) (by omega)
  rw [List.take_append_of_le_length (by omega), List.take_of_length_le (by omega)] at this
  simpa using this
theorem QAt.pop {x : Int} {t : List Int} (h : QAt E w lo g k0 (n + 1) (c + 1) (x :: t)) : QAt E w lo g (k0 + 1) n c t := by
  obtain ⟨C, done, h1, h2, h3, h4⟩ := h
  refine ⟨C, done ++ [x], by simp [h1], ?_, by omega, by omega⟩
  rw [List.append_assoc, List.singleton_append, show k0 + 1 + n = k0 + (n + 1) by omega]
  exact h2

theorem wpList_appQ {P : Program} {ops : Array Oper} {rest : List Oper} {o : Oper} {a : Act} {Q : Exit → Act → World → Prop} (hgd : o.guard = none) (s x : Operand) (T : TypeId)
    (ho : o.op = .call { callee := .builtin .append, args := #[s, x], argTypes := #[T, T] }) (i0 : TypeInfo)
    (hT : P.underlying T = some (.slice E)) (hi : P.info? E = some i0) (hz0 : i0.zero = some (.int .i64 0)) (hz1 : i0.size = 1) (hz2 : i0.bytes = 8)
    (q : Int) (hs : a.eval s = .slice (some ⟨g, k0, none⟩) n c) (hq : QAt E w lo g k0 n c xs) (hx : a.eval x = .slice (some ⟨w.heap.size, 0, none⟩) 1 1) (hn : n ≤ 1000) (hlo : lo ≤ w.heap.size)
    (h : ∀ g' k0' c' w', QAt E w' lo g' k0' (n + 1) c' (xs ++ [q]) → w.grownBy w' (some g) → (g' = g ∨ w.heap.size ≤ g') → wpList P ops Q rest (a.put o.dst (.slice (some ⟨g', k0', none⟩) (n + 1) c')) w') :
    wpList P ops Q (o :: rest) a (w.alloc (.cells #[.int .i64 q] E)) := by
  have hgl := hq.lt
  have hxl := hq.len
  have hle := hq.le
  obtain ⟨C, done, hd, hown, hC, hnc⟩ := hq
  have hnews : ∀ j u, [Value.int .i64 q][j]? = some u → (w.alloc (.cells #[.int .i64 q] E)).cell? ((⟨w.heap.size, 0, none⟩ : Addr).add j) = some u := by
    intro j u hj
    match j, hj with
    | 0, hj =>
      simp at hj; subst hj
      exact cell_of_row (w.alloc (.cells #[.int .i64 q] E)) w.heap.size 0 #[.int .i64 q] E (0, 0) (heap_alloc_new w _)
  have hone : ∀ u ∈ [Value.int .i64 q], u.oneCell' = true := by intro u hu; simp at hu; subst hu; rfl
  have hw : Region.wanted o (yielded ops a.tmps) = true := by simp [Region.wanted, hgd]
  have hal : Below w.heap.size w (w.alloc (.cells #[.int .i64 q] E)) := (Below.refl _ _).alloc (Nat.le_refl _) _
  have hown1 := hown.keep hal
  refine wpList_plain hgd fun K hK => ?_
  by_cases hr : n < c
  · have hstep := step_append_room (P := P) (ops := ops) (K := K) (Q := Q) (E := True) hgd s x T ho E i0 1 hT hi hz1 g k0 n c hs ⟨w.heap.size, 0, none⟩ 1 1 [.int .i64 q] hx rfl hnews hone (by omega) (w := w.alloc (.cells #[.int .i64 q] E))
      (fun j hj => by
        obtain rfl : j = 0 := by simpa using hj
        obtain ⟨cur, hg, _, _, _, hcs, _⟩ := ownI_block hown1
        refine ⟨?_, frozen_of_row _ g _ cur E hg⟩
        rw [cell_of_row _ g _ cur E (0, 0) hg, Array.getElem?_eq_getElem (by omega)]; rfl)
      (by
        obtain ⟨e1, e2⟩ := hown1.extend (by omega) q
        rw [show k0 + n * 1 = k0 + n by omega]
        refine hK _ _ (h g k0 c _ ⟨C, done, hd, ?_, hC, by omega⟩ (grown_next (grown_of_below hal _) e2) (.inl rfl))
        rw [← List.append_assoc, show k0 + (n + 1) = k0 + n + 1 by omega]
        exact e1)
    rwa [if_pos hw] at hstep
  · have hstep := step_append_grows (P := P) (ops := ops) (K := K) (Q := Q) (E := True) hgd s x T ho E i0 (.int .i64 0) 1 8 hT hi hz0 hz1 hz2 rfl (by decide) (some ⟨g, k0, none⟩) n c (xs.map (Value.int .i64)) hs (fun h => by cases h) (by simp [hxl])
      (fun b hb j u hj => by
        injection hb with hb; subst hb
        rw [List.getElem?_map] at hj
        have e : (⟨g, k0, none⟩ : Addr).add j = ⟨g, k0 + j, none⟩ := by unfold Addr.add; split <;> simp_all
        rw [e]
        cases hxj : xs[j]? with
        | none => rw [hxj] at hj; cases hj
        | some y =>
          rw [hxj] at hj
          injection hj with hj; subst hj
          exact hown1.cell (by rw [List.getElem?_append_right (by omega), hd, show k0 + j - k0 = j by omega, hxj]))
      ⟨w.heap.size, 0, none⟩ 1 1 [.int .i64 q] hx rfl hnews hone (by omega) (by unfold maxLen; omega) (by omega) (w := w.alloc (.cells #[.int .i64 q] E))
      (fun v' w' hown' hgr => by
        have e : xs.map (Value.int .i64) ++ [.int .i64 q] = (xs ++ [q]).map (Value.int .i64) := by simp
        rw [e] at hown'
        obtain ⟨A', c', rfl, hO⟩ := own_form hown'
        obtain ⟨g', rfl, h1, h2⟩ := hO.some_ (k := 0) (by omega)
        simp at h1
        refine hK _ _ (h g' 0 c' w' (QAt.start (hO.lower (by simp; omega))) ?_ (.inr (by omega)))
        exact ⟨hgr.os.trans hal.os, hgr.tape.trans hal.tape, hgr.output.trans hal.output, Nat.le_trans hal.size hgr.size, fun i hi _ => (hgr.block i (Nat.lt_of_lt_of_le hi hal.size) (by simp)).trans (hal.block i hi)⟩)
    rwa [if_pos hw] at hstep
end

end Go.Proofs.YtcfibfbenccimaaGreatDoor

namespace Go.Proofs.YtcfibfbenccimaaGreatDoor

def visit (d : Int) : List Int → List Int × List Int → List Int × List Int
  | [], s => s
  | x :: t, (far, q) => if far.getD x.toNat 0 < 0 then visit d t (far.set x.toNat (d + 1), q ++ [x]) else visit d t (far, q)
def bfsStep (adj : Int → List Int) (s : List Int × List Int) (k : Nat) : List Int × List Int :=
  match s.2[k]? with
  | none => s
  | some c => visit (s.1.getD c.toNat 0) (adj c) s
def bfsTo (adj : Int → List Int) (N : Nat) (start : Int) : Nat → List Int × List Int
  | 0 => ((List.replicate N (-1)).set start.toNat 0, [start])
  | k + 1 => bfsStep adj (bfsTo adj N start k) k
theorem visit_len (d : Int) : ∀ (l : List Int) (s : List Int × List Int), (visit d l s).1.length = s.1.length
  | [], _ => rfl
  | x :: t, (far, q) => by
    rw [visit]
    split
    · rw [visit_len d t]; simp
    · rw [visit_len d t]
/-- What holds of far and queue. -/
structure BfsOk (N : Nat) (B : Int) (far q : List Int) : Prop where
  len : far.length = N
  range : ∀ x ∈ q, 0 ≤ x ∧ x < N
  lo : ∀ (i : Nat) (v : Int), far[i]? = some v → -1 ≤ v ∧ v ≤ B
  seen : ∀ x ∈ q, 0 ≤ far.getD x.toNat 0
  nodup : q.Nodup
theorem getD_set_same {far : List Int} {i : Nat} {v : Int} (h : i < far.length) : (far.set i v).getD i 0 = v := by
  simp [List.getD_eq_getElem?_getD, h]
theorem getD_set_ne {far : List Int} {i j : Nat} {v : Int} (h : i ≠ j) : (far.set i v).getD j 0 = far.getD j 0 := by
  simp [List.getD_eq_getElem?_getD, h]
theorem BfsOk.push {N : Nat} {B d x : Int} {far q : List Int} (h : BfsOk N B far q) (hx : 0 ≤ x ∧ x < N) (hd : 0 ≤ d + 1 ∧ d + 1 ≤ B) (hf : far.getD x.toNat 0 < 0) : BfsOk N B (far.set x.toNat (d + 1)) (q ++ [x]) where
  len := by simp [h.len]
  range := fun y hy => by
    rcases List.mem_append.1 hy with hy | hy
    · exact h.range y hy
    · simp at hy; subst hy; exact hx
  lo := fun i v hv => by
    rw [List.getElem?_set] at hv
    split at hv
    · split at hv
      · injection hv with hv; omega
      · cases hv
    · exact h.lo i v hv
  seen := fun y hy => by
    by_cases e : x.toNat = y.toNat
    · rw [← e, getD_set_same (by rw [h.len]; omega)]; exact hd.1
    · rw [getD_set_ne e]
      rcases List.mem_append.1 hy with hy | hy
      · exact h.seen y hy
      · simp at hy; subst hy; exact absurd rfl e
  nodup := by
    rw [List.nodup_append]
    refine ⟨h.nodup, by simp, fun y hy z hz e => ?_⟩
    simp at hz; subst hz; subst e
    have := h.seen _ hy; omega
theorem BfsOk.mono {N : Nat} {B B' : Int} {far q : List Int} (h : BfsOk N B far q) (hB : B ≤ B') : BfsOk N B' far q :=
  ⟨h.len, h.range, fun i v hv => by have := h.lo i v hv; omega, h.seen, h.nodup⟩
theorem visit_ok {N : Nat} {B d : Int} (hd : 0 ≤ d + 1 ∧ d + 1 ≤ B) : ∀ (l far q : List Int), (∀ x ∈ l, 0 ≤ x ∧ x < N) → BfsOk N B far q → BfsOk N B (visit d l (far, q)).1 (visit d l (far, q)).2
  | [], far, q, _, h => h
  | x :: t, far, q, hl, h => by
    rw [visit]
    split
    · rename_i hf
      exact visit_ok hd t _ _ (fun y hy => hl y (List.mem_cons_of_mem _ hy)) (h.push (hl x List.mem_cons_self) hd hf)
    · exact visit_ok hd t _ _ (fun y hy => hl y (List.mem_cons_of_mem _ hy)) h
theorem bfs_ok {adj : Int → List Int} {N : Nat} {start : Int} (hs : 0 ≤ start ∧ start < N) (ha : ∀ c : Int, 0 ≤ c ∧ c < N → ∀ x ∈ adj c, 0 ≤ x ∧ x < N) : ∀ k : Nat, BfsOk N k (bfsTo adj N start k).1 (bfsTo adj N start k).2
  | 0 => {
      len := by simp [bfsTo]
      range := fun x hx => by simp [bfsTo] at hx; subst hx; exact hs
      lo := fun i v hv => by
        simp only [bfsTo, List.getElem?_set, List.length_replicate] at hv
        split at hv
        · split at hv
          · injection hv with hv; omega
          · cases hv
        · rw [List.getElem?_replicate] at hv
          split at hv
          · injection hv with hv; omega
          · cases hv
      seen := fun x hx => by
        simp [bfsTo] at hx; subst hx
        rw [bfsTo, getD_set_same (by simp; omega)]; omega
      nodup := by simp [bfsTo] }
  | k + 1 => by
    have h := bfs_ok hs ha k
    rw [bfsTo, bfsStep]
    split
    · exact h.mono (by omega)
    · rename_i c hc
      have hm := List.mem_of_getElem? hc
      have hr := h.range c hm
      have h0 := h.seen c hm
      have hlt : c.toNat < (bfsTo adj N start k).1.length := by rw [h.len]; omega
      have h1 := h.lo c.toNat ((bfsTo adj N start k).1.getD c.toNat 0) (by rw [List.getD_eq_getElem?_getD, List.getElem?_eq_getElem hlt]; rfl)
      exact visit_ok ⟨by omega, by omega⟩ _ _ _ (ha c hr) (h.mono (by omega))
theorem nodup_sub : ∀ (l m : List Nat), l.Nodup → (∀ x ∈ l, x ∈ m) → l.length ≤ m.length
  | [], _, _, _ => by simp
  | x :: l, m, hn, h => by
    rw [List.nodup_cons] at hn
    have hx := h x List.mem_cons_self
    have := nodup_sub l (m.erase x) hn.2 (fun y hy => (List.mem_erase_of_ne (fun e => hn.1 (by rw [← e]; exact hy))).2 (h y (List.mem_cons_of_mem _ hy)))
    rw [List.length_erase_of_mem hx] at this
    have := List.length_pos_of_mem hx
    simp only [List.length_cons]; omega
theorem nodup_len {N : Nat} {q : List Int} (hn : q.Nodup) (hr : ∀ x ∈ q, 0 ≤ x ∧ x < N) : q.length ≤ N := by
  have h : (q.map Int.toNat).Nodup := by
    rw [List.Nodup, List.pairwise_map]
    exact hn.imp_of_mem fun {a b} ha hb hne => by have := hr a ha; have := hr b hb; omega
  have h2 : ∀ x ∈ q.map Int.toNat, x ∈ List.range N := fun x hx => by
    obtain ⟨y, hy, rfl⟩ := List.mem_map.1 hx
    have := hr y hy; simp; omega
  have := nodup_sub _ _ h h2
  simpa using this
theorem bfs_q_len {adj : Int → List Int} {N : Nat} {start : Int} (hs : 0 ≤ start ∧ start < N) (ha : ∀ c : Int, 0 ≤ c ∧ c < N → ∀ x ∈ adj c, 0 ≤ x ∧ x < N) (k : Nat) : (bfsTo adj N start k).2.length ≤ N :=
  nodup_len (bfs_ok hs ha k).nodup (bfs_ok hs ha k).range
/-- Behind the queue's end nothing turns. -/
theorem bfs_stays {adj : Int → List Int} {N : Nat} {start : Int} {k : Nat} (h : (bfsTo adj N start k).2.length ≤ k) : ∀ j, k ≤ j → bfsTo adj N start j = bfsTo adj N start k := by
  intro j hj
  induction j with
  | zero => obtain rfl : k = 0 := by omega
            rfl
  | succ j ih =>
    by_cases e : k = j + 1
    · rw [e]
    · have ih := ih (by omega)
      rw [bfsTo, ih, bfsStep, List.getElem?_eq_none (by omega)]
def farL (adj : Int → List Int) (N : Nat) (start : Int) : List Int := (bfsTo adj N start N).1
theorem far_of_end {adj : Int → List Int} {N : Nat} {start : Int} (hs : 0 ≤ start ∧ start < N) (ha : ∀ c : Int, 0 ≤ c ∧ c < N → ∀ x ∈ adj c, 0 ≤ x ∧ x < N) {k : Nat} (h : (bfsTo adj N start k).2.length ≤ k) : (bfsTo adj N start k).1 = farL adj N start := by
  rcases Nat.le_total k N with hk | hk
  · rw [farL, bfs_stays h N hk]
  · rw [farL, bfs_stays (bfs_q_len hs ha N) k hk]
/-! ### On more places -/
theorem visit_pad (d : Int) (M : Nat) : ∀ (l far q : List Int), (∀ x ∈ l, 0 ≤ x ∧ x < (far.length : Int)) → visit d l (far ++ List.replicate M (-1), q) = ((visit d l (far, q)).1 ++ List.replicate M (-1), (visit d l (far, q)).2)
  | [], _, _, _ => rfl
  | x :: t, far, q, h => by
    have hx := h x List.mem_cons_self
    have e : (far ++ List.replicate M (-1)).getD x.toNat 0 = far.getD x.toNat 0 := by
      rw [List.getD_eq_getElem?_getD, List.getD_eq_getElem?_getD, List.getElem?_append_left (by omega)]
    have ht := fun y hy => h y (List.mem_cons_of_mem x hy)
    rw [visit, visit, e]
    split
    · rw [List.set_append_left _ _ (by omega), visit_pad d M t _ _ (by simpa using ht)]
    · rw [visit_pad d M t _ _ ht]
theorem bfs_pad {adj : Int → List Int} {N M : Nat} {start : Int} (hs : 0 ≤ start ∧ start < N) (ha : ∀ c : Int, 0 ≤ c ∧ c < N → ∀ x ∈ adj c, 0 ≤ x ∧ x < N) : ∀ k : Nat, bfsTo adj (N + M) start k = ((bfsTo adj N start k).1 ++ List.replicate M (-1), (bfsTo adj N start k).2)
  | 0 => by
    simp only [bfsTo]
    rw [← List.replicate_append_replicate, List.set_append_left _ _ (by simp; omega)]
  | k + 1 => by
    have h := bfs_ok hs ha k
    rw [bfsTo, bfsTo, bfs_pad hs ha k, bfsStep, bfsStep]
    split
    · rename_i e; simp only at e; simp [e]
    · rename_i c e
      simp only at e
      simp only [e]
      have hr := h.range c (List.mem_of_getElem? e)
      rw [List.getD_eq_getElem?_getD, List.getElem?_append_left (by rw [h.len]; omega), ← List.getD_eq_getElem?_getD]
      exact visit_pad _ M _ _ _ (by rw [h.len]; exact ha c hr)
theorem far_pad {adj : Int → List Int} {N M : Nat} {start : Int} (hs : 0 ≤ start ∧ start < N) (ha : ∀ c : Int, 0 ≤ c ∧ c < N → ∀ x ∈ adj c, 0 ≤ x ∧ x < N) : farL adj (N + M) start = farL adj N start ++ List.replicate M (-1) := by
  rw [farL, bfs_pad hs ha, bfs_stays (bfs_q_len hs ha N) (N + M) (by omega)]; rfl

end Go.Proofs.YtcfibfbenccimaaGreatDoor

namespace Go.Proofs.YtcfibfbenccimaaGreatDoor

theorem visit_append (d : Int) : ∀ (l m : List Int) (s : List Int × List Int), visit d (l ++ m) s = visit d m (visit d l s)
  | [], _, _ => rfl
  | x :: t, m, (far, q) => by
    rw [List.cons_append, visit, visit]
    split <;> exact visit_append d t m _
theorem visit_one {d x : Int} {far q : List Int} : visit d [x] (far, q) = if far.getD x.toNat 0 < 0 then (far.set x.toNat (d + 1), q ++ [x]) else (far, q) := by
  rw [visit]; split <;> rfl
theorem visit_keeps {d : Int} {i : Nat} : ∀ (l : List Int) (far q : List Int), 0 ≤ far.getD i 0 → (visit d l (far, q)).1.getD i 0 = far.getD i 0
  | [], _, _, _ => rfl
  | x :: t, far, q, h => by
    rw [visit]
    split
    · rename_i hx
      have hne : x.toNat ≠ i := fun e => by rw [e] at hx; omega
      rw [visit_keeps t _ _ (by rw [getD_set_ne hne]; exact h), getD_set_ne hne]
    · exact visit_keeps t _ _ h
theorem visit_len_le {d : Int} : ∀ (l : List Int) (far q : List Int), q.length ≤ (visit d l (far, q)).2.length
  | [], _, _ => Nat.le_refl _
  | x :: t, far, q => by
    rw [visit]
    split
    · exact Nat.le_trans (by simp) (visit_len_le t _ _)
    · exact visit_len_le t _ _
theorem bfs_next {adj : Int → List Int} {N k : Nat} {start c : Int} (h : (bfsTo adj N start k).2[k]? = some c) : bfsTo adj N start (k + 1) = visit ((bfsTo adj N start k).1.getD c.toNat 0) (adj c) (bfsTo adj N start k) := by
  rw [bfsTo, bfsStep, h]
theorem BfsOk.at_ {N : Nat} {B : Int} {far q : List Int} (h : BfsOk N B far q) {i : Nat} (hi : i < N) : ∃ v, far[i]? = some v ∧ far.getD i 0 = v ∧ -1 ≤ v ∧ v ≤ B := by
  have hl : i < far.length := by rw [h.len]; exact hi
  refine ⟨far[i], List.getElem?_eq_getElem hl, by rw [List.getD_eq_getElem?_getD, List.getElem?_eq_getElem hl]; rfl, ?_⟩
  exact h.lo i _ (List.getElem?_eq_getElem hl)
theorem minus_set {N k : Nat} (h : k < N) : (List.replicate k (-1 : Int) ++ List.replicate (N - k) 0).set k (-1) = List.replicate (k + 1) (-1) ++ List.replicate (N - (k + 1)) 0 := by
  rw [List.set_append_right _ _ (by simp), List.length_replicate, Nat.sub_self]
  obtain ⟨m, hm⟩ : ∃ m, N - k = m + 1 := ⟨N - k - 1, by omega⟩
  rw [hm, List.replicate_succ, List.set_cons_zero, show N - (k + 1) = m by omega, show k + 1 = k + 1 from rfl, List.replicate_succ', List.append_assoc]
  rfl

theorem visit_cells {cells : List Int} {d : Int} : ∀ (l far q : List Int), (∀ x ∈ l, x ∈ cells) → (∀ x ∈ q, x ∈ cells) → ∀ x ∈ (visit d l (far, q)).2, x ∈ cells
  | [], _, _, _, h => h
  | y :: t, far, q, hl, h => by
    rw [visit]
    split
    · exact visit_cells t _ _ (fun z hz => hl z (List.mem_cons_of_mem _ hz)) (fun z hz => by
        rcases List.mem_append.1 hz with hz | hz
        · exact h z hz
        · simp at hz; subst hz; exact hl _ List.mem_cons_self)
    · exact visit_cells t _ _ (fun z hz => hl z (List.mem_cons_of_mem _ hz)) h
theorem bfs_cells {cells : List Int} {adj : Int → List Int} {N : Nat} {start : Int} (hs : start ∈ cells) (ha : ∀ x, ∀ y ∈ adj x, y ∈ cells) : ∀ k : Nat, ∀ x ∈ (bfsTo adj N start k).2, x ∈ cells
  | 0, x, hx => by simp [bfsTo] at hx; subst hx; exact hs
  | k + 1, x, hx => by
    rw [bfsTo, bfsStep] at hx
    split at hx
    · exact bfs_cells hs ha k x hx
    · exact visit_cells _ _ _ (ha _) (bfs_cells hs ha k) x hx

end Go.Proofs.YtcfibfbenccimaaGreatDoor
