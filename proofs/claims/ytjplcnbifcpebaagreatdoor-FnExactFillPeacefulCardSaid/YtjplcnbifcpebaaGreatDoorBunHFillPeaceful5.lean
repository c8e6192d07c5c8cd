/-
  Contracts: the ground of a board and a leaper.
  Contracts: DeadEnds.
  From a law's contract to its statement: how the arguments are opened, and what the statement's end asks.
  What the row's condition (the table of math/bits lies as its initialiser laid it) gives the walks; the witness's world.
  What the laws' walks need beside the helpers' contracts.
  Contracts: the cells of a set as a list of the call's own.
  A region that draws its order within a round of a range: walked as outside of rounds, if it defers nothing.
  The cells of a set as an iterator whose caller may stop it; a range that may be left.
-/
import Derived.Test.YtjplcnbifcpebaaGreatDoorBunHFillPeaceful3
import Derived.Test.YtjplcnbifcpebaaGreatDoorBunHFillPeaceful4
import Derived.Deep.WholeRow
import Derived.Deep.MidRow
import Derived.Deep.Heap
import Derived.Maps.RangeWalk
import Derived.Test.YtjplcnbifcpebaaGreatDoorRows
import Derived.Test.YtjplcnbifcpebaaGreatDoorBunHFillPeaceful1
import Derived.ProofKit
import Derived.Lib.SmallJoins
import Derived.Lib.LaidTab
import Derived.LaidMore
import Derived.LaidSub
import Derived.OpenShut
import Derived.MakeChecks
import Derived.Test.YtjplcnbifcpebaaGreatDoorBunHFillPeaceful2
import Derived.Deep.RegionHeld3
import Derived.Test.YtjplcnbifcpebaaGreatDoorProg
import Derived.OrdersIn
import Derived.OrdersHeld
import Derived.Deep.RegionHeld
import Derived.BigRegionIn
import Derived.OwnWalkIn
namespace Go.Proofs.YtjplcnbifcpebaaGreatDoor
open Go.RowKit Go.Shelf
attribute [local go_sem] Oper.semAt_some

def nearS (W H : Int) (xs : List Int) (a b c : Int) : Nat := setBits ((leapsL W H xs a b c).map Int.toNat)
def allS (W H : Int) (xs : List Int) : Nat := setBits ((cellsL W H xs).map Int.toNat)
def gl (W H : Int) (xs : List Int) (a b : Int) (pre : List Int) : List Nat := allS W H xs :: (List.range 64).map fun c : Nat => if (c : Int) ∈ pre then nearS W H xs a b c else 0
theorem gl_len (W H : Int) (xs : List Int) (a b : Int) (pre : List Int) : (gl W H xs a b pre).length = 65 := by simp [gl]
theorem gl_set {W H a b x : Int} {xs pre : List Int} (h0 : 0 ≤ x) (h1 : x < 64) : (gl W H xs a b pre).set (1 + x.toNat) (nearS W H xs a b x) = gl W H xs a b (pre ++ [x]) := by
  unfold gl
  rw [show 1 + x.toNat = x.toNat + 1 by omega, List.set_cons_succ]
  congr 1
  apply List.ext_getElem?
  intro i
  rw [List.getElem?_set, List.length_map, List.length_range, List.getElem?_map, List.getElem?_map]
  by_cases hi : i < 64
  · rw [List.getElem?_range hi]
    by_cases e : x.toNat = i
    · rw [if_pos e, if_pos (by omega)]
      simp [show (i : Int) = x by omega]
    · rw [if_neg e]
      have : (i : Int) ≠ x := by omega
      simp [this]
  · rw [List.getElem?_eq_none (by simpa using hi)]
    rw [if_neg (by omega)]; rfl
theorem set_bits {l : List Int} (hr : l.Pairwise (· < ·)) (h : ∀ x ∈ l, 0 ≤ x ∧ x < 64) : bitsL (setBits (l.map Int.toNat)) = l := by
  refine rise_unique (bitsL_rise _) hr fun x => ?_
  rw [bitsL_mem, setBits_test _ _ _ rfl, List.mem_map]
  constructor
  · rintro ⟨h0, h1, y, hy, e⟩
    have := h y hy
    have : y = x := by omega
    exact this ▸ hy
  · intro hx
    have := h x hx
    exact ⟨this.1, this.2, x, hx, rfl⟩

theorem zero_ground : Tryz.zeroCells48 = (words (List.replicate 65 0)).toArray := by rfl
theorem gl_nil (W H : Int) (xs : List Int) (a b : Int) : gl W H xs a b [] = allS W H xs :: List.replicate 64 0 := by
  unfold gl
  congr 1
theorem info_ground : (Tryz.prog.info? 48).map (·.size) = some 65 := by kernel_rfl
theorem store_ground (W H : Int) (xs : List Int) (a b : Int) (w : World) :
    (storeCells ⟨w.heap.size, 0, none⟩ (Tryz.zeroCells48.toList.set 0 (.int .u64 (allS W H xs : Nat)))).run Tryz.prog (w.alloc (.cells Tryz.zeroCells48 48)) =
      .ok () (w.alloc (.cells (words (gl W H xs a b [])).toArray 48)) := by
  have h := run_storeCells_new (P := Tryz.prog) w 48 Tryz.zeroCells48 (words (gl W H xs a b [])).toArray (by rw [info_ground]; simp [words, gl]) (by rw [zero_ground]; simp [words, gl]) (all_oneCell_toArray (words_one _))
  rw [zero_ground, gl_nil] at h
  rw [zero_ground, gl_nil]
  exact h

theorem cellsL_rise (W H : Int) (xs : List Int) : (cellsL W H xs).Pairwise (· < ·) := by
  unfold cellsL cellsTo
  refine List.Pairwise.filter _ ?_
  unfold upTo
  rw [List.pairwise_map]
  have h : (List.range (W * H).toNat).Pairwise (· < ·) := List.pairwise_lt_range
  exact h.imp (fun h => by omega)
theorem wpIn_handsQ {P : Program} {n : Nat} {g : Operand} {p q : Tmp} {assign body : Code} {Q : Exit → Act → World → Prop} {a : Act} {w : World} {gf : Nat} {sv : Value}
    (hg : a.eval g = .func (.func gf) #[sv] #[]) (eg : ∀ args w, (callFunc gf args).run P w = .ok (.enter gf args) w)
    {xs : List Int} {T : World → Prop} (hit : Hands P (n - 1) gf sv xs T)
    (I : List Int → World → Prop) (hT : ∀ pre w, I pre w → T w) (hI : OwnFrom w.heap.size I) (h0 : I [] w)
    (hassign : ∀ (l : Nat) (x : Int) (W : World) (K : Act → World → Prop), K { tmps := (a.tmps.setIfInBounds p (.int .i64 x)).setIfInBounds q (.int .i64 x), defers := [] } W →
      assign.wpIn (Fence.wide.inRound l) (n - 1 - 1) P (Exit.then K (fun _ _ _ => False)) { tmps := ((#[p] : Array Tmp).zip #[Value.int .i64 x]).foldl (fun t (p, v) => t.setIfInBounds p v) a.tmps, defers := [] } W)
    (hbody : ∀ (l : Nat) (pre : List Int) (x : Int) (rest : List Int) (W : World), w.heap.size ≤ l → xs = pre ++ x :: rest → I pre W →
      body.wpIn (Fence.wide.inRound l) (n - 1 - 1) P (ownPostG w.heap.size (fun _ _ => True) I (fun _ _ _ => False) (pre ++ [x]) W) { tmps := (a.tmps.setIfInBounds p (.int .i64 x)).setIfInBounds q (.int .i64 x), defers := [] } W)
    (hdone : ∀ (D : Nat) (W : World), w.heap.size ≤ D → I xs W → W.heap[D]? = some (.deferred (some [])) → Q .normal { a with defers := { target := .collected D, args := #[] } :: a.defers } W) :
    (Code.rangeFunc g #[p] assign body).wpIn Fence.wide n P Q a w :=
  wpIn_hands hg eg hit I hT hI h0 (fun x => { tmps := (a.tmps.setIfInBounds p (.int .i64 x)).setIfInBounds q (.int .i64 x), defers := [] }) hassign hbody hdone
/-- The ground's variable in the midst of its filling. -/
def MidG (W3 : World) (g : Nat) (F : List Int → List Nat) (pre : List Int) (W' : World) : Prop :=
  W3.grownBy W' (some g) ∧ W'.heap[g]? = some (.cells (words (F pre)).toArray 48 (0, 0))
theorem midG_own {W3 : World} {g : Nat} {F : List Int → List Nat} (hg : g < W3.heap.size) : OwnFrom W3.heap.size (MidG W3 g F) := by
  intro s W W' row hs hgr hr
  have hne : some g ≠ row := fun e => by have := (hr g e.symm).1; omega
  refine ⟨⟨hgr.os.trans hs.1.os, hgr.tape.trans hs.1.tape, hgr.output.trans hs.1.output, Nat.le_trans hs.1.size hgr.size, fun k hk hkg => ?_⟩, ?_⟩
  · refine (hgr.block k (Nat.lt_of_lt_of_le hk hs.1.size) (fun e => ?_)).trans (hs.1.block k hk hkg)
    have := (hr k e.symm).1
    omega
  · exact (hgr.block g (Array.getElem?_eq_some_iff.1 hs.2).1 hne).trans hs.2

set_option maxRecDepth 100000 in
set_option maxHeartbeats 1000000 in
theorem groundOf_any (W H : Int) (A : Option Addr) (n c : Nat) (xs : List Int) (a b : Int) (w : World) (ha : Rd w A n xs) (hg : goodB W H xs = true) (hl : leaperB a b = true) (hT : Tab64 w) (hgb : 0 < w.heap.size) :
    Calls Tryz.prog 23 #[brd W H A n c, lpr a b] w fun e w' => e = .returned (.agg (words (gl W H xs a b (cellsL W H xs))).toArray) ∧ Below w.heap.size w w' := by
  refine (callsIn_wide (n := 5)).1 ?_
  refine callsIn_of_wp_marks Tryz.func23 rfl trivial ?_ rfl
  simp only [Tryz.ntmps23, List.size_toArray, List.length_cons, List.length_nil, Nat.reduceAdd, Nat.reduceSub, Array.replicate_succ, Array.replicate_zero, List.push_toArray, List.append_toArray, List.nil_append, List.cons_append]
  have HT := Lib.hid hT; have HG := Lib.hid hg; have HLp := Lib.hid hl
  have hb0 : Below w.heap.size w ((((w.alloc (Obj.cells #[Value.int IntKind.i64 W, Value.int IntKind.i64 H, Value.slice A n c] 30)).alloc (Obj.cells #[Value.int IntKind.i64 a, Value.int IntKind.i64 b] 32)).alloc (Obj.cells Tryz.zeroCells48 48))) :=
    (((Below.refl _ _).alloc (Nat.le_refl _) _).alloc (by simp) _).alloc (by simp; omega) _
  clear hT hl
  gi_wp2
  refine ⟨trivial, (callsIn_wide.2 (cellsThere_any W H A n c xs _ (ha.keep hb0) hg)).mono ?_⟩
  rintro e w1 ⟨A', n', c', rfl, ho, hB⟩
  gi_wp2
  have hcl : ∀ x ∈ cellsL W H xs, 0 ≤ x ∧ x < 64 := fun x hx => by
    have h1 := (hasB_iff.1 (cellsL_mem.1 hx)).1
    obtain ⟨hW, hH, _, _⟩ := goodB_iff.1 HG.out
    have := cells_le hW hH
    omega
  refine ⟨trivial, (callsIn_wide.2 (setOf_any A' n' c' _ _ ho.rd hcl)).mono ?_⟩
  rintro e w2 ⟨rfl, hB2⟩
  have hst := store_ground W H xs a b w2
  rw [show allS W H xs = setBits ((cellsL W H xs).map Int.toNat) from rfl] at hst
  obtain ⟨W3, hW3⟩ : ∃ W3, W3 = w2.alloc (.cells (words (gl W H xs a b [])).toArray 48) := ⟨_, rfl⟩
  have hh3 : W3.heap[w2.heap.size]? = some (.cells (words (gl W H xs a b [])).toArray 48 (0, 0)) := by rw [hW3]; exact World.alloc_heap_new _ _
  have hc3 : W3.cell? ⟨w2.heap.size, 0, none⟩ = some (.int .u64 ((setBits ((cellsL W H xs).map Int.toNat) : Nat) : Int)) := by
    rw [cell_of_row _ _ 0 _ _ _ hh3]; simp [words, gl, allS]
  have hs3 : W3.heap.size = w2.heap.size + 1 := by rw [hW3]; simp
  have hb3 : Below w.heap.size w W3 := by
    rw [hW3]
    exact ((hb0.trans (hB.mono hb0.size)).trans (hB2.mono (Nat.le_trans hb0.size hB.size))).alloc (Nat.le_trans hb0.size (Nat.le_trans hB.size hB2.size)) _
  have HGr := Lib.hid (show Below (w.heap.size + 3) _ W3 by
    rw [hW3]
    exact (((hB.trans (hB2.mono hB.size)).alloc (Nat.le_trans hB.size hB2.size) _)).mono (by simp))
  rw [← hW3] at hst
  clear hW3
  have HS := Lib.hid hh3
  clear hh3
  gi_wp2
  have hlt : setBits ((cellsL W H xs).map Int.toNat) < 18446744073709551616 := set_lt hcl
  have hit := each_hands (5 - 1) _ hlt
  rw [set_bits (cellsL_rise W H xs) hcl] at hit
  have hT3 : ∀ pre w', MidG W3 w2.heap.size (gl W H xs a b) pre w' → Tab64 w' := fun pre w' h => HT.out.keep hgb (hb3.grown h.1 hb3.size (fun k e => by cases e; exact Nat.le_trans hb0.size (Nat.le_trans hB.size hB2.size)))
  have hBd : W3.heap[w.heap.size]? = some (.cells #[Value.int IntKind.i64 W, Value.int IntKind.i64 H, Value.slice A n c] 30 (0, 0)) := by
    rw [HGr.out.block w.heap.size (by omega), Below.heap_alloc _ _ _ (by simp; omega), Below.heap_alloc _ _ _ (by simp), World.alloc_heap_new]
  have hLd : W3.heap[w.heap.size + 1]? = some (.cells #[Value.int IntKind.i64 a, Value.int IntKind.i64 b] 32 (0, 0)) := by
    rw [HGr.out.block (w.heap.size + 1) (by omega), Below.heap_alloc _ _ _ (by simp)]
    have h := World.alloc_heap_new (w.alloc (Obj.cells #[Value.int IntKind.i64 W, Value.int IntKind.i64 H, Value.slice A n c] 30)) (Obj.cells #[Value.int IntKind.i64 a, Value.int IntKind.i64 b] 32)
    rw [World.size_alloc] at h
    exact h
  have hRd : W3.heap[w.heap.size + 1 + 1]? = some (.cells Tryz.zeroCells48 48 (0, 0)) := by
    rw [HGr.out.block (w.heap.size + 1 + 1) (by omega)]
    have h := World.alloc_heap_new ((w.alloc (Obj.cells #[Value.int IntKind.i64 W, Value.int IntKind.i64 H, Value.slice A n c] 30)).alloc (Obj.cells #[Value.int IntKind.i64 a, Value.int IntKind.i64 b] 32)) (Obj.cells Tryz.zeroCells48 48)
    rw [World.size_alloc, World.size_alloc] at h
    exact h
  refine wpIn_handsQ (q := 6) rfl (fun args w => by simp [go_sem]) hit (MidG W3 w2.heap.size (gl W H xs a b)) hT3 (midG_own (by omega)) ⟨World.grownBy.refl _ _, HS.out⟩ ?_ ?_ ?_
  · intro l x W' K hK
    clear hst
    gi_wp2
    exact hK
  · intro l pre x rest W' hl hsp hm
    have hx : x ∈ cellsL W H xs := by rw [hsp]; simp
    have hxw := (hasB_iff.1 (cellsL_mem.1 hx)).1
    have hx6 := hcl x hx
    have hgs : W3.heap.size ≤ W'.heap.size := hm.1.size
    have hle : w.heap.size + 3 ≤ w2.heap.size := by have := hb0.size; have := hB.size; have := hB2.size; simp at *; omega
    have hBd' := (hm.1.block _ (by omega) (by simp; omega)).trans hBd
    have hLd' := (hm.1.block (w.heap.size + 1) (by omega) (by simp; omega)).trans hLd
    have b0 : W'.cell? ⟨w.heap.size, 0, none⟩ = some (.int .i64 W) := by rw [cell_of_row _ _ _ _ _ _ hBd']; rfl
    have b1 : W'.cell? ⟨w.heap.size, 1, none⟩ = some (.int .i64 H) := by rw [cell_of_row _ _ _ _ _ _ hBd']; rfl
    have b2 : W'.cell? ⟨w.heap.size, 2, none⟩ = some (.slice A n c) := by rw [cell_of_row _ _ _ _ _ _ hBd']; rfl
    have l0 : W'.cell? ⟨w.heap.size + 1, 0, none⟩ = some (.int .i64 a) := by rw [cell_of_row _ _ _ _ _ _ hLd']; rfl
    have l1 : W'.cell? ⟨w.heap.size + 1, 1, none⟩ = some (.int .i64 b) := by rw [cell_of_row _ _ _ _ _ _ hLd']; rfl
    have hbw : Below w.heap.size w W' := hb3.grown hm.1 hb3.size (fun k e => by cases e; omega)
    have hL := leapCells_any W H A n c xs a b x W' (ha.keep hbw) HG.out HLp.out hxw
    have HC := Lib.hid hcl; have HM := Lib.hid hm; have HSP := Lib.hid hsp
    clear hm hsp hBd hLd hBd' hLd' hst hB hB2 hc3 hit hcl
    gi_wp2
    refine ⟨trivial, (callsIn_wide.2 hL).mono ?_⟩
    rintro e w4 ⟨A4, n4, c4, rfl, ho4, hB4⟩
    have hlb : ∀ y ∈ leapsL W H xs a b x, 0 ≤ y ∧ y < 64 := fun y hy => HC.out y (List.mem_filter.1 hy).1
    clear hL
    have hS := setOf_any A4 n4 c4 _ w4 ho4.rd hlb
    gi_wp2
    refine ⟨trivial, (callsIn_wide.2 hS).mono ?_⟩
    rintro e w5 ⟨rfl, hB5⟩
    clear hS
    have hg5 : w5.heap[w2.heap.size]? = some (.cells (words (gl W H xs a b pre)).toArray 48 (0, 0)) := ((hB4.trans (hB5.mono hB4.size)).block _ (by omega)).trans HM.out.2
    have hcell : w5.cell? ⟨w2.heap.size, 1 + x.toNat, none⟩ = some (.int .u64 (((gl W H xs a b pre).getD (1 + x.toNat) 0 : Nat) : Int)) := by
      rw [cell_of_row _ _ _ _ _ _ hg5, List.getElem?_toArray, words, List.getElem?_map, List.getD_eq_getElem?_getD]
      have hlen : 1 + x.toNat < (gl W H xs a b pre).length := by rw [gl_len]; omega
      rw [List.getElem?_eq_getElem hlen]; rfl
    have hfro : w5.frozen? ⟨w2.heap.size, 1 + x.toNat, none⟩ = false := frozen_of_row _ _ _ _ _ hg5
    have h0x : 0 ≤ x := hx6.1
    have h1x : x < 64 := hx6.2
    have HG5 := Lib.hid hg5
    clear hg5
    gi_wp2
    have hg0 : W'.grownBy w5 none := ⟨hB5.os.trans hB4.os, hB5.tape.trans hB4.tape, hB5.output.trans hB4.output, Nat.le_trans hB4.size hB5.size, fun k hk _ => (hB4.trans (hB5.mono hB4.size)).block k hk⟩
    have hgr5 : W'.grownBy (w5.setCell ⟨w2.heap.size, 1 + x.toNat, none⟩ (.int .u64 ((setBits ((leapsL W H xs a b x).map Int.toNat) : Nat) : Int))) (some w2.heap.size) :=
      (hg0.but _).trans (grown_set _ _ _ _)
    refine ⟨KeepsFrom.of_grownBy hgr5 (fun j e => by cases e; omega), trivial, HM.out.1.trans hgr5, ?_⟩
    rw [heap_set _ HG5.out, ← gl_set h0x h1x]
    simp [words, List.map_set, nearS]
  · intro D W' hD hm hd
    have hgs : W3.heap.size ≤ W'.heap.size := hm.1.size
    have hbw : Below w.heap.size w W' := hb3.grown hm.1 hb3.size (fun k e => by cases e; have := hb0.size; have := hB.size; have := hB2.size; simp at *; omega)
    have hle : w.heap.size + 3 ≤ w2.heap.size := by have := hb0.size; have := hB.size; have := hB2.size; simp at *; omega
    have hRd' := (hm.1.block (w.heap.size + 1 + 1) (by omega) (by simp; omega)).trans hRd
    have hld := run_loadAt_mid (P := Tryz.prog) W' w2.heap.size 0 48 (words (gl W H xs a b (cellsL W H xs))) (.struct _) (fun j v hv => by rw [Nat.zero_add, cell_of_row _ _ _ _ _ _ hm.2]; simpa using hv) rfl rfl (by rw [info_ground]; simp [words, gl])
    have hst2 : (Instr.storeAt 48 (.pointer (some ⟨w.heap.size + 1 + 1, 0, none⟩)) (.agg (words (gl W H xs a b (cellsL W H xs))).toArray)).run Tryz.prog W' = .ok () (W'.setRow (w.heap.size + 1 + 1) (words (gl W H xs a b (cellsL W H xs))).toArray) := by
      simp only [Instr.storeAt, Instr.sureAddr, Sem.run_bind, Sem.run_pure, Result.andThen_ok]
      exact run_storeVar_row _ _ _ _ _ _ hRd' (by rw [info_ground]; simp [words, gl]) (by rw [zero_ground]; simp [words, gl]) (all_oneCell_toArray (words_one _))
    have hh2 := heap_setRow (c' := (words (gl W H xs a b (cellsL W H xs))).toArray) hRd'
    have hg2 := grown_setRow W' (w.heap.size + 1 + 1) (words (gl W H xs a b (cellsL W H xs))).toArray
    have hb4 : Below w.heap.size w (W'.setRow (w.heap.size + 1 + 1) (words (gl W H xs a b (cellsL W H xs))).toArray) := hbw.grown hg2 hbw.size (fun k e => by cases e; omega)
    have hd2 := (hg2.block D (Array.getElem?_eq_some_iff.1 hd).1 (by simp; omega)).trans hd
    generalize W'.setRow (w.heap.size + 1 + 1) (words (gl W H xs a b (cellsL W H xs))).toArray = W4 at hst2 hh2 hg2 hb4 hd2
    clear hm hst hB hB2 hc3 hit hcl hRd hRd' hg2 hbw
    have HH := Lib.hid hh2
    clear hh2
    gi_wp2_with (first | refine wpIn_load_run 48 _ _ _ rfl rfl hld ?_ | refine wpIn_store_run 48 _ _ _ _ rfl rfl rfl hst2 ?_)
    refine ⟨by simp, .inl ⟨_, _, rfl, run_takeDeferred hd2, ?_⟩⟩
    have hne : w.heap.size + 1 + 1 ≠ D := by omega
    refine ⟨_, results_cell_row rfl _ _ _ _ (words (gl W H xs a b (cellsL W H xs))).toArray _ _ rfl ((World.putObj_heap_other hne).trans HH.out) rfl rfl (by rw [info_ground]; simp [words, gl]), rfl, ?_⟩
    exact hb4.grown (grownBy_putObj' W4 D _) hb4.size (fun k e => by cases e; omega)
end Go.Proofs.YtjplcnbifcpebaaGreatDoor

namespace Go.Proofs.YtjplcnbifcpebaaGreatDoor
open Go.RowKit Go.Shelf
attribute [local go_sem] Oper.semAt_some

theorem isOnE_any (W H : Int) (A : Option Addr) (n c : Nat) (xs : List Int) (a b : Int) (w : World) (ha : Rd w A n xs) :
    Calls Tryz.prog 32 #[brd W H A n c, lpr a b, .slice none 0 0] w fun e w' => e = .returned (.bool (twoV W H xs a b)) ∧ Below w.heap.size w w' := by
  have h := isLeaperOnK_any W H A n c xs a b none 0 0 [] w ha (Rd.nil w none)
  rw [show onK W H xs a b [] = twoV W H xs a b by simp [onK]] at h
  exact h
theorem two_lp {W H a b : Int} {xs : List Int} (h : twoV W H xs a b = true) : leaperB a b = true := by simp only [twoV, Bool.and_eq_true] at h; exact h.2
def deadB (W H : Int) (xs : List Int) (a b c : Int) : Bool := decide ((leapsL W H xs a b c).length ≤ 1)
def deadL (W H : Int) (xs : List Int) (a b : Int) : List Int := (cellsL W H xs).filter (deadB W H xs a b)
def deadV (W H : Int) (xs : List Int) (a b : Int) : List Int := if twoV W H xs a b then deadL W H xs a b else []

theorem wpListIn_app1 {F : Fence} {nF : Nat} {P : Program} {w : World} {ops : Array Oper} {rest : List Oper} {o : Oper} {a : Act} {Q : Exit → Act → World → Prop} (hgd : o.guard = none) (s x : Operand) (T E : TypeId)
    (ho : o.op = .call { callee := .builtin .append, args := #[s, x], argTypes := #[T, T] }) (i0 : TypeInfo)
    (hT : P.underlying T = some (.slice E)) (hi : P.info? E = some i0) (hz0 : i0.zero = some (.int .i64 0)) (hz1 : i0.size = 1) (hz2 : i0.bytes = 8)
    (lo : Nat) (A : Option Addr) (n c : Nat) (xs : List Int) (q : Int) (hs : a.eval s = .slice A n c) (hown : OwnI E w lo A n c xs) (hx : a.eval x = .slice (some ⟨w.heap.size, 0, none⟩) 1 1)
    (hn : n ≤ 1000000) (hlo : lo ≤ w.heap.size)
    (h : ∀ A' c' w', OwnI E w' lo A' (n + 1) c' (xs ++ [q]) → Below lo w w' → KeepsFrom lo w w' → wpListIn F nF P ops Q rest (a.put o.dst (.slice A' (n + 1) c')) w') :
    wpListIn F nF P ops Q (o :: rest) a (w.alloc (.cells #[.int .i64 q] E)) := by
  refine wpListIn_append_own (w.alloc (.cells #[.int .i64 q] E)) hgd s x T ho lo E i0 (.int .i64 0) 1 8 hT hi hz0 hz1 hz2 rfl (by decide) (.slice A n c) n (xs.map (Value.int .i64)) hs (World.ownsRow.alloc hown _)
    ⟨w.heap.size, 0, none⟩ 1 1 [.int .i64 q] hx rfl ?_ ?_ (by unfold maxLen; omega) (by omega) (by simp; omega) ?_
  · intro j u hj
    match j, hj with
    | 0, hj =>
      simp at hj; subst hj
      exact cell_of_row (w.alloc (.cells #[.int .i64 q] E)) w.heap.size 0 #[.int .i64 q] E (0, 0) (World.alloc_heap_new w _)
  · intro u hu; simp at hu; subst hu; rfl
  · intro v' w' hown' hgrow _
    have e : xs.map (Value.int .i64) ++ [.int .i64 q] = (xs ++ [q]).map (Value.int .i64) := by simp
    rw [e] at hown'
    obtain ⟨A', c', rfl, hO⟩ := own_form hown'
    have hb : Below lo w (w.alloc (.cells #[.int .i64 q] E)) := (Below.refl _ _).alloc hlo _
    refine h A' c' w' hO (hb.grown hgrow (by simp; omega) (fun k hk => (World.ownsRow.lt hown k hk).1)) ⟨Nat.le_trans (by simp) hgrow.size, fun k o hk ho hc => ?_⟩
    have hlt := (Array.getElem?_eq_some_iff.1 ho).1
    refine ((hgrow.block k (by simp; omega) (fun e => ?_)).trans (Below.heap_alloc w _ k hlt)).trans ho
    rcases hown.2 with ⟨e1, _⟩ | ⟨g, cap, cur, e1, _, e2, _⟩
    · rw [e1] at e; cases e
    · rw [e1] at e
      have : k = g := by simpa [Value.ownBlock] using e
      rw [this, e2] at ho
      cases ho
      cases hc

/-- The ends that have been found when the cells of pre have been looked at. -/
def EndsG (w Wb : World) (gb q : Nat) (C : Array Value) (p : Int → Bool) (pre : List Int) (W' : World) : Prop :=
  Below w.heap.size w W' ∧ Wb.heap.size ≤ W'.heap.size ∧ W'.heap[gb]? = some (.cells C 48 (0, 0)) ∧
    ∃ A n c, W'.heap[q]? = some (.cells #[.slice A n c] 22 (0, 0)) ∧ OwnI 3 W' Wb.heap.size A n c (pre.filter p)
theorem endsG_own {w Wb : World} {gb q : Nat} {C : Array Value} {p : Int → Bool} (hg : gb < Wb.heap.size) (hq : q < Wb.heap.size) (hw : w.heap.size ≤ Wb.heap.size) : OwnFrom Wb.heap.size (EndsG w Wb gb q C p) := by
  rintro s W1 W2 row ⟨hb, hs, hc, A, n, c, hqq, ho⟩ hgr hr
  have hne : ∀ k, k < Wb.heap.size → some k ≠ row := fun k hk e => by have := (hr k e.symm).1; omega
  refine ⟨hb.grown hgr (Nat.le_trans hw hs) (fun k e => Nat.le_trans hw (hr k e).1), Nat.le_trans hs hgr.size, (hgr.block gb (by omega) (hne _ hg)).trans hc, A, n, c, (hgr.block q (by omega) (hne _ hq)).trans hqq, ho.other hgr ?_⟩
  intro ad e er
  obtain ⟨_, ob, h1, h2⟩ := hr _ er.symm
  rcases ho.2 with ⟨e1, _⟩ | ⟨g, cap, cur, e1, _, e2, _⟩
  · rw [e] at e1; cases e1
  · rw [e] at e1
    have : ad = ⟨g, 0, none⟩ := by injection e1 with e3; injection e3
    rw [this, e2] at h1
    cases h1
    cases h2
theorem own_ne {E : TypeId} {w : World} {lo n c r : Nat} {A : Option Addr} {xs : List Int} {o : Obj} (ho : OwnI E w lo A n c xs) (h : w.heap[r]? = some o) (hc : o.isCells = false) : ∀ ad, A = some ad → some ad.block ≠ some r := by
  intro ad e er
  rcases ho.2 with ⟨e1, _⟩ | ⟨g, cap, cur, e1, _, e2, _⟩
  · rw [e] at e1; cases e1
  · rw [e] at e1
    have e5 : ad = ⟨g, 0, none⟩ := by injection e1 with e3; injection e3
    have e6 : g = r := by rw [e5] at er; simpa using er
    rw [e6, h] at e2
    injection e2 with e7
    rw [e7] at hc
    cases hc
theorem gl_get {W H a b x : Int} {xs pre : List Int} (h0 : 0 ≤ x) (h1 : x < 64) (hx : x ∈ pre) : (words (gl W H xs a b pre)).toArray[1 + x.toNat]? = some (.int .u64 ((nearS W H xs a b x : Nat) : Int)) := by
  rw [List.getElem?_toArray, words, List.getElem?_map, gl, show 1 + x.toNat = x.toNat + 1 by omega, List.getElem?_cons_succ, List.getElem?_map, List.getElem?_range (by omega)]
  simp [show ((x.toNat : Nat) : Int) = x by omega, hx]
theorem leaps_pop {W H a b x : Int} {xs : List Int} (h : ∀ y ∈ leapsL W H xs a b x, 0 ≤ y ∧ y < 64) : popN 64 (nearS W H xs a b x) = (leapsL W H xs a b x).length :=
  (pop_walk h).2 (((cellsL_rise W H xs).filter _).imp (fun h => by omega))

end Go.Proofs.YtjplcnbifcpebaaGreatDoor

namespace Go.Proofs.YtjplcnbifcpebaaGreatDoor
open Go.ChangeShapes Go.WideShapes Go.ChangeAt Go.RowKit Go.Joins
set_option linter.unusedVariables false

theorem own : ownKnob Tryz.prog.godebug = none := by kernel_rfl
theorem laidOut : laidOutB Tryz.prog = true := by kernel_rfl
theorem rkI : Tryz.prog.cellsOf 3 = 1 := by kernel_rfl
theorem rkL : Tryz.prog.cellsOf 26 = 2 := by kernel_rfl
theorem rkB : Tryz.prog.cellsOf 24 = 3 := by kernel_rfl

theorem okT_I : Tryz.prog.readableRec 3 = true ∧ 3 < Tryz.prog.types.size := ⟨by kernel_rfl, of_decide_eq_true (by kernel_rfl)⟩
theorem okT_L : Tryz.prog.readableRec 26 = true ∧ 26 < Tryz.prog.types.size := ⟨by kernel_rfl, of_decide_eq_true (by kernel_rfl)⟩
theorem okT_B : Tryz.prog.readableRec 24 = true ∧ 24 < Tryz.prog.types.size := ⟨by kernel_rfl, of_decide_eq_true (by kernel_rfl)⟩
theorem okT_P : Tryz.prog.readableRec 22 = true ∧ 22 < Tryz.prog.types.size := ⟨by kernel_rfl, of_decide_eq_true (by kernel_rfl)⟩
theorem okT_S : Tryz.prog.readableRec 9 = true ∧ 9 < Tryz.prog.types.size := ⟨by kernel_rfl, of_decide_eq_true (by kernel_rfl)⟩

/-! ### The closed facts of the program, once for all laws -/
theorem pf_laid : laidOutB Tryz.pinned.checked.prog = true := laidOut
theorem pf_maps : mapsRowed Tryz.pinned.checked.prog = true := by kernel_rfl
theorem pf_stops : (Tryz.pinned.checked.prog.stops == []) = true := by kernel_rfl
theorem pf_knobs : (Tryz.pinned.checked.prog.stopKnobs == []) = true := by kernel_rfl
theorem pf_heard : Tryz.pinned.checked.prog.stopsHeard = true := by kernel_rfl
theorem pf_plain : (true == Tryz.pinned.checked.prog.plainKeys) = true := by kernel_rfl
theorem pf_later : Tryz.pinned.checked.prog.laysLater = false := by kernel_rfl
theorem pf_reflect : Tryz.pinned.checked.prog.bearsReflect = false := by kernel_rfl
theorem pf_door : Tryz.pinned.checked.prog.doorFits [] = true := by kernel_rfl
/-- The signs of the dump's head, as numbers: so the kernel reads it once, and quickly. -/
def headNats : List Nat := [104, 97, 114, 110, 101, 115, 115, 32, 56, 48, 51, 56, 51, 53, 54, 100, 48, 101, 55, 49, 48, 55, 100, 55, 55, 55, 100, 54, 98, 55, 99, 48, 54, 54, 50, 97, 55, 55,
  101, 52, 102, 100, 50, 102, 53, 98, 102, 48, 53, 102, 98, 52, 55, 52, 51, 53, 49, 55, 99, 100, 53, 54, 50, 99, 48, 51, 56, 51, 53, 56, 55, 53, 32, 99, 117, 116,
  32, 97, 116, 32, 108, 111, 111, 112, 46, 101, 120, 97, 109, 112, 108, 101, 47, 103, 48, 49, 50, 51, 57, 47, 108, 97, 119, 115, 46, 70, 110, 69, 120, 97, 99, 116,
  70, 105, 108, 108, 80, 101, 97, 99, 101, 102, 117, 108]
set_option maxRecDepth 100000 in
theorem head_eq : Tryz.pinned.checked.prog.initOrder = String.ofList (headNats.map Char.ofNat) := by kernel_rfl
theorem head_list : Tryz.pinned.checked.prog.initOrder.toList = headNats.map Char.ofNat := by rw [head_eq, String.toList_ofList]
theorem pf_head : (behindMainWord (wordsSigns (headNats.map Char.ofNat))).head? = some "cut".toList := by kernel_rfl
theorem strip_cut (rest : List (List Char)) : stripLifts liftWords ("cut".toList :: rest) = ([], "cut".toList :: rest) := by kernel_rfl
/-- A head that opens with the one word, over whatever program. -/
theorem enter_of {P : Program} {L : List Char} {rest : List (List Char)} (h1 : P.initOrder.toList = L) (h2 : behindMainWord (wordsSigns L) = "cut".toList :: rest)
    (ha : P.laysLater = false) (hb : P.bearsReflect = false) (hc : P.doorFits [] = true) : P.mayEnter = true := by
  unfold Program.mayEnter
  rw [h1, h2]
  simp only [strip_cut, ha, hb, hc]
  simp
theorem final_of {P : Program} {L : List Char} {rest : List (List Char)} (h1 : P.initOrder.toList = L) (h2 : behindMainWord (wordsSigns L) = "cut".toList :: rest) : P.liftsFinal = false := by
  unfold Program.liftsFinal Program.headLifts
  rw [h1, h2]
  simp only [strip_cut]
  simp
theorem make_of {P : Program} {L : List Char} {rest : List (List Char)} (h1 : P.initOrder.toList = L) (h2 : behindMainWord (wordsSigns L) = "cut".toList :: rest) : P.make = some .cut := by
  unfold Program.make
  rw [h1, h2]
  simp
theorem pf_make : Tryz.pinned.checked.prog.make = some .cut := by
  obtain ⟨rest, hr⟩ := List.head?_eq_some_iff.1 pf_head
  exact make_of head_list hr
theorem pf_enter : Tryz.pinned.checked.prog.mayEnter = true := by
  obtain ⟨rest, hr⟩ := List.head?_eq_some_iff.1 pf_head
  exact enter_of head_list hr pf_later pf_reflect pf_door
theorem pf_final : Tryz.pinned.checked.prog.liftsFinal = false := by
  obtain ⟨rest, hr⟩ := List.head?_eq_some_iff.1 pf_head
  exact final_of head_list hr

/-- The closed facts of a law, one by one. -/
theorem joined_of {P : Program} {f : FuncId} {fn : Func} {s : ChangeSpec} {c : OpenClaim}
    (a1 : c.wf (OpenSpec.ofChange s) = true) (a2 : laidOutB P = true) (a3 : mapsRowed P = true) (a4 : fn.params.all (P.readableRec ·) = true) (a5 : namedTie P c.named s.vars = true)
    (a6 : (c.stops == []) = true) (a7 : (P.stops == []) = true) (a8 : (c.knobs == []) = true) (a9 : (P.stopKnobs == []) = true)
    (b1 : (c.inPlace == P.inPlace f) = true) (b2 : (c.unfollowed == P.unfollowed f) = true) (b3 : (c.recurses == P.recurses f) = true) (b4 : (c.named == P.varsNamed f) = true)
    (c1 : (c.maps == (fn.params.toList ++ s.plain.varTypes P).any (P.mapsRec ·)) = true) (c2 : (c.ifaces == (fn.params.toList ++ s.plain.varTypes P).any (P.ifacesRec ·)) = true) (c3 : (c.mapsOut == P.mapsAmong fn.resultTypes.toList) = true)
    (c4 : (c.loops == (fn.params.toList ++ s.plain.varTypes P).any (P.loopsFrom ·)) = true) (c5 : (c.wideKeys == (fn.params.toList ++ s.plain.varTypes P ++ fn.resultTypes.toList).any (P.wideKeysFrom ·)) = true)
    (c6 : s.vars.all (P.varReadable ·) = true) (c7 : fn.resultTypes.all (fun t => P.readableRec t && decide (t < P.types.size)) = true) (c8 : (c.ifacesOut == fn.resultTypes.toList.any (P.ifacesRec ·)) = true) (c9 : (c.loopsOut == fn.resultTypes.toList.any (P.loopsFrom ·)) = true)
    (d1 : (c.plainKeys == P.plainKeys) = true) (d2 : c.shortTexts.isNone = true) (d3 : P.stopsHeard = true) (d4 : P.mayEnter = true) (d5 : P.liftsFinal = false) (d6 : c.lifted = false) (d7 : P.make = some .cut) (d7' : c.make = .cut)
    (d8 : c.kinds = []) (d0 : c.domain = []) (d9 : (c.pinned == c.pinnedBy) = true)
    (e1 : (c.veiled == (fn.params.toList ++ s.plain.varTypes P ++ fn.resultTypes.toList).any (P.veiledRec ·)) = true) (e2 : c.veiledFits P fn.params.toList (fn.params.toList ++ s.plain.varTypes P ++ fn.resultTypes.toList) = true) :
    joinedFacts P f fn s c = true := by
  unfold joinedFacts
  rw [a1, a2, a3, a4, a5, a6, a7, a8, a9, b1, b2, b3, b4, c1, c2, c3, c4, c5, c6, c7, c8, c9, d1, d2, d3, d4, d5, d6, d7, d7', d8, d0, d9, e1, e2]
  rfl

section
variable {H : Type} {enc : TypeId × Value → H}

set_option maxRecDepth 100000 in
/-- All arguments read behind the call as they read before it, one after the other. -/
theorem trodAll_below {W W' : World} (hb : Below W.heap.size W W') : ∀ (ts : List TypeId) (vs : List Value) (ds : List (DataW H)) (ps : List MemPlace),
    (∀ t ∈ ts, Tryz.prog.readableRec t = true ∧ t < Tryz.prog.types.size) → (∀ x ∈ ps, x.block < W.heap.size) →
    DataW.TrodAll enc Tryz.prog W 0 (fun _ => true) true ts vs ds ps → DataW.TrodAll enc Tryz.prog W' 0 (fun b => decide (b < W.heap.size)) true ts vs ds ps
  | [], vs, ds, ps, _, _, h => by
    obtain ⟨rfl, rfl, rfl⟩ := trodAll_nil h
    exact trodAll_mk0
  | t :: ts, vs, ds, ps, ht, hp, h => by
    obtain ⟨v, vs', d, ds', p, q, rfl, rfl, rfl, h0, r0⟩ := trodAll_cons h
    have h1 := ht t (List.mem_cons_self)
    exact trodAll_cons_mk (Below.trod laidOut h1.1 h1.2 h0 hb (fun x hx => hp x (by simp [hx])))
      (trodAll_below hb ts vs' ds' q (fun t' h' => ht t' (List.mem_cons_of_mem _ h')) (fun x hx => hp x (by simp [hx])) r0)

set_option maxRecDepth 100000 in
/-- A slice of ints that came in reads as a list. -/
theorem open_trod_row {W : World} {base fuel : Nat} {v : Value} {y : DataW H × List MemPlace} (h : DataW.trod enc Tryz.prog W base (fun _ => true) true fuel 22 [v] = some y) (hlt : ∀ x ∈ y.2, x.block < W.heap.size) :
    ∃ A n c xs, v = .slice A n c ∧ Rd W A n xs := by
  rcases open_ints Tryz.underlying22 Tryz.underlying3 rkI h with ⟨hcs, hx⟩ | ⟨a, len, cap, zs, hcs, _, hl, hm, hz, hx, hcell, hwz⟩
  · injection hcs with hv _
    exact ⟨none, 0, 0, [], hv, Rd.nil _ _⟩
  · injection hcs with hv _
    have hz' : zs.length = cap := by simpa using hz
    refine ⟨some a, len, cap, zs.take len, hv, by rw [List.length_take]; omega, by unfold maxLen at hm; omega, fun k hk => ?_⟩
    have hck := hcell k (by omega)
    obtain ⟨b, off, spot⟩ := a
    have hspot : spot = none := by simpa [Addr.add] using World.cell?_spot (hcell 0 (by omega))
    subst hspot
    have hbW : b < W.heap.size := hlt (.cell b off) (by rw [hx]; exact MemPlace.mem_row.2 ⟨0, by omega, by simp⟩)
    refine ⟨b, off, zs.getD k 0, rfl, hbW, ?_, ?_⟩
    · rw [List.getElem?_take, if_pos hk, List.getD_eq_getElem?_getD, List.getElem?_eq_getElem (by omega)]; rfl
    · rw [← add_plain]; exact hck

set_option maxRecDepth 100000 in
theorem open_row {W : World} {base : Nat} {v : Value} {d : DataW H} {p : List MemPlace} {r : Reach} {b0 : Nat} (hv : Value.okWide Tryz.prog W r b0 22 v) (h : DataW.Trod enc Tryz.prog W base (fun _ => true) true 22 v d p) (hlt : ∀ x ∈ p, x.block < W.heap.size) :
    ∃ A n c xs, v = .slice A n c ∧ Rd W A n xs := by
  obtain ⟨a0, len, cap, hv'⟩ := okWide_slice Tryz.underlying22 hv
  obtain ⟨fuel, hf⟩ := h
  rw [hv'] at hf ⊢
  exact open_trod_row hf hlt

set_option maxRecDepth 100000 in
theorem open_leaper {W : World} {base : Nat} {v : Value} {d : DataW H} {p : List MemPlace} {r : Reach} {b0 : Nat} (hv : Value.okWide Tryz.prog W r b0 26 v) (h : DataW.Trod enc Tryz.prog W base (fun _ => true) true 26 v d p) :
    ∃ a b, v = lpr a b := by
  obtain ⟨c0, c1, y0, y1, m, hv', _, _, hy0, hy1⟩ := open_agg2 Tryz.underlying26 (by kernel_rfl) rkL hv h
  obtain ⟨a, e0, _, _⟩ := DataW.trod_int Tryz.underlying3 hy0
  obtain ⟨b, e1, _, _⟩ := DataW.trod_int Tryz.underlying3 hy1
  injection e0 with e0 _
  injection e1 with e1 _
  exact ⟨a, b, by rw [hv', e0, e1]⟩

set_option maxRecDepth 100000 in
theorem open_board {W : World} {base : Nat} {v : Value} {d : DataW H} {p : List MemPlace} {r : Reach} {b0 : Nat} (hv : Value.okWide Tryz.prog W r b0 24 v) (h : DataW.Trod enc Tryz.prog W base (fun _ => true) true 24 v d p) (hlt : ∀ x ∈ p, x.block < W.heap.size) :
    ∃ V G A n c xs, v = brd V G A n c ∧ Rd W A n xs := by
  obtain ⟨c0, c1, c2, y0, y1, y2, m, hv', _, hp, hy0, hy1, hy2⟩ := open_agg3 Tryz.underlying24 (by kernel_rfl) rkB hv h
  obtain ⟨a, e0, _, _⟩ := DataW.trod_int Tryz.underlying3 hy0
  obtain ⟨b, e1, _, _⟩ := DataW.trod_int Tryz.underlying3 hy1
  injection e0 with e0 _
  injection e1 with e1 _
  obtain ⟨A, n, c, xs, e2, hr⟩ := open_trod_row hy2 (fun x hx => hlt x (by rw [hp]; simp [hx]))
  exact ⟨a, b, A, n, c, xs, by rw [hv', e0, e1, e2], hr⟩

set_option maxRecDepth 100000 in
/-- The statement's end: the law has answered true, and nothing that was there has turned. -/
theorem law_post {f : Func} {s : ChangeSpec} {W W' : World} {args : Array Value} {ds : List (DataW H)} {before : List MemPlace} (hf : f.resultTypes = #[4])
    (hps : ∀ t ∈ f.params.toList, Tryz.prog.readableRec t = true ∧ t < Tryz.prog.types.size)
    (hW : DataW.Whole enc Tryz.prog f.params.toList s.vars false W args.toList ds [] before)
    (hA : DataW.TrodAll enc Tryz.prog W 0 (fun _ => true) true f.params.toList args.toList ds before)
    (hr : (s.fn H (ds ++ [])).results = [.lit (.bool true)]) (ha : (s.fn H (ds ++ [])).args = ds) (hv : (s.fn H (ds ++ [])).vars = []) (hsv : s.vars = [])
    (hb : Below W.heap.size W W') : s.post enc Tryz.prog f false true false false W args (.bool true) W' := by
  refine ⟨_, _, _, [], before, [], hW, ?_, ?_, ?_, hb.frame _, fun h => by cases h⟩
  · rw [hf, hr]; exact trodAll_mk1 (shut_bool Tryz.underlying4 _)
  · rw [ha]; exact trodAll_below hb _ _ _ _ hps (fun x hx => by simpa using hW.lt x hx) hA
  · rw [hv, hsv]; rfl

end
end Go.Proofs.YtjplcnbifcpebaaGreatDoor

namespace Go.Proofs.YtjplcnbifcpebaaGreatDoor
open Go.ChangeShapes Go.WideShapes Go.ChangeAt Go.RowKit

abbrev laidTab {H : Type} : List (String × DataW H) := [("math/bits.deBruijn64tab", Rows.laid_math_bits_deBruijn64tab)]
theorem tab_name : Tryz.prog.globalNamed "math/bits.deBruijn64tab" = some 0 := by kernel_rfl
theorem tab_type : (Tryz.prog.globals[0]?).map (·.type) = some (Tryz.tz64_ren.t 54) := by kernel_rfl
theorem tab_under : Tryz.prog.underlying (Tryz.tz64_ren.t 54) = some (.array 64 (Tryz.tz64_ren.t 5)) := Tryz.tz64.t54
theorem tab_elem : Tryz.prog.underlying (Tryz.tz64_ren.t 5) = some (.int .u8) := Tryz.tz64.t5
theorem tab_cells : Tryz.prog.cellsOf (Tryz.tz64_ren.t 54) = 64 := by kernel_rfl
theorem tab_one : Tryz.prog.cellsOf (Tryz.tz64_ren.t 5) = 1 := by kernel_rfl
theorem tab_datum : (Rows.laid_math_bits_deBruijn64tab : DataW Unit) = Lib.tabData .u8 (Lib.deBruijn64tab.map fun n : Nat => (n : Int)) := by kernel_rfl
theorem tab_of_laid {W : World} (h : laidMetH Tryz.prog laidTab W) : Tab64 W ∧ 0 < W.heap.size := by
  rw [MakeChecks.laidMetH_plain _ _ _ (by kernel_rfl), laidTab, tab_datum] at h
  have hT := Lib.tabIs_of_head tab_name tab_type tab_under tab_elem tab_one tab_cells h
  have hc : Tab64 W := by
    intro j hj
    have := hT.cell tab_name j (by simpa using hj)
    rw [this]
    simp [List.getD_eq_getElem?_getD, List.getElem?_map, List.getElem?_eq_getElem hj]
  exact ⟨hc, World.block_lt_of_cell? _ _ (hc 0 (by decide))⟩
set_option maxRecDepth 100000 in
/-- The door's own heap meets the condition. -/
theorem door_met (os : Os) (args : Array Value) : laidMetH Tryz.prog laidTab ((World.doorLaid Tryz.prog 400 os).forCall (fun _ _ => 0) ⟨#[], args, []⟩).memory :=
  laidMetH_of_parts3 (fuel := 8) (laidMet_of_run' 8 (by kernel_rfl) (by kernel_rfl)) (by kernel_rfl) (by kernel_rfl)
end Go.Proofs.YtjplcnbifcpebaaGreatDoor

namespace Go.Proofs.YtjplcnbifcpebaaGreatDoor
open Go.RowKit

theorem OwnI.span {E : TypeId} {w : World} {lo : Nat} {A : Option Addr} {n c : Nat} {xs : List Int} (h : OwnI E w lo A n c xs) : ∀ a, A = some a → lo ≤ a.block ∧ a.block < w.heap.size := by
  intro a ha
  rcases h.form with ⟨h0, _⟩ | ⟨g, h1, h2, h3, _⟩
  · rw [h0] at ha; cases ha
  · rw [h1] at ha; injection ha with ha; subst ha; exact ⟨h2, h3⟩
theorem row_ne {A : Option Addr} {β : Nat} (h : ∀ a, A = some a → β ≠ a.block) : some β ≠ rowOf A := by
  cases A with
  | none => simp [rowOf]
  | some a => have := h a rfl; simp [rowOf]; exact this
theorem cell_mark {w w' : World} {b i : Nat} {v : Value} {row : Option Nat} (h : w.cell? ⟨b, i, none⟩ = some v) (hg : w.grownBy w' row) (hne : some b ≠ row) : w'.cell? ⟨b, i, none⟩ = some v := hg.cell h hne
theorem row_ge {A : Option Addr} {β : Nat} (h : ∀ a, A = some a → β ≤ a.block) : ∀ k, rowOf A = some k → β ≤ k := by
  intro k hk
  cases A with
  | none => simp [rowOf] at hk
  | some a => have := h a rfl; simp [rowOf] at hk; omega
theorem World.lt_alloc (w : World) (o : Obj) : w.heap.size + 1 ≤ (w.alloc o).heap.size := by simp
theorem World.le_alloc (w : World) (o : Obj) : w.heap.size ≤ (w.alloc o).heap.size := by simp

end Go.Proofs.YtjplcnbifcpebaaGreatDoor

namespace Go.Proofs.YtjplcnbifcpebaaGreatDoor
open Go.RowKit Go.Shelf
attribute [local go_sem] Oper.semAt_some

/-- The list that has been gathered when the cells of pre have been handed over. -/
def CollG (w Wb : World) (q : Nat) (pre : List Int) (W' : World) : Prop :=
  Below w.heap.size w W' ∧ Wb.heap.size ≤ W'.heap.size ∧ ∃ A n c, W'.heap[q]? = some (.cells #[.slice A n c] 22 (0, 0)) ∧ OwnI 3 W' Wb.heap.size A n c pre
theorem collG_own {w Wb : World} {q : Nat} (hq : q < Wb.heap.size) (hw : w.heap.size ≤ Wb.heap.size) : OwnFrom Wb.heap.size (CollG w Wb q) := by
  rintro s W1 W2 row ⟨hb, hs, A, n, c, hqq, ho⟩ hgr hr
  have hne : ∀ k, k < Wb.heap.size → some k ≠ row := fun k hk e => by have := (hr k e.symm).1; omega
  refine ⟨hb.grown hgr (Nat.le_trans hw hs) (fun k e => Nat.le_trans hw (hr k e).1), Nat.le_trans hs hgr.size, A, n, c, (hgr.block q (by omega) (hne _ hq)).trans hqq, ho.other hgr ?_⟩
  intro ad e er
  obtain ⟨_, ob, h1, h2⟩ := hr _ er.symm
  rcases ho.2 with ⟨e1, _⟩ | ⟨g, cap, cur, e1, _, e2, _⟩
  · rw [e] at e1; cases e1
  · rw [e] at e1
    have : ad = ⟨g, 0, none⟩ := by injection e1 with e3; injection e3
    rw [this, e2] at h1
    cases h1
    cases h2
theorem bitsL_len (s : Nat) : (bitsL s).length ≤ 64 := by
  unfold bitsL
  rw [List.length_map]
  exact Nat.le_trans (List.length_filter_le _ _) (by simp)

set_option maxRecDepth 100000 in
set_option maxHeartbeats 1000000 in
theorem appendSeq_any (s : Nat) (hs : s < 18446744073709551616) (w : World) (hT : Tab64 w) (hgb : 0 < w.heap.size) :
    Calls Tryz.prog 55 #[.slice none 0 0, .func (.func 35) #[.int .u64 (s : Int)] #[]] w fun e w' => ∃ A n c, e = .returned (.slice A n c) ∧ OwnI 3 w' w.heap.size A n c (bitsL s) ∧ Below w.heap.size w w' := by
  refine (callsIn_wide (n := 9)).1 ?_
  refine callsIn_of_wp_marks Tryz.func55 rfl trivial ?_ rfl
  simp only [Tryz.ntmps55, List.size_toArray, List.length_cons, List.length_nil, Nat.reduceAdd, Nat.reduceSub, Array.replicate_succ, Array.replicate_zero, List.push_toArray, List.append_toArray, List.nil_append, List.cons_append]
  obtain ⟨i0, hi, hz0, hz1, hz2⟩ := info_parts infoI
  have HI := Lib.hid hi; have HZ0 := Lib.hid hz0; have HZ1 := Lib.hid hz1; have HZ2 := Lib.hid hz2
  clear hi hz0 hz1 hz2
  have HT := Lib.hid hT
  obtain ⟨Wb, hWb⟩ : ∃ Wb, Wb = w.alloc (.cells #[.slice none 0 0] 22) := ⟨_, rfl⟩
  have hsb : Wb.heap.size = w.heap.size + 1 := by rw [hWb]; simp
  have hbb : Below w.heap.size w Wb := by rw [hWb]; exact below_new (Below.refl _ _) _
  have hqb : Wb.heap[w.heap.size]? = some (.cells #[.slice none 0 0] 22 (0, 0)) := by rw [hWb]; exact World.alloc_heap_new _ _
  clear hT
  gi_wp2
  rw [← hWb]
  clear hWb
  have h0 : CollG w Wb w.heap.size [] Wb := ⟨hbb, Nat.le_refl _, none, 0, 0, hqb, OwnI.none_ _ _ _⟩
  have hit := each_hands (9 - 1) s hs
  refine wpIn_handsQ (q := 5) rfl (fun args w => by simp [go_sem]) hit (CollG w Wb w.heap.size) (fun pre w' h => HT.out.keep hgb h.1) (collG_own (by omega) (by omega)) h0 ?_ ?_ ?_
  · intro l x W' K hK
    gi_wp2
    exact hK
  · rintro l pre x rest W' hl hsp ⟨hb1, hs1, A1, n1, c1, hq1, ho1⟩
    have hqc : W'.cell? ⟨w.heap.size, 0, none⟩ = some (.slice A1 n1 c1) := by rw [cell_of_row _ _ _ _ _ _ hq1]; rfl
    have hn1 : n1 ≤ 64 := by
      have h1 := ho1.len
      have h3 := bitsL_len s
      rw [hsp, List.length_append] at h3
      omega
    have HO := Lib.hid ho1; have HQ1 := Lib.hid hq1; have HSP := Lib.hid hsp; have HB1 := Lib.hid hb1
    clear ho1 hq1 hsp hb1 hit h0 hqb
    gi_wp2_with (refine wpListIn_app1 rfl (.tmp 8) (.tmp 10) 22 3 rfl i0 Tryz.underlying22 HI.out HZ0.out HZ1.out HZ2.out Wb.heap.size A1 n1 c1 _ x rfl HO.out rfl (by omega) (by omega) ?_; intro A4 c4 w4 hown4 hb4 hk4; have hq4 := (hb4.block w.heap.size (by omega)).trans HQ1.out; have hqc4 : w4.cell? ⟨w.heap.size, 0, none⟩ = some (.slice A1 n1 c1) := (by rw [cell_of_row _ _ _ _ _ _ hq4]; rfl); have hqf4 : w4.frozen? ⟨w.heap.size, 0, none⟩ = false := frozen_of_row _ _ _ _ _ hq4; have HQ4 := Lib.hid hq4; have HO4 := Lib.hid hown4; have HB4 := Lib.hid hb4; have HK4 := Lib.hid hk4; clear hq4 hown4 hb4 hk4)
    have hgs := grown_set w4 w.heap.size 0 (.slice A4 (n1 + 1) c4)
    refine ⟨HK4.out.trans (KeepsFrom.of_grownBy hgs (fun j e => by cases e; omega)), trivial, ?_, ?_, A4, n1 + 1, c4, ?_, ?_⟩
    · exact (HB1.out.trans ((HB4.out.mono (by omega)))).grown hgs (by have := HB1.out.size; have := HB4.out.size; omega) (fun k e => by cases e; omega)
    · exact Nat.le_trans hs1 (Nat.le_trans HB4.out.size hgs.size)
    · rw [heap_set _ HQ4.out]; rfl
    · exact HO4.out.set_ (p := ⟨w.heap.size, 0, none⟩) (by show w.heap.size < _; omega) _
  · rintro D W' hD ⟨hb1, hs1, A1, n1, c1, hq1, ho1⟩ hd
    have hqc : W'.cell? ⟨w.heap.size, 0, none⟩ = some (.slice A1 n1 c1) := by rw [cell_of_row _ _ _ _ _ _ hq1]; rfl
    have HO := Lib.hid ho1; have HB1 := Lib.hid hb1
    clear ho1 hq1 hb1 hit h0 hqb
    gi_wp2
    refine ⟨by simp, .inl ⟨_, _, rfl, run_takeDeferred hd, ?_⟩⟩
    refine ⟨_, results_tmp rfl _ _ _, A1, n1, c1, rfl, ?_, ?_⟩
    · exact (HO.out.other (grownBy_putObj' W' D _) (own_ne HO.out hd rfl)).lower (by omega)
    · exact HB1.out.grown (grownBy_putObj' W' D _) (by omega) (fun k e => by cases e; omega)

theorem collect_any (s : Nat) (hs : s < 18446744073709551616) (w : World) (hT : Tab64 w) (hgb : 0 < w.heap.size) :
    Calls Tryz.prog 41 #[.func (.func 35) #[.int .u64 (s : Int)] #[]] w fun e w' => ∃ A n c, e = .returned (.slice A n c) ∧ OwnI 3 w' w.heap.size A n c (bitsL s) ∧ Below w.heap.size w w' := by
  go_enter Tryz.func41, Tryz.ntmps41
  go_wp2_with fail
  refine (appendSeq_any s hs _ hT hgb).mono ?_
  rintro e wv ⟨A, n, c, rfl, ho, hb⟩
  go_wp2
  go_ret
  exact ⟨A, n, c, rfl, ho, hb⟩

theorem cells_any (s : Nat) (hs : s < 18446744073709551616) (w : World) (hT : Tab64 w) (hgb : 0 < w.heap.size) :
    Calls Tryz.prog 27 #[.int .u64 (s : Int)] w fun e w' => ∃ A n c, e = .returned (.slice A n c) ∧ OwnI 3 w' w.heap.size A n c (bitsL s) ∧ Below w.heap.size w w' := by
  go_enter Tryz.func27, Tryz.ntmps27
  go_wp2_with fail
  refine (collect_any s hs _ hT hgb).mono ?_
  rintro e wv ⟨A, n, c, rfl, ho, hb⟩
  go_wp2
  go_ret
  exact ⟨A, n, c, rfl, ho, hb⟩
end Go.Proofs.YtjplcnbifcpebaaGreatDoor

namespace Go.Proofs.YtjplcnbifcpebaaGreatDoor

def noDefer (ops : Array Oper) : Bool := ops.all fun o => match o.op with | .defer _ => false | _ => true
theorem noDefer_at {ops : Array Oper} (h : noDefer ops = true) {i : Nat} {o : Oper} (ho : ops[i]? = some o) (c : Call) : o.op ≠ .defer c := by
  intro e
  have h1 := Array.all_eq_true_iff_forall_mem.1 h o (Array.mem_of_getElem? ho)
  rw [e] at h1
  cases h1
theorem wpIn_round_op {l n : Nat} {P : Program} {o : Oper} {a : Act} {w : World} {K : Act → World → Prop} {Q : Exit → Act → World → Prop} (hd : ∀ c, o.op ≠ .defer c)
    (h : o.wp P a w K Q) : o.wpIn (Fence.wide.inRound l) n P a w K Q := by
  refine ⟨fun _ _ => trivial, ?_⟩
  rw [Oper.semAt_plain _ _ _ hd]
  unfold Oper.wp at h
  generalize (execOp a.eval o).run P w = r at h
  cases r with
  | ok x w' =>
    cases x with
    | value v => exact h
    | skip => exact h
    | defer d => exact h
    | enter f args => exact ⟨(fun e => by cases e), callsIn_wide.2 h⟩
    | row row args =>
      refine ⟨(fun e => by cases e), fun c cs _ => ?_⟩
      obtain ⟨v, w2, h1, h2⟩ := h c cs
      exact ⟨v, w2, h1, stepsIn_wide.2 h2⟩
    | _ => exact h.elim
  | halt x w' =>
    cases x <;> exact h
theorem wpAnyIn_of_any {l n : Nat} {P : Program} {md : Region.Mode} {ops : Array Oper} {Q : Exit → Act → World → Prop} (hd : noDefer ops = true) (hL : ¬ LetsOut Q) :
    ∀ (fuel : Nat) (listed : Array Bool) (a : Act) (w : World), wpAny P md ops Q fuel listed a w → wpAnyIn (Fence.wide.inRound l) n P md ops Q fuel listed a w
  | 0, _, _, _, h => h
  | fuel + 1, listed, a, w, h => by
    refine ⟨h.1, fun i hi => ?_⟩
    have h2 : wpOp P ops Q i (wpAnyIn (Fence.wide.inRound l) n P md ops Q fuel (listed.setIfInBounds i true)) a w := wpOp_mono (fun a w => wpAnyIn_of_any hd hL fuel _ a w) (h.2 i hi)
    unfold wpOp at h2
    unfold wpOpIn
    cases ho : ops[i]? with
    | none => simpa [ho] using h2
    | some o =>
      simp only [ho] at h2 ⊢
      split
      · rename_i hw
        simp only [hw, if_true] at h2
        rcases h2 with h2 | h2
        · exact wpIn_round_op (noDefer_at hd ho) h2
        · exact absurd h2.2 hL
      · rename_i hw
        simp only [hw] at h2
        exact ⟨fun _ _ => trivial, h2⟩
/-- The beginning of a region's walk within a round: what S says is held behind every operation. -/
theorem wpIn_region_held_round {l n : Nat} {P : Program} {id : Nat} {ops : Array Oper} {Q : Exit → Act → World → Prop} {S : World → Prop} {a : Act} {w : World} (hm : P.follows .mixedOrders = true) (hd : noDefer ops = true) (hL : ¬ LetsOut Q)
    (hS : S w.drew) (h : S w.drew → wpAnyH P .any ops Q S ops.size (Array.replicate ops.size false) a w.drew) : (Code.region id ops true).wpIn (Fence.wide.inRound l) n P Q a w :=
  wpIn_region_any hm (wpAnyIn_of_any hd hL _ _ _ _ (wpAny_of_held _ _ _ _ (h hS)))
end Go.Proofs.YtjplcnbifcpebaaGreatDoor

namespace Go.Proofs.YtjplcnbifcpebaaGreatDoor
open Go.RowKit Go.Shelf
attribute [local go_sem] Oper.semAt_some

set_option maxRecDepth 100000 in
set_option maxHeartbeats 1000000 in
/-- 'each' yields the cells of a set, least first, so long as it is told to go on; it may be told to stop. -/
theorem each_inS (n l s : Nat) (hs : s < 18446744073709551616) (J Jx : List Int → World → Prop) (W : World) (hT : ∀ pre w, J pre w → Tab64 w)
    (hY : ∀ (pre : List Int) (x : Int) (rest : List Int) (w : World), bitsL s = pre ++ x :: rest → J pre w → YieldAt Fence.wide (n - 1) Tryz.prog l #[.int .i64 x] w fun e w' => (e = .returned (.bool true) ∧ J (pre ++ [x]) w') ∨ (e = .returned (.bool false) ∧ Jx (pre ++ [x]) w'))
    (h0 : J [] W) :
    CallsIn Fence.wide n Tryz.prog 35 #[.int .u64 (s : Int), .func (.yield l) #[] #[]] W fun e w' => (∃ v, e = .returned v) ∧ (J (bitsL s) w' ∨ ∃ pre, Jx pre w') := by
  refine callsIn_of_wp Tryz.func35 rfl trivial ?_ rfl
  simp only [Tryz.ntmps35, List.size_toArray, List.length_cons, List.length_nil, Nat.reduceAdd, Nat.reduceSub, Array.replicate_succ, Array.replicate_zero, List.push_toArray, List.append_toArray, List.nil_append, List.cons_append]
  gi_wp2
  gi_loopw [0] (fun v wr => ∃ (r : Nat) (pre : List Int), v = .int .u64 (r : Int) ∧ r < 18446744073709551616 ∧ bitsL s = pre ++ bitsL r ∧ J pre wr) (fun v _ => (intOf v).toNat)
  case atStart => exact ⟨s, [], rfl, hs, rfl, h0⟩
  case round =>
    obtain ⟨r, pre, rfl, hr, hsp, hJ⟩ := hrel
    by_cases hz : r = 0
    · subst hz
      have HF := Lib.hid (show bitsL s = pre by rw [hsp, bitsL_zero, List.append_nil])
      clear hsp
      have h00 : ((((0 : Nat) : Int)) != 0) = false := rfl
      gi_wp2
      refine ⟨trivial, ?_⟩
      gi_wp2
      refine ⟨fun _ h => (by cases h), ?_⟩
      gi_wp2
      go_end0
      exact ⟨⟨_, rfl⟩, .inl (by rw [HF.out]; exact hJ)⟩
    · have hz0 : ((r : Int) == 0) = false := by simp; omega
      have hz1 : ¬ ((r : Int) = 0) := by omega
      obtain ⟨hk, hb, hlow⟩ := ctz_facts hz hr
      have hst := bitsL_step hz hr
      have hL1 := least_any r hr wr (hT pre wr hJ)
      have hclt := clr_lt hk hb
      generalize hkd : Lib.ctz 64 r = k at hk hb hlow hst hL1 hclt
      have HK := Lib.hid hkd
      have HN := Lib.hid (show bitsL s = (pre ++ [(k : Int)]) ++ bitsL (clr r k) by rw [hsp, hst]; simp)
      obtain ⟨fn, tmps, assign, body, hy, hR⟩ := hY pre (k : Int) (bitsL (clr r k)) wr (by rw [hsp, hst]) hJ
      have HC := Lib.hid hclt
      have HR := Lib.hid (Nat.lt_of_lt_of_le hclt (Nat.le_of_lt hr))
      clear hsp hst hb hlow hkd hclt
      gi_wp2
      refine ⟨trivial, (fun h => by cases h), (callsIn_wide.2 hL1).mono ?_⟩
      rintro e w' ⟨rfl, rfl⟩
      clear hL1
      gi_wp2
      refine ⟨(fun h => by cases h), hR.mono ?_⟩
      rintro e w' (⟨rfl, hJ2⟩ | ⟨rfl, hJx⟩)
      rotate_left
      · clear hR hy
        gi_wp2
        go_end0
        exact ⟨⟨_, rfl⟩, .inr ⟨_, hJx⟩⟩
      clear hR hy
      have hL2 := least_any r hr w' (hT _ w' hJ2)
      have hW2 := without_any r k hr hk w'
      rw [HK.out] at hL2
      gi_wp2
      refine ⟨trivial, (fun h => by cases h), (callsIn_wide.2 hL2).mono ?_⟩
      rintro e w'' ⟨rfl, rfl⟩
      clear hL2
      gi_wp2
      refine ⟨trivial, (fun h => by cases h), (callsIn_wide.2 hW2).mono ?_⟩
      rintro e w'' ⟨rfl, rfl⟩
      clear hW2
      gi_wp2
      go_roundw
      case rel => exact ⟨clr r k, pre ++ [(k : Int)], rfl, HR.out, HN.out, hJ2⟩
      case measure => have := HC.out; simp [intOf]; omega
/-- What an iterator with a bound receiver promises that may be told to stop. -/
def HandsS (P : Program) (n gf : Nat) (sv : Value) (xs : List Int) (T : World → Prop) : Prop :=
  ∀ (l : Nat) (J Jx : List Int → World → Prop) (W : World), (∀ pre w, J pre w → T w) →
    (∀ (pre : List Int) (x : Int) (rest : List Int) (w : World), xs = pre ++ x :: rest → J pre w → YieldAt Fence.wide (n - 1) P l #[.int .i64 x] w fun e w' => (e = .returned (.bool true) ∧ J (pre ++ [x]) w') ∨ (e = .returned (.bool false) ∧ Jx (pre ++ [x]) w')) →
    J [] W → CallsIn Fence.wide n P gf #[sv, .func (.yield l) #[] #[]] W fun e w' => (∃ v, e = .returned v) ∧ (J xs w' ∨ ∃ pre, Jx pre w')

theorem each_handsS (n s : Nat) (hs : s < 18446744073709551616) : HandsS Tryz.prog n 35 (.int .u64 (s : Int)) (bitsL s) Tab64 :=
  fun l J Jx W hT hY h0 => each_inS n l s hs J Jx W hT hY h0

theorem wpIn_handsS {P : Program} {n : Nat} {g : Operand} {p : Tmp} {assign body : Code} {Q : Exit → Act → World → Prop} {a : Act} {w : World} {gf : Nat} {sv : Value}
    (hg : a.eval g = .func (.func gf) #[sv] #[]) (eg : ∀ args w, (callFunc gf args).run P w = .ok (.enter gf args) w)
    {xs : List Int} {T : World → Prop} (hit : HandsS P (n - 1) gf sv xs T)
    (I : List Int → World → Prop) (Ix : Code → List Int → World → Prop) (hT : ∀ pre w, I pre w → T w) (hI : OwnFrom w.heap.size I) (hIx : ∀ c, OwnFrom w.heap.size (Ix c)) (h0 : I [] w) (a₁ : Int → Act)
    (hassign : ∀ (l : Nat) (x : Int) (W : World) (K : Act → World → Prop), K (a₁ x) W →
      assign.wpIn (Fence.wide.inRound l) (n - 1 - 1) P (Exit.then K (fun _ _ _ => False)) { tmps := ((#[p] : Array Tmp).zip #[Value.int .i64 x]).foldl (fun t (p, v) => t.setIfInBounds p v) a.tmps, defers := [] } W)
    (hbody : ∀ (l : Nat) (pre : List Int) (x : Int) (rest : List Int) (W : World), w.heap.size ≤ l → xs = pre ++ x :: rest → I pre W →
      body.wpIn (Fence.wide.inRound l) (n - 1 - 1) P (ownPostG w.heap.size (fun _ _ => True) I Ix (pre ++ [x]) W) (a₁ x) W)
    (hdone : ∀ (D : Nat) (W : World), w.heap.size ≤ D → I xs W → W.heap[D]? = some (.deferred (some [])) → Q .normal { a with defers := { target := .collected D, args := #[] } :: a.defers } W)
    (hstop : ∀ (D : Nat) (c : Code) (pre : List Int) (W : World), w.heap.size ≤ D → Ix c pre W → W.heap[D]? = some (.deferred (some [])) → c.wpIn Fence.wide n P Q { a with defers := { target := .collected D, args := #[] } :: a.defers } W) :
    (Code.rangeFunc g #[p] assign body).wpIn Fence.wide n P Q a w := by
  refine wpIn_rangeFunc ?_
  intro fn _
  obtain ⟨rec, hrec⟩ : ∃ rec : LoopState → Option Code → Loop, rec = fun st pe => { state := st, pending := pe, fn, tmps := a.tmps, params := #[p], assign, body, defers := w.heap.size } := ⟨_, rfl⟩
  obtain ⟨W1, hW1⟩ : ∃ W1, W1 = (w.alloc (.deferred (some []))).alloc (.loop (rec .ready none)) := ⟨_, rfl⟩
  have hL1 : W1.heap[w.heap.size + 1]? = some (.loop (rec .ready none)) := by
    rw [hW1]
    have h := World.alloc_heap_new (w.alloc (.deferred (some []))) (.loop (rec .ready none))
    rw [World.size_alloc] at h
    exact h
  have hK1 : W1.heap[w.heap.size]? = some (.deferred (some [])) := by
    rw [hW1]
    exact (Below.heap_alloc _ _ _ (by simp)).trans (World.alloc_heap_new w _)
  have hI1 : I [] W1 := by rw [hW1]; exact hI.alloc _ (hI.alloc _ h0)
  refine ⟨w.heap.size + 1, [{ target := .collected w.heap.size, args := #[] }], W1, { target := .fn (.func gf) #[], args := #[sv, .func (.yield (w.heap.size + 1)) #[] #[]] }, W1, gf,
    #[sv, .func (.yield (w.heap.size + 1)) #[] #[]], W1, ?_, ?_, fun _ _ => trivial, ?_, (fun h => by cases h), ?_⟩
  · rw [hW1, hrec]; exact run_enterLoop_outer fn a.tmps #[p] assign body
  · simp only [resolve, hg]
    simp [go_sem]
  · simp [invoke, go_sem, eg]
  · refine (hit (w.heap.size + 1) (fun pre W => I pre W ∧ W.heap[w.heap.size + 1]? = some (.loop (rec .ready none)) ∧ W.heap[w.heap.size]? = some (.deferred (some [])))
      (fun pre W => ∃ c, Ix c pre W ∧ W.heap[w.heap.size + 1]? = some (.loop (rec .done (some c))) ∧ W.heap[w.heap.size]? = some (.deferred (some []))) W1
      (fun pre W h => hT pre W h.1) ?_ ⟨hI1, hL1, hK1⟩).mono ?_
    · rintro pre x rest W hsp ⟨hi, hl, hk⟩
      have hlt := (Array.getElem?_eq_some_iff.1 hl).1
      have hy := run_yield (P := P) (args := #[.int .i64 x]) hl (by rw [hrec]; rfl)
      have hbg := run_beginRound (P := P) hl (by rw [hrec])
      obtain ⟨busy, hbusy⟩ : ∃ busy : Loop, busy = { rec .ready none with state := .busy } := ⟨_, rfl⟩
      rw [← hbusy] at hbg
      have hl2 : (W.putObj (w.heap.size + 1) (.loop busy)).heap[w.heap.size + 1]? = some (.loop busy) := World.putObj_heap_same hlt
      have hk2 : (W.putObj (w.heap.size + 1) (.loop busy)).heap[w.heap.size]? = some (.deferred (some [])) := (World.putObj_heap_other (by omega)).trans hk
      rw [hrec] at hy
      refine ⟨fn, _, assign, body, hy, roundIn_of_wpIn trivial (hassign _ x W _ ⟨_, hbg, ?_⟩)⟩
      refine wpIn_mono (hbody (w.heap.size + 1) pre x rest _ (by omega) hsp (hI.putObj _ hi (by omega) hl rfl)) ?_
      have fin : ∀ (jump : Option Code) (W3 : World), KeepsFrom w.heap.size (W.putObj (w.heap.size + 1) (.loop busy)) W3 →
          (Instr.endRound (w.heap.size + 1) jump).run P W3 = .ok (.bool jump.isNone) (W3.putObj (w.heap.size + 1) (.loop (rec (if jump.isNone then .ready else .done) jump))) ∧
          W3.heap[w.heap.size + 1]? = some (.loop busy) ∧
          (W3.putObj (w.heap.size + 1) (.loop (rec (if jump.isNone then .ready else .done) jump))).heap[w.heap.size + 1]? = some (.loop (rec (if jump.isNone then .ready else .done) jump)) ∧
          (W3.putObj (w.heap.size + 1) (.loop (rec (if jump.isNone then .ready else .done) jump))).heap[w.heap.size]? = some (.deferred (some [])) := fun jump W3 hk3 => by
        have hl3 := hk3.same _ _ (by omega) hl2 rfl
        have hend := run_endRound (P := P) jump hl3
        have hre : ({ busy with state := if jump.isNone then .ready else .done, pending := jump } : Loop) = rec (if jump.isNone then .ready else .done) jump := by rw [hbusy, hrec]
        rw [hre] at hend
        exact ⟨hend, hl3, World.putObj_heap_same (Array.getElem?_eq_some_iff.1 hl3).1, (World.putObj_heap_other (by omega)).trans (hk3.same _ _ (Nat.le_refl _) hk2 rfl)⟩
      intro e a3 W3 hp
      cases e with
      | normal =>
        obtain ⟨hk3, _, hi3⟩ := hp
        obtain ⟨hr, hl3, hl4, hk4⟩ := fin none W3 hk3
        exact ⟨_, _, hr, .inl ⟨rfl, hI.putObj _ hi3 (by omega) hl3 rfl, hl4, hk4⟩⟩
      | ret =>
        obtain ⟨hk3, hi3⟩ := hp
        obtain ⟨hr, hl3, hl4, hk4⟩ := fin (some .ret) W3 hk3
        exact ⟨_, _, hr, .inr ⟨rfl, .ret, (hIx _).putObj _ hi3 (by omega) hl3 rfl, hl4, hk4⟩⟩
      | exit id =>
        obtain ⟨hk3, hi3⟩ := hp
        obtain ⟨hr, hl3, hl4, hk4⟩ := fin (some (.exit id)) W3 hk3
        exact ⟨_, _, hr, .inr ⟨rfl, .exit id, (hIx _).putObj _ hi3 (by omega) hl3 rfl, hl4, hk4⟩⟩
      | goto t =>
        obtain ⟨hk3, hi3⟩ := hp
        obtain ⟨hr, hl3, hl4, hk4⟩ := fin (some (.goto t)) W3 hk3
        exact ⟨_, _, hr, .inr ⟨rfl, .goto t, (hIx _).putObj _ hi3 (by omega) hl3 rfl, hl4, hk4⟩⟩
      | panic ch => exact hp.elim
      | outgrown => exact hp.elim
    · rintro e W2 ⟨⟨v, rfl⟩, (⟨hi, hl, hk⟩ | ⟨pre, c, hi, hl, hk⟩)⟩
      · have hend := run_endLoop (P := P) hl (by rw [hrec]; simp)
        exact ⟨none, _, by rw [hrec] at hend; exact hend, hdone _ _ (Nat.le_refl _) (hI.putObj _ hi (by omega) hl rfl) ((World.putObj_heap_other (by omega)).trans hk)⟩
      · have hend := run_endLoop (P := P) hl (by rw [hrec]; simp)
        exact ⟨some c, _, by rw [hrec] at hend; exact hend, hstop _ c pre _ (Nat.le_refl _) ((hIx c).putObj _ hi (by omega) hl rfl) ((World.putObj_heap_other (by omega)).trans hk)⟩
end Go.Proofs.YtjplcnbifcpebaaGreatDoor
