/-
  Contracts: the ground of a board and a leaper.
-/
import Derived.Test.YtnmmgalidkambaaGreatDoorE3
import Derived.Test.YtnmmgalidkambaaGreatDoorE0
import Derived.Test.YtnmmgalidkambaaGreatDoorK2
import Derived.Test.YtnmmgalidkambaaGreatDoorS8
import Derived.Deep.WholeRow
import Derived.Deep.MidRow
import Derived.Deep.Heap
import Derived.Maps.RangeWalk
namespace Go.Proofs.YtnmmgalidkambaaGreatDoor
open Go.RowKit Go.Shelf
attribute [local go_sem] Oper.semAt_some

def nearS (W H : Int) (xs : List Int) (a b c : Int) : Nat := setBits ((leapsL W H xs a b c).map Int.toNat)
def allS (W H : Int) (xs : List Int) : Nat := setBits ((cellsL W H xs).map Int.toNat)
def gl (W H : Int) (xs : List Int) (a b : Int) (pre : List Int) : List Nat := allS W H xs :: (List.range 64).map fun c : Nat => if (c : Int) ∈ pre then nearS W H xs a b c else 0
theorem gl_len (W H : Int) (xs : List Int) (a b : Int) (pre : List Int) : (gl W H xs a b pre).length = 65 := by simp [gl]
theorem gl_set {W H a b x : Int} {xs pre : List Int} (h0 : 0 ≤ x) (h1 : x < 64) : (gl W H xs a b pre).set (1 + x.toNat) (nearS W H xs a b x) = gl W H xs a b (pre ++ [x]) := by
  unfold gl
  rw [show 1 + x.toNat = x.toNat + 1 by omega, List.set_cons_succ]
  congr 1
  apply List.ext_getElem?
  intro i
  rw [List.getElem?_set, List.length_map, List.length_range, List.getElem?_map, List.getElem?_map]
  by_cases hi : i < 64
  · rw [List.getElem?_range hi]
    by_cases e : x.toNat = i
    · rw [if_pos e, if_pos (by omega)]
      simp [show (i : Int) = x by omega]
    · rw [if_neg e]
      have : (i : Int) ≠ x := by omega
      simp [this]
  · rw [List.getElem?_eq_none (by simpa using hi)]
    rw [if_neg (by omega)]; rfl
theorem set_bits {l : List Int} (hr : l.Pairwise (· < ·)) (h : ∀ x ∈ l, 0 ≤ x ∧ x < 64) : bitsL (setBits (l.map Int.toNat)) = l := by
  refine rise_unique (bitsL_rise _) hr fun x => ?_
  rw [bitsL_mem, setBits_test _ _ _ rfl, List.mem_map]
  constructor
  · rintro ⟨h0, h1, y, hy, e⟩
    have := h y hy
    have : y = x := by omega
    exact this ▸ hy
  · intro hx
    have := h x hx
    exact ⟨this.1, this.2, x, hx, rfl⟩

theorem zero_ground : Tryz.zeroCells58 = (words (List.replicate 65 0)).toArray := by rfl
theorem gl_nil (W H : Int) (xs : List Int) (a b : Int) : gl W H xs a b [] = allS W H xs :: List.replicate 64 0 := by
  unfold gl
  congr 1
theorem info_ground : (Tryz.prog.info? 58).map (·.size) = some 65 := by kernel_rfl
theorem store_ground (W H : Int) (xs : List Int) (a b : Int) (w : World) :
    (storeCells ⟨w.heap.size, 0, none⟩ (Tryz.zeroCells58.toList.set 0 (.int .u64 (allS W H xs : Nat)))).run Tryz.prog (w.alloc (.cells Tryz.zeroCells58 58)) =
      .ok () (w.alloc (.cells (words (gl W H xs a b [])).toArray 58)) := by
  have h := run_storeCells_new (P := Tryz.prog) w 58 Tryz.zeroCells58 (words (gl W H xs a b [])).toArray (by rw [info_ground]; simp [words, gl]) (by rw [zero_ground]; simp [words, gl]) (all_oneCell_toArray (words_one _))
  rw [zero_ground, gl_nil] at h
  rw [zero_ground, gl_nil]
  exact h

theorem cellsL_rise (W H : Int) (xs : List Int) : (cellsL W H xs).Pairwise (· < ·) := by
  unfold cellsL cellsTo
  refine List.Pairwise.filter _ ?_
  unfold upTo
  rw [List.pairwise_map]
  have h : (List.range (W * H).toNat).Pairwise (· < ·) := List.pairwise_lt_range
  exact h.imp (fun h => by omega)
theorem wpIn_handsQ {P : Program} {n : Nat} {g : Operand} {p q : Tmp} {assign body : Code} {Q : Exit → Act → World → Prop} {a : Act} {w : World} {gf : Nat} {sv : Value}
    (hg : a.eval g = .func (.func gf) #[sv] #[]) (eg : ∀ args w, (callFunc gf args).run P w = .ok (.enter gf args) w)
    {xs : List Int} {T : World → Prop} (hit : Hands P (n - 1) gf sv xs T)
    (I : List Int → World → Prop) (hT : ∀ pre w, I pre w → T w) (hI : OwnFrom w.heap.size I) (h0 : I [] w)
    (hassign : ∀ (l : Nat) (x : Int) (W : World) (K : Act → World → Prop), K { tmps := (a.tmps.setIfInBounds p (.int .i64 x)).setIfInBounds q (.int .i64 x), defers := [] } W →
      assign.wpIn (Fence.wide.inRound l) (n - 1 - 1) P (Exit.then K (fun _ _ _ => False)) { tmps := ((#[p] : Array Tmp).zip #[Value.int .i64 x]).foldl (fun t (p, v) => t.setIfInBounds p v) a.tmps, defers := [] } W)
    (hbody : ∀ (l : Nat) (pre : List Int) (x : Int) (rest : List Int) (W : World), w.heap.size ≤ l → xs = pre ++ x :: rest → I pre W →
      body.wpIn (Fence.wide.inRound l) (n - 1 - 1) P (ownPostG w.heap.size (fun _ _ => True) I (fun _ _ _ => False) (pre ++ [x]) W) { tmps := (a.tmps.setIfInBounds p (.int .i64 x)).setIfInBounds q (.int .i64 x), defers := [] } W)
    (hdone : ∀ (D : Nat) (W : World), w.heap.size ≤ D → I xs W → W.heap[D]? = some (.deferred (some [])) → Q .normal { a with defers := { target := .collected D, args := #[] } :: a.defers } W) :
    (Code.rangeFunc g #[p] assign body).wpIn Fence.wide n P Q a w :=
  wpIn_hands hg eg hit I hT hI h0 (fun x => { tmps := (a.tmps.setIfInBounds p (.int .i64 x)).setIfInBounds q (.int .i64 x), defers := [] }) hassign hbody hdone
/-- The ground's variable in the midst of its filling. -/
def MidG (W3 : World) (g : Nat) (F : List Int → List Nat) (pre : List Int) (W' : World) : Prop :=
  W3.grownBy W' (some g) ∧ W'.heap[g]? = some (.cells (words (F pre)).toArray 58 (0, 0))
theorem midG_own {W3 : World} {g : Nat} {F : List Int → List Nat} (hg : g < W3.heap.size) : OwnFrom W3.heap.size (MidG W3 g F) := by
  intro s W W' row hs hgr hr
  have hne : some g ≠ row := fun e => by have := (hr g e.symm).1; omega
  refine ⟨⟨hgr.os.trans hs.1.os, hgr.tape.trans hs.1.tape, hgr.output.trans hs.1.output, Nat.le_trans hs.1.size hgr.size, fun k hk hkg => ?_⟩, ?_⟩
  · refine (hgr.block k (Nat.lt_of_lt_of_le hk hs.1.size) (fun e => ?_)).trans (hs.1.block k hk hkg)
    have := (hr k e.symm).1
    omega
  · exact (hgr.block g (Array.getElem?_eq_some_iff.1 hs.2).1 hne).trans hs.2

set_option maxRecDepth 100000 in
set_option maxHeartbeats 1000000 in
theorem groundOf_any (W H : Int) (A : Option Addr) (n c : Nat) (xs : List Int) (a b : Int) (w : World) (ha : Rd w A n xs) (hg : goodB W H xs = true) (hl : leaperB a b = true) (hT : Tab64 w) (hgb : 0 < w.heap.size) :
    Calls Tryz.prog 38 #[brd W H A n c, lpr a b] w fun e w' => e = .returned (.agg (words (gl W H xs a b (cellsL W H xs))).toArray) ∧ Below w.heap.size w w' := by
  refine (callsIn_wide (n := 5)).1 ?_
  refine callsIn_of_wp_marks Tryz.func38 rfl trivial ?_ rfl
  simp only [Tryz.ntmps38, List.size_toArray, List.length_cons, List.length_nil, Nat.reduceAdd, Nat.reduceSub, Array.replicate_succ, Array.replicate_zero, List.push_toArray, List.append_toArray, List.nil_append, List.cons_append]
  have HT := Lib.hid hT; have HG := Lib.hid hg; have HLp := Lib.hid hl
  have hb0 : Below w.heap.size w ((((w.alloc (Obj.cells #[Value.int IntKind.i64 W, Value.int IntKind.i64 H, Value.slice A n c] 30)).alloc (Obj.cells #[Value.int IntKind.i64 a, Value.int IntKind.i64 b] 32)).alloc (Obj.cells Tryz.zeroCells58 58))) :=
    (((Below.refl _ _).alloc (Nat.le_refl _) _).alloc (by simp) _).alloc (by simp; omega) _
  clear hT hl
  gi_wp2
  refine ⟨trivial, (callsIn_wide.2 (cellsThere_any W H A n c xs _ (ha.keep hb0) hg)).mono ?_⟩
  rintro e w1 ⟨A', n', c', rfl, ho, hB⟩
  gi_wp2
  have hcl : ∀ x ∈ cellsL W H xs, 0 ≤ x ∧ x < 64 := fun x hx => by
    have h1 := (hasB_iff.1 (cellsL_mem.1 hx)).1
    obtain ⟨hW, hH, _, _⟩ := goodB_iff.1 HG.out
    have := cells_le hW hH
    omega
  refine ⟨trivial, (callsIn_wide.2 (setOf_any A' n' c' _ _ ho.rd hcl)).mono ?_⟩
  rintro e w2 ⟨rfl, hB2⟩
  have hst := store_ground W H xs a b w2
  rw [show allS W H xs = setBits ((cellsL W H xs).map Int.toNat) from rfl] at hst
  obtain ⟨W3, hW3⟩ : ∃ W3, W3 = w2.alloc (.cells (words (gl W H xs a b [])).toArray 58) := ⟨_, rfl⟩
  have hh3 : W3.heap[w2.heap.size]? = some (.cells (words (gl W H xs a b [])).toArray 58 (0, 0)) := by rw [hW3]; exact World.alloc_heap_new _ _
  have hc3 : W3.cell? ⟨w2.heap.size, 0, none⟩ = some (.int .u64 ((setBits ((cellsL W H xs).map Int.toNat) : Nat) : Int)) := by
    rw [cell_of_row _ _ 0 _ _ _ hh3]; simp [words, gl, allS]
  have hs3 : W3.heap.size = w2.heap.size + 1 := by rw [hW3]; simp
  have hb3 : Below w.heap.size w W3 := by
    rw [hW3]
    exact ((hb0.trans (hB.mono hb0.size)).trans (hB2.mono (Nat.le_trans hb0.size hB.size))).alloc (Nat.le_trans hb0.size (Nat.le_trans hB.size hB2.size)) _
  have HGr := Lib.hid (show Below (w.heap.size + 3) _ W3 by
    rw [hW3]
    exact (((hB.trans (hB2.mono hB.size)).alloc (Nat.le_trans hB.size hB2.size) _)).mono (by simp))
  rw [← hW3] at hst
  clear hW3
  have HS := Lib.hid hh3
  clear hh3
  gi_wp2
  have hlt : setBits ((cellsL W H xs).map Int.toNat) < 18446744073709551616 := set_lt hcl
  have hit := each_hands (5 - 1) _ hlt
  rw [set_bits (cellsL_rise W H xs) hcl] at hit
  have hT3 : ∀ pre w', MidG W3 w2.heap.size (gl W H xs a b) pre w' → Tab64 w' := fun pre w' h => HT.out.keep hgb (hb3.grown h.1 hb3.size (fun k e => by cases e; exact Nat.le_trans hb0.size (Nat.le_trans hB.size hB2.size)))
  have hBd : W3.heap[w.heap.size]? = some (.cells #[Value.int IntKind.i64 W, Value.int IntKind.i64 H, Value.slice A n c] 30 (0, 0)) := by
    rw [HGr.out.block w.heap.size (by omega), Below.heap_alloc _ _ _ (by simp; omega), Below.heap_alloc _ _ _ (by simp), World.alloc_heap_new]
  have hLd : W3.heap[w.heap.size + 1]? = some (.cells #[Value.int IntKind.i64 a, Value.int IntKind.i64 b] 32 (0, 0)) := by
    rw [HGr.out.block (w.heap.size + 1) (by omega), Below.heap_alloc _ _ _ (by simp)]
    have h := World.alloc_heap_new (w.alloc (Obj.cells #[Value.int IntKind.i64 W, Value.int IntKind.i64 H, Value.slice A n c] 30)) (Obj.cells #[Value.int IntKind.i64 a, Value.int IntKind.i64 b] 32)
    rw [World.size_alloc] at h
    exact h
  have hRd : W3.heap[w.heap.size + 1 + 1]? = some (.cells Tryz.zeroCells58 58 (0, 0)) := by
    rw [HGr.out.block (w.heap.size + 1 + 1) (by omega)]
    have h := World.alloc_heap_new ((w.alloc (Obj.cells #[Value.int IntKind.i64 W, Value.int IntKind.i64 H, Value.slice A n c] 30)).alloc (Obj.cells #[Value.int IntKind.i64 a, Value.int IntKind.i64 b] 32)) (Obj.cells Tryz.zeroCells58 58)
    rw [World.size_alloc, World.size_alloc] at h
    exact h
  refine wpIn_handsQ (q := 6) rfl (fun args w => by simp [go_sem]) hit (MidG W3 w2.heap.size (gl W H xs a b)) hT3 (midG_own (by omega)) ⟨World.grownBy.refl _ _, HS.out⟩ ?_ ?_ ?_
  · intro l x W' K hK
    clear hst
    gi_wp2
    exact hK
  · intro l pre x rest W' hl hsp hm
    have hx : x ∈ cellsL W H xs := by rw [hsp]; simp
    have hxw := (hasB_iff.1 (cellsL_mem.1 hx)).1
    have hx6 := hcl x hx
    have hgs : W3.heap.size ≤ W'.heap.size := hm.1.size
    have hle : w.heap.size + 3 ≤ w2.heap.size := by have := hb0.size; have := hB.size; have := hB2.size; simp at *; omega
    have hBd' := (hm.1.block _ (by omega) (by simp; omega)).trans hBd
    have hLd' := (hm.1.block (w.heap.size + 1) (by omega) (by simp; omega)).trans hLd
    have b0 : W'.cell? ⟨w.heap.size, 0, none⟩ = some (.int .i64 W) := by rw [cell_of_row _ _ _ _ _ _ hBd']; rfl
    have b1 : W'.cell? ⟨w.heap.size, 1, none⟩ = some (.int .i64 H) := by rw [cell_of_row _ _ _ _ _ _ hBd']; rfl
    have b2 : W'.cell? ⟨w.heap.size, 2, none⟩ = some (.slice A n c) := by rw [cell_of_row _ _ _ _ _ _ hBd']; rfl
    have l0 : W'.cell? ⟨w.heap.size + 1, 0, none⟩ = some (.int .i64 a) := by rw [cell_of_row _ _ _ _ _ _ hLd']; rfl
    have l1 : W'.cell? ⟨w.heap.size + 1, 1, none⟩ = some (.int .i64 b) := by rw [cell_of_row _ _ _ _ _ _ hLd']; rfl
    have hbw : Below w.heap.size w W' := hb3.grown hm.1 hb3.size (fun k e => by cases e; omega)
    have hL := leapCells_any W H A n c xs a b x W' (ha.keep hbw) HG.out HLp.out hxw
    have HC := Lib.hid hcl; have HM := Lib.hid hm; have HSP := Lib.hid hsp
    clear hm hsp hBd hLd hBd' hLd' hst hB hB2 hc3 hit hcl
    gi_wp2
    refine ⟨trivial, (callsIn_wide.2 hL).mono ?_⟩
    rintro e w4 ⟨A4, n4, c4, rfl, ho4, hB4⟩
    have hlb : ∀ y ∈ leapsL W H xs a b x, 0 ≤ y ∧ y < 64 := fun y hy => HC.out y (List.mem_filter.1 hy).1
    clear hL
    have hS := setOf_any A4 n4 c4 _ w4 ho4.rd hlb
    gi_wp2
    refine ⟨trivial, (callsIn_wide.2 hS).mono ?_⟩
    rintro e w5 ⟨rfl, hB5⟩
    clear hS
    have hg5 : w5.heap[w2.heap.size]? = some (.cells (words (gl W H xs a b pre)).toArray 58 (0, 0)) := ((hB4.trans (hB5.mono hB4.size)).block _ (by omega)).trans HM.out.2
    have hcell : w5.cell? ⟨w2.heap.size, 1 + x.toNat, none⟩ = some (.int .u64 (((gl W H xs a b pre).getD (1 + x.toNat) 0 : Nat) : Int)) := by
      rw [cell_of_row _ _ _ _ _ _ hg5, List.getElem?_toArray, words, List.getElem?_map, List.getD_eq_getElem?_getD]
      have hlen : 1 + x.toNat < (gl W H xs a b pre).length := by rw [gl_len]; omega
      rw [List.getElem?_eq_getElem hlen]; rfl
    have hfro : w5.frozen? ⟨w2.heap.size, 1 + x.toNat, none⟩ = false := frozen_of_row _ _ _ _ _ hg5
    have h0x : 0 ≤ x := hx6.1
    have h1x : x < 64 := hx6.2
    have HG5 := Lib.hid hg5
    clear hg5
    gi_wp2
    have hg0 : W'.grownBy w5 none := ⟨hB5.os.trans hB4.os, hB5.tape.trans hB4.tape, hB5.output.trans hB4.output, Nat.le_trans hB4.size hB5.size, fun k hk _ => (hB4.trans (hB5.mono hB4.size)).block k hk⟩
    have hgr5 : W'.grownBy (w5.setCell ⟨w2.heap.size, 1 + x.toNat, none⟩ (.int .u64 ((setBits ((leapsL W H xs a b x).map Int.toNat) : Nat) : Int))) (some w2.heap.size) :=
      (hg0.but _).trans (grown_set _ _ _ _)
    refine ⟨KeepsFrom.of_grownBy hgr5 (fun j e => by cases e; omega), trivial, HM.out.1.trans hgr5, ?_⟩
    rw [heap_set _ HG5.out, ← gl_set h0x h1x]
    simp [words, List.map_set, nearS]
  · intro D W' hD hm hd
    have hgs : W3.heap.size ≤ W'.heap.size := hm.1.size
    have hbw : Below w.heap.size w W' := hb3.grown hm.1 hb3.size (fun k e => by cases e; have := hb0.size; have := hB.size; have := hB2.size; simp at *; omega)
    have hle : w.heap.size + 3 ≤ w2.heap.size := by have := hb0.size; have := hB.size; have := hB2.size; simp at *; omega
    have hRd' := (hm.1.block (w.heap.size + 1 + 1) (by omega) (by simp; omega)).trans hRd
    have hld := run_loadAt_mid (P := Tryz.prog) W' w2.heap.size 0 58 (words (gl W H xs a b (cellsL W H xs))) (.struct _) (fun j v hv => by rw [Nat.zero_add, cell_of_row _ _ _ _ _ _ hm.2]; simpa using hv) rfl rfl (by rw [info_ground]; simp [words, gl])
    have hst2 : (Instr.storeAt 58 (.pointer (some ⟨w.heap.size + 1 + 1, 0, none⟩)) (.agg (words (gl W H xs a b (cellsL W H xs))).toArray)).run Tryz.prog W' = .ok () (W'.setRow (w.heap.size + 1 + 1) (words (gl W H xs a b (cellsL W H xs))).toArray) := by
      simp only [Instr.storeAt, Instr.sureAddr, Sem.run_bind, Sem.run_pure, Result.andThen_ok]
      exact run_storeVar_row _ _ _ _ _ _ hRd' (by rw [info_ground]; simp [words, gl]) (by rw [zero_ground]; simp [words, gl]) (all_oneCell_toArray (words_one _))
    have hh2 := heap_setRow (c' := (words (gl W H xs a b (cellsL W H xs))).toArray) hRd'
    have hg2 := grown_setRow W' (w.heap.size + 1 + 1) (words (gl W H xs a b (cellsL W H xs))).toArray
    have hb4 : Below w.heap.size w (W'.setRow (w.heap.size + 1 + 1) (words (gl W H xs a b (cellsL W H xs))).toArray) := hbw.grown hg2 hbw.size (fun k e => by cases e; omega)
    have hd2 := (hg2.block D (Array.getElem?_eq_some_iff.1 hd).1 (by simp; omega)).trans hd
    generalize W'.setRow (w.heap.size + 1 + 1) (words (gl W H xs a b (cellsL W H xs))).toArray = W4 at hst2 hh2 hg2 hb4 hd2
    clear hm hst hB hB2 hc3 hit hcl hRd hRd' hg2 hbw
    have HH := Lib.hid hh2
    clear hh2
    gi_wp2_with (first | refine wpIn_load_run 58 _ _ _ rfl rfl hld ?_ | refine wpIn_store_run 58 _ _ _ _ rfl rfl rfl hst2 ?_)
    refine ⟨by simp, .inl ⟨_, _, rfl, run_takeDeferred hd2, ?_⟩⟩
    have hne : w.heap.size + 1 + 1 ≠ D := by omega
    refine ⟨_, results_cell_row rfl _ _ _ _ (words (gl W H xs a b (cellsL W H xs))).toArray _ _ rfl ((World.putObj_heap_other hne).trans HH.out) rfl rfl (by rw [info_ground]; simp [words, gl]), rfl, ?_⟩
    exact hb4.grown (grownBy_putObj' W4 D _) hb4.size (fun k e => by cases e; omega)
end Go.Proofs.YtnmmgalidkambaaGreatDoor
