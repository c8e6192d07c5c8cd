/-
  Contracts of the laws' own helpers: what copies, compares, marks and looks at desks.
-/
import Derived.Test.YtadopgfpfbianaaLaw0
import Derived.Deep.Heap
namespace Go.Proofs.Ytadopgfpfbianaa
open Go.RowKit

/-- A desk's value. -/
abbrev pzv (W H : Int) (A : Option Addr) (n c : Nat) (a b : Int) (A2 : Option Addr) (n2 c2 : Nat) : Value := .agg #[.int .i64 W, .int .i64 H, .slice A n c, .int .i64 a, .int .i64 b, .slice A2 n2 c2]
/-- A variable's block. -/
def Bx (w : World) (g : Nat) (vs : Array Value) (T : TypeId) : Prop := w.heap[g]? = some (.cells vs T (0, 0))
theorem Bx.new (w : World) (vs : Array Value) (T : TypeId) : Bx (w.alloc (.cells vs T)) w.heap.size vs T := heap_alloc_new _ _
theorem Bx.cell {w : World} {g j : Nat} {vs : Array Value} {T : TypeId} {v : Value} (h : Bx w g vs T) (hv : vs[j]? = some v) : w.cell? ⟨g, j, none⟩ = some v := by rw [cell_of_row w g j _ _ _ h]; exact hv
theorem Bx.frozen {w : World} {g : Nat} {vs : Array Value} {T : TypeId} (h : Bx w g vs T) (j : Nat) : w.frozen? ⟨g, j, none⟩ = false := frozen_of_row w g j _ _ h
theorem Bx.lt {w : World} {g : Nat} {vs : Array Value} {T : TypeId} (h : Bx w g vs T) : g < w.heap.size := (Array.getElem?_eq_some_iff.1 h).1
theorem Bx.grown {w w' : World} {g : Nat} {vs : Array Value} {T : TypeId} {row : Option Nat} (h : Bx w g vs T) (hg : w.grownBy w' row) (hne : some g ≠ row) : Bx w' g vs T := (hg.block g h.lt hne).trans h
theorem Bx.keep {w w' : World} {g : Nat} {vs : Array Value} {T : TypeId} (h : Bx w g vs T) (hb : Below w.heap.size w w') : Bx w' g vs T := (hb.block g h.lt).trans h
theorem Bx.set {w : World} {g : Nat} {vs : Array Value} {T : TypeId} (h : Bx w g vs T) (j : Nat) (v : Value) : Bx (w.setCell ⟨g, j, none⟩ v) g (vs.setIfInBounds j v) T := by
  unfold Bx at *; simp [World.setCell, Array.getElem?_modify, h]
theorem below_setC {B g j : Nat} {a w : World} (h : Below B a w) (hg : B ≤ g) (u : Value) : Below B a (w.setCell ⟨g, j, none⟩ u) := h.setCell hg u
theorem grownSet1 (W : World) (p : Addr) (u : Value) : W.grownBy (W.setCell p u) (some p.block) :=
  ⟨rfl, rfl, rfl, by rw [Deep.nblk_setCell]; exact Nat.le_refl _, fun k _ hne => Deep.blk_setCell_other W _ u k (fun e => hne (by rw [e]))⟩

set_option maxRecDepth 100000 in
set_option maxHeartbeats 1000000 in
theorem toDesk_any (W H : Int) (A : Option Addr) (n c : Nat) (a b : Int) (A2 : Option Addr) (n2 c2 : Nat) (xs ns : List Int) (w : World) (ha : Rd w A n xs) (hp : Rd w A2 n2 ns) (hn : n ≤ 17179869184) (hn2 : n2 ≤ 17179869184) :
    Calls Try.prog 21 #[pzv W H A n c a b A2 n2 c2] w fun e w' => ∃ g1 g2, e = .returned (pzv W H (some ⟨g1, 0, none⟩) n n a b (some ⟨g2, 0, none⟩) n2 n2) ∧ g1 < g2 ∧ OwnI 3 w' w.heap.size (some ⟨g1, 0, none⟩) n n xs ∧ OwnI 3 w' w.heap.size (some ⟨g2, 0, none⟩) n2 n2 ns ∧ Below w.heap.size w w' := by
  obtain ⟨W2, hW2⟩ : ∃ W2, W2 = ((w.alloc (.cells #[.int .i64 W, .int .i64 H, .slice A n c, .int .i64 a, .int .i64 b, .slice A2 n2 c2] 36)).alloc (.cells #[.int .i64 0, .int .i64 0, .slice none 0 0, .int .i64 0, .int .i64 0, .slice none 0 0] 28)).alloc (.cells #[.int .i64 0, .int .i64 0, .slice none 0 0, .int .i64 0, .int .i64 0, .slice none 0 0] 28) := ⟨_, rfl⟩
  have hsz : W2.heap.size = w.heap.size + 3 := by rw [hW2]; simp
  have BP := Lib.hid (show Bx W2 w.heap.size #[.int .i64 W, .int .i64 H, .slice A n c, .int .i64 a, .int .i64 b, .slice A2 n2 c2] 36 by rw [hW2]; exact ((Bx.new _ _ _).keep (below_new (Below.refl _ _) _)).keep (below_new (Below.refl _ _) _))
  have BR := Lib.hid (show Bx W2 (w.heap.size + 1) #[.int .i64 0, .int .i64 0, .slice none 0 0, .int .i64 0, .int .i64 0, .slice none 0 0] 28 by rw [hW2]; have := (Bx.new (w.alloc (.cells #[.int .i64 W, .int .i64 H, .slice A n c, .int .i64 a, .int .i64 b, .slice A2 n2 c2] 36)) #[.int .i64 0, .int .i64 0, .slice none 0 0, .int .i64 0, .int .i64 0, .slice none 0 0] 28).keep (below_new (Below.refl _ _) (.cells #[.int .i64 0, .int .i64 0, .slice none 0 0, .int .i64 0, .int .i64 0, .slice none 0 0] 28)); simpa using this)
  have BO := Lib.hid (show Bx W2 (w.heap.size + 1 + 1) #[.int .i64 0, .int .i64 0, .slice none 0 0, .int .i64 0, .int .i64 0, .slice none 0 0] 28 by rw [hW2]; have := Bx.new ((w.alloc (.cells #[.int .i64 W, .int .i64 H, .slice A n c, .int .i64 a, .int .i64 b, .slice A2 n2 c2] 36)).alloc (.cells #[.int .i64 0, .int .i64 0, .slice none 0 0, .int .i64 0, .int .i64 0, .slice none 0 0] 28)) #[.int .i64 0, .int .i64 0, .slice none 0 0, .int .i64 0, .int .i64 0, .slice none 0 0] 28; simpa using this)
  have B := Lib.hid (show Below w.heap.size w W2 by rw [hW2]; repeat (first | exact Below.refl _ _ | refine below_new ?_ _))
  have HN := Lib.hid (show w.heap.size + 1 + 1 + 1 ≤ W2.heap.size by omega)
  have RA := Lib.hid (ha.keep B.out); have RN := Lib.hid (hp.keep B.out); have RP := Lib.hid hp
  clear ha hp hsz
  go_enter Try.func21, Try.ntmps21
  go_wp2_with fail
  have p0 : W2.cell? ⟨w.heap.size, 0, none⟩ = some (.int .i64 W) := BP.out.cell rfl
  have p1 : W2.cell? ⟨w.heap.size, 1, none⟩ = some (.int .i64 H) := BP.out.cell rfl
  have p2 : W2.cell? ⟨w.heap.size, 2, none⟩ = some (.slice A n c) := BP.out.cell rfl
  rw [← hW2]
  clear hW2
  refine (toBoard_any _ _ _ _ _ _ _ RA.out hn).mono ?_
  rintro e wv ⟨g1, rfl, own, hb⟩
  clear p0 p1 p2
  have O1 := Lib.hid (own.lower HN.out)
  have HG1 := Lib.hid (show g1 < wv.heap.size from (own.span _ rfl).2)
  clear own
  replace BP := Lib.hid (BP.out.keep hb); replace BR := Lib.hid (BR.out.keep hb); replace BO := Lib.hid (BO.out.keep hb); replace RN := Lib.hid (RN.out.keep hb)
  replace HN := Lib.hid (Nat.le_trans HN.out hb.size)
  replace B := Lib.hid (below_next B.out hb)
  clear hb
  clear RA
  have z0 : wv.cell? ⟨w.heap.size + 1 + 1, 0, none⟩ = some (.int .i64 0) := BO.out.cell rfl
  have z1 : wv.cell? ⟨w.heap.size + 1 + 1, 1, none⟩ = some (.int .i64 0) := BO.out.cell rfl
  have z2 : wv.cell? ⟨w.heap.size + 1 + 1, 2, none⟩ = some (.slice none 0 0) := BO.out.cell rfl
  have f0 : wv.frozen? ⟨w.heap.size + 1 + 1, 0, none⟩ = false := BO.out.frozen 0
  have f1 : wv.frozen? ⟨w.heap.size + 1 + 1, 1, none⟩ = false := BO.out.frozen 1
  have f2 : wv.frozen? ⟨w.heap.size + 1 + 1, 2, none⟩ = false := BO.out.frozen 2
  have p3 : wv.cell? ⟨w.heap.size, 3, none⟩ = some (.int .i64 a) := BP.out.cell rfl
  have p4 : wv.cell? ⟨w.heap.size, 4, none⟩ = some (.int .i64 b) := BP.out.cell rfl
  go_wp2_with fail
  obtain ⟨w4, hWn⟩ : ∃ W5, W5 = (((wv).setCell ⟨w.heap.size + 1 + 1, 0, none⟩ (.int .i64 W)).setCell ⟨w.heap.size + 1 + 1, 1, none⟩ (.int .i64 H)).setCell ⟨w.heap.size + 1 + 1, 2, none⟩ (.slice (some ⟨g1, 0, none⟩) n n) := ⟨_, rfl⟩
  have hg : wv.grownBy w4 (some (w.heap.size + 1 + 1)) := by rw [hWn]; exact (grown_next (grown_next (grownSet1 wv ⟨w.heap.size + 1 + 1, 0, none⟩ (.int .i64 W)) (grownSet1 _ ⟨w.heap.size + 1 + 1, 1, none⟩ (.int .i64 H))) (grownSet1 _ ⟨w.heap.size + 1 + 1, 2, none⟩ (.slice (some ⟨g1, 0, none⟩) n n)))
  replace BO := Lib.hid (show Bx w4 (w.heap.size + 1 + 1) #[.int .i64 W, .int .i64 H, .slice (some ⟨g1, 0, none⟩) n n, .int .i64 0, .int .i64 0, .slice none 0 0] 28 by rw [hWn]; exact (((BO.out.set 0 (.int .i64 W)).set 1 (.int .i64 H)).set 2 (.slice (some ⟨g1, 0, none⟩) n n)))
  replace BP := Lib.hid (BP.out.grown hg (by simp; omega)); replace BR := Lib.hid (BR.out.grown hg (by simp))
  replace O1 := Lib.hid (O1.out.other hg (fun a9 ha9 he => by injection he with he; have := (O1.out.span a9 ha9).1; omega))
  replace HN := Lib.hid (Nat.le_trans HN.out hg.size)
  replace HG1 := Lib.hid (Nat.lt_of_lt_of_le HG1.out hg.size)
  replace B := Lib.hid (B.out.grown hg B.out.size (fun g9 h9 => by injection h9 with h9; omega))
  rw [← hWn]
  replace RN := Lib.hid (RP.out.keep B.out)
  clear hWn hg
  clear z0 z1 z2 f0 f1 f2 p3 p4
  refine (toLeaper_any _ _ _).mono ?_
  rintro e w5 ⟨rfl, hb⟩
  replace HG1 := Lib.hid (Nat.lt_of_lt_of_le HG1.out hb.size)
  replace BP := Lib.hid (BP.out.keep hb); replace BR := Lib.hid (BR.out.keep hb); replace BO := Lib.hid (BO.out.keep hb); replace RN := Lib.hid (RN.out.keep hb)
  replace O1 := Lib.hid (O1.out.keep hb)
  replace HN := Lib.hid (Nat.le_trans HN.out hb.size)
  replace B := Lib.hid (below_next B.out hb)
  clear hb
  have z3 : w5.cell? ⟨w.heap.size + 1 + 1, 3, none⟩ = some (.int .i64 0) := BO.out.cell rfl
  have z4 : w5.cell? ⟨w.heap.size + 1 + 1, 4, none⟩ = some (.int .i64 0) := BO.out.cell rfl
  have f3 : w5.frozen? ⟨w.heap.size + 1 + 1, 3, none⟩ = false := BO.out.frozen 3
  have f4 : w5.frozen? ⟨w.heap.size + 1 + 1, 4, none⟩ = false := BO.out.frozen 4
  have p5 : w5.cell? ⟨w.heap.size, 5, none⟩ = some (.slice A2 n2 c2) := BP.out.cell rfl
  go_wp2_with fail
  obtain ⟨w6, hWn⟩ : ∃ W5, W5 = ((w5).setCell ⟨w.heap.size + 1 + 1, 3, none⟩ (.int .i64 a)).setCell ⟨w.heap.size + 1 + 1, 4, none⟩ (.int .i64 b) := ⟨_, rfl⟩
  have hg : w5.grownBy w6 (some (w.heap.size + 1 + 1)) := by rw [hWn]; exact (grown_next (grownSet1 w5 ⟨w.heap.size + 1 + 1, 3, none⟩ (.int .i64 a)) (grownSet1 _ ⟨w.heap.size + 1 + 1, 4, none⟩ (.int .i64 b)))
  replace BO := Lib.hid (show Bx w6 (w.heap.size + 1 + 1) #[.int .i64 W, .int .i64 H, .slice (some ⟨g1, 0, none⟩) n n, .int .i64 a, .int .i64 b, .slice none 0 0] 28 by rw [hWn]; exact ((BO.out.set 3 (.int .i64 a)).set 4 (.int .i64 b)))
  replace BP := Lib.hid (BP.out.grown hg (by simp; omega)); replace BR := Lib.hid (BR.out.grown hg (by simp))
  replace O1 := Lib.hid (O1.out.other hg (fun a9 ha9 he => by injection he with he; have := (O1.out.span a9 ha9).1; omega))
  replace HN := Lib.hid (Nat.le_trans HN.out hg.size)
  replace HG1 := Lib.hid (Nat.lt_of_lt_of_le HG1.out hg.size)
  replace B := Lib.hid (B.out.grown hg B.out.size (fun g9 h9 => by injection h9 with h9; omega))
  rw [← hWn]
  replace RN := Lib.hid (RP.out.keep B.out)
  clear hWn hg
  clear z3 z4 f3 f4 p5
  refine (toIntS_any A2 n2 c2 ns _ RN.out hn2).mono ?_
  rintro e w7 ⟨g2, rfl, own, hb⟩
  have O2 := Lib.hid (own.lower HN.out)
  have HG2 := Lib.hid (show g1 < g2 by have h9 := (own.span _ rfl).1; dsimp only at h9; have := HG1.out; omega)
  clear own
  replace BP := Lib.hid (BP.out.keep hb); replace BR := Lib.hid (BR.out.keep hb); replace BO := Lib.hid (BO.out.keep hb); replace RN := Lib.hid (RN.out.keep hb)
  replace O1 := Lib.hid (O1.out.keep hb)
  replace HN := Lib.hid (Nat.le_trans HN.out hb.size)
  replace B := Lib.hid (below_next B.out hb)
  clear hb
  have z0 : w7.cell? ⟨w.heap.size + 1 + 1, 0, none⟩ = some (.int .i64 W) := BO.out.cell rfl
  have z1 : w7.cell? ⟨w.heap.size + 1 + 1, 1, none⟩ = some (.int .i64 H) := BO.out.cell rfl
  have z2 : w7.cell? ⟨w.heap.size + 1 + 1, 2, none⟩ = some (.slice (some ⟨g1, 0, none⟩) n n) := BO.out.cell rfl
  have z3 : w7.cell? ⟨w.heap.size + 1 + 1, 3, none⟩ = some (.int .i64 a) := BO.out.cell rfl
  have z4 : w7.cell? ⟨w.heap.size + 1 + 1, 4, none⟩ = some (.int .i64 b) := BO.out.cell rfl
  have z5 : w7.cell? ⟨w.heap.size + 1 + 1, 5, none⟩ = some (.slice none 0 0) := BO.out.cell rfl
  have f5 : w7.frozen? ⟨w.heap.size + 1 + 1, 5, none⟩ = false := BO.out.frozen 5
  have y0 : w7.cell? ⟨w.heap.size + 1, 0, none⟩ = some (.int .i64 0) := BR.out.cell rfl
  have y1 : w7.cell? ⟨w.heap.size + 1, 1, none⟩ = some (.int .i64 0) := BR.out.cell rfl
  have y2 : w7.cell? ⟨w.heap.size + 1, 2, none⟩ = some (.slice none 0 0) := BR.out.cell rfl
  have y3 : w7.cell? ⟨w.heap.size + 1, 3, none⟩ = some (.int .i64 0) := BR.out.cell rfl
  have y4 : w7.cell? ⟨w.heap.size + 1, 4, none⟩ = some (.int .i64 0) := BR.out.cell rfl
  have y5 : w7.cell? ⟨w.heap.size + 1, 5, none⟩ = some (.slice none 0 0) := BR.out.cell rfl
  have h0 : w7.frozen? ⟨w.heap.size + 1, 0, none⟩ = false := BR.out.frozen 0
  have h1 : w7.frozen? ⟨w.heap.size + 1, 1, none⟩ = false := BR.out.frozen 1
  have h2 : w7.frozen? ⟨w.heap.size + 1, 2, none⟩ = false := BR.out.frozen 2
  have h3 : w7.frozen? ⟨w.heap.size + 1, 3, none⟩ = false := BR.out.frozen 3
  have h4 : w7.frozen? ⟨w.heap.size + 1, 4, none⟩ = false := BR.out.frozen 4
  have h5 : w7.frozen? ⟨w.heap.size + 1, 5, none⟩ = false := BR.out.frozen 5
  go_wp2
  have hbz : ∀ w : World, ∀ (p : Addr) (u : Value), w.heap.size ≤ (w.setCell p u).heap.size := fun w p u => by simp
  refine bodyPost_ret (v := pzv W H (some ⟨g1, 0, none⟩) n n a b (some ⟨g2, 0, none⟩) n2 n2) (by simp [results, Try.results21, go_sem, y0, y1, y2, y3, y4, y5]) rfl ⟨g1, g2, rfl, HG2.out, ?_, ?_, ?_⟩
  · refine OwnI.lower (lo := w.heap.size + 1 + 1 + 1) ?_ (by omega)
    repeat (first | refine OwnI.set_ ?_ (by simp) _ | exact O1.out)
  · refine OwnI.lower (lo := w.heap.size + 1 + 1 + 1) ?_ (by omega)
    repeat (first | refine OwnI.set_ ?_ (by simp) _ | exact O2.out)
  · repeat (first | refine below_setC ?_ (by omega) _ | exact B.out)

set_option maxRecDepth 100000 in
set_option maxHeartbeats 1000000 in
theorem szDesk_any (W H : Int) (A : Option Addr) (n c : Nat) (a b : Int) (A2 : Option Addr) (n2 c2 : Nat) (left : Int) (w : World) (hn : n ≤ 9223372036854775807) (hn2 : n2 ≤ 9223372036854775807) (h0 : 0 ≤ left) (hl : left ≤ 4611686018427387904) :
    Calls Try.prog 19 #[pzv W H A n c a b A2 n2 c2, .int .i64 left] w fun e w' => e = .returned (.int .i64 (if (n : Int) ≤ left ∧ (n2 : Int) ≤ left - n then left - n - n2 else -1)) ∧ Below w.heap.size w w' := by
  by_cases h : (n : Int) ≤ left
  · by_cases h2 : (n2 : Int) ≤ left - n
    · rw [if_pos (And.intro h h2)]
      go_enter Try.func19, Try.ntmps19
      go_wp2_with fail
      refine (szBoard_any _ _ _ _ _ _ _ hn h0 hl).mono ?_
      rw [if_pos h]
      rintro e wv ⟨rfl, hb⟩
      have p5 : wv.cell? ⟨w.heap.size, 5, none⟩ = some (.slice A2 n2 c2) := by simpa using newbox hb 5
      have HB := Lib.hid (below_box hb)
      clear hb
      go_wp2_with fail
      refine (szIntS_any _ _ _ _ _ hn2 (by omega) (by omega)).mono ?_
      rw [if_pos h2]
      rintro e w5 ⟨rfl, rfl⟩
      go_wp2
      go_ret
      exact ⟨rfl, HB.out⟩
    · rw [if_neg (show ¬ ((n : Int) ≤ left ∧ (n2 : Int) ≤ left - n) by omega)]
      go_enter Try.func19, Try.ntmps19
      go_wp2_with fail
      refine (szBoard_any _ _ _ _ _ _ _ hn h0 hl).mono ?_
      rw [if_pos h]
      rintro e wv ⟨rfl, hb⟩
      have p5 : wv.cell? ⟨w.heap.size, 5, none⟩ = some (.slice A2 n2 c2) := by simpa using newbox hb 5
      have HB := Lib.hid (below_box hb)
      clear hb
      go_wp2_with fail
      refine (szIntS_any _ _ _ _ _ hn2 (by omega) (by omega)).mono ?_
      rw [if_neg (show ¬ (n2 : Int) ≤ left - n by omega)]
      rintro e w5 ⟨rfl, rfl⟩
      go_wp2
      go_ret
      exact ⟨rfl, HB.out⟩
  · rw [if_neg (show ¬ ((n : Int) ≤ left ∧ (n2 : Int) ≤ left - n) by omega)]
    go_enter Try.func19, Try.ntmps19
    go_wp2_with fail
    refine (szBoard_any _ _ _ _ _ _ _ hn h0 hl).mono ?_
    rw [if_neg (show ¬ (n : Int) ≤ left by omega)]
    rintro e wv ⟨rfl, hb⟩
    have HB := Lib.hid (below_box hb)
    clear hb
    go_wp2
    go_ret
    exact ⟨rfl, HB.out⟩

set_option maxHeartbeats 400000 in
theorem eqLeaper_any (a b : Int) (w : World) :
    Calls Try.prog 50 #[lpr a b, lpr a b] w fun e w' => e = .returned (.bool true) ∧ Below w.heap.size w w' := by
  go_enter Try.func50, Try.ntmps50
  go_wp2
  go_ret
  exact ⟨rfl, below_new (below_new (Below.refl _ _) _) _⟩

set_option maxRecDepth 100000 in
set_option maxHeartbeats 1000000 in
theorem eqDesk_any (W H : Int) (A : Option Addr) (n c : Nat) (a b : Int) (A2 : Option Addr) (n2 c2 : Nat) (B : Option Addr) (m d : Nat) (B2 : Option Addr) (m2 d2 : Nat) (xs ns ys ms : List Int) (w : World) (ha : Rd w A n xs) (ha2 : Rd w A2 n2 ns) (hb : Rd w B m ys) (hb2 : Rd w B2 m2 ms) :
    Calls Try.prog 16 #[pzv W H A n c a b A2 n2 c2, pzv W H B m d a b B2 m2 d2] w fun e w' => e = .returned (.bool (decide (xs = ys) && decide (ns = ms))) ∧ Below w.heap.size w w' := by
  have hA := Lib.hid ha; have hB := Lib.hid hb; have hC := Lib.hid ha2; have hD := Lib.hid hb2
  by_cases h1 : xs = ys
  · by_cases h2 : ns = ms
    · rw [show (decide (xs = ys) && decide (ns = ms)) = true by simp [h1, h2]]
      go_enter Try.func16, Try.ntmps16
      go_wp2_with fail
      refine (eqBoard_any _ _ _ _ _ _ _ _ _ _ _ ((ha.alloc _).alloc _) ((hb.alloc _).alloc _)).mono ?_
      rw [show decide (xs = ys) = true by simpa using h1]
      clear ha hb ha2 hb2
      rintro e wv ⟨rfl, hb⟩
      have hbx := below_box hb
      have p0 : wv.cell? ⟨w.heap.size, 0, none⟩ = some (.int .i64 W) := by simpa using newbox hbx 0
      have p1 : wv.cell? ⟨w.heap.size, 1, none⟩ = some (.int .i64 H) := by simpa using newbox hbx 1
      have p2 : wv.cell? ⟨w.heap.size, 2, none⟩ = some (.slice A n c) := by simpa using newbox hbx 2
      have p3 : wv.cell? ⟨w.heap.size, 3, none⟩ = some (.int .i64 a) := by simpa using newbox hbx 3
      have p4 : wv.cell? ⟨w.heap.size, 4, none⟩ = some (.int .i64 b) := by simpa using newbox hbx 4
      have p5 : wv.cell? ⟨w.heap.size, 5, none⟩ = some (.slice A2 n2 c2) := by simpa using newbox hbx 5
      have pl : w.heap.size < wv.heap.size := by simpa using newbox_lt hbx
      have q0 : wv.cell? ⟨w.heap.size + 1, 0, none⟩ = some (.int .i64 W) := by simpa using newbox hb 0
      have q1 : wv.cell? ⟨w.heap.size + 1, 1, none⟩ = some (.int .i64 H) := by simpa using newbox hb 1
      have q2 : wv.cell? ⟨w.heap.size + 1, 2, none⟩ = some (.slice B m d) := by simpa using newbox hb 2
      have q3 : wv.cell? ⟨w.heap.size + 1, 3, none⟩ = some (.int .i64 a) := by simpa using newbox hb 3
      have q4 : wv.cell? ⟨w.heap.size + 1, 4, none⟩ = some (.int .i64 b) := by simpa using newbox hb 4
      have q5 : wv.cell? ⟨w.heap.size + 1, 5, none⟩ = some (.slice B2 m2 d2) := by simpa using newbox hb 5
      have ql : w.heap.size + 1 < wv.heap.size := by simpa using newbox_lt hb
      have HB := Lib.hid (below_box hbx)
      clear hb hbx
      go_wp2_with fail
      refine (eqLeaper_any _ _ _).mono ?_
      rintro e w5 ⟨rfl, hb9⟩
      replace p2 := cell_keep p2 pl hb9; replace q2 := cell_keep q2 ql hb9
      replace p5 := cell_keep p5 pl hb9; replace q5 := cell_keep q5 ql hb9
      replace pl := lt_keep pl hb9; replace ql := lt_keep ql hb9
      replace HB := Lib.hid (below_next HB.out hb9)
      clear hb9
      go_wp2_with fail
      refine (eqIntS_any _ _ _ _ _ _ _ _ _ (hC.out.keep HB.out) (hD.out.keep HB.out)).mono ?_
      rw [show decide (ns = ms) = true by simpa using h2]
      rintro e w6 ⟨rfl, hb9⟩
      replace HB := Lib.hid (below_next HB.out hb9)
      clear hb9 p2 p5 q2 q5
      go_wp2
      go_ret
      exact ⟨rfl, HB.out⟩
    · rw [show (decide (xs = ys) && decide (ns = ms)) = false by simp [h2]]
      go_enter Try.func16, Try.ntmps16
      go_wp2_with fail
      refine (eqBoard_any _ _ _ _ _ _ _ _ _ _ _ ((ha.alloc _).alloc _) ((hb.alloc _).alloc _)).mono ?_
      rw [show decide (xs = ys) = true by simpa using h1]
      clear ha hb ha2 hb2
      rintro e wv ⟨rfl, hb⟩
      have hbx := below_box hb
      have p0 : wv.cell? ⟨w.heap.size, 0, none⟩ = some (.int .i64 W) := by simpa using newbox hbx 0
      have p1 : wv.cell? ⟨w.heap.size, 1, none⟩ = some (.int .i64 H) := by simpa using newbox hbx 1
      have p2 : wv.cell? ⟨w.heap.size, 2, none⟩ = some (.slice A n c) := by simpa using newbox hbx 2
      have p3 : wv.cell? ⟨w.heap.size, 3, none⟩ = some (.int .i64 a) := by simpa using newbox hbx 3
      have p4 : wv.cell? ⟨w.heap.size, 4, none⟩ = some (.int .i64 b) := by simpa using newbox hbx 4
      have p5 : wv.cell? ⟨w.heap.size, 5, none⟩ = some (.slice A2 n2 c2) := by simpa using newbox hbx 5
      have pl : w.heap.size < wv.heap.size := by simpa using newbox_lt hbx
      have q0 : wv.cell? ⟨w.heap.size + 1, 0, none⟩ = some (.int .i64 W) := by simpa using newbox hb 0
      have q1 : wv.cell? ⟨w.heap.size + 1, 1, none⟩ = some (.int .i64 H) := by simpa using newbox hb 1
      have q2 : wv.cell? ⟨w.heap.size + 1, 2, none⟩ = some (.slice B m d) := by simpa using newbox hb 2
      have q3 : wv.cell? ⟨w.heap.size + 1, 3, none⟩ = some (.int .i64 a) := by simpa using newbox hb 3
      have q4 : wv.cell? ⟨w.heap.size + 1, 4, none⟩ = some (.int .i64 b) := by simpa using newbox hb 4
      have q5 : wv.cell? ⟨w.heap.size + 1, 5, none⟩ = some (.slice B2 m2 d2) := by simpa using newbox hb 5
      have ql : w.heap.size + 1 < wv.heap.size := by simpa using newbox_lt hb
      have HB := Lib.hid (below_box hbx)
      clear hb hbx
      go_wp2_with fail
      refine (eqLeaper_any _ _ _).mono ?_
      rintro e w5 ⟨rfl, hb9⟩
      replace p2 := cell_keep p2 pl hb9; replace q2 := cell_keep q2 ql hb9
      replace p5 := cell_keep p5 pl hb9; replace q5 := cell_keep q5 ql hb9
      replace pl := lt_keep pl hb9; replace ql := lt_keep ql hb9
      replace HB := Lib.hid (below_next HB.out hb9)
      clear hb9
      go_wp2_with fail
      refine (eqIntS_any _ _ _ _ _ _ _ _ _ (hC.out.keep HB.out) (hD.out.keep HB.out)).mono ?_
      rw [show decide (ns = ms) = false by simpa using h2]
      rintro e w6 ⟨rfl, hb9⟩
      replace HB := Lib.hid (below_next HB.out hb9)
      clear hb9 p2 p5 q2 q5
      go_wp2
      go_ret
      exact ⟨rfl, HB.out⟩
  · rw [show (decide (xs = ys) && decide (ns = ms)) = false by simp [h1]]
    go_enter Try.func16, Try.ntmps16
    go_wp2_with fail
    refine (eqBoard_any _ _ _ _ _ _ _ _ _ _ _ ((ha.alloc _).alloc _) ((hb.alloc _).alloc _)).mono ?_
    rw [show decide (xs = ys) = false by simpa using h1]
    rintro e wv ⟨rfl, hb⟩
    have HB := Lib.hid (below_box (below_box hb))
    clear hb
    go_wp2
    go_ret
    exact ⟨rfl, HB.out⟩

set_option maxRecDepth 100000 in
set_option maxHeartbeats 1000000 in
theorem markDesk_any (W H : Int) (A : Option Addr) (n c : Nat) (a b : Int) (A2 : Option Addr) (n2 c2 : Nat) (lo : Nat) (k0 : Int) (xs ns : List Int) (w : World) (ha : OwnI 3 w lo A n c xs) (ha2 : OwnI 3 w lo A2 n2 c2 ns) (hne : ∀ y, A2 = some y → some y.block ≠ rowOf A) (hne2 : ∀ y, A = some y → some y.block ≠ rowOf A2) (h0 : 0 ≤ k0) (hk0 : k0 + n + n2 ≤ 4611686018427387904) :
    Calls Try.prog 17 #[pzv W H A n c a b A2 n2 c2, .int .i64 k0] w fun e w' => e = .returned (.int .i64 (k0 + n + n2)) ∧ OwnI 3 w' lo A n c (marks k0 n) ∧ OwnI 3 w' lo A2 n2 c2 (marks (k0 + n) n2) ∧ ∃ w1, w.grownBy w1 (rowOf A) ∧ w1.grownBy w' (rowOf A2) := by
  have HN := Lib.hid hne
  go_enter Try.func17, Try.ntmps17
  go_wp2_with fail
  refine (markBoard_any _ _ _ _ _ _ k0 _ _ (ha.alloc _) h0 (by omega)).mono ?_
  rintro e w5 ⟨rfl, o1, hg⟩
  have hlA : ∀ g9, rowOf A = some g9 → g9 < w.heap.size := fun g9 h9 => by cases A with | none => simp [rowOf] at h9 | some y => simp only [rowOf, Option.map_some, Option.some.injEq] at h9; exact h9 ▸ (ha.span y rfl).2
  have p5 : w5.cell? ⟨w.heap.size, 5, none⟩ = some (.slice A2 n2 c2) := hg.cell (by simp) (fun h9 => by have := hlA _ h9.symm; simp at this)
  have O1 := Lib.hid o1
  have O2 := Lib.hid ((ha2.alloc _).other hg (fun y hy he => hne y hy (by rw [he])))
  have HG := Lib.hid (grown_next (grown_of_below (below_new (Below.refl _ _) _) _) hg)
  clear o1 hg
  go_wp2_with fail
  refine (markIntS_any _ _ _ _ (k0 + n) _ _ O2.out (by omega) (by omega)).mono ?_
  rintro e w6 ⟨rfl, o2, hg2⟩
  replace O1 := Lib.hid (O1.out.other hg2 (fun y hy he => hne2 y hy he))
  have O2' := Lib.hid o2; have HG2 := Lib.hid hg2
  clear o2 hg2 p5
  go_wp2
  go_ret
  exact ⟨rfl, O1.out, O2'.out, w5, HG.out, HG2.out⟩

set_option maxRecDepth 100000 in
set_option maxHeartbeats 1000000 in
theorem heldDesk_any (W H : Int) (A : Option Addr) (n c : Nat) (a b : Int) (A2 : Option Addr) (n2 c2 : Nat) (k0 : Int) (w : World) (ha : Rd w A n (marks k0 n)) (ha2 : Rd w A2 n2 (marks (k0 + n) n2)) (h0 : 0 ≤ k0) (hk0 : k0 + n + n2 ≤ 4611686018427387904) :
    Calls Try.prog 18 #[pzv W H A n c a b A2 n2 c2, .int .i64 k0] w fun e w' => e = .returned (.int .i64 (k0 + n + n2)) ∧ Below w.heap.size w w' := by
  go_enter Try.func18, Try.ntmps18
  go_wp2_with fail
  refine (heldBoard_any _ _ _ _ _ k0 _ (ha.alloc _) h0 (by omega)).mono ?_
  rintro e wv ⟨rfl, hb⟩
  have p5 : wv.cell? ⟨w.heap.size, 5, none⟩ = some (.slice A2 n2 c2) := by simpa using newbox hb 5
  have HB := Lib.hid (below_box hb)
  clear hb
  go_wp2_with fail
  refine (heldIntS_any _ _ _ (k0 + n) _ (ha2.keep HB.out) (by omega) (by omega)).mono ?_
  rintro e w6 ⟨rfl, hb⟩
  replace HB := Lib.hid (below_next HB.out hb)
  clear hb
  go_wp2
  go_ret
  exact ⟨rfl, HB.out⟩

end Go.Proofs.Ytadopgfpfbianaa
