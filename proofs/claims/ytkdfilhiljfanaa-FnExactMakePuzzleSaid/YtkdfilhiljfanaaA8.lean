/-
  Contracts: puzzles with other numbers.
-/
import Derived.Test.YtkdfilhiljfanaaA5
import Derived.Test.YtkdfilhiljfanaaK9a
import Derived.Test.YtkdfilhiljfanaaU0
namespace Go.Proofs.Ytkdfilhiljfanaa
open Go.RowKit

/-- Two rows are not the same block. -/
def Apart (A A2 : Option Addr) : Prop := ∀ y z, A = some y → A2 = some z → y.block ≠ z.block
theorem Apart.ne {A A2 : Option Addr} (h : Apart A A2) : ∀ y, A2 = some y → some y.block ≠ rowOf A := fun y hy e => by
  cases A with
  | none => simp [rowOf] at e
  | some x => simp only [rowOf, Option.map_some, Option.some.injEq] at e; exact h x y rfl hy e.symm
theorem Apart.ne2 {A A2 : Option Addr} (h : Apart A A2) : ∀ y, A = some y → some y.block ≠ rowOf A2 := fun y hy e => by
  cases A2 with
  | none => simp [rowOf] at e
  | some x => simp only [rowOf, Option.map_some, Option.some.injEq] at e; exact h y x hy rfl e
theorem Apart.none_left (A : Option Addr) : Apart none A := fun _ _ h => by cases h
theorem own_setC {E : TypeId} {w : World} {lo n c g j : Nat} {A : Option Addr} {xs : List Int} (h : OwnI E w lo A n c xs) (hg : g < lo) (u : Value) : OwnI E (w.setCell ⟨g, j, none⟩ u) lo A n c xs := h.set_ hg u
theorem apart_lt {E : TypeId} {w w' : World} {lo lo' n c n2 c2 : Nat} {A A2 : Option Addr} {xs ns : List Int} (h : OwnI E w' lo A n c xs) (h2 : OwnI E w lo' A2 n2 c2 ns) (hl : w.heap.size ≤ lo) : Apart A A2 := fun y z hy hz => by
  have h3 := (h.span y hy).1; have h4 := (h2.span z hz).2; omega

theorem cloneI_any (A : Option Addr) (n c : Nat) (xs : List Int) (w : World) (ha : Rd w A n xs) (hn : n ≤ 1000000) :
    Calls Try.prog 57 #[.slice A n c] w fun e w' => ∃ A' c', e = .returned (.slice A' n c') ∧ OwnI 3 w' w.heap.size A' n c' xs ∧ Below w.heap.size w w' := by
  rcases Nat.eq_zero_or_pos n with h0 | h0
  · subst h0
    obtain rfl : xs = [] := List.eq_nil_of_length_eq_zero ha.1
    cases A with
    | none => exact (Try.slices_Clone_int_nil 0 c w).mono fun e w' ⟨he, hw⟩ => ⟨none, 0, he, by rw [hw]; exact OwnI.none_ _ _ _, by rw [hw]; exact Below.refl _ _⟩
    | some a =>
      refine (Try.slices_Clone_int_zero a c w).mono ?_
      rintro e w' ⟨v', rfl, hown, _, hb⟩
      obtain ⟨A', c', rfl, hO⟩ := own_form (xs := []) (by simpa using hown)
      exact ⟨A', c', rfl, hO, hb⟩
  · obtain ⟨bb, oo, x, rfl, _, _, _⟩ := ha.at_ h0
    have hc : ∀ j, j < xs.length → w.cell? ⟨bb, oo + j, none⟩ = some (.int .i64 (xs.getD j 0)) := fun j hj => by
      obtain ⟨b1, o1, y, e, _, hy, hc⟩ := ha.at_ (show j < n by have := ha.1; omega)
      cases e
      rw [hc, List.getD_eq_getElem?_getD, hy]; rfl
    refine (Try.slices_Clone_int bb oo n c xs w (by have := ha.1; omega) (by omega) hc).mono ?_
    rintro e w' ⟨v', rfl, hown, _, hb⟩
    rw [List.take_of_length_le (by have := ha.1; omega)] at hown
    obtain ⟨A', c', rfl, hO⟩ := own_form hown
    exact ⟨A', c', rfl, hO, hb⟩

set_option maxRecDepth 100000 in
set_option maxHeartbeats 2000000 in
theorem having_any (W H : Int) (A : Option Addr) (n c : Nat) (a b : Int) (A2 : Option Addr) (n2 c2 : Nat) (xs : List Int) (A3 : Option Addr) (n3 c3 : Nat) (w : World) (ha : Rd w A n xs) (hn : n ≤ 1000000) :
    Calls Try.prog 58 #[pzv W H A n c a b A2 n2 c2, .slice A3 n3 c3] w fun e w' => ∃ A' c', e = .returned (pzv W H A' n c' a b A3 n3 c3) ∧ OwnI 3 w' w.heap.size A' n c' xs ∧ Below w.heap.size w w' := by
  obtain ⟨W2, hW2⟩ : ∃ W2, W2 = (w.alloc (.cells #[.int .i64 W, .int .i64 H, .slice A n c, .int .i64 a, .int .i64 b, .slice A2 n2 c2] 34)).alloc (.cells #[.int .i64 0, .int .i64 0, .slice none 0 0, .int .i64 0, .int .i64 0, .slice none 0 0] 34) := ⟨_, rfl⟩
  have BP := Lib.hid (show Bx W2 (w.heap.size) #[.int .i64 W, .int .i64 H, .slice A n c, .int .i64 a, .int .i64 b, .slice A2 n2 c2] 34 by rw [hW2]; exact (Bx.new (w) #[.int .i64 W, .int .i64 H, .slice A n c, .int .i64 a, .int .i64 b, .slice A2 n2 c2] 34).keep (below_new (Below.refl _ _) (.cells #[.int .i64 0, .int .i64 0, .slice none 0 0, .int .i64 0, .int .i64 0, .slice none 0 0] 34)))
  have BR := Lib.hid (show Bx W2 (w.heap.size + 1) #[.int .i64 0, .int .i64 0, .slice none 0 0, .int .i64 0, .int .i64 0, .slice none 0 0] 34 by rw [hW2]; have := Bx.new (w.alloc (.cells #[.int .i64 W, .int .i64 H, .slice A n c, .int .i64 a, .int .i64 b, .slice A2 n2 c2] 34)) #[.int .i64 0, .int .i64 0, .slice none 0 0, .int .i64 0, .int .i64 0, .slice none 0 0] 34; simpa using this)
  have B := Lib.hid (show Below w.heap.size w W2 by rw [hW2]; repeat (first | exact Below.refl _ _ | refine below_new ?_ _))
  have HSZ := Lib.hid (show w.heap.size + 2 ≤ W2.heap.size by rw [hW2]; simp)
  have RH := Lib.hid (ha.keep B.out)
  clear ha
  have p2 : W2.cell? ⟨w.heap.size, 2, none⟩ = some (.slice A n c) := BP.out.cell rfl
  go_enter Try.func58, Try.ntmps58
  go_wp2_with fail
  rw [← hW2]
  clear hW2
  clear p2
  refine (cloneI_any A n c xs _ RH.out hn).mono ?_
  rintro e wv ⟨A', c', rfl, own, hb⟩
  have OH := Lib.hid (own.lower (show w.heap.size + 1 + 1 ≤ W2.heap.size by have := HSZ.out; omega))
  clear own
  replace BP := Lib.hid (BP.out.keep hb)
  replace BR := Lib.hid (BR.out.keep hb)
  replace HSZ := Lib.hid (Nat.le_trans HSZ.out hb.size)
  replace B := Lib.hid (below_next B.out hb)
  clear hb
  have p0 : wv.cell? ⟨w.heap.size, 0, none⟩ = some (.int .i64 W) := BP.out.cell rfl
  have p1 : wv.cell? ⟨w.heap.size, 1, none⟩ = some (.int .i64 H) := BP.out.cell rfl
  have p2 : wv.cell? ⟨w.heap.size, 2, none⟩ = some (.slice A n c) := BP.out.cell rfl
  have p3 : wv.cell? ⟨w.heap.size, 3, none⟩ = some (.int .i64 a) := BP.out.cell rfl
  have p4 : wv.cell? ⟨w.heap.size, 4, none⟩ = some (.int .i64 b) := BP.out.cell rfl
  have p5 : wv.cell? ⟨w.heap.size, 5, none⟩ = some (.slice A2 n2 c2) := BP.out.cell rfl
  have f2 : wv.frozen? ⟨w.heap.size, 2, none⟩ = false := BP.out.frozen 2
  have f5 : wv.frozen? ⟨w.heap.size, 5, none⟩ = false := BP.out.frozen 5
  have y0 : wv.cell? ⟨w.heap.size + 1, 0, none⟩ = some (.int .i64 0) := BR.out.cell rfl
  have y1 : wv.cell? ⟨w.heap.size + 1, 1, none⟩ = some (.int .i64 0) := BR.out.cell rfl
  have y2 : wv.cell? ⟨w.heap.size + 1, 2, none⟩ = some (.slice none 0 0) := BR.out.cell rfl
  have y3 : wv.cell? ⟨w.heap.size + 1, 3, none⟩ = some (.int .i64 0) := BR.out.cell rfl
  have y4 : wv.cell? ⟨w.heap.size + 1, 4, none⟩ = some (.int .i64 0) := BR.out.cell rfl
  have y5 : wv.cell? ⟨w.heap.size + 1, 5, none⟩ = some (.slice none 0 0) := BR.out.cell rfl
  have h0 : wv.frozen? ⟨w.heap.size + 1, 0, none⟩ = false := BR.out.frozen 0
  have h1 : wv.frozen? ⟨w.heap.size + 1, 1, none⟩ = false := BR.out.frozen 1
  have h2 : wv.frozen? ⟨w.heap.size + 1, 2, none⟩ = false := BR.out.frozen 2
  have h3 : wv.frozen? ⟨w.heap.size + 1, 3, none⟩ = false := BR.out.frozen 3
  have h4 : wv.frozen? ⟨w.heap.size + 1, 4, none⟩ = false := BR.out.frozen 4
  have h5 : wv.frozen? ⟨w.heap.size + 1, 5, none⟩ = false := BR.out.frozen 5
  go_wp2
  refine bodyPost_ret (v := pzv W H A' n c' a b A3 n3 c3) (by simp [results, Try.results58, go_sem, y0, y1, y2, y3, y4, y5]) rfl ⟨A', c', rfl, ?_, ?_⟩
  · refine OwnI.lower (lo := w.heap.size + 1 + 1) ?_ (by omega)
    repeat (first | refine own_setC ?_ (by omega) _ | exact OH.out)
  · repeat (first | refine below_setC ?_ (by omega) _ | exact B.out)

set_option maxRecDepth 100000 in
set_option maxHeartbeats 2000000 in
theorem withN_any (W H : Int) (A : Option Addr) (n c : Nat) (a b : Int) (A2 : Option Addr) (n2 c2 : Nat) (xs ns : List Int) (j : Nat) (v : Int) (w : World) (ha : Rd w A n xs) (hp : Rd w A2 n2 ns) (hj : j < n2) (hn : n ≤ 1000) (hn2 : n2 ≤ 1000) :
    Calls Try.prog 54 #[pzv W H A n c a b A2 n2 c2, .int .i64 (j : Int), .int .i64 v] w fun e w' => ∃ A' c' A2' c2', e = .returned (pzv W H A' n c' a b A2' n2 c2') ∧ OwnI 3 w' w.heap.size A' n c' xs ∧ OwnI 3 w' w.heap.size A2' n2 c2' (ns.set j v) ∧ Apart A' A2' ∧ Below w.heap.size w w' := by
  obtain ⟨W2, hW2⟩ : ∃ W2, W2 = (w.alloc (.cells #[.int .i64 W, .int .i64 H, .slice A n c, .int .i64 a, .int .i64 b, .slice A2 n2 c2] 34)).alloc (.cells #[.int .i64 0, .int .i64 0, .slice none 0 0, .int .i64 0, .int .i64 0, .slice none 0 0] 34) := ⟨_, rfl⟩
  have BP := Lib.hid (show Bx W2 (w.heap.size) #[.int .i64 W, .int .i64 H, .slice A n c, .int .i64 a, .int .i64 b, .slice A2 n2 c2] 34 by rw [hW2]; exact (Bx.new (w) #[.int .i64 W, .int .i64 H, .slice A n c, .int .i64 a, .int .i64 b, .slice A2 n2 c2] 34).keep (below_new (Below.refl _ _) (.cells #[.int .i64 0, .int .i64 0, .slice none 0 0, .int .i64 0, .int .i64 0, .slice none 0 0] 34)))
  have BR := Lib.hid (show Bx W2 (w.heap.size + 1) #[.int .i64 0, .int .i64 0, .slice none 0 0, .int .i64 0, .int .i64 0, .slice none 0 0] 34 by rw [hW2]; have := Bx.new (w.alloc (.cells #[.int .i64 W, .int .i64 H, .slice A n c, .int .i64 a, .int .i64 b, .slice A2 n2 c2] 34)) #[.int .i64 0, .int .i64 0, .slice none 0 0, .int .i64 0, .int .i64 0, .slice none 0 0] 34; simpa using this)
  have B := Lib.hid (show Below w.heap.size w W2 by rw [hW2]; repeat (first | exact Below.refl _ _ | refine below_new ?_ _))
  have HSZ := Lib.hid (show w.heap.size + 2 ≤ W2.heap.size by rw [hW2]; simp)
  have RA0 := Lib.hid ha
  have RN := Lib.hid (hp.keep B.out)
  clear ha hp
  have p5 : W2.cell? ⟨w.heap.size, 5, none⟩ = some (.slice A2 n2 c2) := BP.out.cell rfl
  go_enter Try.func54, Try.ntmps54
  go_wp2_with fail
  rw [← hW2]
  clear hW2
  clear p5
  refine (cloneI_any A2 n2 c2 ns _ RN.out (by omega)).mono ?_
  rintro e wv ⟨AN, cN, rfl, own, hb⟩
  have ON := Lib.hid (own.lower (show w.heap.size + 1 + 1 ≤ W2.heap.size by have := HSZ.out; omega))
  clear own RN
  replace BP := Lib.hid (BP.out.keep hb)
  replace BR := Lib.hid (BR.out.keep hb)
  replace HSZ := Lib.hid (Nat.le_trans HSZ.out hb.size)
  replace B := Lib.hid (below_next B.out hb)
  clear hb
  obtain ⟨gn, rfl, hgn1, hgn2⟩ := ON.out.some_ hj
  have hj0 : (0 : Int) ≤ (j : Int) := by omega
  have hj2 : (j : Int) < (n2 : Int) := by omega
  obtain ⟨y9, hx9⟩ : ∃ y, ns[j]? = some y := ⟨_, List.getElem?_eq_getElem (show j < ns.length by have := ON.out.len; omega)⟩
  have c0 := ON.out.cell hx9; have f0 := ON.out.frozen j
  obtain ⟨o9, g9⟩ := ON.out.stored j v
  obtain ⟨w4, hW4⟩ : ∃ W5, W5 = wv.setCell ⟨gn, j, none⟩ (.int .i64 v) := ⟨_, rfl⟩
  rw [← hW4] at o9 g9
  replace ON := Lib.hid o9
  have hgn3 : w.heap.size + 1 + 1 ≤ gn := hgn1
  have p0 : wv.cell? ⟨w.heap.size, 0, none⟩ = some (.int .i64 W) := BP.out.cell rfl
  have p1 : wv.cell? ⟨w.heap.size, 1, none⟩ = some (.int .i64 H) := BP.out.cell rfl
  have p2 : wv.cell? ⟨w.heap.size, 2, none⟩ = some (.slice A n c) := BP.out.cell rfl
  have p3 : wv.cell? ⟨w.heap.size, 3, none⟩ = some (.int .i64 a) := BP.out.cell rfl
  have p4 : wv.cell? ⟨w.heap.size, 4, none⟩ = some (.int .i64 b) := BP.out.cell rfl
  have p5 : wv.cell? ⟨w.heap.size, 5, none⟩ = some (.slice A2 n2 c2) := BP.out.cell rfl
  have hne9 : gn ≠ w.heap.size := by omega
  go_wp2_with fail
  clear p0 p1 p2 p3 p4 p5
  replace BP := Lib.hid (BP.out.grown g9 (by simp; omega)); replace BR := Lib.hid (BR.out.grown g9 (by simp; omega))
  replace HSZ := Lib.hid (Nat.le_trans HSZ.out g9.size)
  replace B := Lib.hid (B.out.grown g9 B.out.size (fun g8 h8 => by injection h8 with h8; omega))
  rw [← hW4]
  clear hW4 o9 g9 c0 f0
  refine (having_any W H A n c a b A2 n2 c2 xs (some ⟨gn, 0, none⟩) n2 cN _ (RA0.out.keep B.out) (by omega)).mono ?_
  rintro e wx ⟨A', c', rfl, own, hb⟩
  have HAP := Lib.hid (apart_lt own ON.out (Nat.le_refl _))
  have OH := Lib.hid (own.lower (show w.heap.size + 1 + 1 ≤ w4.heap.size by have := HSZ.out; omega))
  clear own
  replace BP := Lib.hid (BP.out.keep hb)
  replace BR := Lib.hid (BR.out.keep hb)
  replace ON := Lib.hid (ON.out.keep hb)
  replace HSZ := Lib.hid (Nat.le_trans HSZ.out hb.size)
  replace B := Lib.hid (below_next B.out hb)
  clear hb
  have y0 : wx.cell? ⟨w.heap.size + 1, 0, none⟩ = some (.int .i64 0) := BR.out.cell rfl
  have y1 : wx.cell? ⟨w.heap.size + 1, 1, none⟩ = some (.int .i64 0) := BR.out.cell rfl
  have y2 : wx.cell? ⟨w.heap.size + 1, 2, none⟩ = some (.slice none 0 0) := BR.out.cell rfl
  have y3 : wx.cell? ⟨w.heap.size + 1, 3, none⟩ = some (.int .i64 0) := BR.out.cell rfl
  have y4 : wx.cell? ⟨w.heap.size + 1, 4, none⟩ = some (.int .i64 0) := BR.out.cell rfl
  have y5 : wx.cell? ⟨w.heap.size + 1, 5, none⟩ = some (.slice none 0 0) := BR.out.cell rfl
  have h0 : wx.frozen? ⟨w.heap.size + 1, 0, none⟩ = false := BR.out.frozen 0
  have h1 : wx.frozen? ⟨w.heap.size + 1, 1, none⟩ = false := BR.out.frozen 1
  have h2 : wx.frozen? ⟨w.heap.size + 1, 2, none⟩ = false := BR.out.frozen 2
  have h3 : wx.frozen? ⟨w.heap.size + 1, 3, none⟩ = false := BR.out.frozen 3
  have h4 : wx.frozen? ⟨w.heap.size + 1, 4, none⟩ = false := BR.out.frozen 4
  have h5 : wx.frozen? ⟨w.heap.size + 1, 5, none⟩ = false := BR.out.frozen 5
  go_wp2
  refine bodyPost_ret (v := pzv W H A' n c' a b (some ⟨gn, 0, none⟩) n2 cN) (by simp [results, Try.results54, go_sem, y0, y1, y2, y3, y4, y5]) rfl ⟨A', c', (some ⟨gn, 0, none⟩), cN, rfl, ?_, ?_, HAP.out, ?_⟩
  · refine OwnI.lower (lo := w.heap.size + 1 + 1) ?_ (by omega)
    repeat (first | refine own_setC ?_ (by omega) _ | exact OH.out)
  · refine OwnI.lower (lo := w.heap.size + 1 + 1) ?_ (by omega)
    repeat (first | refine own_setC ?_ (by omega) _ | exact ON.out)
  · repeat (first | refine below_setC ?_ (by omega) _ | exact B.out)

set_option maxRecDepth 100000 in
set_option maxHeartbeats 4000000 in
theorem pzWith_any (W H : Int) (A : Option Addr) (n c : Nat) (a b : Int) (A2 : Option Addr) (n2 c2 : Nat) (xs ns : List Int) (j : Nat) (v : Int) (w : World) (ha : Rd w A n xs) (hp : Rd w A2 n2 ns) (hj : j < n2) (hn : n ≤ 1000) (hn2 : n2 ≤ 1000) :
    Calls Try.prog 52 #[pzv W H A n c a b A2 n2 c2, .int .i64 (j : Int), .int .i64 v] w fun e w' => ∃ A' c' A2' c2', e = .returned (pzv W H A' n c' a b A2' n2 c2') ∧ OwnI 3 w' w.heap.size A' n c' xs ∧ OwnI 3 w' w.heap.size A2' n2 c2' (ns.set j v) ∧ Apart A' A2' ∧ Below w.heap.size w w' := by
  obtain ⟨W2, hW2⟩ : ∃ W2, W2 = (w.alloc (.cells #[.int .i64 W, .int .i64 H, .slice A n c, .int .i64 a, .int .i64 b, .slice A2 n2 c2] 34)).alloc (.cells #[.int .i64 0, .int .i64 0, .slice none 0 0, .int .i64 0, .int .i64 0, .slice none 0 0] 34) := ⟨_, rfl⟩
  have BP := Lib.hid (show Bx W2 (w.heap.size) #[.int .i64 W, .int .i64 H, .slice A n c, .int .i64 a, .int .i64 b, .slice A2 n2 c2] 34 by rw [hW2]; exact (Bx.new (w) #[.int .i64 W, .int .i64 H, .slice A n c, .int .i64 a, .int .i64 b, .slice A2 n2 c2] 34).keep (below_new (Below.refl _ _) (.cells #[.int .i64 0, .int .i64 0, .slice none 0 0, .int .i64 0, .int .i64 0, .slice none 0 0] 34)))
  have BR := Lib.hid (show Bx W2 (w.heap.size + 1) #[.int .i64 0, .int .i64 0, .slice none 0 0, .int .i64 0, .int .i64 0, .slice none 0 0] 34 by rw [hW2]; have := Bx.new (w.alloc (.cells #[.int .i64 W, .int .i64 H, .slice A n c, .int .i64 a, .int .i64 b, .slice A2 n2 c2] 34)) #[.int .i64 0, .int .i64 0, .slice none 0 0, .int .i64 0, .int .i64 0, .slice none 0 0] 34; simpa using this)
  have B := Lib.hid (show Below w.heap.size w W2 by rw [hW2]; repeat (first | exact Below.refl _ _ | refine below_new ?_ _))
  have HSZ := Lib.hid (show w.heap.size + 2 ≤ W2.heap.size by rw [hW2]; simp)
  have RA0 := Lib.hid ha
  have RN := Lib.hid (hp.keep B.out)
  clear ha hp
  have p5 : W2.cell? ⟨w.heap.size, 5, none⟩ = some (.slice A2 n2 c2) := BP.out.cell rfl
  go_enter Try.func52, Try.ntmps52
  go_wp2_with fail
  rw [← hW2]
  clear hW2
  clear p5
  refine (l1Own_all A2 n2 c2 ns _ RN.out hn2).mono ?_
  rintro e wv ⟨AN, cN, rfl, own, hb⟩
  have ON := Lib.hid (own.lower (show w.heap.size + 1 + 1 ≤ W2.heap.size by have := HSZ.out; omega))
  clear own RN
  replace BP := Lib.hid (BP.out.keep hb)
  replace BR := Lib.hid (BR.out.keep hb)
  replace HSZ := Lib.hid (Nat.le_trans HSZ.out hb.size)
  replace B := Lib.hid (below_next B.out hb)
  clear hb
  obtain ⟨gn, rfl, hgn1, hgn2⟩ := ON.out.some_ hj
  have hj0 : (0 : Int) ≤ (j : Int) := by omega
  have hj2 : (j : Int) < (n2 : Int) := by omega
  obtain ⟨y9, hx9⟩ : ∃ y, ns[j]? = some y := ⟨_, List.getElem?_eq_getElem (show j < ns.length by have := ON.out.len; omega)⟩
  have c0 := ON.out.cell hx9; have f0 := ON.out.frozen j
  obtain ⟨o9, g9⟩ := ON.out.stored j v
  obtain ⟨w4, hW4⟩ : ∃ W5, W5 = wv.setCell ⟨gn, j, none⟩ (.int .i64 v) := ⟨_, rfl⟩
  rw [← hW4] at o9 g9
  replace ON := Lib.hid o9
  have hgn3 : w.heap.size + 1 + 1 ≤ gn := hgn1
  have hne9 : gn ≠ w.heap.size := by omega
  go_wp2_with fail
  replace BP := Lib.hid (BP.out.grown g9 (by simp; omega)); replace BR := Lib.hid (BR.out.grown g9 (by simp; omega))
  replace HSZ := Lib.hid (Nat.le_trans HSZ.out g9.size)
  replace B := Lib.hid (B.out.grown g9 B.out.size (fun g8 h8 => by injection h8 with h8; omega))
  rw [← hW4]
  clear hW4 o9 g9 c0 f0
  obtain ⟨B0, hB0⟩ : ∃ B0, B0 = w4.heap.size := ⟨_, rfl⟩
  have HB0 := Lib.hid (show B0 ≤ w4.heap.size by omega)
  have hB02 : w.heap.size + 1 + 1 ≤ B0 := by rw [hB0]; exact HSZ.out
  have HONB := Lib.hid (show gn < B0 by rw [hB0]; exact (ON.out.span _ rfl).2)
  clear hB0
  refine wp_region_held_drew (S := fun w' => w'.cell? ⟨w.heap.size, 0, none⟩ = some (.int .i64 W) ∧ w'.cell? ⟨w.heap.size, 1, none⟩ = some (.int .i64 H) ∧ w'.cell? ⟨w.heap.size, 2, none⟩ = some (.slice A n c)) (by kernel_rfl) ?_ (fun hHeld => ?_)
  · (try dsimp only)
    exact ⟨BP.out.cell rfl, BP.out.cell rfl, BP.out.cell rfl⟩
  refine wpAnyH_take (i := 0) (oi := ⟨_, _, _, _, _, _⟩) (v := ?_) rfl (by kernel_rfl) (by kernel_rfl) (by kernel_rfl) (fun _ _ _ h => h) (Or.inl ⟨by rfl, ?_⟩) (by assumption) ?_
  rotate_left
  · intro w hSw
    (try dsimp only at hSw)
    go_simp
    (try with_reducible rfl)
  (try simp only [Act.put, List.setIfInBounds_toArray, List.set_cons_zero, List.set_cons_succ])
  refine wpAnyH_take (i := 3) (oi := ⟨_, _, _, _, _, _⟩) (v := ?_) rfl (by kernel_rfl) (by kernel_rfl) (by kernel_rfl) (fun _ _ _ h => h) (Or.inl ⟨by rfl, ?_⟩) (by assumption) ?_
  rotate_left
  · intro w hSw
    (try dsimp only at hSw)
    go_simp
    (try with_reducible rfl)
  (try simp only [Act.put, List.setIfInBounds_toArray, List.set_cons_zero, List.set_cons_succ])
  refine wpAnyH_take (i := 6) (oi := ⟨_, _, _, _, _, _⟩) (v := ?_) rfl (by kernel_rfl) (by kernel_rfl) (by kernel_rfl) (fun _ _ _ h => h) (Or.inl ⟨by rfl, ?_⟩) (by assumption) ?_
  rotate_left
  · intro w hSw
    (try dsimp only at hSw)
    go_simp
    (try with_reducible rfl)
  (try simp only [Act.put, List.setIfInBounds_toArray, List.set_cons_zero, List.set_cons_succ])
  refine wpAnyH_take (i := 1) (oi := ⟨_, _, _, _, _, _⟩) (v := ?_) rfl (by kernel_rfl) (by kernel_rfl) (by kernel_rfl) (fun _ _ _ h => h) (Or.inl ⟨by rfl, ?_⟩) (by assumption) ?_
  rotate_left
  · intro w hSw
    (try dsimp only at hSw)
    go_simp
    (try with_reducible rfl)
  (try simp only [Act.put, List.setIfInBounds_toArray, List.set_cons_zero, List.set_cons_succ])
  refine wpAnyH_take (i := 4) (oi := ⟨_, _, _, _, _, _⟩) (v := ?_) rfl (by kernel_rfl) (by kernel_rfl) (by kernel_rfl) (fun _ _ _ h => h) (Or.inl ⟨by rfl, ?_⟩) (by assumption) ?_
  rotate_left
  · intro w hSw
    (try dsimp only at hSw)
    go_simp
    (try with_reducible rfl)
  (try simp only [Act.put, List.setIfInBounds_toArray, List.set_cons_zero, List.set_cons_succ])
  refine wpAnyH_take (i := 7) (oi := ⟨_, _, _, _, _, _⟩) (v := ?_) rfl (by kernel_rfl) (by kernel_rfl) (by kernel_rfl) (fun _ _ _ h => h) (Or.inl ⟨by rfl, ?_⟩) (by assumption) ?_
  rotate_left
  · intro w hSw
    (try dsimp only at hSw)
    go_simp
    (try with_reducible rfl)
  (try simp only [Act.put, List.setIfInBounds_toArray, List.set_cons_zero, List.set_cons_succ])
  refine wpAnyH_take (i := 2) (oi := ⟨_, _, _, _, _, _⟩) (v := ?_) rfl (by kernel_rfl) (by kernel_rfl) (by kernel_rfl) (fun _ _ _ h => h) (Or.inl ⟨by rfl, ?_⟩) (by assumption) ?_
  rotate_left
  · intro w hSw
    (try dsimp only at hSw)
    go_simp
    (try with_reducible rfl)
  (try simp only [Act.put, List.setIfInBounds_toArray, List.set_cons_zero, List.set_cons_succ])
  refine wpAnyH_take (i := 5) (oi := ⟨_, _, _, _, _, _⟩) (v := ?_) rfl (by kernel_rfl) (by kernel_rfl) (by kernel_rfl) (fun _ _ _ h => h) (Or.inl ⟨by rfl, ?_⟩) (by assumption) ?_
  rotate_left
  · intro w hSw
    (try dsimp only at hSw)
    go_simp
    (try with_reducible rfl)
  (try simp only [Act.put, List.setIfInBounds_toArray, List.set_cons_zero, List.set_cons_succ])
  refine wpAnyH_take (i := 8) (oi := ⟨_, _, _, _, _, _⟩) (v := ?_) rfl (by kernel_rfl) (by kernel_rfl) (by kernel_rfl) (fun _ _ _ h => h) (Or.inl ⟨by rfl, ?_⟩) (by assumption) ?_
  rotate_left
  · intro w hSw
    (try dsimp only at hSw)
    go_simp
    (try with_reducible rfl)
  (try simp only [Act.put, List.setIfInBounds_toArray, List.set_cons_zero, List.set_cons_succ])
  refine wpAnyH_ready (rs := [9, 11]) (by kernel_rfl) (by simp) ?_
  refine AllReadyH.cons (o := ⟨_, _, _, _, _, _⟩) rfl (fun K hK => ?_) (AllReadyH.cons (o := ⟨_, _, _, _, _, _⟩) rfl (fun K hK => ?_) AllReadyH.nil)
  · go_simp
    (go_at_call 67; refine (l1Own_all A n c xs _ (by exact (RA0.out.keep B.out).drew1) hn).mono ?_; rintro e wy ⟨A', c', rfl, own, hb⟩; (repeat (first | replace hb := below_undrew hb | replace hb := below_undrewN hb)); have OH := Lib.hid (own.lower (show B0 ≤ w4.heap.size from HB0.out)); replace HB0 := Lib.hid (Nat.le_trans HB0.out hb.size); clear own; replace BP := Lib.hid (BP.out.keep hb); replace BR := Lib.hid (BR.out.keep hb); replace ON := Lib.hid (ON.out.keep hb); replace HSZ := Lib.hid (Nat.le_trans HSZ.out hb.size); replace B := Lib.hid (below_next B.out hb); clear hb)
    (try go_wp2_with fail)
    refine hK.out _ _ ?_ (fun hHeld => ?_)
    · (try dsimp only)
      exact ⟨BP.out.cell rfl, BP.out.cell rfl, BP.out.cell rfl⟩
    clear hK K
    (try simp only [Act.put, List.setIfInBounds_toArray, List.set_cons_zero, List.set_cons_succ])
    refine wpAnyH_take (i := 10) (oi := ⟨_, _, _, _, _, _⟩) (v := ?_) rfl (by kernel_rfl) (by kernel_rfl) (by kernel_rfl) (fun _ _ _ h => h) (Or.inl ⟨by rfl, ?_⟩) (by assumption) ?_
    rotate_left
    · intro w hSw
      (try dsimp only at hSw)
      go_simp
      (try with_reducible rfl)
    (try simp only [Act.put, List.setIfInBounds_toArray, List.set_cons_zero, List.set_cons_succ])
    refine wpAnyH_ready (rs := [11]) (by kernel_rfl) (by simp) ?_
    refine AllReadyH.cons (o := ⟨_, _, _, _, _, _⟩) rfl (fun K hK => ?_) AllReadyH.nil
    go_simp
    obtain ⟨wz, hWn⟩ : ∃ W5, W5 = wy.alloc (.cells #[.int .i64 0, .int .i64 0, .slice none 0 0] 31) := ⟨_, rfl⟩
    have hb : Below wy.heap.size wy wz := by rw [hWn]; exact below_new (Below.refl _ _) _
    obtain ⟨gb, hgp⟩ : ∃ gp, gp = wy.heap.size := ⟨_, rfl⟩
    have BB := Lib.hid (show Bx wz gb #[.int .i64 0, .int .i64 0, .slice none 0 0] 31 by rw [hWn, hgp]; exact Bx.new _ _ _)
    have Hgb := Lib.hid (show B0 ≤ gb by rw [hgp]; exact HB0.out)
    replace HB0 := Lib.hid (Nat.le_trans HB0.out hb.size)
    have HNE := Lib.hid (show ∀ y, A' = some y → y.block ≠ gb from fun y hy => by have := (OH.out.span y hy).2; omega)
    rw [← hWn]
    (try rw [← hgp])
    clear hWn hgp
    replace BP := Lib.hid (BP.out.keep hb)
    replace BR := Lib.hid (BR.out.keep hb)
    replace ON := Lib.hid (ON.out.keep hb)
    replace OH := Lib.hid (OH.out.keep hb)
    replace HSZ := Lib.hid (Nat.le_trans HSZ.out hb.size)
    replace B := Lib.hid (below_next B.out hb)
    clear hb
    refine hK.out _ _ ?_ (fun hHeld => ?_)
    · (try dsimp only)
      exact ⟨BP.out.cell rfl, BP.out.cell rfl, BP.out.cell rfl⟩
    clear hK K
    (try simp only [Act.put, List.setIfInBounds_toArray, List.set_cons_zero, List.set_cons_succ])
    refine wpAnyH_ready (rs := [12]) (by kernel_rfl) (by simp) ?_
    refine AllReadyH.cons (o := ⟨_, _, _, _, _, _⟩) rfl (fun K hK => ?_) AllReadyH.nil
    have z0 : wz.cell? ⟨gb, 0, none⟩ = some (.int .i64 0) := BB.out.cell rfl
    have z1 : wz.cell? ⟨gb, 1, none⟩ = some (.int .i64 0) := BB.out.cell rfl
    have z2 : wz.cell? ⟨gb, 2, none⟩ = some (.slice none 0 0) := BB.out.cell rfl
    have f0 : wz.frozen? ⟨gb, 0, none⟩ = false := BB.out.frozen 0
    have f1 : wz.frozen? ⟨gb, 1, none⟩ = false := BB.out.frozen 1
    have f2 : wz.frozen? ⟨gb, 2, none⟩ = false := BB.out.frozen 2
    go_simp
    obtain ⟨wq, hWn⟩ : ∃ W5, W5 = ((wz.setCell ⟨gb, 0, none⟩ (.int .i64 W)).setCell ⟨gb, 1, none⟩ (.int .i64 H)).setCell ⟨gb, 2, none⟩ (.slice A' n c') := ⟨_, rfl⟩
    have hgr : wz.grownBy wq (some (gb)) := by rw [hWn]; exact (grown_next (grown_next (grownSet1 wz ⟨gb, 0, none⟩ (.int .i64 W)) (grownSet1 _ ⟨gb, 1, none⟩ (.int .i64 H))) (grownSet1 _ ⟨gb, 2, none⟩ (.slice A' n c')))
    replace BB := Lib.hid (show Bx wq (gb) #[.int .i64 W, .int .i64 H, .slice A' n c'] 31 by rw [hWn]; exact (((BB.out.set 0 (.int .i64 W)).set 1 (.int .i64 H)).set 2 (.slice A' n c')))
    replace BP := Lib.hid (BP.out.grown hgr (by have := Hgb.out; simp; omega))
    replace BR := Lib.hid (BR.out.grown hgr (by have := Hgb.out; simp; omega))
    replace ON := Lib.hid (ON.out.other hgr (fun a9 ha9 he => by injection he with he; injection ha9 with ha9; have := HONB.out; have := Hgb.out; rw [← ha9] at he; dsimp only at he; omega))
    replace OH := Lib.hid (OH.out.other hgr (fun a9 ha9 he => by injection he with he; exact HNE.out a9 ha9 he))
    replace HSZ := Lib.hid (Nat.le_trans HSZ.out hgr.size)
    replace B := Lib.hid (B.out.grown hgr B.out.size (fun g9 h9 => by injection h9 with h9; have := Hgb.out; omega))
    rw [← hWn]
    clear hWn hgr z0 f0 z1 f1 z2 f2
    refine hK.out _ _ ?_ (fun hHeld => ?_)
    · (try dsimp only)
      exact ⟨BP.out.cell rfl, BP.out.cell rfl, BP.out.cell rfl⟩
    clear hK K
    (try simp only [Act.put, List.setIfInBounds_toArray, List.set_cons_zero, List.set_cons_succ])
    refine wpAnyH_done (by kernel_rfl) ?_ _
    clear hHeld
    have b0 : wq.cell? ⟨gb, 0, none⟩ = some (.int .i64 W) := BB.out.cell rfl; have b1 : wq.cell? ⟨gb, 1, none⟩ = some (.int .i64 H) := BB.out.cell rfl; have b2 : wq.cell? ⟨gb, 2, none⟩ = some (.slice A' n c') := BB.out.cell rfl
    have p3 : wq.cell? ⟨w.heap.size, 3, none⟩ = some (.int .i64 a) := BP.out.cell rfl
    have p4 : wq.cell? ⟨w.heap.size, 4, none⟩ = some (.int .i64 b) := BP.out.cell rfl
    have y0 : wq.cell? ⟨w.heap.size + 1, 0, none⟩ = some (.int .i64 0) := BR.out.cell rfl
    have y1 : wq.cell? ⟨w.heap.size + 1, 1, none⟩ = some (.int .i64 0) := BR.out.cell rfl
    have y2 : wq.cell? ⟨w.heap.size + 1, 2, none⟩ = some (.slice none 0 0) := BR.out.cell rfl
    have y3 : wq.cell? ⟨w.heap.size + 1, 3, none⟩ = some (.int .i64 0) := BR.out.cell rfl
    have y4 : wq.cell? ⟨w.heap.size + 1, 4, none⟩ = some (.int .i64 0) := BR.out.cell rfl
    have y5 : wq.cell? ⟨w.heap.size + 1, 5, none⟩ = some (.slice none 0 0) := BR.out.cell rfl
    have h0 : wq.frozen? ⟨w.heap.size + 1, 0, none⟩ = false := BR.out.frozen 0
    have h1 : wq.frozen? ⟨w.heap.size + 1, 1, none⟩ = false := BR.out.frozen 1
    have h2 : wq.frozen? ⟨w.heap.size + 1, 2, none⟩ = false := BR.out.frozen 2
    have h3 : wq.frozen? ⟨w.heap.size + 1, 3, none⟩ = false := BR.out.frozen 3
    have h4 : wq.frozen? ⟨w.heap.size + 1, 4, none⟩ = false := BR.out.frozen 4
    have h5 : wq.frozen? ⟨w.heap.size + 1, 5, none⟩ = false := BR.out.frozen 5
    have HAP := Lib.hid (show Apart A' (some ⟨gn, 0, none⟩) from fun y z hy hz => by injection hz with hz; have h8 := (OH.out.span y hy).1; rw [← hz]; dsimp only; have := HONB.out; omega)
    replace OH := Lib.hid (OH.out.lower hB02)
    go_wp2
    refine bodyPost_ret (v := pzv W H A' n c' a b (some ⟨gn, 0, none⟩) n2 cN) (by simp [results, Try.results52, go_sem, y0, y1, y2, y3, y4, y5]) rfl ⟨A', c', (some ⟨gn, 0, none⟩), cN, rfl, ?_, ?_, HAP.out, ?_⟩
    · refine OwnI.lower (lo := w.heap.size + 1 + 1) ?_ (by omega)
      repeat (first | refine own_setC ?_ (by omega) _ | exact OH.out)
    · refine OwnI.lower (lo := w.heap.size + 1 + 1) ?_ (by omega)
      repeat (first | refine own_setC ?_ (by omega) _ | exact ON.out)
    · repeat (first | refine below_setC ?_ (by omega) _ | exact B.out)
  · go_simp
    obtain ⟨wz, hWn⟩ : ∃ W5, W5 = w4.alloc (.cells #[.int .i64 0, .int .i64 0, .slice none 0 0] 31) := ⟨_, rfl⟩
    have hb : Below w4.heap.size w4 wz := by rw [hWn]; exact below_new (Below.refl _ _) _
    obtain ⟨gb, hgp⟩ : ∃ gp, gp = w4.heap.size := ⟨_, rfl⟩
    have BB := Lib.hid (show Bx wz gb #[.int .i64 0, .int .i64 0, .slice none 0 0] 31 by rw [hWn, hgp]; exact Bx.new _ _ _)
    have Hgb := Lib.hid (show B0 ≤ gb by rw [hgp]; exact HB0.out)
    replace HB0 := Lib.hid (Nat.le_trans HB0.out hb.size)
    rw [← hWn]
    (try rw [← hgp])
    clear hWn hgp
    replace BP := Lib.hid (BP.out.keep hb)
    replace BR := Lib.hid (BR.out.keep hb)
    replace ON := Lib.hid (ON.out.keep hb)
    replace HSZ := Lib.hid (Nat.le_trans HSZ.out hb.size)
    replace B := Lib.hid (below_next B.out hb)
    clear hb
    refine hK.out _ _ ?_ (fun hHeld => ?_)
    · (try dsimp only)
      exact ⟨BP.out.cell rfl, BP.out.cell rfl, BP.out.cell rfl⟩
    clear hK K
    (try simp only [Act.put, List.setIfInBounds_toArray, List.set_cons_zero, List.set_cons_succ])
    refine wpAnyH_ready (rs := [9]) (by kernel_rfl) (by simp) ?_
    refine AllReadyH.cons (o := ⟨_, _, _, _, _, _⟩) rfl (fun K hK => ?_) AllReadyH.nil
    go_simp
    (go_at_call 67; refine (l1Own_all A n c xs _ (by exact (RA0.out.keep B.out).drew1) hn).mono ?_; rintro e wy ⟨A', c', rfl, own, hb⟩; (repeat (first | replace hb := below_undrew hb | replace hb := below_undrewN hb)); have OH := Lib.hid (own.lower (show B0 ≤ wz.heap.size from HB0.out)); replace HB0 := Lib.hid (Nat.le_trans HB0.out hb.size); have HNE := Lib.hid (show ∀ y, A' = some y → y.block ≠ gb from fun y hy => by have h8 : wz.heap.size ≤ y.block := (own.span y hy).1; have h9 := BB.out.lt; omega); clear own; replace BP := Lib.hid (BP.out.keep hb); replace BR := Lib.hid (BR.out.keep hb); replace ON := Lib.hid (ON.out.keep hb); replace BB := Lib.hid (BB.out.keep hb); replace HSZ := Lib.hid (Nat.le_trans HSZ.out hb.size); replace B := Lib.hid (below_next B.out hb); clear hb)
    (try go_wp2_with fail)
    refine hK.out _ _ ?_ (fun hHeld => ?_)
    · (try dsimp only)
      exact ⟨BP.out.cell rfl, BP.out.cell rfl, BP.out.cell rfl⟩
    clear hK K
    (try simp only [Act.put, List.setIfInBounds_toArray, List.set_cons_zero, List.set_cons_succ])
    refine wpAnyH_take (i := 10) (oi := ⟨_, _, _, _, _, _⟩) (v := ?_) rfl (by kernel_rfl) (by kernel_rfl) (by kernel_rfl) (fun _ _ _ h => h) (Or.inl ⟨by rfl, ?_⟩) (by assumption) ?_
    rotate_left
    · intro w hSw
      (try dsimp only at hSw)
      go_simp
      (try with_reducible rfl)
    (try simp only [Act.put, List.setIfInBounds_toArray, List.set_cons_zero, List.set_cons_succ])
    refine wpAnyH_ready (rs := [12]) (by kernel_rfl) (by simp) ?_
    refine AllReadyH.cons (o := ⟨_, _, _, _, _, _⟩) rfl (fun K hK => ?_) AllReadyH.nil
    have z0 : wy.cell? ⟨gb, 0, none⟩ = some (.int .i64 0) := BB.out.cell rfl
    have z1 : wy.cell? ⟨gb, 1, none⟩ = some (.int .i64 0) := BB.out.cell rfl
    have z2 : wy.cell? ⟨gb, 2, none⟩ = some (.slice none 0 0) := BB.out.cell rfl
    have f0 : wy.frozen? ⟨gb, 0, none⟩ = false := BB.out.frozen 0
    have f1 : wy.frozen? ⟨gb, 1, none⟩ = false := BB.out.frozen 1
    have f2 : wy.frozen? ⟨gb, 2, none⟩ = false := BB.out.frozen 2
    go_simp
    obtain ⟨wq, hWn⟩ : ∃ W5, W5 = ((wy.setCell ⟨gb, 0, none⟩ (.int .i64 W)).setCell ⟨gb, 1, none⟩ (.int .i64 H)).setCell ⟨gb, 2, none⟩ (.slice A' n c') := ⟨_, rfl⟩
    have hgr : wy.grownBy wq (some (gb)) := by rw [hWn]; exact (grown_next (grown_next (grownSet1 wy ⟨gb, 0, none⟩ (.int .i64 W)) (grownSet1 _ ⟨gb, 1, none⟩ (.int .i64 H))) (grownSet1 _ ⟨gb, 2, none⟩ (.slice A' n c')))
    replace BB := Lib.hid (show Bx wq (gb) #[.int .i64 W, .int .i64 H, .slice A' n c'] 31 by rw [hWn]; exact (((BB.out.set 0 (.int .i64 W)).set 1 (.int .i64 H)).set 2 (.slice A' n c')))
    replace BP := Lib.hid (BP.out.grown hgr (by have := Hgb.out; simp; omega))
    replace BR := Lib.hid (BR.out.grown hgr (by have := Hgb.out; simp; omega))
    replace ON := Lib.hid (ON.out.other hgr (fun a9 ha9 he => by injection he with he; injection ha9 with ha9; have := HONB.out; have := Hgb.out; rw [← ha9] at he; dsimp only at he; omega))
    replace OH := Lib.hid (OH.out.other hgr (fun a9 ha9 he => by injection he with he; exact HNE.out a9 ha9 he))
    replace HSZ := Lib.hid (Nat.le_trans HSZ.out hgr.size)
    replace B := Lib.hid (B.out.grown hgr B.out.size (fun g9 h9 => by injection h9 with h9; have := Hgb.out; omega))
    rw [← hWn]
    clear hWn hgr z0 f0 z1 f1 z2 f2
    refine hK.out _ _ ?_ (fun hHeld => ?_)
    · (try dsimp only)
      exact ⟨BP.out.cell rfl, BP.out.cell rfl, BP.out.cell rfl⟩
    clear hK K
    (try simp only [Act.put, List.setIfInBounds_toArray, List.set_cons_zero, List.set_cons_succ])
    refine wpAnyH_done (by kernel_rfl) ?_ _
    clear hHeld
    have b0 : wq.cell? ⟨gb, 0, none⟩ = some (.int .i64 W) := BB.out.cell rfl; have b1 : wq.cell? ⟨gb, 1, none⟩ = some (.int .i64 H) := BB.out.cell rfl; have b2 : wq.cell? ⟨gb, 2, none⟩ = some (.slice A' n c') := BB.out.cell rfl
    have p3 : wq.cell? ⟨w.heap.size, 3, none⟩ = some (.int .i64 a) := BP.out.cell rfl
    have p4 : wq.cell? ⟨w.heap.size, 4, none⟩ = some (.int .i64 b) := BP.out.cell rfl
    have y0 : wq.cell? ⟨w.heap.size + 1, 0, none⟩ = some (.int .i64 0) := BR.out.cell rfl
    have y1 : wq.cell? ⟨w.heap.size + 1, 1, none⟩ = some (.int .i64 0) := BR.out.cell rfl
    have y2 : wq.cell? ⟨w.heap.size + 1, 2, none⟩ = some (.slice none 0 0) := BR.out.cell rfl
    have y3 : wq.cell? ⟨w.heap.size + 1, 3, none⟩ = some (.int .i64 0) := BR.out.cell rfl
    have y4 : wq.cell? ⟨w.heap.size + 1, 4, none⟩ = some (.int .i64 0) := BR.out.cell rfl
    have y5 : wq.cell? ⟨w.heap.size + 1, 5, none⟩ = some (.slice none 0 0) := BR.out.cell rfl
    have h0 : wq.frozen? ⟨w.heap.size + 1, 0, none⟩ = false := BR.out.frozen 0
    have h1 : wq.frozen? ⟨w.heap.size + 1, 1, none⟩ = false := BR.out.frozen 1
    have h2 : wq.frozen? ⟨w.heap.size + 1, 2, none⟩ = false := BR.out.frozen 2
    have h3 : wq.frozen? ⟨w.heap.size + 1, 3, none⟩ = false := BR.out.frozen 3
    have h4 : wq.frozen? ⟨w.heap.size + 1, 4, none⟩ = false := BR.out.frozen 4
    have h5 : wq.frozen? ⟨w.heap.size + 1, 5, none⟩ = false := BR.out.frozen 5
    have HAP := Lib.hid (show Apart A' (some ⟨gn, 0, none⟩) from fun y z hy hz => by injection hz with hz; have h8 := (OH.out.span y hy).1; rw [← hz]; dsimp only; have := HONB.out; omega)
    replace OH := Lib.hid (OH.out.lower hB02)
    go_wp2
    refine bodyPost_ret (v := pzv W H A' n c' a b (some ⟨gn, 0, none⟩) n2 cN) (by simp [results, Try.results52, go_sem, y0, y1, y2, y3, y4, y5]) rfl ⟨A', c', (some ⟨gn, 0, none⟩), cN, rfl, ?_, ?_, HAP.out, ?_⟩
    · refine OwnI.lower (lo := w.heap.size + 1 + 1) ?_ (by omega)
      repeat (first | refine own_setC ?_ (by omega) _ | exact OH.out)
    · refine OwnI.lower (lo := w.heap.size + 1 + 1) ?_ (by omega)
      repeat (first | refine own_setC ?_ (by omega) _ | exact ON.out)
    · repeat (first | refine below_setC ?_ (by omega) _ | exact B.out)

end Go.Proofs.Ytkdfilhiljfanaa
