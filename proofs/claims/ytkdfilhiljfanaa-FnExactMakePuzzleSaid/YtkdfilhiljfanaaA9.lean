/-
  Contracts: HideNumber, ShowNumber.
-/
import Derived.Test.YtkdfilhiljfanaaA8
import Derived.Test.YtkdfilhiljfanaaA6
namespace Go.Proofs.Ytkdfilhiljfanaa
open Go.RowKit

def zi (ok : Bool) (x : Int) : Int := if ok then x else 0
def zl (ok : Bool) (l : List Int) : List Int := if ok then l else []
/-- Whether there are a puzzle and a cell of it. -/
def cellP (W H : Int) (xs : List Int) (a b : Int) (ns : List Int) (q : Int) : Bool := goodP W H xs a b ns && hasB W H xs q
def HideNumber_ok (W H : Int) (xs : List Int) (a b : Int) (ns : List Int) (q : Int) : Bool := cellP W H xs a b ns q && !(ns.getD q.toNat 0 == 0)
def HideNumber_ns (_ _ : Int) (_ : List Int) (_ _ : Int) (ns : List Int) (q : Int) : List Int := ns.set q.toNat 0
def HideNumber_xs (_ _ : Int) (xs : List Int) (_ _ : Int) (_ : List Int) (_ : Int) : List Int := xs
def ShowNumber_ok (W H : Int) (xs : List Int) (a b : Int) (ns : List Int) (q v : Int) : Bool := cellP W H xs a b ns q && ((ns.getD q.toNat 0 == 0) && (!(v == 0) && goodP W H xs a b (ns.set q.toNat v)))
def ShowNumber_ns (_ _ : Int) (_ : List Int) (_ _ : Int) (ns : List Int) (q v : Int) : List Int := ns.set q.toNat v
def ShowNumber_xs (_ _ : Int) (xs : List Int) (_ _ : Int) (_ : List Int) (_ _ : Int) : List Int := xs
theorem cellP_nat {W H a b q : Int} {xs ns : List Int} (h : cellP W H xs a b ns q = true) : goodP W H xs a b ns = true ∧ hasB W H xs q = true ∧ ∃ j : Nat, q = (j : Int) ∧ j < ns.length ∧ ns.length ≤ 64 ∧ xs.length ≤ 64 := by
  simp only [cellP, Bool.and_eq_true] at h
  have h1 := (hasB_iff.1 h.2).1
  have h2 := goodP_len h.1
  have h3 := good_N (two_gK (goodP_two h.1))
  have h4 := cellsL_len (two_gK (goodP_two h.1))
  exact ⟨h.1, h.2, q.toNat, by omega, by omega, by omega, by omega⟩

set_option maxRecDepth 100000 in
set_option maxHeartbeats 1000000 in
theorem isPuzzleWith_any (W H : Int) (A : Option Addr) (n c : Nat) (a b : Int) (A2 : Option Addr) (n2 c2 : Nat) (xs ns : List Int) (q : Int) (w : World) (ha : Rd w A n xs) (hp : Rd w A2 n2 ns) :
    Calls Try.prog 53 #[pzv W H A n c a b A2 n2 c2, .int .i64 q] w fun e w' => e = .returned (.bool (cellP W H xs a b ns q)) ∧ Below w.heap.size w w' := by
  obtain ⟨W2, hW2⟩ : ∃ W2, W2 = w.alloc (.cells #[.int .i64 W, .int .i64 H, .slice A n c, .int .i64 a, .int .i64 b, .slice A2 n2 c2] 34) := ⟨_, rfl⟩
  have BP := Lib.hid (show Bx W2 (w.heap.size) #[.int .i64 W, .int .i64 H, .slice A n c, .int .i64 a, .int .i64 b, .slice A2 n2 c2] 34 by rw [hW2]; exact Bx.new (w) #[.int .i64 W, .int .i64 H, .slice A n c, .int .i64 a, .int .i64 b, .slice A2 n2 c2] 34)
  have B := Lib.hid (show Below w.heap.size w W2 by rw [hW2]; repeat (first | exact Below.refl _ _ | refine below_new ?_ _))
  have HSZ := Lib.hid (show w.heap.size + 1 ≤ W2.heap.size by rw [hW2]; simp)
  have RH := Lib.hid (ha.keep B.out); have RN := Lib.hid (hp.keep B.out)
  clear ha hp
  by_cases hg : goodP W H xs a b ns = true
  · have p0 : W2.cell? ⟨w.heap.size, 0, none⟩ = some (.int .i64 W) := BP.out.cell rfl
    have p1 : W2.cell? ⟨w.heap.size, 1, none⟩ = some (.int .i64 H) := BP.out.cell rfl
    have p2 : W2.cell? ⟨w.heap.size, 2, none⟩ = some (.slice A n c) := BP.out.cell rfl
    have p3 : W2.cell? ⟨w.heap.size, 3, none⟩ = some (.int .i64 a) := BP.out.cell rfl
    have p4 : W2.cell? ⟨w.heap.size, 4, none⟩ = some (.int .i64 b) := BP.out.cell rfl
    have p5 : W2.cell? ⟨w.heap.size, 5, none⟩ = some (.slice A2 n2 c2) := BP.out.cell rfl
    go_enter Try.func53, Try.ntmps53
    go_wp2_with fail
    rw [← hW2]
    clear hW2
    clear p0 p1 p2 p3 p4 p5
    refine (impl_IsPuzzle W H A n c a b A2 n2 c2 xs ns _ RH.out RN.out).mono ?_
    rw [hg]
    rintro e wv ⟨rfl, hb⟩
    replace BP := Lib.hid (BP.out.keep hb)
    replace RH := Lib.hid (RH.out.keep hb)
    replace RN := Lib.hid (RN.out.keep hb)
    replace HSZ := Lib.hid (Nat.le_trans HSZ.out hb.size)
    replace B := Lib.hid (below_next B.out hb)
    clear hb
    have HG := Lib.hid hg
    clear hg
    have p0 : wv.cell? ⟨w.heap.size, 0, none⟩ = some (.int .i64 W) := BP.out.cell rfl
    have p1 : wv.cell? ⟨w.heap.size, 1, none⟩ = some (.int .i64 H) := BP.out.cell rfl
    have p2 : wv.cell? ⟨w.heap.size, 2, none⟩ = some (.slice A n c) := BP.out.cell rfl
    go_wp2_with fail
    clear p0 p1 p2
    refine (isThere_any W H A n c q xs _ RH.out (two_gK (goodP_two HG.out))).mono ?_
    rintro e wv ⟨rfl, hb⟩
    replace BP := Lib.hid (BP.out.keep hb)
    replace RH := Lib.hid (RH.out.keep hb)
    replace RN := Lib.hid (RN.out.keep hb)
    replace HSZ := Lib.hid (Nat.le_trans HSZ.out hb.size)
    replace B := Lib.hid (below_next B.out hb)
    clear hb
    go_wp2
    go_ret
    exact ⟨ret_bool (by rw [cellP, HG.out]; rfl), B.out⟩
  · have p0 : W2.cell? ⟨w.heap.size, 0, none⟩ = some (.int .i64 W) := BP.out.cell rfl
    have p1 : W2.cell? ⟨w.heap.size, 1, none⟩ = some (.int .i64 H) := BP.out.cell rfl
    have p2 : W2.cell? ⟨w.heap.size, 2, none⟩ = some (.slice A n c) := BP.out.cell rfl
    have p3 : W2.cell? ⟨w.heap.size, 3, none⟩ = some (.int .i64 a) := BP.out.cell rfl
    have p4 : W2.cell? ⟨w.heap.size, 4, none⟩ = some (.int .i64 b) := BP.out.cell rfl
    have p5 : W2.cell? ⟨w.heap.size, 5, none⟩ = some (.slice A2 n2 c2) := BP.out.cell rfl
    go_enter Try.func53, Try.ntmps53
    go_wp2_with fail
    rw [← hW2]
    clear hW2
    clear p0 p1 p2 p3 p4 p5
    refine (impl_IsPuzzle W H A n c a b A2 n2 c2 xs ns _ RH.out RN.out).mono ?_
    rw [show goodP W H xs a b ns = false by simpa using hg]
    rintro e wv ⟨rfl, hb⟩
    replace BP := Lib.hid (BP.out.keep hb)
    replace RH := Lib.hid (RH.out.keep hb)
    replace RN := Lib.hid (RN.out.keep hb)
    replace HSZ := Lib.hid (Nat.le_trans HSZ.out hb.size)
    replace B := Lib.hid (below_next B.out hb)
    clear hb
    go_wp2
    go_ret
    exact ⟨ret_bool (by rw [cellP, show goodP W H xs a b ns = false by simpa using hg]; rfl), B.out⟩

set_option maxRecDepth 100000 in
set_option maxHeartbeats 1000000 in
theorem pzCell_any (W H : Int) (A : Option Addr) (n c : Nat) (a b : Int) (A2 : Option Addr) (n2 c2 : Nat) (xs ns : List Int) (q : Int) (w : World) (ha : Rd w A n xs) (hp : Rd w A2 n2 ns) (hcap : n2 ≤ c2) :
    Calls Try.prog 51 #[pzv W H A n c a b A2 n2 c2, .int .i64 q] w fun e w' => e = .returned (.bool (cellP W H xs a b ns q)) ∧ Below w.heap.size w w' := by
  obtain ⟨W2, hW2⟩ : ∃ W2, W2 = w.alloc (.cells #[.int .i64 W, .int .i64 H, .slice A n c, .int .i64 a, .int .i64 b, .slice A2 n2 c2] 34) := ⟨_, rfl⟩
  have BP := Lib.hid (show Bx W2 (w.heap.size) #[.int .i64 W, .int .i64 H, .slice A n c, .int .i64 a, .int .i64 b, .slice A2 n2 c2] 34 by rw [hW2]; exact Bx.new (w) #[.int .i64 W, .int .i64 H, .slice A n c, .int .i64 a, .int .i64 b, .slice A2 n2 c2] 34)
  have B := Lib.hid (show Below w.heap.size w W2 by rw [hW2]; repeat (first | exact Below.refl _ _ | refine below_new ?_ _))
  have HSZ := Lib.hid (show w.heap.size + 1 ≤ W2.heap.size by rw [hW2]; simp)
  have RH := Lib.hid (ha.keep B.out); have RN := Lib.hid (hp.keep B.out)
  clear ha hp
  by_cases hg : goodP W H xs a b ns = true
  · have p0 : W2.cell? ⟨w.heap.size, 0, none⟩ = some (.int .i64 W) := BP.out.cell rfl
    have p1 : W2.cell? ⟨w.heap.size, 1, none⟩ = some (.int .i64 H) := BP.out.cell rfl
    have p2 : W2.cell? ⟨w.heap.size, 2, none⟩ = some (.slice A n c) := BP.out.cell rfl
    have p3 : W2.cell? ⟨w.heap.size, 3, none⟩ = some (.int .i64 a) := BP.out.cell rfl
    have p4 : W2.cell? ⟨w.heap.size, 4, none⟩ = some (.int .i64 b) := BP.out.cell rfl
    have p5 : W2.cell? ⟨w.heap.size, 5, none⟩ = some (.slice A2 n2 c2) := BP.out.cell rfl
    go_enter Try.func51, Try.ntmps51
    go_wp2_with fail
    rw [← hW2]
    clear hW2
    clear p0 p1 p2 p3 p4 p5
    refine (pzGood_any W H A n c a b A2 n2 c2 xs ns _ RH.out RN.out hcap).mono ?_
    rw [hg]
    rintro e wv ⟨rfl, hb⟩
    replace BP := Lib.hid (BP.out.keep hb)
    replace RH := Lib.hid (RH.out.keep hb)
    replace RN := Lib.hid (RN.out.keep hb)
    replace HSZ := Lib.hid (Nat.le_trans HSZ.out hb.size)
    replace B := Lib.hid (below_next B.out hb)
    clear hb
    have HG := Lib.hid hg
    clear hg
    have p0 : wv.cell? ⟨w.heap.size, 0, none⟩ = some (.int .i64 W) := BP.out.cell rfl
    have p1 : wv.cell? ⟨w.heap.size, 1, none⟩ = some (.int .i64 H) := BP.out.cell rfl
    have p2 : wv.cell? ⟨w.heap.size, 2, none⟩ = some (.slice A n c) := BP.out.cell rfl
    go_wp2_with fail
    clear p0 p1 p2
    refine (boHas_any W H A n c q xs _ RH.out (good_N (two_gK (goodP_two HG.out)))).mono ?_
    rintro e wv ⟨rfl, hb⟩
    replace BP := Lib.hid (BP.out.keep hb)
    replace RH := Lib.hid (RH.out.keep hb)
    replace RN := Lib.hid (RN.out.keep hb)
    replace HSZ := Lib.hid (Nat.le_trans HSZ.out hb.size)
    replace B := Lib.hid (below_next B.out hb)
    clear hb
    go_wp2
    go_ret
    exact ⟨ret_bool (by rw [cellP, HG.out]; rfl), B.out⟩
  · have p0 : W2.cell? ⟨w.heap.size, 0, none⟩ = some (.int .i64 W) := BP.out.cell rfl
    have p1 : W2.cell? ⟨w.heap.size, 1, none⟩ = some (.int .i64 H) := BP.out.cell rfl
    have p2 : W2.cell? ⟨w.heap.size, 2, none⟩ = some (.slice A n c) := BP.out.cell rfl
    have p3 : W2.cell? ⟨w.heap.size, 3, none⟩ = some (.int .i64 a) := BP.out.cell rfl
    have p4 : W2.cell? ⟨w.heap.size, 4, none⟩ = some (.int .i64 b) := BP.out.cell rfl
    have p5 : W2.cell? ⟨w.heap.size, 5, none⟩ = some (.slice A2 n2 c2) := BP.out.cell rfl
    go_enter Try.func51, Try.ntmps51
    go_wp2_with fail
    rw [← hW2]
    clear hW2
    clear p0 p1 p2 p3 p4 p5
    refine (pzGood_any W H A n c a b A2 n2 c2 xs ns _ RH.out RN.out hcap).mono ?_
    rw [show goodP W H xs a b ns = false by simpa using hg]
    rintro e wv ⟨rfl, hb⟩
    replace BP := Lib.hid (BP.out.keep hb)
    replace RH := Lib.hid (RH.out.keep hb)
    replace RN := Lib.hid (RN.out.keep hb)
    replace HSZ := Lib.hid (Nat.le_trans HSZ.out hb.size)
    replace B := Lib.hid (below_next B.out hb)
    clear hb
    go_wp2
    go_ret
    exact ⟨ret_bool (by rw [cellP, show goodP W H xs a b ns = false by simpa using hg]; rfl), B.out⟩

set_option maxRecDepth 100000 in
set_option maxHeartbeats 4000000 in
theorem impl_HideNumber (W H : Int) (A : Option Addr) (n c : Nat) (a b : Int) (A2 : Option Addr) (n2 c2 : Nat) (xs ns : List Int) (q : Int) (w : World) (ha : Rd w A n xs) (hp : Rd w A2 n2 ns) :
    Calls Try.prog 27 #[pzv W H A n c a b A2 n2 c2, .int .i64 q] w fun e w' => ∃ A' n' c' A2' n2' c2', e = .returned (.tuple #[pzv (zi (HideNumber_ok W H xs a b ns q) W) (zi (HideNumber_ok W H xs a b ns q) H) A' n' c' (zi (HideNumber_ok W H xs a b ns q) a) (zi (HideNumber_ok W H xs a b ns q) b) A2' n2' c2', .bool (HideNumber_ok W H xs a b ns q)]) ∧ OwnI 3 w' w.heap.size A' n' c' (zl (HideNumber_ok W H xs a b ns q) (HideNumber_xs W H xs a b ns q)) ∧ OwnI 3 w' w.heap.size A2' n2' c2' (zl (HideNumber_ok W H xs a b ns q) (HideNumber_ns W H xs a b ns q)) ∧ Apart A' A2' ∧ Below w.heap.size w w' := by
  have RA0 := Lib.hid ha; have RN0 := Lib.hid hp
  have HL := Lib.hid hp.1; have HLA := Lib.hid ha.1
  clear ha hp
  obtain ⟨W2, hW2⟩ : ∃ W2, W2 = (w.alloc (.cells #[.int .i64 W, .int .i64 H, .slice A n c, .int .i64 a, .int .i64 b, .slice A2 n2 c2] 34)).alloc (.cells #[.int .i64 0, .int .i64 0, .slice none 0 0, .int .i64 0, .int .i64 0, .slice none 0 0] 34) := ⟨_, rfl⟩
  have BP := Lib.hid (show Bx W2 (w.heap.size) #[.int .i64 W, .int .i64 H, .slice A n c, .int .i64 a, .int .i64 b, .slice A2 n2 c2] 34 by rw [hW2]; exact (Bx.new (w) #[.int .i64 W, .int .i64 H, .slice A n c, .int .i64 a, .int .i64 b, .slice A2 n2 c2] 34).keep (below_new (Below.refl _ _) (.cells #[.int .i64 0, .int .i64 0, .slice none 0 0, .int .i64 0, .int .i64 0, .slice none 0 0] 34)))
  have BR := Lib.hid (show Bx W2 (w.heap.size + 1) #[.int .i64 0, .int .i64 0, .slice none 0 0, .int .i64 0, .int .i64 0, .slice none 0 0] 34 by rw [hW2]; have := Bx.new (w.alloc (.cells #[.int .i64 W, .int .i64 H, .slice A n c, .int .i64 a, .int .i64 b, .slice A2 n2 c2] 34)) #[.int .i64 0, .int .i64 0, .slice none 0 0, .int .i64 0, .int .i64 0, .slice none 0 0] 34; simpa using this)
  have B := Lib.hid (show Below w.heap.size w W2 by rw [hW2]; repeat (first | exact Below.refl _ _ | refine below_new ?_ _))
  have HSZ := Lib.hid (show w.heap.size + 2 ≤ W2.heap.size by rw [hW2]; simp)
  by_cases hc : cellP W H xs a b ns q = true
  rotate_left
  · have p0 : W2.cell? ⟨w.heap.size, 0, none⟩ = some (.int .i64 W) := BP.out.cell rfl
    have p1 : W2.cell? ⟨w.heap.size, 1, none⟩ = some (.int .i64 H) := BP.out.cell rfl
    have p2 : W2.cell? ⟨w.heap.size, 2, none⟩ = some (.slice A n c) := BP.out.cell rfl
    have p3 : W2.cell? ⟨w.heap.size, 3, none⟩ = some (.int .i64 a) := BP.out.cell rfl
    have p4 : W2.cell? ⟨w.heap.size, 4, none⟩ = some (.int .i64 b) := BP.out.cell rfl
    have p5 : W2.cell? ⟨w.heap.size, 5, none⟩ = some (.slice A2 n2 c2) := BP.out.cell rfl
    go_enter Try.func27, Try.ntmps27
    go_wp2_with fail
    rw [← hW2]
    clear hW2
    clear p0 p1 p2 p3 p4 p5
    refine (isPuzzleWith_any W H A n c a b A2 n2 c2 xs ns q _ (RA0.out.keep B.out) (RN0.out.keep B.out)).mono ?_
    rw [show cellP W H xs a b ns q = false by simpa using hc]
    rintro e wv ⟨rfl, hb⟩
    replace BP := Lib.hid (BP.out.keep hb)
    replace BR := Lib.hid (BR.out.keep hb)
    replace HSZ := Lib.hid (Nat.le_trans HSZ.out hb.size)
    replace B := Lib.hid (below_next B.out hb)
    clear hb
    have y0 : wv.cell? ⟨w.heap.size + 1, 0, none⟩ = some (.int .i64 0) := BR.out.cell rfl
    have y1 : wv.cell? ⟨w.heap.size + 1, 1, none⟩ = some (.int .i64 0) := BR.out.cell rfl
    have y2 : wv.cell? ⟨w.heap.size + 1, 2, none⟩ = some (.slice none 0 0) := BR.out.cell rfl
    have y3 : wv.cell? ⟨w.heap.size + 1, 3, none⟩ = some (.int .i64 0) := BR.out.cell rfl
    have y4 : wv.cell? ⟨w.heap.size + 1, 4, none⟩ = some (.int .i64 0) := BR.out.cell rfl
    have y5 : wv.cell? ⟨w.heap.size + 1, 5, none⟩ = some (.slice none 0 0) := BR.out.cell rfl
    have h0 : wv.frozen? ⟨w.heap.size + 1, 0, none⟩ = false := BR.out.frozen 0
    have h1 : wv.frozen? ⟨w.heap.size + 1, 1, none⟩ = false := BR.out.frozen 1
    have h2 : wv.frozen? ⟨w.heap.size + 1, 2, none⟩ = false := BR.out.frozen 2
    have h3 : wv.frozen? ⟨w.heap.size + 1, 3, none⟩ = false := BR.out.frozen 3
    have h4 : wv.frozen? ⟨w.heap.size + 1, 4, none⟩ = false := BR.out.frozen 4
    have h5 : wv.frozen? ⟨w.heap.size + 1, 5, none⟩ = false := BR.out.frozen 5
    have HNO := Lib.hid (show HideNumber_ok W H xs a b ns q = false by rw [HideNumber_ok, show cellP W H xs a b ns q = false by simpa using hc]; rfl)
    go_wp2
    refine bodyPost_ret (v := .tuple #[pzv 0 0 none 0 0 0 0 none 0 0, .bool false]) (by simp [results, Try.results27, go_sem, y0, y1, y2, y3, y4, y5]) rfl ⟨none, 0, 0, none, 0, 0, by rw [HNO.out]; rfl, by rw [HNO.out]; exact OwnI.none_ _ _ _, by rw [HNO.out]; exact OwnI.none_ _ _ _, Apart.none_left _, ?_⟩
    repeat (first | refine below_setC ?_ (by omega) _ | exact B.out)
  · obtain ⟨hg, hh, j, rfl, hj1, hj64, hx64⟩ := cellP_nat hc
    have HG := Lib.hid hg; have HC := Lib.hid hc
    have hj : j < n2 := by have := HL.out; omega
    have hn2 : n2 ≤ 1000 := by have := HL.out; omega
    have hn : n ≤ 1000 := by have := HLA.out; omega
    have hj0 : (0 : Int) ≤ (j : Int) := by omega
    have hj2 : (j : Int) < (n2 : Int) := by omega
    obtain ⟨bb, oo, x, rfl, hg1, hx, x0⟩ := RN0.out.at_ hj
    have HX := Lib.hid hx
    clear hx hg hh
    by_cases h0 : x = 0
    · subst h0
      have p0 : W2.cell? ⟨w.heap.size, 0, none⟩ = some (.int .i64 W) := BP.out.cell rfl
      have p1 : W2.cell? ⟨w.heap.size, 1, none⟩ = some (.int .i64 H) := BP.out.cell rfl
      have p2 : W2.cell? ⟨w.heap.size, 2, none⟩ = some (.slice A n c) := BP.out.cell rfl
      have p3 : W2.cell? ⟨w.heap.size, 3, none⟩ = some (.int .i64 a) := BP.out.cell rfl
      have p4 : W2.cell? ⟨w.heap.size, 4, none⟩ = some (.int .i64 b) := BP.out.cell rfl
      have p5 : W2.cell? ⟨w.heap.size, 5, none⟩ = some (.slice (some ⟨bb, oo, none⟩) n2 c2) := BP.out.cell rfl
      go_enter Try.func27, Try.ntmps27
      go_wp2_with fail
      rw [← hW2]
      clear hW2
      clear p0 p1 p2 p3 p4 p5
      refine (isPuzzleWith_any W H A n c a b _ n2 c2 xs ns (j : Int) _ (RA0.out.keep B.out) (RN0.out.keep B.out)).mono ?_
      rw [hc]
      rintro e wv ⟨rfl, hb⟩
      replace BP := Lib.hid (BP.out.keep hb)
      replace BR := Lib.hid (BR.out.keep hb)
      replace HSZ := Lib.hid (Nat.le_trans HSZ.out hb.size)
      replace B := Lib.hid (below_next B.out hb)
      clear hb
      have p5 : wv.cell? ⟨w.heap.size, 5, none⟩ = some (.slice (some ⟨bb, oo, none⟩) n2 c2) := BP.out.cell rfl
      replace x0 := cell_keep x0 hg1 B.out
      have y0 : wv.cell? ⟨w.heap.size + 1, 0, none⟩ = some (.int .i64 0) := BR.out.cell rfl
      have y1 : wv.cell? ⟨w.heap.size + 1, 1, none⟩ = some (.int .i64 0) := BR.out.cell rfl
      have y2 : wv.cell? ⟨w.heap.size + 1, 2, none⟩ = some (.slice none 0 0) := BR.out.cell rfl
      have y3 : wv.cell? ⟨w.heap.size + 1, 3, none⟩ = some (.int .i64 0) := BR.out.cell rfl
      have y4 : wv.cell? ⟨w.heap.size + 1, 4, none⟩ = some (.int .i64 0) := BR.out.cell rfl
      have y5 : wv.cell? ⟨w.heap.size + 1, 5, none⟩ = some (.slice none 0 0) := BR.out.cell rfl
      have h0 : wv.frozen? ⟨w.heap.size + 1, 0, none⟩ = false := BR.out.frozen 0
      have h1 : wv.frozen? ⟨w.heap.size + 1, 1, none⟩ = false := BR.out.frozen 1
      have h2 : wv.frozen? ⟨w.heap.size + 1, 2, none⟩ = false := BR.out.frozen 2
      have h3 : wv.frozen? ⟨w.heap.size + 1, 3, none⟩ = false := BR.out.frozen 3
      have h4 : wv.frozen? ⟨w.heap.size + 1, 4, none⟩ = false := BR.out.frozen 4
      have h5 : wv.frozen? ⟨w.heap.size + 1, 5, none⟩ = false := BR.out.frozen 5
      have HNO := Lib.hid (show HideNumber_ok W H xs a b ns (j : Int) = false by rw [HideNumber_ok, HC.out, Int.toNat_natCast, getD_of HX.out, show ((0 : Int) == 0) = true from rfl]; rfl)
      go_wp2
      refine bodyPost_ret (v := .tuple #[pzv 0 0 none 0 0 0 0 none 0 0, .bool false]) (by simp [results, Try.results27, go_sem, y0, y1, y2, y3, y4, y5]) rfl ⟨none, 0, 0, none, 0, 0, by rw [HNO.out]; rfl, by rw [HNO.out]; exact OwnI.none_ _ _ _, by rw [HNO.out]; exact OwnI.none_ _ _ _, Apart.none_left _, ?_⟩
      repeat (first | refine below_setC ?_ (by omega) _ | exact B.out)
    · have hne0 : (x == 0) = false := by simpa using h0
      have p0 : W2.cell? ⟨w.heap.size, 0, none⟩ = some (.int .i64 W) := BP.out.cell rfl
      have p1 : W2.cell? ⟨w.heap.size, 1, none⟩ = some (.int .i64 H) := BP.out.cell rfl
      have p2 : W2.cell? ⟨w.heap.size, 2, none⟩ = some (.slice A n c) := BP.out.cell rfl
      have p3 : W2.cell? ⟨w.heap.size, 3, none⟩ = some (.int .i64 a) := BP.out.cell rfl
      have p4 : W2.cell? ⟨w.heap.size, 4, none⟩ = some (.int .i64 b) := BP.out.cell rfl
      have p5 : W2.cell? ⟨w.heap.size, 5, none⟩ = some (.slice (some ⟨bb, oo, none⟩) n2 c2) := BP.out.cell rfl
      go_enter Try.func27, Try.ntmps27
      go_wp2_with fail
      rw [← hW2]
      clear hW2
      clear p0 p1 p2 p3 p4 p5
      refine (isPuzzleWith_any W H A n c a b _ n2 c2 xs ns (j : Int) _ (RA0.out.keep B.out) (RN0.out.keep B.out)).mono ?_
      rw [hc]
      rintro e wv ⟨rfl, hb⟩
      replace BP := Lib.hid (BP.out.keep hb)
      replace BR := Lib.hid (BR.out.keep hb)
      replace HSZ := Lib.hid (Nat.le_trans HSZ.out hb.size)
      replace B := Lib.hid (below_next B.out hb)
      clear hb
      have p5 : wv.cell? ⟨w.heap.size, 5, none⟩ = some (.slice (some ⟨bb, oo, none⟩) n2 c2) := BP.out.cell rfl
      replace x0 := cell_keep x0 hg1 B.out
      have p0 : wv.cell? ⟨w.heap.size, 0, none⟩ = some (.int .i64 W) := BP.out.cell rfl
      have p1 : wv.cell? ⟨w.heap.size, 1, none⟩ = some (.int .i64 H) := BP.out.cell rfl
      have p2 : wv.cell? ⟨w.heap.size, 2, none⟩ = some (.slice A n c) := BP.out.cell rfl
      have p3 : wv.cell? ⟨w.heap.size, 3, none⟩ = some (.int .i64 a) := BP.out.cell rfl
      have p4 : wv.cell? ⟨w.heap.size, 4, none⟩ = some (.int .i64 b) := BP.out.cell rfl
      go_wp2_with fail
      clear p0 p1 p2 p3 p4 p5
      refine (withN_any W H A n c a b _ n2 c2 xs ns j 0 _ (RA0.out.keep B.out) (RN0.out.keep B.out) hj hn hn2).mono ?_
      rintro e wx ⟨A', c', A2', c2', rfl, o1, o2, hap, hb⟩
      have OH := Lib.hid (o1.lower (show w.heap.size + 1 + 1 ≤ wv.heap.size by have := HSZ.out; omega)); have ON := Lib.hid (o2.lower (show w.heap.size + 1 + 1 ≤ wv.heap.size by have := HSZ.out; omega)); have HAP := Lib.hid hap
      clear o1 o2 hap
      replace BP := Lib.hid (BP.out.keep hb)
      replace BR := Lib.hid (BR.out.keep hb)
      replace HSZ := Lib.hid (Nat.le_trans HSZ.out hb.size)
      replace B := Lib.hid (below_next B.out hb)
      clear hb
      have y0 : wx.cell? ⟨w.heap.size + 1, 0, none⟩ = some (.int .i64 0) := BR.out.cell rfl
      have y1 : wx.cell? ⟨w.heap.size + 1, 1, none⟩ = some (.int .i64 0) := BR.out.cell rfl
      have y2 : wx.cell? ⟨w.heap.size + 1, 2, none⟩ = some (.slice none 0 0) := BR.out.cell rfl
      have y3 : wx.cell? ⟨w.heap.size + 1, 3, none⟩ = some (.int .i64 0) := BR.out.cell rfl
      have y4 : wx.cell? ⟨w.heap.size + 1, 4, none⟩ = some (.int .i64 0) := BR.out.cell rfl
      have y5 : wx.cell? ⟨w.heap.size + 1, 5, none⟩ = some (.slice none 0 0) := BR.out.cell rfl
      have h0 : wx.frozen? ⟨w.heap.size + 1, 0, none⟩ = false := BR.out.frozen 0
      have h1 : wx.frozen? ⟨w.heap.size + 1, 1, none⟩ = false := BR.out.frozen 1
      have h2 : wx.frozen? ⟨w.heap.size + 1, 2, none⟩ = false := BR.out.frozen 2
      have h3 : wx.frozen? ⟨w.heap.size + 1, 3, none⟩ = false := BR.out.frozen 3
      have h4 : wx.frozen? ⟨w.heap.size + 1, 4, none⟩ = false := BR.out.frozen 4
      have h5 : wx.frozen? ⟨w.heap.size + 1, 5, none⟩ = false := BR.out.frozen 5
      have HOK := Lib.hid (show HideNumber_ok W H xs a b ns (j : Int) = true by rw [HideNumber_ok, HC.out, Int.toNat_natCast, getD_of HX.out, hne0]; rfl)
      go_wp2
      refine bodyPost_ret (v := .tuple #[pzv W H A' n c' a b A2' n2 c2', .bool true]) (by simp [results, Try.results27, go_sem, y0, y1, y2, y3, y4, y5]) rfl ⟨A', n, c', A2', n2, c2', by rw [HOK.out]; rfl, ?_, ?_, HAP.out, ?_⟩
      · rw [HOK.out]
        show OwnI _ _ _ _ _ _ _
        refine OwnI.lower (lo := w.heap.size + 1 + 1) ?_ (by omega)
        repeat (first | refine own_setC ?_ (by omega) _ | exact OH.out)
      · rw [HOK.out]
        show OwnI _ _ _ _ _ _ _
        refine OwnI.lower (lo := w.heap.size + 1 + 1) ?_ (by omega)
        repeat (first | refine own_setC ?_ (by omega) _ | exact ON.out)
      · repeat (first | refine below_setC ?_ (by omega) _ | exact B.out)

set_option maxRecDepth 100000 in
set_option maxHeartbeats 4000000 in
theorem spec_HideNumber (W H : Int) (A : Option Addr) (n c : Nat) (a b : Int) (A2 : Option Addr) (n2 c2 : Nat) (xs ns : List Int) (q : Int) (w : World) (ha : Rd w A n xs) (hp : Rd w A2 n2 ns) (hcap : n2 ≤ c2) :
    Calls Try.prog 26 #[pzv W H A n c a b A2 n2 c2, .int .i64 q] w fun e w' => ∃ A' n' c' A2' n2' c2', e = .returned (.tuple #[pzv (zi (HideNumber_ok W H xs a b ns q) W) (zi (HideNumber_ok W H xs a b ns q) H) A' n' c' (zi (HideNumber_ok W H xs a b ns q) a) (zi (HideNumber_ok W H xs a b ns q) b) A2' n2' c2', .bool (HideNumber_ok W H xs a b ns q)]) ∧ OwnI 3 w' w.heap.size A' n' c' (zl (HideNumber_ok W H xs a b ns q) (HideNumber_xs W H xs a b ns q)) ∧ OwnI 3 w' w.heap.size A2' n2' c2' (zl (HideNumber_ok W H xs a b ns q) (HideNumber_ns W H xs a b ns q)) ∧ Apart A' A2' ∧ Below w.heap.size w w' := by
  have RA0 := Lib.hid ha; have RN0 := Lib.hid hp
  have HL := Lib.hid hp.1; have HLA := Lib.hid ha.1
  clear ha hp
  obtain ⟨W2, hW2⟩ : ∃ W2, W2 = (w.alloc (.cells #[.int .i64 W, .int .i64 H, .slice A n c, .int .i64 a, .int .i64 b, .slice A2 n2 c2] 34)).alloc (.cells #[.int .i64 0, .int .i64 0, .slice none 0 0, .int .i64 0, .int .i64 0, .slice none 0 0] 34) := ⟨_, rfl⟩
  have BP := Lib.hid (show Bx W2 (w.heap.size) #[.int .i64 W, .int .i64 H, .slice A n c, .int .i64 a, .int .i64 b, .slice A2 n2 c2] 34 by rw [hW2]; exact (Bx.new (w) #[.int .i64 W, .int .i64 H, .slice A n c, .int .i64 a, .int .i64 b, .slice A2 n2 c2] 34).keep (below_new (Below.refl _ _) (.cells #[.int .i64 0, .int .i64 0, .slice none 0 0, .int .i64 0, .int .i64 0, .slice none 0 0] 34)))
  have BR := Lib.hid (show Bx W2 (w.heap.size + 1) #[.int .i64 0, .int .i64 0, .slice none 0 0, .int .i64 0, .int .i64 0, .slice none 0 0] 34 by rw [hW2]; have := Bx.new (w.alloc (.cells #[.int .i64 W, .int .i64 H, .slice A n c, .int .i64 a, .int .i64 b, .slice A2 n2 c2] 34)) #[.int .i64 0, .int .i64 0, .slice none 0 0, .int .i64 0, .int .i64 0, .slice none 0 0] 34; simpa using this)
  have B := Lib.hid (show Below w.heap.size w W2 by rw [hW2]; repeat (first | exact Below.refl _ _ | refine below_new ?_ _))
  have HSZ := Lib.hid (show w.heap.size + 2 ≤ W2.heap.size by rw [hW2]; simp)
  by_cases hc : cellP W H xs a b ns q = true
  rotate_left
  · have p0 : W2.cell? ⟨w.heap.size, 0, none⟩ = some (.int .i64 W) := BP.out.cell rfl
    have p1 : W2.cell? ⟨w.heap.size, 1, none⟩ = some (.int .i64 H) := BP.out.cell rfl
    have p2 : W2.cell? ⟨w.heap.size, 2, none⟩ = some (.slice A n c) := BP.out.cell rfl
    have p3 : W2.cell? ⟨w.heap.size, 3, none⟩ = some (.int .i64 a) := BP.out.cell rfl
    have p4 : W2.cell? ⟨w.heap.size, 4, none⟩ = some (.int .i64 b) := BP.out.cell rfl
    have p5 : W2.cell? ⟨w.heap.size, 5, none⟩ = some (.slice A2 n2 c2) := BP.out.cell rfl
    go_enter Try.func26, Try.ntmps26
    go_wp2_with fail
    rw [← hW2]
    clear hW2
    clear p0 p1 p2 p3 p4 p5
    refine (pzCell_any W H A n c a b A2 n2 c2 xs ns q _ (RA0.out.keep B.out) (RN0.out.keep B.out) hcap).mono ?_
    rw [show cellP W H xs a b ns q = false by simpa using hc]
    rintro e wv ⟨rfl, hb⟩
    replace BP := Lib.hid (BP.out.keep hb)
    replace BR := Lib.hid (BR.out.keep hb)
    replace HSZ := Lib.hid (Nat.le_trans HSZ.out hb.size)
    replace B := Lib.hid (below_next B.out hb)
    clear hb
    have y0 : wv.cell? ⟨w.heap.size + 1, 0, none⟩ = some (.int .i64 0) := BR.out.cell rfl
    have y1 : wv.cell? ⟨w.heap.size + 1, 1, none⟩ = some (.int .i64 0) := BR.out.cell rfl
    have y2 : wv.cell? ⟨w.heap.size + 1, 2, none⟩ = some (.slice none 0 0) := BR.out.cell rfl
    have y3 : wv.cell? ⟨w.heap.size + 1, 3, none⟩ = some (.int .i64 0) := BR.out.cell rfl
    have y4 : wv.cell? ⟨w.heap.size + 1, 4, none⟩ = some (.int .i64 0) := BR.out.cell rfl
    have y5 : wv.cell? ⟨w.heap.size + 1, 5, none⟩ = some (.slice none 0 0) := BR.out.cell rfl
    have h0 : wv.frozen? ⟨w.heap.size + 1, 0, none⟩ = false := BR.out.frozen 0
    have h1 : wv.frozen? ⟨w.heap.size + 1, 1, none⟩ = false := BR.out.frozen 1
    have h2 : wv.frozen? ⟨w.heap.size + 1, 2, none⟩ = false := BR.out.frozen 2
    have h3 : wv.frozen? ⟨w.heap.size + 1, 3, none⟩ = false := BR.out.frozen 3
    have h4 : wv.frozen? ⟨w.heap.size + 1, 4, none⟩ = false := BR.out.frozen 4
    have h5 : wv.frozen? ⟨w.heap.size + 1, 5, none⟩ = false := BR.out.frozen 5
    have HNO := Lib.hid (show HideNumber_ok W H xs a b ns q = false by rw [HideNumber_ok, show cellP W H xs a b ns q = false by simpa using hc]; rfl)
    go_wp2
    refine bodyPost_ret (v := .tuple #[pzv 0 0 none 0 0 0 0 none 0 0, .bool false]) (by simp [results, Try.results26, go_sem, y0, y1, y2, y3, y4, y5]) rfl ⟨none, 0, 0, none, 0, 0, by rw [HNO.out]; rfl, by rw [HNO.out]; exact OwnI.none_ _ _ _, by rw [HNO.out]; exact OwnI.none_ _ _ _, Apart.none_left _, ?_⟩
    repeat (first | refine below_setC ?_ (by omega) _ | exact B.out)
  · obtain ⟨hg, hh, j, rfl, hj1, hj64, hx64⟩ := cellP_nat hc
    have HG := Lib.hid hg; have HC := Lib.hid hc
    have hj : j < n2 := by have := HL.out; omega
    have hn2 : n2 ≤ 1000 := by have := HL.out; omega
    have hn : n ≤ 1000 := by have := HLA.out; omega
    have hj0 : (0 : Int) ≤ (j : Int) := by omega
    have hj2 : (j : Int) < (n2 : Int) := by omega
    obtain ⟨bb, oo, x, rfl, hg1, hx, x0⟩ := RN0.out.at_ hj
    have HX := Lib.hid hx
    clear hx hg hh
    by_cases h0 : x = 0
    · subst h0
      have p0 : W2.cell? ⟨w.heap.size, 0, none⟩ = some (.int .i64 W) := BP.out.cell rfl
      have p1 : W2.cell? ⟨w.heap.size, 1, none⟩ = some (.int .i64 H) := BP.out.cell rfl
      have p2 : W2.cell? ⟨w.heap.size, 2, none⟩ = some (.slice A n c) := BP.out.cell rfl
      have p3 : W2.cell? ⟨w.heap.size, 3, none⟩ = some (.int .i64 a) := BP.out.cell rfl
      have p4 : W2.cell? ⟨w.heap.size, 4, none⟩ = some (.int .i64 b) := BP.out.cell rfl
      have p5 : W2.cell? ⟨w.heap.size, 5, none⟩ = some (.slice (some ⟨bb, oo, none⟩) n2 c2) := BP.out.cell rfl
      go_enter Try.func26, Try.ntmps26
      go_wp2_with fail
      rw [← hW2]
      clear hW2
      clear p0 p1 p2 p3 p4 p5
      refine (pzCell_any W H A n c a b _ n2 c2 xs ns (j : Int) _ (RA0.out.keep B.out) (RN0.out.keep B.out) hcap).mono ?_
      rw [hc]
      rintro e wv ⟨rfl, hb⟩
      replace BP := Lib.hid (BP.out.keep hb)
      replace BR := Lib.hid (BR.out.keep hb)
      replace HSZ := Lib.hid (Nat.le_trans HSZ.out hb.size)
      replace B := Lib.hid (below_next B.out hb)
      clear hb
      have p5 : wv.cell? ⟨w.heap.size, 5, none⟩ = some (.slice (some ⟨bb, oo, none⟩) n2 c2) := BP.out.cell rfl
      replace x0 := cell_keep x0 hg1 B.out
      have y0 : wv.cell? ⟨w.heap.size + 1, 0, none⟩ = some (.int .i64 0) := BR.out.cell rfl
      have y1 : wv.cell? ⟨w.heap.size + 1, 1, none⟩ = some (.int .i64 0) := BR.out.cell rfl
      have y2 : wv.cell? ⟨w.heap.size + 1, 2, none⟩ = some (.slice none 0 0) := BR.out.cell rfl
      have y3 : wv.cell? ⟨w.heap.size + 1, 3, none⟩ = some (.int .i64 0) := BR.out.cell rfl
      have y4 : wv.cell? ⟨w.heap.size + 1, 4, none⟩ = some (.int .i64 0) := BR.out.cell rfl
      have y5 : wv.cell? ⟨w.heap.size + 1, 5, none⟩ = some (.slice none 0 0) := BR.out.cell rfl
      have h0 : wv.frozen? ⟨w.heap.size + 1, 0, none⟩ = false := BR.out.frozen 0
      have h1 : wv.frozen? ⟨w.heap.size + 1, 1, none⟩ = false := BR.out.frozen 1
      have h2 : wv.frozen? ⟨w.heap.size + 1, 2, none⟩ = false := BR.out.frozen 2
      have h3 : wv.frozen? ⟨w.heap.size + 1, 3, none⟩ = false := BR.out.frozen 3
      have h4 : wv.frozen? ⟨w.heap.size + 1, 4, none⟩ = false := BR.out.frozen 4
      have h5 : wv.frozen? ⟨w.heap.size + 1, 5, none⟩ = false := BR.out.frozen 5
      have HNO := Lib.hid (show HideNumber_ok W H xs a b ns (j : Int) = false by rw [HideNumber_ok, HC.out, Int.toNat_natCast, getD_of HX.out, show ((0 : Int) == 0) = true from rfl]; rfl)
      go_wp2
      refine bodyPost_ret (v := .tuple #[pzv 0 0 none 0 0 0 0 none 0 0, .bool false]) (by simp [results, Try.results26, go_sem, y0, y1, y2, y3, y4, y5]) rfl ⟨none, 0, 0, none, 0, 0, by rw [HNO.out]; rfl, by rw [HNO.out]; exact OwnI.none_ _ _ _, by rw [HNO.out]; exact OwnI.none_ _ _ _, Apart.none_left _, ?_⟩
      repeat (first | refine below_setC ?_ (by omega) _ | exact B.out)
    · have hne0 : (x == 0) = false := by simpa using h0
      have p0 : W2.cell? ⟨w.heap.size, 0, none⟩ = some (.int .i64 W) := BP.out.cell rfl
      have p1 : W2.cell? ⟨w.heap.size, 1, none⟩ = some (.int .i64 H) := BP.out.cell rfl
      have p2 : W2.cell? ⟨w.heap.size, 2, none⟩ = some (.slice A n c) := BP.out.cell rfl
      have p3 : W2.cell? ⟨w.heap.size, 3, none⟩ = some (.int .i64 a) := BP.out.cell rfl
      have p4 : W2.cell? ⟨w.heap.size, 4, none⟩ = some (.int .i64 b) := BP.out.cell rfl
      have p5 : W2.cell? ⟨w.heap.size, 5, none⟩ = some (.slice (some ⟨bb, oo, none⟩) n2 c2) := BP.out.cell rfl
      go_enter Try.func26, Try.ntmps26
      go_wp2_with fail
      rw [← hW2]
      clear hW2
      clear p0 p1 p2 p3 p4 p5
      refine (pzCell_any W H A n c a b _ n2 c2 xs ns (j : Int) _ (RA0.out.keep B.out) (RN0.out.keep B.out) hcap).mono ?_
      rw [hc]
      rintro e wv ⟨rfl, hb⟩
      replace BP := Lib.hid (BP.out.keep hb)
      replace BR := Lib.hid (BR.out.keep hb)
      replace HSZ := Lib.hid (Nat.le_trans HSZ.out hb.size)
      replace B := Lib.hid (below_next B.out hb)
      clear hb
      have p5 : wv.cell? ⟨w.heap.size, 5, none⟩ = some (.slice (some ⟨bb, oo, none⟩) n2 c2) := BP.out.cell rfl
      replace x0 := cell_keep x0 hg1 B.out
      have p0 : wv.cell? ⟨w.heap.size, 0, none⟩ = some (.int .i64 W) := BP.out.cell rfl
      have p1 : wv.cell? ⟨w.heap.size, 1, none⟩ = some (.int .i64 H) := BP.out.cell rfl
      have p2 : wv.cell? ⟨w.heap.size, 2, none⟩ = some (.slice A n c) := BP.out.cell rfl
      have p3 : wv.cell? ⟨w.heap.size, 3, none⟩ = some (.int .i64 a) := BP.out.cell rfl
      have p4 : wv.cell? ⟨w.heap.size, 4, none⟩ = some (.int .i64 b) := BP.out.cell rfl
      go_wp2_with fail
      clear p0 p1 p2 p3 p4 p5
      refine (pzWith_any W H A n c a b _ n2 c2 xs ns j 0 _ (RA0.out.keep B.out) (RN0.out.keep B.out) hj hn hn2).mono ?_
      rintro e wx ⟨A', c', A2', c2', rfl, o1, o2, hap, hb⟩
      have OH := Lib.hid (o1.lower (show w.heap.size + 1 + 1 ≤ wv.heap.size by have := HSZ.out; omega)); have ON := Lib.hid (o2.lower (show w.heap.size + 1 + 1 ≤ wv.heap.size by have := HSZ.out; omega)); have HAP := Lib.hid hap
      clear o1 o2 hap
      replace BP := Lib.hid (BP.out.keep hb)
      replace BR := Lib.hid (BR.out.keep hb)
      replace HSZ := Lib.hid (Nat.le_trans HSZ.out hb.size)
      replace B := Lib.hid (below_next B.out hb)
      clear hb
      have y0 : wx.cell? ⟨w.heap.size + 1, 0, none⟩ = some (.int .i64 0) := BR.out.cell rfl
      have y1 : wx.cell? ⟨w.heap.size + 1, 1, none⟩ = some (.int .i64 0) := BR.out.cell rfl
      have y2 : wx.cell? ⟨w.heap.size + 1, 2, none⟩ = some (.slice none 0 0) := BR.out.cell rfl
      have y3 : wx.cell? ⟨w.heap.size + 1, 3, none⟩ = some (.int .i64 0) := BR.out.cell rfl
      have y4 : wx.cell? ⟨w.heap.size + 1, 4, none⟩ = some (.int .i64 0) := BR.out.cell rfl
      have y5 : wx.cell? ⟨w.heap.size + 1, 5, none⟩ = some (.slice none 0 0) := BR.out.cell rfl
      have h0 : wx.frozen? ⟨w.heap.size + 1, 0, none⟩ = false := BR.out.frozen 0
      have h1 : wx.frozen? ⟨w.heap.size + 1, 1, none⟩ = false := BR.out.frozen 1
      have h2 : wx.frozen? ⟨w.heap.size + 1, 2, none⟩ = false := BR.out.frozen 2
      have h3 : wx.frozen? ⟨w.heap.size + 1, 3, none⟩ = false := BR.out.frozen 3
      have h4 : wx.frozen? ⟨w.heap.size + 1, 4, none⟩ = false := BR.out.frozen 4
      have h5 : wx.frozen? ⟨w.heap.size + 1, 5, none⟩ = false := BR.out.frozen 5
      have HOK := Lib.hid (show HideNumber_ok W H xs a b ns (j : Int) = true by rw [HideNumber_ok, HC.out, Int.toNat_natCast, getD_of HX.out, hne0]; rfl)
      go_wp2
      refine bodyPost_ret (v := .tuple #[pzv W H A' n c' a b A2' n2 c2', .bool true]) (by simp [results, Try.results26, go_sem, y0, y1, y2, y3, y4, y5]) rfl ⟨A', n, c', A2', n2, c2', by rw [HOK.out]; rfl, ?_, ?_, HAP.out, ?_⟩
      · rw [HOK.out]
        show OwnI _ _ _ _ _ _ _
        refine OwnI.lower (lo := w.heap.size + 1 + 1) ?_ (by omega)
        repeat (first | refine own_setC ?_ (by omega) _ | exact OH.out)
      · rw [HOK.out]
        show OwnI _ _ _ _ _ _ _
        refine OwnI.lower (lo := w.heap.size + 1 + 1) ?_ (by omega)
        repeat (first | refine own_setC ?_ (by omega) _ | exact ON.out)
      · repeat (first | refine below_setC ?_ (by omega) _ | exact B.out)

set_option maxRecDepth 100000 in
set_option maxHeartbeats 4000000 in
theorem impl_ShowNumber (W H : Int) (A : Option Addr) (n c : Nat) (a b : Int) (A2 : Option Addr) (n2 c2 : Nat) (xs ns : List Int) (q v : Int) (w : World) (ha : Rd w A n xs) (hp : Rd w A2 n2 ns) :
    Calls Try.prog 23 #[pzv W H A n c a b A2 n2 c2, .int .i64 q, .int .i64 v] w fun e w' => ∃ A' n' c' A2' n2' c2', e = .returned (.tuple #[pzv (zi (ShowNumber_ok W H xs a b ns q v) W) (zi (ShowNumber_ok W H xs a b ns q v) H) A' n' c' (zi (ShowNumber_ok W H xs a b ns q v) a) (zi (ShowNumber_ok W H xs a b ns q v) b) A2' n2' c2', .bool (ShowNumber_ok W H xs a b ns q v)]) ∧ OwnI 3 w' w.heap.size A' n' c' (zl (ShowNumber_ok W H xs a b ns q v) (ShowNumber_xs W H xs a b ns q v)) ∧ OwnI 3 w' w.heap.size A2' n2' c2' (zl (ShowNumber_ok W H xs a b ns q v) (ShowNumber_ns W H xs a b ns q v)) ∧ Apart A' A2' ∧ Below w.heap.size w w' := by
  have RA0 := Lib.hid ha; have RN0 := Lib.hid hp
  have HL := Lib.hid hp.1; have HLA := Lib.hid ha.1
  clear ha hp
  obtain ⟨W2, hW2⟩ : ∃ W2, W2 = (w.alloc (.cells #[.int .i64 W, .int .i64 H, .slice A n c, .int .i64 a, .int .i64 b, .slice A2 n2 c2] 34)).alloc (.cells #[.int .i64 0, .int .i64 0, .slice none 0 0, .int .i64 0, .int .i64 0, .slice none 0 0] 34) := ⟨_, rfl⟩
  have BP := Lib.hid (show Bx W2 (w.heap.size) #[.int .i64 W, .int .i64 H, .slice A n c, .int .i64 a, .int .i64 b, .slice A2 n2 c2] 34 by rw [hW2]; exact (Bx.new (w) #[.int .i64 W, .int .i64 H, .slice A n c, .int .i64 a, .int .i64 b, .slice A2 n2 c2] 34).keep (below_new (Below.refl _ _) (.cells #[.int .i64 0, .int .i64 0, .slice none 0 0, .int .i64 0, .int .i64 0, .slice none 0 0] 34)))
  have BR := Lib.hid (show Bx W2 (w.heap.size + 1) #[.int .i64 0, .int .i64 0, .slice none 0 0, .int .i64 0, .int .i64 0, .slice none 0 0] 34 by rw [hW2]; have := Bx.new (w.alloc (.cells #[.int .i64 W, .int .i64 H, .slice A n c, .int .i64 a, .int .i64 b, .slice A2 n2 c2] 34)) #[.int .i64 0, .int .i64 0, .slice none 0 0, .int .i64 0, .int .i64 0, .slice none 0 0] 34; simpa using this)
  have B := Lib.hid (show Below w.heap.size w W2 by rw [hW2]; repeat (first | exact Below.refl _ _ | refine below_new ?_ _))
  have HSZ := Lib.hid (show w.heap.size + 2 ≤ W2.heap.size by rw [hW2]; simp)
  by_cases hc : cellP W H xs a b ns q = true
  rotate_left
  · have p0 : W2.cell? ⟨w.heap.size, 0, none⟩ = some (.int .i64 W) := BP.out.cell rfl
    have p1 : W2.cell? ⟨w.heap.size, 1, none⟩ = some (.int .i64 H) := BP.out.cell rfl
    have p2 : W2.cell? ⟨w.heap.size, 2, none⟩ = some (.slice A n c) := BP.out.cell rfl
    have p3 : W2.cell? ⟨w.heap.size, 3, none⟩ = some (.int .i64 a) := BP.out.cell rfl
    have p4 : W2.cell? ⟨w.heap.size, 4, none⟩ = some (.int .i64 b) := BP.out.cell rfl
    have p5 : W2.cell? ⟨w.heap.size, 5, none⟩ = some (.slice A2 n2 c2) := BP.out.cell rfl
    go_enter Try.func23, Try.ntmps23
    go_wp2_with fail
    rw [← hW2]
    clear hW2
    clear p0 p1 p2 p3 p4 p5
    refine (isPuzzleWith_any W H A n c a b A2 n2 c2 xs ns q _ (RA0.out.keep B.out) (RN0.out.keep B.out)).mono ?_
    rw [show cellP W H xs a b ns q = false by simpa using hc]
    rintro e wv ⟨rfl, hb⟩
    replace BP := Lib.hid (BP.out.keep hb)
    replace BR := Lib.hid (BR.out.keep hb)
    replace HSZ := Lib.hid (Nat.le_trans HSZ.out hb.size)
    replace B := Lib.hid (below_next B.out hb)
    clear hb
    have y0 : wv.cell? ⟨w.heap.size + 1, 0, none⟩ = some (.int .i64 0) := BR.out.cell rfl
    have y1 : wv.cell? ⟨w.heap.size + 1, 1, none⟩ = some (.int .i64 0) := BR.out.cell rfl
    have y2 : wv.cell? ⟨w.heap.size + 1, 2, none⟩ = some (.slice none 0 0) := BR.out.cell rfl
    have y3 : wv.cell? ⟨w.heap.size + 1, 3, none⟩ = some (.int .i64 0) := BR.out.cell rfl
    have y4 : wv.cell? ⟨w.heap.size + 1, 4, none⟩ = some (.int .i64 0) := BR.out.cell rfl
    have y5 : wv.cell? ⟨w.heap.size + 1, 5, none⟩ = some (.slice none 0 0) := BR.out.cell rfl
    have h0 : wv.frozen? ⟨w.heap.size + 1, 0, none⟩ = false := BR.out.frozen 0
    have h1 : wv.frozen? ⟨w.heap.size + 1, 1, none⟩ = false := BR.out.frozen 1
    have h2 : wv.frozen? ⟨w.heap.size + 1, 2, none⟩ = false := BR.out.frozen 2
    have h3 : wv.frozen? ⟨w.heap.size + 1, 3, none⟩ = false := BR.out.frozen 3
    have h4 : wv.frozen? ⟨w.heap.size + 1, 4, none⟩ = false := BR.out.frozen 4
    have h5 : wv.frozen? ⟨w.heap.size + 1, 5, none⟩ = false := BR.out.frozen 5
    have HNO := Lib.hid (show ShowNumber_ok W H xs a b ns q v = false by rw [ShowNumber_ok, show cellP W H xs a b ns q = false by simpa using hc]; rfl)
    go_wp2
    refine bodyPost_ret (v := .tuple #[pzv 0 0 none 0 0 0 0 none 0 0, .bool false]) (by simp [results, Try.results23, go_sem, y0, y1, y2, y3, y4, y5]) rfl ⟨none, 0, 0, none, 0, 0, by rw [HNO.out]; rfl, by rw [HNO.out]; exact OwnI.none_ _ _ _, by rw [HNO.out]; exact OwnI.none_ _ _ _, Apart.none_left _, ?_⟩
    repeat (first | refine below_setC ?_ (by omega) _ | exact B.out)
  · obtain ⟨hg, hh, j, rfl, hj1, hj64, hx64⟩ := cellP_nat hc
    have HG := Lib.hid hg; have HC := Lib.hid hc
    have hj : j < n2 := by have := HL.out; omega
    have hn2 : n2 ≤ 1000 := by have := HL.out; omega
    have hn : n ≤ 1000 := by have := HLA.out; omega
    have hj0 : (0 : Int) ≤ (j : Int) := by omega
    have hj2 : (j : Int) < (n2 : Int) := by omega
    obtain ⟨bb, oo, x, rfl, hg1, hx, x0⟩ := RN0.out.at_ hj
    have HX := Lib.hid hx
    clear hx hg hh
    by_cases h0 : x = 0
    · by_cases hv : v = 0
      · subst h0
        subst hv
        have p0 : W2.cell? ⟨w.heap.size, 0, none⟩ = some (.int .i64 W) := BP.out.cell rfl
        have p1 : W2.cell? ⟨w.heap.size, 1, none⟩ = some (.int .i64 H) := BP.out.cell rfl
        have p2 : W2.cell? ⟨w.heap.size, 2, none⟩ = some (.slice A n c) := BP.out.cell rfl
        have p3 : W2.cell? ⟨w.heap.size, 3, none⟩ = some (.int .i64 a) := BP.out.cell rfl
        have p4 : W2.cell? ⟨w.heap.size, 4, none⟩ = some (.int .i64 b) := BP.out.cell rfl
        have p5 : W2.cell? ⟨w.heap.size, 5, none⟩ = some (.slice (some ⟨bb, oo, none⟩) n2 c2) := BP.out.cell rfl
        go_enter Try.func23, Try.ntmps23
        go_wp2_with fail
        rw [← hW2]
        clear hW2
        clear p0 p1 p2 p3 p4 p5
        refine (isPuzzleWith_any W H A n c a b _ n2 c2 xs ns (j : Int) _ (RA0.out.keep B.out) (RN0.out.keep B.out)).mono ?_
        rw [hc]
        rintro e wv ⟨rfl, hb⟩
        replace BP := Lib.hid (BP.out.keep hb)
        replace BR := Lib.hid (BR.out.keep hb)
        replace HSZ := Lib.hid (Nat.le_trans HSZ.out hb.size)
        replace B := Lib.hid (below_next B.out hb)
        clear hb
        have p5 : wv.cell? ⟨w.heap.size, 5, none⟩ = some (.slice (some ⟨bb, oo, none⟩) n2 c2) := BP.out.cell rfl
        replace x0 := cell_keep x0 hg1 B.out
        have y0 : wv.cell? ⟨w.heap.size + 1, 0, none⟩ = some (.int .i64 0) := BR.out.cell rfl
        have y1 : wv.cell? ⟨w.heap.size + 1, 1, none⟩ = some (.int .i64 0) := BR.out.cell rfl
        have y2 : wv.cell? ⟨w.heap.size + 1, 2, none⟩ = some (.slice none 0 0) := BR.out.cell rfl
        have y3 : wv.cell? ⟨w.heap.size + 1, 3, none⟩ = some (.int .i64 0) := BR.out.cell rfl
        have y4 : wv.cell? ⟨w.heap.size + 1, 4, none⟩ = some (.int .i64 0) := BR.out.cell rfl
        have y5 : wv.cell? ⟨w.heap.size + 1, 5, none⟩ = some (.slice none 0 0) := BR.out.cell rfl
        have h0 : wv.frozen? ⟨w.heap.size + 1, 0, none⟩ = false := BR.out.frozen 0
        have h1 : wv.frozen? ⟨w.heap.size + 1, 1, none⟩ = false := BR.out.frozen 1
        have h2 : wv.frozen? ⟨w.heap.size + 1, 2, none⟩ = false := BR.out.frozen 2
        have h3 : wv.frozen? ⟨w.heap.size + 1, 3, none⟩ = false := BR.out.frozen 3
        have h4 : wv.frozen? ⟨w.heap.size + 1, 4, none⟩ = false := BR.out.frozen 4
        have h5 : wv.frozen? ⟨w.heap.size + 1, 5, none⟩ = false := BR.out.frozen 5
        have HNO := Lib.hid (show ShowNumber_ok W H xs a b ns (j : Int) 0 = false by rw [ShowNumber_ok, HC.out, Int.toNat_natCast, getD_of HX.out, show ((0 : Int) == 0) = true from rfl]; rfl)
        go_wp2
        refine bodyPost_ret (v := .tuple #[pzv 0 0 none 0 0 0 0 none 0 0, .bool false]) (by simp [results, Try.results23, go_sem, y0, y1, y2, y3, y4, y5]) rfl ⟨none, 0, 0, none, 0, 0, by rw [HNO.out]; rfl, by rw [HNO.out]; exact OwnI.none_ _ _ _, by rw [HNO.out]; exact OwnI.none_ _ _ _, Apart.none_left _, ?_⟩
        repeat (first | refine below_setC ?_ (by omega) _ | exact B.out)
      · by_cases hgp : goodP W H xs a b (ns.set j v) = true
        · subst h0
          have hnv : (v == 0) = false := by simpa using hv
          have p0 : W2.cell? ⟨w.heap.size, 0, none⟩ = some (.int .i64 W) := BP.out.cell rfl
          have p1 : W2.cell? ⟨w.heap.size, 1, none⟩ = some (.int .i64 H) := BP.out.cell rfl
          have p2 : W2.cell? ⟨w.heap.size, 2, none⟩ = some (.slice A n c) := BP.out.cell rfl
          have p3 : W2.cell? ⟨w.heap.size, 3, none⟩ = some (.int .i64 a) := BP.out.cell rfl
          have p4 : W2.cell? ⟨w.heap.size, 4, none⟩ = some (.int .i64 b) := BP.out.cell rfl
          have p5 : W2.cell? ⟨w.heap.size, 5, none⟩ = some (.slice (some ⟨bb, oo, none⟩) n2 c2) := BP.out.cell rfl
          go_enter Try.func23, Try.ntmps23
          go_wp2_with fail
          rw [← hW2]
          clear hW2
          clear p0 p1 p2 p3 p4 p5
          refine (isPuzzleWith_any W H A n c a b _ n2 c2 xs ns (j : Int) _ (RA0.out.keep B.out) (RN0.out.keep B.out)).mono ?_
          rw [hc]
          rintro e wv ⟨rfl, hb⟩
          replace BP := Lib.hid (BP.out.keep hb)
          replace BR := Lib.hid (BR.out.keep hb)
          replace HSZ := Lib.hid (Nat.le_trans HSZ.out hb.size)
          replace B := Lib.hid (below_next B.out hb)
          clear hb
          have p5 : wv.cell? ⟨w.heap.size, 5, none⟩ = some (.slice (some ⟨bb, oo, none⟩) n2 c2) := BP.out.cell rfl
          replace x0 := cell_keep x0 hg1 B.out
          have p0 : wv.cell? ⟨w.heap.size, 0, none⟩ = some (.int .i64 W) := BP.out.cell rfl
          have p1 : wv.cell? ⟨w.heap.size, 1, none⟩ = some (.int .i64 H) := BP.out.cell rfl
          have p2 : wv.cell? ⟨w.heap.size, 2, none⟩ = some (.slice A n c) := BP.out.cell rfl
          have p3 : wv.cell? ⟨w.heap.size, 3, none⟩ = some (.int .i64 a) := BP.out.cell rfl
          have p4 : wv.cell? ⟨w.heap.size, 4, none⟩ = some (.int .i64 b) := BP.out.cell rfl
          go_wp2_with fail
          clear p0 p1 p2 p3 p4 p5
          refine (withN_any W H A n c a b _ n2 c2 xs ns j v _ (RA0.out.keep B.out) (RN0.out.keep B.out) hj hn hn2).mono ?_
          rintro e wx ⟨A', c', A2', c2', rfl, o1, o2, hap, hb⟩
          have OH := Lib.hid (o1.lower (show w.heap.size + 1 + 1 ≤ wv.heap.size by have := HSZ.out; omega)); have ON := Lib.hid (o2.lower (show w.heap.size + 1 + 1 ≤ wv.heap.size by have := HSZ.out; omega)); have HAP := Lib.hid hap
          clear o1 o2 hap
          replace BP := Lib.hid (BP.out.keep hb)
          replace BR := Lib.hid (BR.out.keep hb)
          replace HSZ := Lib.hid (Nat.le_trans HSZ.out hb.size)
          replace B := Lib.hid (below_next B.out hb)
          clear hb
          go_wp2_with fail
          obtain ⟨wz, hWn⟩ : ∃ W5, W5 = wx.alloc (.cells #[.int .i64 W, .int .i64 H, .slice A' n c', .int .i64 a, .int .i64 b, .slice A2' n2 c2'] 34) := ⟨_, rfl⟩
          obtain ⟨sb, hkn⟩ : ∃ k5, k5 = wx.heap.size := ⟨_, rfl⟩
          have hb : Below wx.heap.size wx wz := by rw [hWn]; exact below_new (Below.refl _ _) _
          have BS := Lib.hid (show Bx wz sb #[.int .i64 W, .int .i64 H, .slice A' n c', .int .i64 a, .int .i64 b, .slice A2' n2 c2'] 34 by rw [hWn, hkn]; exact Bx.new _ _ _)
          have hsb : w.heap.size + 1 + 1 ≤ sb := by rw [hkn]; exact HSZ.out
          rw [← hWn, ← hkn]
          clear hWn hkn
          replace BP := Lib.hid (BP.out.keep hb)
          replace BR := Lib.hid (BR.out.keep hb)
          replace OH := Lib.hid (OH.out.keep hb)
          replace ON := Lib.hid (ON.out.keep hb)
          replace HSZ := Lib.hid (Nat.le_trans HSZ.out hb.size)
          replace B := Lib.hid (below_next B.out hb)
          clear hb
          refine (impl_IsPuzzle W H A' n c' a b A2' n2 c2' xs (ns.set j v) _ OH.out.rd ON.out.rd).mono ?_
          rw [hgp]
          rintro e wu ⟨rfl, hb⟩
          replace BP := Lib.hid (BP.out.keep hb)
          replace BR := Lib.hid (BR.out.keep hb)
          replace BS := Lib.hid (BS.out.keep hb)
          replace OH := Lib.hid (OH.out.keep hb)
          replace ON := Lib.hid (ON.out.keep hb)
          replace HSZ := Lib.hid (Nat.le_trans HSZ.out hb.size)
          replace B := Lib.hid (below_next B.out hb)
          clear hb
          have s0 : wu.cell? ⟨sb, 0, none⟩ = some (.int .i64 W) := BS.out.cell rfl
          have s1 : wu.cell? ⟨sb, 1, none⟩ = some (.int .i64 H) := BS.out.cell rfl
          have s2 : wu.cell? ⟨sb, 2, none⟩ = some (.slice A' n c') := BS.out.cell rfl
          have s3 : wu.cell? ⟨sb, 3, none⟩ = some (.int .i64 a) := BS.out.cell rfl
          have s4 : wu.cell? ⟨sb, 4, none⟩ = some (.int .i64 b) := BS.out.cell rfl
          have s5 : wu.cell? ⟨sb, 5, none⟩ = some (.slice A2' n2 c2') := BS.out.cell rfl
          have y0 : wu.cell? ⟨w.heap.size + 1, 0, none⟩ = some (.int .i64 0) := BR.out.cell rfl
          have y1 : wu.cell? ⟨w.heap.size + 1, 1, none⟩ = some (.int .i64 0) := BR.out.cell rfl
          have y2 : wu.cell? ⟨w.heap.size + 1, 2, none⟩ = some (.slice none 0 0) := BR.out.cell rfl
          have y3 : wu.cell? ⟨w.heap.size + 1, 3, none⟩ = some (.int .i64 0) := BR.out.cell rfl
          have y4 : wu.cell? ⟨w.heap.size + 1, 4, none⟩ = some (.int .i64 0) := BR.out.cell rfl
          have y5 : wu.cell? ⟨w.heap.size + 1, 5, none⟩ = some (.slice none 0 0) := BR.out.cell rfl
          have h0 : wu.frozen? ⟨w.heap.size + 1, 0, none⟩ = false := BR.out.frozen 0
          have h1 : wu.frozen? ⟨w.heap.size + 1, 1, none⟩ = false := BR.out.frozen 1
          have h2 : wu.frozen? ⟨w.heap.size + 1, 2, none⟩ = false := BR.out.frozen 2
          have h3 : wu.frozen? ⟨w.heap.size + 1, 3, none⟩ = false := BR.out.frozen 3
          have h4 : wu.frozen? ⟨w.heap.size + 1, 4, none⟩ = false := BR.out.frozen 4
          have h5 : wu.frozen? ⟨w.heap.size + 1, 5, none⟩ = false := BR.out.frozen 5
          have HOK := Lib.hid (show ShowNumber_ok W H xs a b ns (j : Int) v = true by rw [ShowNumber_ok, HC.out, Int.toNat_natCast, getD_of HX.out, show ((0 : Int) == 0) = true from rfl, hnv, hgp]; rfl)
          go_wp2
          refine bodyPost_ret (v := .tuple #[pzv W H A' n c' a b A2' n2 c2', .bool true]) (by simp [results, Try.results23, go_sem, y0, y1, y2, y3, y4, y5]) rfl ⟨A', n, c', A2', n2, c2', by rw [HOK.out]; rfl, ?_, ?_, HAP.out, ?_⟩
          · rw [HOK.out]
            show OwnI _ _ _ _ _ _ _
            refine OwnI.lower (lo := w.heap.size + 1 + 1) ?_ (by omega)
            repeat (first | refine own_setC ?_ (by omega) _ | exact OH.out)
          · rw [HOK.out]
            show OwnI _ _ _ _ _ _ _
            refine OwnI.lower (lo := w.heap.size + 1 + 1) ?_ (by omega)
            repeat (first | refine own_setC ?_ (by omega) _ | exact ON.out)
          · repeat (first | refine below_setC ?_ (by omega) _ | exact B.out)
        · subst h0
          have hnv : (v == 0) = false := by simpa using hv
          have p0 : W2.cell? ⟨w.heap.size, 0, none⟩ = some (.int .i64 W) := BP.out.cell rfl
          have p1 : W2.cell? ⟨w.heap.size, 1, none⟩ = some (.int .i64 H) := BP.out.cell rfl
          have p2 : W2.cell? ⟨w.heap.size, 2, none⟩ = some (.slice A n c) := BP.out.cell rfl
          have p3 : W2.cell? ⟨w.heap.size, 3, none⟩ = some (.int .i64 a) := BP.out.cell rfl
          have p4 : W2.cell? ⟨w.heap.size, 4, none⟩ = some (.int .i64 b) := BP.out.cell rfl
          have p5 : W2.cell? ⟨w.heap.size, 5, none⟩ = some (.slice (some ⟨bb, oo, none⟩) n2 c2) := BP.out.cell rfl
          go_enter Try.func23, Try.ntmps23
          go_wp2_with fail
          rw [← hW2]
          clear hW2
          clear p0 p1 p2 p3 p4 p5
          refine (isPuzzleWith_any W H A n c a b _ n2 c2 xs ns (j : Int) _ (RA0.out.keep B.out) (RN0.out.keep B.out)).mono ?_
          rw [hc]
          rintro e wv ⟨rfl, hb⟩
          replace BP := Lib.hid (BP.out.keep hb)
          replace BR := Lib.hid (BR.out.keep hb)
          replace HSZ := Lib.hid (Nat.le_trans HSZ.out hb.size)
          replace B := Lib.hid (below_next B.out hb)
          clear hb
          have p5 : wv.cell? ⟨w.heap.size, 5, none⟩ = some (.slice (some ⟨bb, oo, none⟩) n2 c2) := BP.out.cell rfl
          replace x0 := cell_keep x0 hg1 B.out
          have p0 : wv.cell? ⟨w.heap.size, 0, none⟩ = some (.int .i64 W) := BP.out.cell rfl
          have p1 : wv.cell? ⟨w.heap.size, 1, none⟩ = some (.int .i64 H) := BP.out.cell rfl
          have p2 : wv.cell? ⟨w.heap.size, 2, none⟩ = some (.slice A n c) := BP.out.cell rfl
          have p3 : wv.cell? ⟨w.heap.size, 3, none⟩ = some (.int .i64 a) := BP.out.cell rfl
          have p4 : wv.cell? ⟨w.heap.size, 4, none⟩ = some (.int .i64 b) := BP.out.cell rfl
          go_wp2_with fail
          clear p0 p1 p2 p3 p4 p5
          refine (withN_any W H A n c a b _ n2 c2 xs ns j v _ (RA0.out.keep B.out) (RN0.out.keep B.out) hj hn hn2).mono ?_
          rintro e wx ⟨A', c', A2', c2', rfl, o1, o2, hap, hb⟩
          have OH := Lib.hid (o1.lower (show w.heap.size + 1 + 1 ≤ wv.heap.size by have := HSZ.out; omega)); have ON := Lib.hid (o2.lower (show w.heap.size + 1 + 1 ≤ wv.heap.size by have := HSZ.out; omega)); have HAP := Lib.hid hap
          clear o1 o2 hap
          replace BP := Lib.hid (BP.out.keep hb)
          replace BR := Lib.hid (BR.out.keep hb)
          replace HSZ := Lib.hid (Nat.le_trans HSZ.out hb.size)
          replace B := Lib.hid (below_next B.out hb)
          clear hb
          go_wp2_with fail
          obtain ⟨wz, hWn⟩ : ∃ W5, W5 = wx.alloc (.cells #[.int .i64 W, .int .i64 H, .slice A' n c', .int .i64 a, .int .i64 b, .slice A2' n2 c2'] 34) := ⟨_, rfl⟩
          obtain ⟨sb, hkn⟩ : ∃ k5, k5 = wx.heap.size := ⟨_, rfl⟩
          have hb : Below wx.heap.size wx wz := by rw [hWn]; exact below_new (Below.refl _ _) _
          have BS := Lib.hid (show Bx wz sb #[.int .i64 W, .int .i64 H, .slice A' n c', .int .i64 a, .int .i64 b, .slice A2' n2 c2'] 34 by rw [hWn, hkn]; exact Bx.new _ _ _)
          have hsb : w.heap.size + 1 + 1 ≤ sb := by rw [hkn]; exact HSZ.out
          rw [← hWn, ← hkn]
          clear hWn hkn
          replace BP := Lib.hid (BP.out.keep hb)
          replace BR := Lib.hid (BR.out.keep hb)
          replace OH := Lib.hid (OH.out.keep hb)
          replace ON := Lib.hid (ON.out.keep hb)
          replace HSZ := Lib.hid (Nat.le_trans HSZ.out hb.size)
          replace B := Lib.hid (below_next B.out hb)
          clear hb
          refine (impl_IsPuzzle W H A' n c' a b A2' n2 c2' xs (ns.set j v) _ OH.out.rd ON.out.rd).mono ?_
          rw [show goodP W H xs a b (ns.set j v) = false by simpa using hgp]
          rintro e wu ⟨rfl, hb⟩
          replace BP := Lib.hid (BP.out.keep hb)
          replace BR := Lib.hid (BR.out.keep hb)
          replace BS := Lib.hid (BS.out.keep hb)
          replace OH := Lib.hid (OH.out.keep hb)
          replace ON := Lib.hid (ON.out.keep hb)
          replace HSZ := Lib.hid (Nat.le_trans HSZ.out hb.size)
          replace B := Lib.hid (below_next B.out hb)
          clear hb
          have y0 : wu.cell? ⟨w.heap.size + 1, 0, none⟩ = some (.int .i64 0) := BR.out.cell rfl
          have y1 : wu.cell? ⟨w.heap.size + 1, 1, none⟩ = some (.int .i64 0) := BR.out.cell rfl
          have y2 : wu.cell? ⟨w.heap.size + 1, 2, none⟩ = some (.slice none 0 0) := BR.out.cell rfl
          have y3 : wu.cell? ⟨w.heap.size + 1, 3, none⟩ = some (.int .i64 0) := BR.out.cell rfl
          have y4 : wu.cell? ⟨w.heap.size + 1, 4, none⟩ = some (.int .i64 0) := BR.out.cell rfl
          have y5 : wu.cell? ⟨w.heap.size + 1, 5, none⟩ = some (.slice none 0 0) := BR.out.cell rfl
          have h0 : wu.frozen? ⟨w.heap.size + 1, 0, none⟩ = false := BR.out.frozen 0
          have h1 : wu.frozen? ⟨w.heap.size + 1, 1, none⟩ = false := BR.out.frozen 1
          have h2 : wu.frozen? ⟨w.heap.size + 1, 2, none⟩ = false := BR.out.frozen 2
          have h3 : wu.frozen? ⟨w.heap.size + 1, 3, none⟩ = false := BR.out.frozen 3
          have h4 : wu.frozen? ⟨w.heap.size + 1, 4, none⟩ = false := BR.out.frozen 4
          have h5 : wu.frozen? ⟨w.heap.size + 1, 5, none⟩ = false := BR.out.frozen 5
          have HNO := Lib.hid (show ShowNumber_ok W H xs a b ns (j : Int) v = false by rw [ShowNumber_ok, HC.out, Int.toNat_natCast, getD_of HX.out, show ((0 : Int) == 0) = true from rfl, hnv, show goodP W H xs a b (ns.set j v) = false by simpa using hgp]; rfl)
          go_wp2
          refine bodyPost_ret (v := .tuple #[pzv 0 0 none 0 0 0 0 none 0 0, .bool false]) (by simp [results, Try.results23, go_sem, y0, y1, y2, y3, y4, y5]) rfl ⟨none, 0, 0, none, 0, 0, by rw [HNO.out]; rfl, by rw [HNO.out]; exact OwnI.none_ _ _ _, by rw [HNO.out]; exact OwnI.none_ _ _ _, Apart.none_left _, ?_⟩
          repeat (first | refine below_setC ?_ (by omega) _ | exact B.out)
    · have hne0 : (x != 0) = true := by simpa using h0
      have hnx : (x == 0) = false := by simpa using h0
      have p0 : W2.cell? ⟨w.heap.size, 0, none⟩ = some (.int .i64 W) := BP.out.cell rfl
      have p1 : W2.cell? ⟨w.heap.size, 1, none⟩ = some (.int .i64 H) := BP.out.cell rfl
      have p2 : W2.cell? ⟨w.heap.size, 2, none⟩ = some (.slice A n c) := BP.out.cell rfl
      have p3 : W2.cell? ⟨w.heap.size, 3, none⟩ = some (.int .i64 a) := BP.out.cell rfl
      have p4 : W2.cell? ⟨w.heap.size, 4, none⟩ = some (.int .i64 b) := BP.out.cell rfl
      have p5 : W2.cell? ⟨w.heap.size, 5, none⟩ = some (.slice (some ⟨bb, oo, none⟩) n2 c2) := BP.out.cell rfl
      go_enter Try.func23, Try.ntmps23
      go_wp2_with fail
      rw [← hW2]
      clear hW2
      clear p0 p1 p2 p3 p4 p5
      refine (isPuzzleWith_any W H A n c a b _ n2 c2 xs ns (j : Int) _ (RA0.out.keep B.out) (RN0.out.keep B.out)).mono ?_
      rw [hc]
      rintro e wv ⟨rfl, hb⟩
      replace BP := Lib.hid (BP.out.keep hb)
      replace BR := Lib.hid (BR.out.keep hb)
      replace HSZ := Lib.hid (Nat.le_trans HSZ.out hb.size)
      replace B := Lib.hid (below_next B.out hb)
      clear hb
      have p5 : wv.cell? ⟨w.heap.size, 5, none⟩ = some (.slice (some ⟨bb, oo, none⟩) n2 c2) := BP.out.cell rfl
      replace x0 := cell_keep x0 hg1 B.out
      have y0 : wv.cell? ⟨w.heap.size + 1, 0, none⟩ = some (.int .i64 0) := BR.out.cell rfl
      have y1 : wv.cell? ⟨w.heap.size + 1, 1, none⟩ = some (.int .i64 0) := BR.out.cell rfl
      have y2 : wv.cell? ⟨w.heap.size + 1, 2, none⟩ = some (.slice none 0 0) := BR.out.cell rfl
      have y3 : wv.cell? ⟨w.heap.size + 1, 3, none⟩ = some (.int .i64 0) := BR.out.cell rfl
      have y4 : wv.cell? ⟨w.heap.size + 1, 4, none⟩ = some (.int .i64 0) := BR.out.cell rfl
      have y5 : wv.cell? ⟨w.heap.size + 1, 5, none⟩ = some (.slice none 0 0) := BR.out.cell rfl
      have h0 : wv.frozen? ⟨w.heap.size + 1, 0, none⟩ = false := BR.out.frozen 0
      have h1 : wv.frozen? ⟨w.heap.size + 1, 1, none⟩ = false := BR.out.frozen 1
      have h2 : wv.frozen? ⟨w.heap.size + 1, 2, none⟩ = false := BR.out.frozen 2
      have h3 : wv.frozen? ⟨w.heap.size + 1, 3, none⟩ = false := BR.out.frozen 3
      have h4 : wv.frozen? ⟨w.heap.size + 1, 4, none⟩ = false := BR.out.frozen 4
      have h5 : wv.frozen? ⟨w.heap.size + 1, 5, none⟩ = false := BR.out.frozen 5
      have HNO := Lib.hid (show ShowNumber_ok W H xs a b ns (j : Int) v = false by rw [ShowNumber_ok, HC.out, Int.toNat_natCast, getD_of HX.out, hnx]; rfl)
      go_wp2
      refine bodyPost_ret (v := .tuple #[pzv 0 0 none 0 0 0 0 none 0 0, .bool false]) (by simp [results, Try.results23, go_sem, y0, y1, y2, y3, y4, y5]) rfl ⟨none, 0, 0, none, 0, 0, by rw [HNO.out]; rfl, by rw [HNO.out]; exact OwnI.none_ _ _ _, by rw [HNO.out]; exact OwnI.none_ _ _ _, Apart.none_left _, ?_⟩
      repeat (first | refine below_setC ?_ (by omega) _ | exact B.out)

set_option maxRecDepth 100000 in
set_option maxHeartbeats 4000000 in
theorem spec_ShowNumber (W H : Int) (A : Option Addr) (n c : Nat) (a b : Int) (A2 : Option Addr) (n2 c2 : Nat) (xs ns : List Int) (q v : Int) (w : World) (ha : Rd w A n xs) (hp : Rd w A2 n2 ns) (hcap : n2 ≤ c2) :
    Calls Try.prog 22 #[pzv W H A n c a b A2 n2 c2, .int .i64 q, .int .i64 v] w fun e w' => ∃ A' n' c' A2' n2' c2', e = .returned (.tuple #[pzv (zi (ShowNumber_ok W H xs a b ns q v) W) (zi (ShowNumber_ok W H xs a b ns q v) H) A' n' c' (zi (ShowNumber_ok W H xs a b ns q v) a) (zi (ShowNumber_ok W H xs a b ns q v) b) A2' n2' c2', .bool (ShowNumber_ok W H xs a b ns q v)]) ∧ OwnI 3 w' w.heap.size A' n' c' (zl (ShowNumber_ok W H xs a b ns q v) (ShowNumber_xs W H xs a b ns q v)) ∧ OwnI 3 w' w.heap.size A2' n2' c2' (zl (ShowNumber_ok W H xs a b ns q v) (ShowNumber_ns W H xs a b ns q v)) ∧ Apart A' A2' ∧ Below w.heap.size w w' := by
  have RA0 := Lib.hid ha; have RN0 := Lib.hid hp
  have HL := Lib.hid hp.1; have HLA := Lib.hid ha.1
  clear ha hp
  obtain ⟨W2, hW2⟩ : ∃ W2, W2 = (w.alloc (.cells #[.int .i64 W, .int .i64 H, .slice A n c, .int .i64 a, .int .i64 b, .slice A2 n2 c2] 34)).alloc (.cells #[.int .i64 0, .int .i64 0, .slice none 0 0, .int .i64 0, .int .i64 0, .slice none 0 0] 34) := ⟨_, rfl⟩
  have BP := Lib.hid (show Bx W2 (w.heap.size) #[.int .i64 W, .int .i64 H, .slice A n c, .int .i64 a, .int .i64 b, .slice A2 n2 c2] 34 by rw [hW2]; exact (Bx.new (w) #[.int .i64 W, .int .i64 H, .slice A n c, .int .i64 a, .int .i64 b, .slice A2 n2 c2] 34).keep (below_new (Below.refl _ _) (.cells #[.int .i64 0, .int .i64 0, .slice none 0 0, .int .i64 0, .int .i64 0, .slice none 0 0] 34)))
  have BR := Lib.hid (show Bx W2 (w.heap.size + 1) #[.int .i64 0, .int .i64 0, .slice none 0 0, .int .i64 0, .int .i64 0, .slice none 0 0] 34 by rw [hW2]; have := Bx.new (w.alloc (.cells #[.int .i64 W, .int .i64 H, .slice A n c, .int .i64 a, .int .i64 b, .slice A2 n2 c2] 34)) #[.int .i64 0, .int .i64 0, .slice none 0 0, .int .i64 0, .int .i64 0, .slice none 0 0] 34; simpa using this)
  have B := Lib.hid (show Below w.heap.size w W2 by rw [hW2]; repeat (first | exact Below.refl _ _ | refine below_new ?_ _))
  have HSZ := Lib.hid (show w.heap.size + 2 ≤ W2.heap.size by rw [hW2]; simp)
  by_cases hc : cellP W H xs a b ns q = true
  rotate_left
  · have p0 : W2.cell? ⟨w.heap.size, 0, none⟩ = some (.int .i64 W) := BP.out.cell rfl
    have p1 : W2.cell? ⟨w.heap.size, 1, none⟩ = some (.int .i64 H) := BP.out.cell rfl
    have p2 : W2.cell? ⟨w.heap.size, 2, none⟩ = some (.slice A n c) := BP.out.cell rfl
    have p3 : W2.cell? ⟨w.heap.size, 3, none⟩ = some (.int .i64 a) := BP.out.cell rfl
    have p4 : W2.cell? ⟨w.heap.size, 4, none⟩ = some (.int .i64 b) := BP.out.cell rfl
    have p5 : W2.cell? ⟨w.heap.size, 5, none⟩ = some (.slice A2 n2 c2) := BP.out.cell rfl
    go_enter Try.func22, Try.ntmps22
    go_wp2_with fail
    rw [← hW2]
    clear hW2
    clear p0 p1 p2 p3 p4 p5
    refine (pzCell_any W H A n c a b A2 n2 c2 xs ns q _ (RA0.out.keep B.out) (RN0.out.keep B.out) hcap).mono ?_
    rw [show cellP W H xs a b ns q = false by simpa using hc]
    rintro e wv ⟨rfl, hb⟩
    replace BP := Lib.hid (BP.out.keep hb)
    replace BR := Lib.hid (BR.out.keep hb)
    replace HSZ := Lib.hid (Nat.le_trans HSZ.out hb.size)
    replace B := Lib.hid (below_next B.out hb)
    clear hb
    have y0 : wv.cell? ⟨w.heap.size + 1, 0, none⟩ = some (.int .i64 0) := BR.out.cell rfl
    have y1 : wv.cell? ⟨w.heap.size + 1, 1, none⟩ = some (.int .i64 0) := BR.out.cell rfl
    have y2 : wv.cell? ⟨w.heap.size + 1, 2, none⟩ = some (.slice none 0 0) := BR.out.cell rfl
    have y3 : wv.cell? ⟨w.heap.size + 1, 3, none⟩ = some (.int .i64 0) := BR.out.cell rfl
    have y4 : wv.cell? ⟨w.heap.size + 1, 4, none⟩ = some (.int .i64 0) := BR.out.cell rfl
    have y5 : wv.cell? ⟨w.heap.size + 1, 5, none⟩ = some (.slice none 0 0) := BR.out.cell rfl
    have h0 : wv.frozen? ⟨w.heap.size + 1, 0, none⟩ = false := BR.out.frozen 0
    have h1 : wv.frozen? ⟨w.heap.size + 1, 1, none⟩ = false := BR.out.frozen 1
    have h2 : wv.frozen? ⟨w.heap.size + 1, 2, none⟩ = false := BR.out.frozen 2
    have h3 : wv.frozen? ⟨w.heap.size + 1, 3, none⟩ = false := BR.out.frozen 3
    have h4 : wv.frozen? ⟨w.heap.size + 1, 4, none⟩ = false := BR.out.frozen 4
    have h5 : wv.frozen? ⟨w.heap.size + 1, 5, none⟩ = false := BR.out.frozen 5
    have HNO := Lib.hid (show ShowNumber_ok W H xs a b ns q v = false by rw [ShowNumber_ok, show cellP W H xs a b ns q = false by simpa using hc]; rfl)
    go_wp2
    refine bodyPost_ret (v := .tuple #[pzv 0 0 none 0 0 0 0 none 0 0, .bool false]) (by simp [results, Try.results22, go_sem, y0, y1, y2, y3, y4, y5]) rfl ⟨none, 0, 0, none, 0, 0, by rw [HNO.out]; rfl, by rw [HNO.out]; exact OwnI.none_ _ _ _, by rw [HNO.out]; exact OwnI.none_ _ _ _, Apart.none_left _, ?_⟩
    repeat (first | refine below_setC ?_ (by omega) _ | exact B.out)
  · obtain ⟨hg, hh, j, rfl, hj1, hj64, hx64⟩ := cellP_nat hc
    have HG := Lib.hid hg; have HC := Lib.hid hc
    have hj : j < n2 := by have := HL.out; omega
    have hn2 : n2 ≤ 1000 := by have := HL.out; omega
    have hn : n ≤ 1000 := by have := HLA.out; omega
    have hj0 : (0 : Int) ≤ (j : Int) := by omega
    have hj2 : (j : Int) < (n2 : Int) := by omega
    obtain ⟨bb, oo, x, rfl, hg1, hx, x0⟩ := RN0.out.at_ hj
    have HX := Lib.hid hx
    clear hx hg hh
    by_cases h0 : x = 0
    · by_cases hv : v = 0
      · subst h0
        subst hv
        have p0 : W2.cell? ⟨w.heap.size, 0, none⟩ = some (.int .i64 W) := BP.out.cell rfl
        have p1 : W2.cell? ⟨w.heap.size, 1, none⟩ = some (.int .i64 H) := BP.out.cell rfl
        have p2 : W2.cell? ⟨w.heap.size, 2, none⟩ = some (.slice A n c) := BP.out.cell rfl
        have p3 : W2.cell? ⟨w.heap.size, 3, none⟩ = some (.int .i64 a) := BP.out.cell rfl
        have p4 : W2.cell? ⟨w.heap.size, 4, none⟩ = some (.int .i64 b) := BP.out.cell rfl
        have p5 : W2.cell? ⟨w.heap.size, 5, none⟩ = some (.slice (some ⟨bb, oo, none⟩) n2 c2) := BP.out.cell rfl
        go_enter Try.func22, Try.ntmps22
        go_wp2_with fail
        rw [← hW2]
        clear hW2
        clear p0 p1 p2 p3 p4 p5
        refine (pzCell_any W H A n c a b _ n2 c2 xs ns (j : Int) _ (RA0.out.keep B.out) (RN0.out.keep B.out) hcap).mono ?_
        rw [hc]
        rintro e wv ⟨rfl, hb⟩
        replace BP := Lib.hid (BP.out.keep hb)
        replace BR := Lib.hid (BR.out.keep hb)
        replace HSZ := Lib.hid (Nat.le_trans HSZ.out hb.size)
        replace B := Lib.hid (below_next B.out hb)
        clear hb
        have p5 : wv.cell? ⟨w.heap.size, 5, none⟩ = some (.slice (some ⟨bb, oo, none⟩) n2 c2) := BP.out.cell rfl
        replace x0 := cell_keep x0 hg1 B.out
        have y0 : wv.cell? ⟨w.heap.size + 1, 0, none⟩ = some (.int .i64 0) := BR.out.cell rfl
        have y1 : wv.cell? ⟨w.heap.size + 1, 1, none⟩ = some (.int .i64 0) := BR.out.cell rfl
        have y2 : wv.cell? ⟨w.heap.size + 1, 2, none⟩ = some (.slice none 0 0) := BR.out.cell rfl
        have y3 : wv.cell? ⟨w.heap.size + 1, 3, none⟩ = some (.int .i64 0) := BR.out.cell rfl
        have y4 : wv.cell? ⟨w.heap.size + 1, 4, none⟩ = some (.int .i64 0) := BR.out.cell rfl
        have y5 : wv.cell? ⟨w.heap.size + 1, 5, none⟩ = some (.slice none 0 0) := BR.out.cell rfl
        have h0 : wv.frozen? ⟨w.heap.size + 1, 0, none⟩ = false := BR.out.frozen 0
        have h1 : wv.frozen? ⟨w.heap.size + 1, 1, none⟩ = false := BR.out.frozen 1
        have h2 : wv.frozen? ⟨w.heap.size + 1, 2, none⟩ = false := BR.out.frozen 2
        have h3 : wv.frozen? ⟨w.heap.size + 1, 3, none⟩ = false := BR.out.frozen 3
        have h4 : wv.frozen? ⟨w.heap.size + 1, 4, none⟩ = false := BR.out.frozen 4
        have h5 : wv.frozen? ⟨w.heap.size + 1, 5, none⟩ = false := BR.out.frozen 5
        have HNO := Lib.hid (show ShowNumber_ok W H xs a b ns (j : Int) 0 = false by rw [ShowNumber_ok, HC.out, Int.toNat_natCast, getD_of HX.out, show ((0 : Int) == 0) = true from rfl]; rfl)
        go_wp2
        refine bodyPost_ret (v := .tuple #[pzv 0 0 none 0 0 0 0 none 0 0, .bool false]) (by simp [results, Try.results22, go_sem, y0, y1, y2, y3, y4, y5]) rfl ⟨none, 0, 0, none, 0, 0, by rw [HNO.out]; rfl, by rw [HNO.out]; exact OwnI.none_ _ _ _, by rw [HNO.out]; exact OwnI.none_ _ _ _, Apart.none_left _, ?_⟩
        repeat (first | refine below_setC ?_ (by omega) _ | exact B.out)
      · by_cases hgp : goodP W H xs a b (ns.set j v) = true
        · subst h0
          have hnv : (v == 0) = false := by simpa using hv
          have p0 : W2.cell? ⟨w.heap.size, 0, none⟩ = some (.int .i64 W) := BP.out.cell rfl
          have p1 : W2.cell? ⟨w.heap.size, 1, none⟩ = some (.int .i64 H) := BP.out.cell rfl
          have p2 : W2.cell? ⟨w.heap.size, 2, none⟩ = some (.slice A n c) := BP.out.cell rfl
          have p3 : W2.cell? ⟨w.heap.size, 3, none⟩ = some (.int .i64 a) := BP.out.cell rfl
          have p4 : W2.cell? ⟨w.heap.size, 4, none⟩ = some (.int .i64 b) := BP.out.cell rfl
          have p5 : W2.cell? ⟨w.heap.size, 5, none⟩ = some (.slice (some ⟨bb, oo, none⟩) n2 c2) := BP.out.cell rfl
          go_enter Try.func22, Try.ntmps22
          go_wp2_with fail
          rw [← hW2]
          clear hW2
          clear p0 p1 p2 p3 p4 p5
          refine (pzCell_any W H A n c a b _ n2 c2 xs ns (j : Int) _ (RA0.out.keep B.out) (RN0.out.keep B.out) hcap).mono ?_
          rw [hc]
          rintro e wv ⟨rfl, hb⟩
          replace BP := Lib.hid (BP.out.keep hb)
          replace BR := Lib.hid (BR.out.keep hb)
          replace HSZ := Lib.hid (Nat.le_trans HSZ.out hb.size)
          replace B := Lib.hid (below_next B.out hb)
          clear hb
          have p5 : wv.cell? ⟨w.heap.size, 5, none⟩ = some (.slice (some ⟨bb, oo, none⟩) n2 c2) := BP.out.cell rfl
          replace x0 := cell_keep x0 hg1 B.out
          have p0 : wv.cell? ⟨w.heap.size, 0, none⟩ = some (.int .i64 W) := BP.out.cell rfl
          have p1 : wv.cell? ⟨w.heap.size, 1, none⟩ = some (.int .i64 H) := BP.out.cell rfl
          have p2 : wv.cell? ⟨w.heap.size, 2, none⟩ = some (.slice A n c) := BP.out.cell rfl
          have p3 : wv.cell? ⟨w.heap.size, 3, none⟩ = some (.int .i64 a) := BP.out.cell rfl
          have p4 : wv.cell? ⟨w.heap.size, 4, none⟩ = some (.int .i64 b) := BP.out.cell rfl
          go_wp2_with fail
          clear p0 p1 p2 p3 p4 p5
          refine (pzWith_any W H A n c a b _ n2 c2 xs ns j v _ (RA0.out.keep B.out) (RN0.out.keep B.out) hj hn hn2).mono ?_
          rintro e wx ⟨A', c', A2', c2', rfl, o1, o2, hap, hb⟩
          have OH := Lib.hid (o1.lower (show w.heap.size + 1 + 1 ≤ wv.heap.size by have := HSZ.out; omega)); have ON := Lib.hid (o2.lower (show w.heap.size + 1 + 1 ≤ wv.heap.size by have := HSZ.out; omega)); have HAP := Lib.hid hap
          clear o1 o2 hap
          replace BP := Lib.hid (BP.out.keep hb)
          replace BR := Lib.hid (BR.out.keep hb)
          replace HSZ := Lib.hid (Nat.le_trans HSZ.out hb.size)
          replace B := Lib.hid (below_next B.out hb)
          clear hb
          go_wp2_with fail
          refine (pzGood_any W H A' n c' a b A2' n2 c2' xs (ns.set j v) _ OH.out.rd ON.out.rd ON.out.cap).mono ?_
          rw [hgp]
          rintro e wu ⟨rfl, hb⟩
          replace BP := Lib.hid (BP.out.keep hb)
          replace BR := Lib.hid (BR.out.keep hb)
          replace HSZ := Lib.hid (Nat.le_trans HSZ.out hb.size)
          replace B := Lib.hid (below_next B.out hb)
          clear hb
          clear OH ON HAP x0
          have p0 : wu.cell? ⟨w.heap.size, 0, none⟩ = some (.int .i64 W) := BP.out.cell rfl
          have p1 : wu.cell? ⟨w.heap.size, 1, none⟩ = some (.int .i64 H) := BP.out.cell rfl
          have p2 : wu.cell? ⟨w.heap.size, 2, none⟩ = some (.slice A n c) := BP.out.cell rfl
          have p3 : wu.cell? ⟨w.heap.size, 3, none⟩ = some (.int .i64 a) := BP.out.cell rfl
          have p4 : wu.cell? ⟨w.heap.size, 4, none⟩ = some (.int .i64 b) := BP.out.cell rfl
          have p5 : wu.cell? ⟨w.heap.size, 5, none⟩ = some (.slice (some ⟨bb, oo, none⟩) n2 c2) := BP.out.cell rfl
          go_wp2_with fail
          clear p0 p1 p2 p3 p4 p5
          refine (pzWith_any W H A n c a b _ n2 c2 xs ns j v _ (RA0.out.keep B.out) (RN0.out.keep B.out) hj hn hn2).mono ?_
          rintro e wx ⟨A', c', A2', c2', rfl, o1, o2, hap, hb⟩
          have OH := Lib.hid (o1.lower (show w.heap.size + 1 + 1 ≤ wu.heap.size by have := HSZ.out; omega)); have ON := Lib.hid (o2.lower (show w.heap.size + 1 + 1 ≤ wu.heap.size by have := HSZ.out; omega)); have HAP := Lib.hid hap
          clear o1 o2 hap
          replace BP := Lib.hid (BP.out.keep hb)
          replace BR := Lib.hid (BR.out.keep hb)
          replace HSZ := Lib.hid (Nat.le_trans HSZ.out hb.size)
          replace B := Lib.hid (below_next B.out hb)
          clear hb
          have y0 : wx.cell? ⟨w.heap.size + 1, 0, none⟩ = some (.int .i64 0) := BR.out.cell rfl
          have y1 : wx.cell? ⟨w.heap.size + 1, 1, none⟩ = some (.int .i64 0) := BR.out.cell rfl
          have y2 : wx.cell? ⟨w.heap.size + 1, 2, none⟩ = some (.slice none 0 0) := BR.out.cell rfl
          have y3 : wx.cell? ⟨w.heap.size + 1, 3, none⟩ = some (.int .i64 0) := BR.out.cell rfl
          have y4 : wx.cell? ⟨w.heap.size + 1, 4, none⟩ = some (.int .i64 0) := BR.out.cell rfl
          have y5 : wx.cell? ⟨w.heap.size + 1, 5, none⟩ = some (.slice none 0 0) := BR.out.cell rfl
          have h0 : wx.frozen? ⟨w.heap.size + 1, 0, none⟩ = false := BR.out.frozen 0
          have h1 : wx.frozen? ⟨w.heap.size + 1, 1, none⟩ = false := BR.out.frozen 1
          have h2 : wx.frozen? ⟨w.heap.size + 1, 2, none⟩ = false := BR.out.frozen 2
          have h3 : wx.frozen? ⟨w.heap.size + 1, 3, none⟩ = false := BR.out.frozen 3
          have h4 : wx.frozen? ⟨w.heap.size + 1, 4, none⟩ = false := BR.out.frozen 4
          have h5 : wx.frozen? ⟨w.heap.size + 1, 5, none⟩ = false := BR.out.frozen 5
          have HOK := Lib.hid (show ShowNumber_ok W H xs a b ns (j : Int) v = true by rw [ShowNumber_ok, HC.out, Int.toNat_natCast, getD_of HX.out, show ((0 : Int) == 0) = true from rfl, hnv, hgp]; rfl)
          go_wp2
          refine bodyPost_ret (v := .tuple #[pzv W H A' n c' a b A2' n2 c2', .bool true]) (by simp [results, Try.results22, go_sem, y0, y1, y2, y3, y4, y5]) rfl ⟨A', n, c', A2', n2, c2', by rw [HOK.out]; rfl, ?_, ?_, HAP.out, ?_⟩
          · rw [HOK.out]
            show OwnI _ _ _ _ _ _ _
            refine OwnI.lower (lo := w.heap.size + 1 + 1) ?_ (by omega)
            repeat (first | refine own_setC ?_ (by omega) _ | exact OH.out)
          · rw [HOK.out]
            show OwnI _ _ _ _ _ _ _
            refine OwnI.lower (lo := w.heap.size + 1 + 1) ?_ (by omega)
            repeat (first | refine own_setC ?_ (by omega) _ | exact ON.out)
          · repeat (first | refine below_setC ?_ (by omega) _ | exact B.out)
        · subst h0
          have hnv : (v == 0) = false := by simpa using hv
          have p0 : W2.cell? ⟨w.heap.size, 0, none⟩ = some (.int .i64 W) := BP.out.cell rfl
          have p1 : W2.cell? ⟨w.heap.size, 1, none⟩ = some (.int .i64 H) := BP.out.cell rfl
          have p2 : W2.cell? ⟨w.heap.size, 2, none⟩ = some (.slice A n c) := BP.out.cell rfl
          have p3 : W2.cell? ⟨w.heap.size, 3, none⟩ = some (.int .i64 a) := BP.out.cell rfl
          have p4 : W2.cell? ⟨w.heap.size, 4, none⟩ = some (.int .i64 b) := BP.out.cell rfl
          have p5 : W2.cell? ⟨w.heap.size, 5, none⟩ = some (.slice (some ⟨bb, oo, none⟩) n2 c2) := BP.out.cell rfl
          go_enter Try.func22, Try.ntmps22
          go_wp2_with fail
          rw [← hW2]
          clear hW2
          clear p0 p1 p2 p3 p4 p5
          refine (pzCell_any W H A n c a b _ n2 c2 xs ns (j : Int) _ (RA0.out.keep B.out) (RN0.out.keep B.out) hcap).mono ?_
          rw [hc]
          rintro e wv ⟨rfl, hb⟩
          replace BP := Lib.hid (BP.out.keep hb)
          replace BR := Lib.hid (BR.out.keep hb)
          replace HSZ := Lib.hid (Nat.le_trans HSZ.out hb.size)
          replace B := Lib.hid (below_next B.out hb)
          clear hb
          have p5 : wv.cell? ⟨w.heap.size, 5, none⟩ = some (.slice (some ⟨bb, oo, none⟩) n2 c2) := BP.out.cell rfl
          replace x0 := cell_keep x0 hg1 B.out
          have p0 : wv.cell? ⟨w.heap.size, 0, none⟩ = some (.int .i64 W) := BP.out.cell rfl
          have p1 : wv.cell? ⟨w.heap.size, 1, none⟩ = some (.int .i64 H) := BP.out.cell rfl
          have p2 : wv.cell? ⟨w.heap.size, 2, none⟩ = some (.slice A n c) := BP.out.cell rfl
          have p3 : wv.cell? ⟨w.heap.size, 3, none⟩ = some (.int .i64 a) := BP.out.cell rfl
          have p4 : wv.cell? ⟨w.heap.size, 4, none⟩ = some (.int .i64 b) := BP.out.cell rfl
          go_wp2_with fail
          clear p0 p1 p2 p3 p4 p5
          refine (pzWith_any W H A n c a b _ n2 c2 xs ns j v _ (RA0.out.keep B.out) (RN0.out.keep B.out) hj hn hn2).mono ?_
          rintro e wx ⟨A', c', A2', c2', rfl, o1, o2, hap, hb⟩
          have OH := Lib.hid (o1.lower (show w.heap.size + 1 + 1 ≤ wv.heap.size by have := HSZ.out; omega)); have ON := Lib.hid (o2.lower (show w.heap.size + 1 + 1 ≤ wv.heap.size by have := HSZ.out; omega)); have HAP := Lib.hid hap
          clear o1 o2 hap
          replace BP := Lib.hid (BP.out.keep hb)
          replace BR := Lib.hid (BR.out.keep hb)
          replace HSZ := Lib.hid (Nat.le_trans HSZ.out hb.size)
          replace B := Lib.hid (below_next B.out hb)
          clear hb
          go_wp2_with fail
          refine (pzGood_any W H A' n c' a b A2' n2 c2' xs (ns.set j v) _ OH.out.rd ON.out.rd ON.out.cap).mono ?_
          rw [show goodP W H xs a b (ns.set j v) = false by simpa using hgp]
          rintro e wu ⟨rfl, hb⟩
          replace BP := Lib.hid (BP.out.keep hb)
          replace BR := Lib.hid (BR.out.keep hb)
          replace HSZ := Lib.hid (Nat.le_trans HSZ.out hb.size)
          replace B := Lib.hid (below_next B.out hb)
          clear hb
          clear OH ON HAP
          have y0 : wu.cell? ⟨w.heap.size + 1, 0, none⟩ = some (.int .i64 0) := BR.out.cell rfl
          have y1 : wu.cell? ⟨w.heap.size + 1, 1, none⟩ = some (.int .i64 0) := BR.out.cell rfl
          have y2 : wu.cell? ⟨w.heap.size + 1, 2, none⟩ = some (.slice none 0 0) := BR.out.cell rfl
          have y3 : wu.cell? ⟨w.heap.size + 1, 3, none⟩ = some (.int .i64 0) := BR.out.cell rfl
          have y4 : wu.cell? ⟨w.heap.size + 1, 4, none⟩ = some (.int .i64 0) := BR.out.cell rfl
          have y5 : wu.cell? ⟨w.heap.size + 1, 5, none⟩ = some (.slice none 0 0) := BR.out.cell rfl
          have h0 : wu.frozen? ⟨w.heap.size + 1, 0, none⟩ = false := BR.out.frozen 0
          have h1 : wu.frozen? ⟨w.heap.size + 1, 1, none⟩ = false := BR.out.frozen 1
          have h2 : wu.frozen? ⟨w.heap.size + 1, 2, none⟩ = false := BR.out.frozen 2
          have h3 : wu.frozen? ⟨w.heap.size + 1, 3, none⟩ = false := BR.out.frozen 3
          have h4 : wu.frozen? ⟨w.heap.size + 1, 4, none⟩ = false := BR.out.frozen 4
          have h5 : wu.frozen? ⟨w.heap.size + 1, 5, none⟩ = false := BR.out.frozen 5
          have HNO := Lib.hid (show ShowNumber_ok W H xs a b ns (j : Int) v = false by rw [ShowNumber_ok, HC.out, Int.toNat_natCast, getD_of HX.out, show ((0 : Int) == 0) = true from rfl, hnv, show goodP W H xs a b (ns.set j v) = false by simpa using hgp]; rfl)
          go_wp2
          refine bodyPost_ret (v := .tuple #[pzv 0 0 none 0 0 0 0 none 0 0, .bool false]) (by simp [results, Try.results22, go_sem, y0, y1, y2, y3, y4, y5]) rfl ⟨none, 0, 0, none, 0, 0, by rw [HNO.out]; rfl, by rw [HNO.out]; exact OwnI.none_ _ _ _, by rw [HNO.out]; exact OwnI.none_ _ _ _, Apart.none_left _, ?_⟩
          repeat (first | refine below_setC ?_ (by omega) _ | exact B.out)
    · have hne0 : (x != 0) = true := by simpa using h0
      have hnx : (x == 0) = false := by simpa using h0
      have p0 : W2.cell? ⟨w.heap.size, 0, none⟩ = some (.int .i64 W) := BP.out.cell rfl
      have p1 : W2.cell? ⟨w.heap.size, 1, none⟩ = some (.int .i64 H) := BP.out.cell rfl
      have p2 : W2.cell? ⟨w.heap.size, 2, none⟩ = some (.slice A n c) := BP.out.cell rfl
      have p3 : W2.cell? ⟨w.heap.size, 3, none⟩ = some (.int .i64 a) := BP.out.cell rfl
      have p4 : W2.cell? ⟨w.heap.size, 4, none⟩ = some (.int .i64 b) := BP.out.cell rfl
      have p5 : W2.cell? ⟨w.heap.size, 5, none⟩ = some (.slice (some ⟨bb, oo, none⟩) n2 c2) := BP.out.cell rfl
      go_enter Try.func22, Try.ntmps22
      go_wp2_with fail
      rw [← hW2]
      clear hW2
      clear p0 p1 p2 p3 p4 p5
      refine (pzCell_any W H A n c a b _ n2 c2 xs ns (j : Int) _ (RA0.out.keep B.out) (RN0.out.keep B.out) hcap).mono ?_
      rw [hc]
      rintro e wv ⟨rfl, hb⟩
      replace BP := Lib.hid (BP.out.keep hb)
      replace BR := Lib.hid (BR.out.keep hb)
      replace HSZ := Lib.hid (Nat.le_trans HSZ.out hb.size)
      replace B := Lib.hid (below_next B.out hb)
      clear hb
      have p5 : wv.cell? ⟨w.heap.size, 5, none⟩ = some (.slice (some ⟨bb, oo, none⟩) n2 c2) := BP.out.cell rfl
      replace x0 := cell_keep x0 hg1 B.out
      have y0 : wv.cell? ⟨w.heap.size + 1, 0, none⟩ = some (.int .i64 0) := BR.out.cell rfl
      have y1 : wv.cell? ⟨w.heap.size + 1, 1, none⟩ = some (.int .i64 0) := BR.out.cell rfl
      have y2 : wv.cell? ⟨w.heap.size + 1, 2, none⟩ = some (.slice none 0 0) := BR.out.cell rfl
      have y3 : wv.cell? ⟨w.heap.size + 1, 3, none⟩ = some (.int .i64 0) := BR.out.cell rfl
      have y4 : wv.cell? ⟨w.heap.size + 1, 4, none⟩ = some (.int .i64 0) := BR.out.cell rfl
      have y5 : wv.cell? ⟨w.heap.size + 1, 5, none⟩ = some (.slice none 0 0) := BR.out.cell rfl
      have h0 : wv.frozen? ⟨w.heap.size + 1, 0, none⟩ = false := BR.out.frozen 0
      have h1 : wv.frozen? ⟨w.heap.size + 1, 1, none⟩ = false := BR.out.frozen 1
      have h2 : wv.frozen? ⟨w.heap.size + 1, 2, none⟩ = false := BR.out.frozen 2
      have h3 : wv.frozen? ⟨w.heap.size + 1, 3, none⟩ = false := BR.out.frozen 3
      have h4 : wv.frozen? ⟨w.heap.size + 1, 4, none⟩ = false := BR.out.frozen 4
      have h5 : wv.frozen? ⟨w.heap.size + 1, 5, none⟩ = false := BR.out.frozen 5
      have HNO := Lib.hid (show ShowNumber_ok W H xs a b ns (j : Int) v = false by rw [ShowNumber_ok, HC.out, Int.toNat_natCast, getD_of HX.out, hnx]; rfl)
      go_wp2
      refine bodyPost_ret (v := .tuple #[pzv 0 0 none 0 0 0 0 none 0 0, .bool false]) (by simp [results, Try.results22, go_sem, y0, y1, y2, y3, y4, y5]) rfl ⟨none, 0, 0, none, 0, 0, by rw [HNO.out]; rfl, by rw [HNO.out]; exact OwnI.none_ _ _ _, by rw [HNO.out]; exact OwnI.none_ _ _ _, Apart.none_left _, ?_⟩
      repeat (first | refine below_setC ?_ (by omega) _ | exact B.out)

theorem apart_of_lt {g1 g2 : Nat} (h : g1 < g2) : Apart (some ⟨g1, 0, none⟩) (some ⟨g2, 0, none⟩) := fun y z hy hz => by
  injection hy with hy; injection hz with hz; rw [← hy, ← hz]; exact Nat.ne_of_lt h
theorem zl_le {ok : Bool} {l : List Int} {k : Nat} (h : ok = true → l.length ≤ k) : (zl ok l).length ≤ k := by
  cases ok with
  | true => exact h rfl
  | false => exact Nat.zero_le _
theorem len_HideNumber (W H : Int) (xs : List Int) (a b : Int) (ns : List Int) (q : Int) : (zl (HideNumber_ok W H xs a b ns q) (HideNumber_xs W H xs a b ns q)).length ≤ 1000000 ∧ (zl (HideNumber_ok W H xs a b ns q) (HideNumber_ns W H xs a b ns q)).length ≤ 1000000 := by
  constructor <;> refine zl_le fun h => ?_ <;> simp only [HideNumber_ok, Bool.and_eq_true] at h <;> obtain ⟨_, _, j, _, _, h1, h2⟩ := cellP_nat h.1
  · simp only [HideNumber_xs]; omega
  · simp only [HideNumber_ns, List.length_set]; omega
theorem len_ShowNumber (W H : Int) (xs : List Int) (a b : Int) (ns : List Int) (q v : Int) : (zl (ShowNumber_ok W H xs a b ns q v) (ShowNumber_xs W H xs a b ns q v)).length ≤ 1000000 ∧ (zl (ShowNumber_ok W H xs a b ns q v) (ShowNumber_ns W H xs a b ns q v)).length ≤ 1000000 := by
  constructor <;> refine zl_le fun h => ?_ <;> simp only [ShowNumber_ok, Bool.and_eq_true] at h <;> obtain ⟨_, _, j, _, _, h1, h2⟩ := cellP_nat h.1
  · simp only [ShowNumber_xs]; omega
  · simp only [ShowNumber_ns, List.length_set]; omega
end Go.Proofs.Ytkdfilhiljfanaa
