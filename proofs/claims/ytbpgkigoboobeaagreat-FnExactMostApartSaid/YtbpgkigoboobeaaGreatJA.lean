/-
  Contracts: paths and leaps on a board; DoLeapsCross.
-/
import Derived.Test.YtbpgkigoboobeaaGreatJ7
import Derived.Test.YtbpgkigoboobeaaGreatJ9
import Derived.Test.YtbpgkigoboobeaaGreatZ2
namespace Go.Proofs.YtbpgkigoboobeaaGreat
open Go.RowKit

def okPa (W H : Int) (xs : List Int) (a b : Int) (ps : List Int) : Bool := twoV W H xs a b && pathB W H xs a b ps
def lenB2 (ps : List Int) : Bool := decide (ps.length = 2)
theorem leapB_irr' {W a b p : Int} (hl : leaperB a b = true) : leapB W a b p p = false := by
  have h := hl
  simp only [leaperB, decide_eq_true_eq] at h
  simp only [leapB, Int.sub_self, absV, decide_eq_false_iff_not]
  simp; omega
theorem goes_leapJ {W H a b : Int} {hs : List Int} : ∀ (ps : List Int) (o : Option Int) (i : Nat) (x y : Int), goesB W H hs a b o ps = true → ps[i]? = some x → ps[i + 1]? = some y → leapB W a b x y = true
  | [], _, _, _, _, _, h, _ => by simp at h
  | [_], _, i, _, _, _, _, h => by simp at h
  | c :: d :: t, o, 0, x, y, h, h1, h2 => by
    simp only [List.getElem?_cons_zero, List.getElem?_cons_succ, Option.some.injEq] at h1 h2
    subst h1 h2
    simp only [goesB, Bool.and_eq_true] at h
    exact h.2.1.2
  | c :: d :: t, o, i + 1, x, y, h, h1, h2 => by
    have h3 : goesB W H hs a b (some c) (d :: t) = true := by
      simp only [goesB, Bool.and_eq_true] at h ⊢
      exact ⟨⟨h.2.1.1, h.2.1.2⟩, h.2.2⟩
    exact goes_leapJ (d :: t) (some c) i x y h3 (by simpa using h1) (by simpa using h2)
theorem leap_ne {W a b p q : Int} (hl : leaperB a b = true) (h : leapB W a b p q = true) : p ≠ q := fun e => by rw [e, leapB_irr' hl] at h; cases h
theorem two_leaper {W H a b : Int} {xs : List Int} (h : twoV W H xs a b = true) : leaperB a b = true := by simp only [twoV, Bool.and_eq_true] at h; exact h.2
theorem path_ne {W H a b : Int} {xs ps : List Int} (ht : twoV W H xs a b = true) (h : pathB W H xs a b ps = true) : ∀ i, i + 1 < ps.length → ps.getD i 0 ≠ ps.getD (i + 1) 0 := fun i hi => by
  have hx : ps[i]? = some ps[i] := List.getElem?_eq_getElem (by omega)
  have hy : ps[i + 1]? = some ps[i + 1] := List.getElem?_eq_getElem hi
  simp only [pathB, Bool.and_eq_true] at h
  rw [List.getD_eq_getElem?_getD, List.getD_eq_getElem?_getD, hx, hy]
  exact leap_ne (two_leaper ht) (goes_leapJ ps none i _ _ h.2 hx hy)
theorem okPa_two {W H a b : Int} {xs ps : List Int} (h : okPa W H xs a b ps = true) : twoV W H xs a b = true := by simp only [okPa, Bool.and_eq_true] at h; exact h.1
theorem okPa_path {W H a b : Int} {xs ps : List Int} (h : okPa W H xs a b ps = true) : pathB W H xs a b ps = true := by simp only [okPa, Bool.and_eq_true] at h; exact h.2
theorem okPa_W {W H a b : Int} {xs ps : List Int} (h : okPa W H xs a b ps = true) : 1 ≤ W ∧ W ≤ 8 := (goodB_iff.1 (two_gK (okPa_two h))).1
theorem okPa_64 {W H a b : Int} {xs ps : List Int} (h : okPa W H xs a b ps = true) : ∀ x ∈ ps, 0 ≤ x ∧ x < 64 := path_64 (two_gK (okPa_two h)) (okPa_path h)
theorem okPa_len {W H a b : Int} {xs ps : List Int} (h : okPa W H xs a b ps = true) : 1 ≤ ps.length ∧ ps.length ≤ 64 := path_len (okPa_path h)
theorem okPa_ne {W H a b : Int} {xs ps : List Int} (h : okPa W H xs a b ps = true) : ∀ i, i + 1 < ps.length → ps.getD i 0 ≠ ps.getD (i + 1) 0 := path_ne (okPa_two h) (okPa_path h)

set_option maxRecDepth 100000 in
set_option maxHeartbeats 1000000 in
theorem isPathOn_any (W H : Int) (A : Option Addr) (n c : Nat) (xs : List Int) (a b : Int) (A2 : Option Addr) (m c2 : Nat) (ps : List Int) (w : World) (ha : Rd w A n xs) (hp : Rd w A2 m ps) :
    Calls Tryz.prog 67 #[brd W H A n c, lpr a b, .slice A2 m c2] w fun e w' => e = .returned (.bool (okPa W H xs a b ps)) ∧ Below w.heap.size w w' := by
  by_cases ht : twoV W H xs a b = true
  · go_enter Tryz.func67, Tryz.ntmps67
    go_wp2_with fail
    refine (isOn0_any _ _ _ _ _ _ _ _ _ ((ha.alloc _).alloc _)).mono ?_
    rw [ht]
    rintro e wv ⟨rfl, hb⟩
    have hbx0 := below_box hb
    have a0 : wv.cell? ⟨w.heap.size, 0, none⟩ = some (.int .i64 W) := by simpa using newbox hbx0 0
    have a1 : wv.cell? ⟨w.heap.size, 1, none⟩ = some (.int .i64 H) := by simpa using newbox hbx0 1
    have a2 : wv.cell? ⟨w.heap.size, 2, none⟩ = some (.slice A n c) := by simpa using newbox hbx0 2
    have al : w.heap.size < wv.heap.size := by simpa using newbox_lt hbx0
    have l0 : wv.cell? ⟨w.heap.size + 1, 0, none⟩ = some (.int .i64 a) := by simpa using newbox hb 0
    have l1 : wv.cell? ⟨w.heap.size + 1, 1, none⟩ = some (.int .i64 b) := by simpa using newbox hb 1
    have ll : w.heap.size + 1 < wv.heap.size := by simpa using newbox_lt hb
    have B := Lib.hid (below_box hbx0)
    clear hb hbx0
    have HT := Lib.hid ht
    clear ht
    go_wp2_with fail
    refine (isPath_any W H A n c xs a b A2 m c2 ps _ (ha.keep B.out) (hp.keep B.out) (two_gK HT.out)).mono ?_
    rintro e wv ⟨rfl, hb⟩
    replace B := Lib.hid (below_next B.out hb)
    clear hb
    go_wp2
    go_ret
    exact ⟨ret_bool (by rw [okPa, HT.out]; rfl), B.out⟩
  · have ht' : twoV W H xs a b = false := by simpa using ht
    go_enter Tryz.func67, Tryz.ntmps67
    go_wp2_with fail
    refine (isOn0_any _ _ _ _ _ _ _ _ _ ((ha.alloc _).alloc _)).mono ?_
    rw [ht']
    rintro e wv ⟨rfl, hb⟩
    have hbx0 := below_box hb
    have a0 : wv.cell? ⟨w.heap.size, 0, none⟩ = some (.int .i64 W) := by simpa using newbox hbx0 0
    have a1 : wv.cell? ⟨w.heap.size, 1, none⟩ = some (.int .i64 H) := by simpa using newbox hbx0 1
    have a2 : wv.cell? ⟨w.heap.size, 2, none⟩ = some (.slice A n c) := by simpa using newbox hbx0 2
    have al : w.heap.size < wv.heap.size := by simpa using newbox_lt hbx0
    have l0 : wv.cell? ⟨w.heap.size + 1, 0, none⟩ = some (.int .i64 a) := by simpa using newbox hb 0
    have l1 : wv.cell? ⟨w.heap.size + 1, 1, none⟩ = some (.int .i64 b) := by simpa using newbox hb 1
    have ll : w.heap.size + 1 < wv.heap.size := by simpa using newbox_lt hb
    have B := Lib.hid (below_box hbx0)
    clear hb hbx0
    go_wp2
    go_ret
    exact ⟨ret_bool (by rw [okPa, ht']; rfl), B.out⟩

set_option maxRecDepth 100000 in
set_option maxHeartbeats 1000000 in
theorem crLeap_any (W H : Int) (A : Option Addr) (n c : Nat) (xs : List Int) (a b : Int) (A2 : Option Addr) (m c2 : Nat) (ps : List Int) (w : World) (ha : Rd w A n xs) (hp : Rd w A2 m ps) (hg : goodB W H xs = true) :
    Calls Tryz.prog 34 #[brd W H A n c, lpr a b, .slice A2 m c2] w fun e w' => e = .returned (.bool (lenB2 ps && pathB W H xs a b ps)) ∧ Below w.heap.size w w' := by
  have HPL := Lib.hid hp.1
  by_cases h2 : m = 2
  · have HL := Lib.hid (show lenB2 ps = true from decide_eq_true (by rw [hp.1, h2]))
    subst h2
    go_enter Tryz.func34, Tryz.ntmps34
    go_wp2_with fail
    refine (boPath_any W H A n c xs a b A2 _ c2 ps _ ((ha.alloc _).alloc _) ((hp.alloc _).alloc _) hg).mono ?_
    rintro e wv ⟨rfl, hb⟩
    have B := Lib.hid (below_box (below_box hb))
    clear hb
    go_wp2
    go_ret
    exact ⟨ret_bool (by rw [HL.out]; rfl), B.out⟩
  · have HL := Lib.hid (show lenB2 ps = false from decide_eq_false (by rw [hp.1]; exact h2))
    have h3 : ((m : Int) == 2) = false := by rw [beq_eq_false_iff_ne]; omega
    go_enter Tryz.func34, Tryz.ntmps34
    go_wp2
    go_ret
    exact ⟨ret_bool (by rw [HL.out]; rfl), below_new (below_new (Below.refl _ _) _) _⟩

set_option maxRecDepth 100000 in
set_option maxHeartbeats 1000000 in
theorem isLeapOn_any (W H : Int) (A : Option Addr) (n c : Nat) (xs : List Int) (a b : Int) (A2 : Option Addr) (m c2 : Nat) (ps : List Int) (w : World) (ha : Rd w A n xs) (hp : Rd w A2 m ps) :
    Calls Tryz.prog 37 #[brd W H A n c, lpr a b, .slice A2 m c2] w fun e w' => e = .returned (.bool (lenB2 ps && okPa W H xs a b ps)) ∧ Below w.heap.size w w' := by
  have HPL := Lib.hid hp.1
  by_cases h2 : m = 2
  · have HL := Lib.hid (show lenB2 ps = true from decide_eq_true (by rw [hp.1, h2]))
    subst h2
    go_enter Tryz.func37, Tryz.ntmps37
    go_wp2_with fail
    refine (isPathOn_any W H A n c xs a b A2 _ c2 ps _ ((ha.alloc _).alloc _) ((hp.alloc _).alloc _)).mono ?_
    rintro e wv ⟨rfl, hb⟩
    have B := Lib.hid (below_box (below_box hb))
    clear hb
    go_wp2
    go_ret
    exact ⟨ret_bool (by rw [HL.out]; rfl), B.out⟩
  · have HL := Lib.hid (show lenB2 ps = false from decide_eq_false (by rw [hp.1]; exact h2))
    have h3 : ((m : Int) == 2) = false := by rw [beq_eq_false_iff_ne]; omega
    go_enter Tryz.func37, Tryz.ntmps37
    go_wp2
    go_ret
    exact ⟨ret_bool (by rw [HL.out]; rfl), below_new (below_new (Below.refl _ _) _) _⟩

def okDo (W H : Int) (xs : List Int) (a b : Int) (ps qs : List Int) : Bool := twoV W H xs a b && ((lenB2 ps && pathB W H xs a b ps) && (lenB2 qs && pathB W H xs a b qs))
def doV (W H : Int) (xs : List Int) (a b : Int) (ps qs : List Int) : Bool := okDo W H xs a b ps qs && doB W (ps.getD 0 0) (ps.getD 1 0) (qs.getD 0 0) (qs.getD 1 0)
theorem okDo_impl (W H : Int) (xs : List Int) (a b : Int) (ps qs : List Int) : okDo W H xs a b ps qs = ((lenB2 ps && okPa W H xs a b ps) && (lenB2 qs && okPa W H xs a b qs)) := by
  rw [okDo, okPa, okPa]; cases twoV W H xs a b <;> simp
theorem lenB2_of {ps : List Int} (h : lenB2 ps = true) : ps.length = 2 := by simpa [lenB2] using h

end Go.Proofs.YtbpgkigoboobeaaGreat
