/-
  Contracts: paths and leaps on a board; DoLeapsCross.
-/
import Derived.Test.YtadopgfpfbianaaJ7
import Derived.Test.YtadopgfpfbianaaJ9
import Derived.Test.YtadopgfpfbianaaZ2
namespace Go.Proofs.Ytadopgfpfbianaa
open Go.RowKit

def okPa (W H : Int) (xs : List Int) (a b : Int) (ps : List Int) : Bool := twoV W H xs a b && pathB W H xs a b ps
def lenB2 (ps : List Int) : Bool := decide (ps.length = 2)
theorem leapB_irr' {W a b p : Int} (hl : leaperB a b = true) : leapB W a b p p = false := by
  have h := hl
  simp only [leaperB, decide_eq_true_eq] at h
  simp only [leapB, Int.sub_self, absV, decide_eq_false_iff_not]
  simp; omega
theorem goes_leapJ {W H a b : Int} {hs : List Int} : ∀ (ps : List Int) (o : Option Int) (i : Nat) (x y : Int), goesB W H hs a b o ps = true → ps[i]? = some x → ps[i + 1]? = some y → leapB W a b x y = true
  | [], _, _, _, _, _, h, _ => by simp at h
  | [_], _, i, _, _, _, _, h => by simp at h
  | c :: d :: t, o, 0, x, y, h, h1, h2 => by
    simp only [List.getElem?_cons_zero, List.getElem?_cons_succ, Option.some.injEq] at h1 h2
    subst h1 h2
    simp only [goesB, Bool.and_eq_true] at h
    exact h.2.1.2
  | c :: d :: t, o, i + 1, x, y, h, h1, h2 => by
    have h3 : goesB W H hs a b (some c) (d :: t) = true := by
      simp only [goesB, Bool.and_eq_true] at h ⊢
      exact ⟨⟨h.2.1.1, h.2.1.2⟩, h.2.2⟩
    exact goes_leapJ (d :: t) (some c) i x y h3 (by simpa using h1) (by simpa using h2)
theorem leap_ne {W a b p q : Int} (hl : leaperB a b = true) (h : leapB W a b p q = true) : p ≠ q := fun e => by rw [e, leapB_irr' hl] at h; cases h
theorem two_leaper {W H a b : Int} {xs : List Int} (h : twoV W H xs a b = true) : leaperB a b = true := by simp only [twoV, Bool.and_eq_true] at h; exact h.2
theorem path_ne {W H a b : Int} {xs ps : List Int} (ht : twoV W H xs a b = true) (h : pathB W H xs a b ps = true) : ∀ i, i + 1 < ps.length → ps.getD i 0 ≠ ps.getD (i + 1) 0 := fun i hi => by
  have hx : ps[i]? = some ps[i] := List.getElem?_eq_getElem (by omega)
  have hy : ps[i + 1]? = some ps[i + 1] := List.getElem?_eq_getElem hi
  simp only [pathB, Bool.and_eq_true] at h
  rw [List.getD_eq_getElem?_getD, List.getD_eq_getElem?_getD, hx, hy]
  exact leap_ne (two_leaper ht) (goes_leapJ ps none i _ _ h.2 hx hy)
theorem okPa_two {W H a b : Int} {xs ps : List Int} (h : okPa W H xs a b ps = true) : twoV W H xs a b = true := by simp only [okPa, Bool.and_eq_true] at h; exact h.1
theorem okPa_path {W H a b : Int} {xs ps : List Int} (h : okPa W H xs a b ps = true) : pathB W H xs a b ps = true := by simp only [okPa, Bool.and_eq_true] at h; exact h.2
theorem okPa_W {W H a b : Int} {xs ps : List Int} (h : okPa W H xs a b ps = true) : 1 ≤ W ∧ W ≤ 8 := (goodB_iff.1 (two_gK (okPa_two h))).1
theorem okPa_64 {W H a b : Int} {xs ps : List Int} (h : okPa W H xs a b ps = true) : ∀ x ∈ ps, 0 ≤ x ∧ x < 64 := path_64 (two_gK (okPa_two h)) (okPa_path h)
theorem okPa_len {W H a b : Int} {xs ps : List Int} (h : okPa W H xs a b ps = true) : 1 ≤ ps.length ∧ ps.length ≤ 64 := path_len (okPa_path h)
theorem okPa_ne {W H a b : Int} {xs ps : List Int} (h : okPa W H xs a b ps = true) : ∀ i, i + 1 < ps.length → ps.getD i 0 ≠ ps.getD (i + 1) 0 := path_ne (okPa_two h) (okPa_path h)

def okDo (W H : Int) (xs : List Int) (a b : Int) (ps qs : List Int) : Bool := twoV W H xs a b && ((lenB2 ps && pathB W H xs a b ps) && (lenB2 qs && pathB W H xs a b qs))
def doV (W H : Int) (xs : List Int) (a b : Int) (ps qs : List Int) : Bool := okDo W H xs a b ps qs && doB W (ps.getD 0 0) (ps.getD 1 0) (qs.getD 0 0) (qs.getD 1 0)
theorem okDo_impl (W H : Int) (xs : List Int) (a b : Int) (ps qs : List Int) : okDo W H xs a b ps qs = ((lenB2 ps && okPa W H xs a b ps) && (lenB2 qs && okPa W H xs a b qs)) := by
  rw [okDo, okPa, okPa]; cases twoV W H xs a b <;> simp
theorem lenB2_of {ps : List Int} (h : lenB2 ps = true) : ps.length = 2 := by simpa [lenB2] using h

end Go.Proofs.Ytadopgfpfbianaa
