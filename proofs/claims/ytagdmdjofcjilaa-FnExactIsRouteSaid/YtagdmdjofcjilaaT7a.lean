/-
  IsRoute: what is asked of a path, in plain terms.
-/
import Derived.Test.YtagdmdjofcjilaaT6b
import Derived.Test.YtagdmdjofcjilaaB15
namespace Go.Proofs.Ytagdmdjofcjilaa
open Go.RowKit

theorem goes_has {W H a b : Int} {hs : List Int} : ∀ (ps : List Int) (o : Option Int), goesB W H hs a b o ps = true → ∀ x ∈ ps, hasB W H hs x = true
  | [], _, _, x, hx => by simp at hx
  | y :: t, o, h, x, hx => by
    cases o with
    | none =>
      simp only [goesB, Bool.and_eq_true] at h
      rcases List.mem_cons.1 hx with rfl | hx
      · exact h.1.1
      · exact goes_has t _ h.2 x hx
    | some q =>
      simp only [goesB, Bool.and_eq_true] at h
      rcases List.mem_cons.1 hx with rfl | hx
      · exact h.1.1
      · exact goes_has t _ h.2 x hx
theorem path_has {W H a b : Int} {hs ps : List Int} (h : pathB W H hs a b ps = true) : 1 ≤ ps.length ∧ ps.length ≤ 64 ∧ ∀ x ∈ ps, hasB W H hs x = true := by
  simp only [pathB, Bool.and_eq_true, decide_eq_true_eq] at h
  exact ⟨h.1.1, h.1.2, goes_has ps _ h.2⟩
/-- Whether there is a path of the fewest leaps between its ends. -/
def routeB (W H : Int) (xs : List Int) (a b : Int) (ps : List Int) : Bool := pathB W H xs a b ps && decide (distV W H xs a b (ps.getD 0 0) (ps.getD (ps.length - 1) 0) = (ps.length : Int) - 1)
def isRouteV (W H : Int) (xs : List Int) (a b : Int) (ps : List Int) : Bool := okTwo W H xs a b && routeB W H xs a b ps

end Go.Proofs.Ytagdmdjofcjilaa
