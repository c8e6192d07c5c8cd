/-
  Contracts: DistancesFrom.
-/
import Derived.Test.YtholjdllbhnldaaT5a
namespace Go.Proofs.Ytholjdllbhnldaa
open Go.RowKit

theorem onB_same {W H a b p : Int} {xs : List Int} : onB W H xs a b [p, p] = onB W H xs a b [p] := by simp [onB]
theorem onB_one {W H a b p : Int} {xs : List Int} (h : onB W H xs a b [p] = true) : okTwo W H xs a b = true ∧ hasB W H xs p = true := by
  simp only [onB, Bool.and_eq_true, List.all_cons, List.all_nil, and_true] at h
  exact h
def distFromV (W H : Int) (xs : List Int) (a b p : Int) : List Int := if onB W H xs a b [p] = true then distL W H xs a b p else []

end Go.Proofs.Ytholjdllbhnldaa
