/-
  Contracts: IsWhole.
-/
import Derived.Test.YtholjdllbhnldaaP3
namespace Go.Proofs.Ytholjdllbhnldaa
open Go.RowKit

def wholeV (W H : Int) (xs : List Int) (a b : Int) : Bool := okTwo W H xs a b && decide ((partsL W H xs a b).length = 1)

theorem onB_nil2 {W H a b : Int} {xs : List Int} : onB W H xs a b [] = okTwo W H xs a b := by simp [onB]
set_option maxRecDepth 100000 in
set_option maxHeartbeats 2000000 in
theorem isWhole_any (W H : Int) (A : Option Addr) (n c : Nat) (xs : List Int) (a b : Int) (N lo0 mo : Nat) (w : World) (ha : Rd w A n xs) (hF : OnFacts W H xs a b N) (hom : OnMap w lo0 mo (cellsL W H xs) (leapsL W H xs a b)) :
    Calls Try.prog 33 #[brd W H A n c, .map (some mo)] w fun e w' => e = .returned (.bool (decide ((partsL W H xs a b).length = 1))) ∧ Below w.heap.size w w' := by
  have HOM := Lib.hid hom
  have HF := Lib.hid hF
  clear hom hF
  go_enter Try.func33, Try.ntmps33
  go_wp2_with fail
  refine (partsOf_any W H A n c xs a b N lo0 mo _ (ha.alloc _) HF.out (HOM.out.keep (below_new (Below.refl _ _) _))).mono ?_
  rintro e wx ⟨A', n', c', top, rfl, pa, hb⟩
  have hlen := pa.len
  have B := Lib.hid (below_box hb)
  clear pa hb
  by_cases h1 : n' = 1
  · subst h1
    go_wp2
    go_ret
    exact ⟨ret_bool (by rw [hlen]; rfl), B.out⟩
  · have h1' : ((n' : Int) == 1) = false := by simp; omega
    go_wp2
    go_ret
    exact ⟨ret_bool (by rw [hlen, show decide (n' = 1) = false by simpa using h1]), B.out⟩

end Go.Proofs.Ytholjdllbhnldaa
