/-
  Contracts: WidthOf.
-/
import Derived.Test.YtholjdllbhnldaaP4
namespace Go.Proofs.Ytholjdllbhnldaa
open Go.RowKit

/-- The greatest distance from a cell. -/
def farF (W H : Int) (xs : List Int) (a b c : Int) : Int := (distL W H xs a b c).getD (mostTo (distL W H xs a b c) (W * H).toNat).toNat (-1)
def widTo (W H : Int) (xs : List Int) (a b : Int) (k : Nat) : Int := ((cellsL W H xs).take k).foldl (fun m c => max m (farF W H xs a b c)) 0
def widthV (W H : Int) (xs : List Int) (a b : Int) : Int := if wholeV W H xs a b = true then widTo W H xs a b (cellsL W H xs).length else 0
theorem widTo_next {W H a b c : Int} {xs : List Int} {k : Nat} (hc : (cellsL W H xs)[k]? = some c) : widTo W H xs a b (k + 1) = max (widTo W H xs a b k) (farF W H xs a b c) := by
  rw [widTo, take_foldl _ hc]; rfl
theorem farF_most {W H a b c : Int} {xs : List Int} {N : Nat} (h : OnFacts W H xs a b N) (hp : hasB W H xs c = true) : ∃ j, IsMost (distL W H xs a b c) j ∧ farF W H xs a b c = (distL W H xs a b c).getD j (-1) := by
  have hr := (hasB_iff.1 hp).1
  have hN : (W * H).toNat = N := by have := h.wh; omega
  obtain ⟨j, ej, M⟩ := most_is (L := distL W H xs a b c) (k := c.toNat) (by rw [dist_len h hp]; have := h.wh; omega) (by rw [dist_self h hp]; omega)
  rw [dist_len h hp] at ej
  exact ⟨j, M, by rw [farF, hN, ej, Int.toNat_natCast]⟩
theorem farF_bd {W H a b c : Int} {xs : List Int} {N : Nat} (h : OnFacts W H xs a b N) (hp : hasB W H xs c = true) : 0 ≤ farF W H xs a b c ∧ farF W H xs a b c ≤ 64 := by
  obtain ⟨j, M, e⟩ := farF_most h hp
  rw [e]
  refine ⟨M.nn, ?_⟩
  rw [List.getD_eq_getElem?_getD, List.getElem?_eq_getElem M.lt]
  exact (dist_bd h hp _ (List.getElem_mem M.lt)).2
theorem farF_max {W H a b c : Int} {xs : List Int} {N : Nat} (h : OnFacts W H xs a b N) (hp : hasB W H xs c = true) : Go.Lib.maxOf (farL (leapsL W H xs a b) 64 c) = farF W H xs a b c := by
  obtain ⟨j, M, e⟩ := farF_most h hp
  rw [e]
  exact most_max M (far64 h hp)
theorem widTo_bd {W H a b : Int} {xs : List Int} {N : Nat} (h : OnFacts W H xs a b N) : ∀ k, 0 ≤ widTo W H xs a b k ∧ widTo W H xs a b k ≤ 64
  | 0 => by rw [widTo]; simp
  | k + 1 => by
    have ih := widTo_bd h k
    cases hc : (cellsL W H xs)[k]? with
    | none =>
      have e : widTo W H xs a b (k + 1) = widTo W H xs a b k := by rw [widTo, widTo, List.take_add_one, hc]; simp
      rw [e]; exact ih
    | some c =>
      rw [widTo_next hc]
      have := farF_bd h (cellsL_mem.1 (List.mem_of_getElem? hc))
      omega
set_option maxHeartbeats 400000 in
theorem l1Most2_any (x y : Int) (w : World) :
    Calls Try.prog 50 #[.int .i64 x, .int .i64 y] w fun e w' => e = .returned (.int .i64 (max x y)) ∧ Below w.heap.size w w' := by
  by_cases h : y < x
  · go_enter Try.func50, Try.ntmps50
    go_wp2
    go_ret
    exact ⟨ret_int (by omega), Below.refl _ _⟩
  · go_enter Try.func50, Try.ntmps50
    go_wp2
    go_ret
    exact ⟨ret_int (by omega), Below.refl _ _⟩

end Go.Proofs.Ytholjdllbhnldaa
