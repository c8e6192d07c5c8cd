/-
  Cells on routes, in plain terms.
-/
import Derived.Test.YtagdmdjofcjilaaT8b
namespace Go.Proofs.Ytagdmdjofcjilaa
open Go.RowKit

def routeSel (D1 D2 : List Int) (d : Int) (i : Nat) : Bool := decide (0 ≤ D1.getD i (-1) ∧ 0 ≤ D2.getD i (-1) ∧ D1.getD i (-1) + D2.getD i (-1) = d)
def onRoutesV (W H : Int) (xs : List Int) (a b p q : Int) : List Int := if onB W H xs a b [p, q] = true then selTo (routeSel (distL W H xs a b p) (distL W H xs a b q) (distV W H xs a b p q)) (W * H).toNat else []
theorem sel_filter {W H : Int} {hs : List Int} (f : Int → Bool) : ∀ k : Nat, (cellsTo W H hs k).filter f = selTo (fun i => hasB W H hs (i : Int) && f (i : Int)) k
  | 0 => rfl
  | k + 1 => by
    have ih := sel_filter (W := W) (H := H) (hs := hs) f k
    cases hh : hasB W H hs (k : Int) with
    | false => rw [cellsTo_no hh, ih, selTo_no (by simp [hh])]
    | true =>
      rw [cellsTo_yes hh, List.filter_append, ih]
      cases hf : f (k : Int) with
      | false => rw [selTo_no (by simp [hf])]; simp [hf]
      | true => rw [selTo_yes (by simp [hh, hf])]; simp [hf]
theorem leaps_sym {W H a b : Int} {hs : List Int} (x y : Int) (hx : hasB W H hs x = true) (hy : y ∈ leapsL W H hs a b x) : hasB W H hs y = true ∧ x ∈ leapsL W H hs a b y := by
  rw [leapsL, List.mem_filter] at hy
  refine ⟨cellsL_mem.1 hy.1, ?_⟩
  rw [leapsL, List.mem_filter]
  exact ⟨cellsL_mem.2 hx, by rw [leapB_comm]; exact hy.2⟩
theorem dist_lo {W H a b p : Int} {xs : List Int} {N : Nat} (h : OnFacts W H xs a b N) (hp : hasB W H xs p = true) {i : Nat} (hi : i < N) : -1 ≤ (distL W H xs a b p).getD i (-1) ∧ (distL W H xs a b p).getD i (-1) ≤ 64 := by
  have hl := dist_len h hp
  rw [List.getD_eq_getElem?_getD, List.getElem?_eq_getElem (by omega)]
  have hm : (distL W H xs a b p)[i]'(by omega) ∈ farL (leapsL W H xs a b) 64 p := by rw [far64 h hp]; exact List.mem_append_left _ (List.getElem_mem _)
  exact far_bd h hp _ hm
theorem on_reach {W H a b p q : Int} {xs : List Int} {N : Nat} (h : OnFacts W H xs a b N) (hp : hasB W H xs p = true) (hq : hasB W H xs q = true) (hd : 0 ≤ (distL W H xs a b p).getD q.toNat (-1)) {i : Nat} (hi : i < N) {d : Int} (hd0 : 0 ≤ d) :
    (hasB W H xs (i : Int) && decide ((distL W H xs a b p).getD i (-1) + (distL W H xs a b q).getD i (-1) = d)) = routeSel (distL W H xs a b p) (distL W H xs a b q) d i := by
  have hN : (W * H).toNat = N := by have := h.wh; omega
  have rg : ∀ x, hasB W H xs x = true → 0 ≤ x ∧ x < (N : Int) := fun x hx => by have := (hasB_iff.1 hx).1; rw [h.wh] at this; exact this
  have had : ∀ c : Int, 0 ≤ c ∧ c < (N : Int) → ∀ x ∈ leapsL W H xs a b c, 0 ≤ x ∧ x < (N : Int) := fun c _ x hx => leaps_in h.wh hx
  have b1 := dist_lo h hp hi
  have b2 := dist_lo h hq hi
  have e1 : distL W H xs a b p = farL (leapsL W H xs a b) N p := by rw [distL, hN]
  have e2 : distL W H xs a b q = farL (leapsL W H xs a b) N q := by rw [distL, hN]
  have back : 0 ≤ (farL (leapsL W H xs a b) N q).getD p.toNat (-1) := by
    have := far_symm (C := fun x => hasB W H xs x = true) rg leaps_sym hp had (i := q.toNat) (by rw [← e1]; exact hd)
    have := this.2
    rwa [Int.toNat_of_nonneg (rg q hq).1] at this
  have iff1 : 0 ≤ (distL W H xs a b p).getD i (-1) → 0 ≤ (distL W H xs a b q).getD i (-1) := fun hA => by
    rw [e2]; rw [e1] at hA
    exact far_trans (rg q hq) (rg p hp) had back hA
  have iff2 : 0 ≤ (distL W H xs a b q).getD i (-1) → 0 ≤ (distL W H xs a b p).getD i (-1) := fun hB => by
    rw [e1]; rw [e2] at hB; rw [e1] at hd
    exact far_trans (rg p hp) (rg q hq) had hd hB
  by_cases hA : 0 ≤ (distL W H xs a b p).getD i (-1)
  · have hB := iff1 hA
    have hh : hasB W H xs (i : Int) = true := by
      have := far_symm (C := fun x => hasB W H xs x = true) rg leaps_sym hp had (i := i) (by rw [← e1]; exact hA)
      exact this.1
    rw [hh, routeSel]
    simp only [Bool.true_and, decide_eq_decide]
    exact ⟨fun h => ⟨hA, hB, h⟩, fun h => h.2.2⟩
  · have hB : ¬ 0 ≤ (distL W H xs a b q).getD i (-1) := fun h => hA (iff2 h)
    rw [routeSel, decide_eq_false (show ¬ (distL W H xs a b p).getD i (-1) + (distL W H xs a b q).getD i (-1) = d by omega), Bool.and_false, decide_eq_false (fun h => hA h.1)]

end Go.Proofs.Ytagdmdjofcjilaa
