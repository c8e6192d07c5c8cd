/-
  An array of 144 ints, read at an index; distances of both sides.
-/
import Derived.Test.YtmmfjmgjkbplpaaT4
import Derived.Test.YtmmfjmgjkbplpaaT1
import Derived.Test.YtmmfjmgjkbplpaaT2
namespace Go.Proofs.Ytmmfjmgjkbplpaa
open Go.RowKit

theorem run_far (L : List Int) (_hl : L.length = 144) (q : Nat) (hq : q < 144) (v : Int) (hv : L[q]? = some v) (w : World) :
    (Instr.index 64 (.agg (L.map (Value.int .i64)).toArray) (.int .i64 (q : Int))).run Try.prog w = .ok (.int .i64 v) w := by
  have hu := Try.underlying64
  have hz := Try.sizeOf3
  have ha := Try.isAgg3
  simp [Instr.index, run_underlying hu, asIntOf, go_sem]
  rw [if_pos hq, hv]
  rfl

def distL (W H : Int) (xs : List Int) (a b p : Int) : List Int := farL (leapsL W H xs a b) (W * H).toNat p
def distV (W H : Int) (xs : List Int) (a b p q : Int) : Int := (distL W H xs a b p).getD q.toNat (-1)
/-- What holds where there are a leaper, a board and two cells. -/
structure OnFacts (W H : Int) (xs : List Int) (a b : Int) (N : Nat) : Prop where
  g : goodB W H xs = true
  l : leaperB a b = true
  wh : W * H = (N : Int)
  n : 1 ≤ N ∧ N ≤ 64
theorem on_facts {W H a b : Int} {xs : List Int} (h : okTwo W H xs a b = true) : OnFacts W H xs a b (W * H).toNat := by
  simp only [okTwo, Bool.and_eq_true] at h
  obtain ⟨h1, h2, _, _⟩ := goodB_iff.1 h.2
  have := cells_le h1 h2
  exact ⟨h.2, h.1, by omega, by omega⟩
theorem cells_in {W H a b : Int} {xs : List Int} {N : Nat} (h : OnFacts W H xs a b N) : ∀ x ∈ cellsL W H xs, 0 ≤ x ∧ x < 144 := fun x hx => by
  have := (hasB_iff.1 (cellsL_mem.1 hx)).1; have := h.wh; have := h.n; omega
theorem adj_in {W H a b : Int} {xs : List Int} : ∀ x, ∀ y ∈ leapsL W H xs a b x, y ∈ cellsL W H xs := fun _ _ hy => (List.mem_filter.1 hy).1
theorem dist_len {W H a b p : Int} {xs : List Int} {N : Nat} (h : OnFacts W H xs a b N) (hp : hasB W H xs p = true) : (distL W H xs a b p).length = N := by
  have hr := (hasB_iff.1 hp).1
  have e : (W * H).toNat = N := by have := h.wh; omega
  rw [distL, e]
  exact (bfs_ok (adj := leapsL W H xs a b) (N := N) (start := p) (by have := h.wh; omega) (fun c _ x hx => leaps_in h.wh hx) N).len
theorem far64 {W H a b p : Int} {xs : List Int} {N : Nat} (h : OnFacts W H xs a b N) (hp : hasB W H xs p = true) : farL (leapsL W H xs a b) 144 p = distL W H xs a b p ++ List.replicate (144 - N) (-1) := by
  have hr := (hasB_iff.1 hp).1
  have e : (W * H).toNat = N := by have := h.wh; omega
  rw [distL, e, ← far_pad (M := 144 - N) (by have := h.wh; omega) (fun c _ x hx => leaps_in h.wh hx), show N + (144 - N) = 144 by have := h.n; omega]
theorem dist_at {W H a b p : Int} {xs : List Int} {N : Nat} (h : OnFacts W H xs a b N) (hp : hasB W H xs p = true) {qn : Nat} (hq : qn < N) :
    (distL W H xs a b p)[qn]? = some (distV W H xs a b p (qn : Int)) ∧ -1 ≤ distV W H xs a b p (qn : Int) ∧ distV W H xs a b p (qn : Int) ≤ 64 := by
  have hr := (hasB_iff.1 hp).1
  have hlen := dist_len h hp
  have hx : (distL W H xs a b p)[qn]? = some (distL W H xs a b p)[qn] := List.getElem?_eq_getElem (by omega)
  have hv : distV W H xs a b p (qn : Int) = (distL W H xs a b p)[qn] := by rw [distV, Int.toNat_natCast, List.getD_eq_getElem?_getD, hx]; rfl
  rw [hv]
  refine ⟨hx, ?_⟩
  have e : (W * H).toNat = N := by have := h.wh; omega
  have hb := (bfs_ok (adj := leapsL W H xs a b) (N := N) (start := p) (by have := h.wh; omega) (fun c _ x hx => leaps_in h.wh hx) N).lo qn (distL W H xs a b p)[qn] (by rw [← hx, distL, e]; rfl)
  have := h.n; omega

theorem dist_in64 {W H a b p : Int} {xs : List Int} {N : Nat} (h : OnFacts W H xs a b N) (hp : hasB W H xs p = true) : ∀ x ∈ distL W H xs a b p, -1 ≤ x ∧ x ≤ 64 := fun x hx => by
  obtain ⟨i, hi, rfl⟩ := List.getElem_of_mem hx
  have hl := dist_len h hp
  have h9 := dist_at h hp (qn := i) (by omega)
  rw [List.getElem?_eq_getElem hi] at h9
  rw [Option.some.inj h9.1]
  exact h9.2
theorem far_bd {W H a b p : Int} {xs : List Int} {N : Nat} (h : OnFacts W H xs a b N) (hp : hasB W H xs p = true) : ∀ x ∈ farL (leapsL W H xs a b) 144 p, -1 ≤ x ∧ x ≤ 64 := fun x hx => by
  rw [far64 h hp] at hx
  rcases List.mem_append.1 hx with hx | hx
  · exact dist_in64 h hp x hx
  · have := (List.mem_replicate.1 hx).2; omega

def okDist (W H : Int) (xs : List Int) (a b p q : Int) : Bool := onB W H xs a b [p, q] && decide (0 ≤ distV W H xs a b p q)
def distBV (W H : Int) (xs : List Int) (a b p q : Int) : Int := if okDist W H xs a b p q then distV W H xs a b p q else 0
theorem onB_two {W H a b p q : Int} {xs : List Int} (h : onB W H xs a b [p, q] = true) : okTwo W H xs a b = true ∧ hasB W H xs p = true ∧ hasB W H xs q = true := by
  simp only [onB, Bool.and_eq_true, List.all_cons, List.all_nil, and_true] at h
  exact ⟨h.1, h.2.1, h.2.2⟩

end Go.Proofs.Ytmmfjmgjkbplpaa
