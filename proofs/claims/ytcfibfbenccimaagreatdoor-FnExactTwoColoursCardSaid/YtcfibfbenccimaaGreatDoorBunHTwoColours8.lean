/-
  An array of 144 ints, read at an index; distances of both sides.
  Contracts: DistancesFrom.
  Plain facts: which cells a search in width reaches; cells picked by a test.
  Plain facts: counts by distance, the first of the greatest distances.
  Contracts: arrays of distances: the greatest one, how many cells have each of them.
  The store of an array of 144 ints into a block just laid.
  Contracts: DistancesFrom, the program.
  Cells picked by their distances, from arrays of 144: cellsWithin, reached.
  Contracts: whether a number lies in bounds; whether it is one of leaps.
  Cells picked by their distances; the contract of CellsWithin, the model.
  Contracts: CellsWithin, the program.
  Contracts: the first of the greatest distances; FarthestFrom, the model.
  Contracts: FarthestFrom, the program.
  Rows of booleans, rows of slices: memory words of no law (split from P1: imports no chapter 2).
  Parts, in plain terms: the first cell that no part has begins the next one.
-/
import Derived.Test.YtcfibfbenccimaaGreatDoorBunHTwoColours7
import Derived.Test.YtcfibfbenccimaaGreatDoorBunHTwoColours6
import Derived.Lib.Slices
import Derived.Test.YtcfibfbenccimaaGreatDoorBunHTwoColours2
import Derived.Deep.MidRow
import Derived.Deep.WholeRow
import Derived.Great.BuildSlice
import Derived.Deep.RegionHeld3
namespace Go.Proofs.YtcfibfbenccimaaGreatDoor
open Go.RowKit

theorem run_far (L : List Int) (_hl : L.length = 144) (q : Nat) (hq : q < 144) (v : Int) (hv : L[q]? = some v) (w : World) :
    (Instr.index 84 (.agg (L.map (Value.int .i64)).toArray) (.int .i64 (q : Int))).run Tryz.prog w = .ok (.int .i64 v) w := by
  have hu := Tryz.underlying84
  have hz := Tryz.sizeOf3
  have ha := Tryz.isAgg3
  simp [Instr.index, run_underlying hu, asIntOf, go_sem]
  rw [if_pos hq, hv]
  rfl

def distL (W H : Int) (xs : List Int) (a b p : Int) : List Int := farL (leapsL W H xs a b) (W * H).toNat p
def distV (W H : Int) (xs : List Int) (a b p q : Int) : Int := (distL W H xs a b p).getD q.toNat (-1)
/-- What holds where there are a leaper, a board and two cells. -/
structure OnFacts (W H : Int) (xs : List Int) (a b : Int) (N : Nat) : Prop where
  g : goodB W H xs = true
  l : leaperB a b = true
  wh : W * H = (N : Int)
  n : 1 ≤ N ∧ N ≤ 64
theorem on_facts {W H a b : Int} {xs : List Int} (h : okTwo W H xs a b = true) : OnFacts W H xs a b (W * H).toNat := by
  simp only [okTwo, Bool.and_eq_true] at h
  obtain ⟨h1, h2, _, _⟩ := goodB_iff.1 h.2
  have := cells_le h1 h2
  exact ⟨h.2, h.1, by omega, by omega⟩
theorem cells_in {W H a b : Int} {xs : List Int} {N : Nat} (h : OnFacts W H xs a b N) : ∀ x ∈ cellsL W H xs, 0 ≤ x ∧ x < 144 := fun x hx => by
  have := (hasB_iff.1 (cellsL_mem.1 hx)).1; have := h.wh; have := h.n; omega
theorem adj_in {W H a b : Int} {xs : List Int} : ∀ x, ∀ y ∈ leapsL W H xs a b x, y ∈ cellsL W H xs := fun _ _ hy => (List.mem_filter.1 hy).1
theorem dist_len {W H a b p : Int} {xs : List Int} {N : Nat} (h : OnFacts W H xs a b N) (hp : hasB W H xs p = true) : (distL W H xs a b p).length = N := by
  have hr := (hasB_iff.1 hp).1
  have e : (W * H).toNat = N := by have := h.wh; omega
  rw [distL, e]
  exact (bfs_ok (adj := leapsL W H xs a b) (N := N) (start := p) (by have := h.wh; omega) (fun c _ x hx => leaps_in h.wh hx) N).len
theorem far64 {W H a b p : Int} {xs : List Int} {N : Nat} (h : OnFacts W H xs a b N) (hp : hasB W H xs p = true) : farL (leapsL W H xs a b) 144 p = distL W H xs a b p ++ List.replicate (144 - N) (-1) := by
  have hr := (hasB_iff.1 hp).1
  have e : (W * H).toNat = N := by have := h.wh; omega
  rw [distL, e, ← far_pad (M := 144 - N) (by have := h.wh; omega) (fun c _ x hx => leaps_in h.wh hx), show N + (144 - N) = 144 by have := h.n; omega]
theorem dist_at {W H a b p : Int} {xs : List Int} {N : Nat} (h : OnFacts W H xs a b N) (hp : hasB W H xs p = true) {qn : Nat} (hq : qn < N) :
    (distL W H xs a b p)[qn]? = some (distV W H xs a b p (qn : Int)) ∧ -1 ≤ distV W H xs a b p (qn : Int) ∧ distV W H xs a b p (qn : Int) ≤ 64 := by
  have hr := (hasB_iff.1 hp).1
  have hlen := dist_len h hp
  have hx : (distL W H xs a b p)[qn]? = some (distL W H xs a b p)[qn] := List.getElem?_eq_getElem (by omega)
  have hv : distV W H xs a b p (qn : Int) = (distL W H xs a b p)[qn] := by rw [distV, Int.toNat_natCast, List.getD_eq_getElem?_getD, hx]; rfl
  rw [hv]
  refine ⟨hx, ?_⟩
  have e : (W * H).toNat = N := by have := h.wh; omega
  have hb := (bfs_ok (adj := leapsL W H xs a b) (N := N) (start := p) (by have := h.wh; omega) (fun c _ x hx => leaps_in h.wh hx) N).lo qn (distL W H xs a b p)[qn] (by rw [← hx, distL, e]; rfl)
  have := h.n; omega

theorem dist_in64 {W H a b p : Int} {xs : List Int} {N : Nat} (h : OnFacts W H xs a b N) (hp : hasB W H xs p = true) : ∀ x ∈ distL W H xs a b p, -1 ≤ x ∧ x ≤ 64 := fun x hx => by
  obtain ⟨i, hi, rfl⟩ := List.getElem_of_mem hx
  have hl := dist_len h hp
  have h9 := dist_at h hp (qn := i) (by omega)
  rw [List.getElem?_eq_getElem hi] at h9
  rw [Option.some.inj h9.1]
  exact h9.2
theorem far_bd {W H a b p : Int} {xs : List Int} {N : Nat} (h : OnFacts W H xs a b N) (hp : hasB W H xs p = true) : ∀ x ∈ farL (leapsL W H xs a b) 144 p, -1 ≤ x ∧ x ≤ 64 := fun x hx => by
  rw [far64 h hp] at hx
  rcases List.mem_append.1 hx with hx | hx
  · exact dist_in64 h hp x hx
  · have := (List.mem_replicate.1 hx).2; omega

def okDist (W H : Int) (xs : List Int) (a b p q : Int) : Bool := onB W H xs a b [p, q] && decide (0 ≤ distV W H xs a b p q)
def distBV (W H : Int) (xs : List Int) (a b p q : Int) : Int := if okDist W H xs a b p q then distV W H xs a b p q else 0
theorem onB_two {W H a b p q : Int} {xs : List Int} (h : onB W H xs a b [p, q] = true) : okTwo W H xs a b = true ∧ hasB W H xs p = true ∧ hasB W H xs q = true := by
  simp only [onB, Bool.and_eq_true, List.all_cons, List.all_nil, and_true] at h
  exact ⟨h.1, h.2.1, h.2.2⟩

end Go.Proofs.YtcfibfbenccimaaGreatDoor

namespace Go.Proofs.YtcfibfbenccimaaGreatDoor
open Go.RowKit

theorem onB_same {W H a b p : Int} {xs : List Int} : onB W H xs a b [p, p] = onB W H xs a b [p] := by simp [onB]
theorem onB_one {W H a b p : Int} {xs : List Int} (h : onB W H xs a b [p] = true) : okTwo W H xs a b = true ∧ hasB W H xs p = true := by
  simp only [onB, Bool.and_eq_true, List.all_cons, List.all_nil, and_true] at h
  exact h
def distFromV (W H : Int) (xs : List Int) (a b p : Int) : List Int := if onB W H xs a b [p] = true then distL W H xs a b p else []

end Go.Proofs.YtcfibfbenccimaaGreatDoor

namespace Go.Proofs.YtcfibfbenccimaaGreatDoor

theorem visit_from {S : Int → Prop} {d : Int} : ∀ (l far q : List Int), (∀ x ∈ l, S x) → (∀ x ∈ q, S x) → ∀ x ∈ (visit d l (far, q)).2, S x
  | [], _, _, _, h => h
  | y :: t, far, q, hl, h => by
    rw [visit]
    split
    · exact visit_from t _ _ (fun z hz => hl z (List.mem_cons_of_mem _ hz)) (fun z hz => by
        rcases List.mem_append.1 hz with hz | hz
        · exact h z hz
        · simp at hz; subst hz; exact hl _ List.mem_cons_self)
    · exact visit_from t _ _ (fun z hz => hl z (List.mem_cons_of_mem _ hz)) h
theorem bfs_from {S : Int → Prop} {adj : Int → List Int} {N : Nat} {start : Int} (hs : S start) (ha : ∀ x, S x → ∀ y ∈ adj x, S y) : ∀ k : Nat, ∀ x ∈ (bfsTo adj N start k).2, S x
  | 0, x, hx => by simp [bfsTo] at hx; subst hx; exact hs
  | k + 1, x, hx => by
    rw [bfsTo, bfsStep] at hx
    split at hx
    · exact bfs_from hs ha k x hx
    · rename_i c hc
      exact visit_from _ _ _ (ha _ (bfs_from hs ha k _ (List.mem_of_getElem? hc))) (bfs_from hs ha k) x hx
/-- Each place that has a distance has been reached. -/
def Known (far q : List Int) : Prop := ∀ i : Nat, 0 ≤ far.getD i (-1) → (i : Int) ∈ q
theorem visit_known {d : Int} : ∀ (l far q : List Int), (∀ x ∈ l, 0 ≤ x) → Known far q → Known (visit d l (far, q)).1 (visit d l (far, q)).2
  | [], _, _, _, h => h
  | x :: t, far, q, hl, h => by
    have hx := hl x List.mem_cons_self
    rw [visit]
    split
    · refine visit_known t _ _ (fun z hz => hl z (List.mem_cons_of_mem _ hz)) (fun i hi => ?_)
      by_cases e : x.toNat = i
      · rw [show (i : Int) = x by omega]; simp
      · rw [List.getD_eq_getElem?_getD, List.getElem?_set_ne e, ← List.getD_eq_getElem?_getD] at hi
        exact List.mem_append_left _ (h i hi)
    · exact visit_known t _ _ (fun z hz => hl z (List.mem_cons_of_mem _ hz)) h
theorem visit_pre {d : Int} {k : Nat} {x : Int} : ∀ (l far q : List Int), q[k]? = some x → (visit d l (far, q)).2[k]? = some x
  | [], _, _, h => h
  | y :: t, far, q, h => by
    rw [visit]
    split
    · exact visit_pre t _ _ (by
        have : k < q.length := (List.getElem?_eq_some_iff.1 h).1
        rw [List.getElem?_append_left this]; exact h)
    · exact visit_pre t _ _ h
theorem visit_covers {d : Int} (hd : 0 ≤ d + 1) : ∀ (l far q : List Int), (∀ x ∈ l, 0 ≤ x ∧ x < (far.length : Int)) → ∀ y ∈ l, 0 ≤ (visit d l (far, q)).1.getD y.toNat 0
  | [], _, _, _, y, hy => by simp at hy
  | x :: t, far, q, hl, y, hy => by
    have hx := hl x List.mem_cons_self
    rw [visit]
    rcases List.mem_cons.1 hy with rfl | hy
    · split
      · rw [visit_keeps t _ _ (by rw [getD_set_same (by omega)]; exact hd), getD_set_same (by omega)]; exact hd
      · rename_i hn
        rw [visit_keeps t _ _ (by omega)]; omega
    · split
      · exact visit_covers hd t _ _ (fun z hz => by simpa using hl z (List.mem_cons_of_mem _ hz)) y hy
      · exact visit_covers hd t _ _ (fun z hz => hl z (List.mem_cons_of_mem _ hz)) y hy
section
variable {adj : Int → List Int} {N : Nat} {start : Int}
theorem bfs_known (hs : 0 ≤ start ∧ start < N) (ha : ∀ c : Int, 0 ≤ c ∧ c < N → ∀ x ∈ adj c, 0 ≤ x ∧ x < N) : ∀ k : Nat, Known (bfsTo adj N start k).1 (bfsTo adj N start k).2
  | 0 => fun i hi => by
    simp only [bfsTo] at hi ⊢
    by_cases e : start.toNat = i
    · rw [show (i : Int) = start by omega]; simp
    · rw [List.getD_eq_getElem?_getD, List.getElem?_set_ne e, List.getElem?_replicate] at hi
      split at hi <;> simp at hi
  | k + 1 => by
    rw [bfsTo, bfsStep]
    split
    · exact bfs_known hs ha k
    · rename_i c hc
      exact visit_known _ _ _ (fun x hx => (ha c ((bfs_ok hs ha k).range c (List.mem_of_getElem? hc)) x hx).1) (bfs_known hs ha k)
/-- What lies before the queue's head leads nowhere new. -/
theorem bfs_done (hs : 0 ≤ start ∧ start < N) (ha : ∀ c : Int, 0 ≤ c ∧ c < N → ∀ x ∈ adj c, 0 ≤ x ∧ x < N) : ∀ (k j : Nat), j < k → ∀ x, (bfsTo adj N start k).2[j]? = some x → ∀ y ∈ adj x, 0 ≤ (bfsTo adj N start k).1.getD y.toNat 0
  | 0, j, hj, _, _, _, _ => absurd hj (by omega)
  | k + 1, j, hj, x, hx, y, hy => by
    cases hc : (bfsTo adj N start k).2[k]? with
    | none =>
      have e : bfsTo adj N start (k + 1) = bfsTo adj N start k := by rw [bfsTo, bfsStep, hc]
      rw [e] at hx ⊢
      have hj' : j < k := by
        rcases Nat.lt_or_ge j k with h | h
        · exact h
        · obtain rfl : j = k := by omega
          rw [hc] at hx; cases hx
      exact bfs_done hs ha k j hj' x hx y hy
    | some c =>
      have e := bfs_next hc
      have hok := bfs_ok hs ha k
      have hcr := hok.range c (List.mem_of_getElem? hc)
      have hc0 := hok.seen c (List.mem_of_getElem? hc)
      have hkl := (List.getElem?_eq_some_iff.1 hc).1
      rw [e] at hx ⊢
      by_cases hjk : j = k
      · subst hjk
        have hp : (visit ((bfsTo adj N start j).1.getD c.toNat 0) (adj c) (bfsTo adj N start j)).2[j]? = some c := visit_pre (adj c) _ _ hc
        rw [hp] at hx
        injection hx with hx
        subst hx
        exact visit_covers (by omega) (adj c) _ _ (by rw [hok.len]; exact ha c hcr) y hy
      · have hz : (bfsTo adj N start k).2[j]? = some (bfsTo adj N start k).2[j] := List.getElem?_eq_getElem (by omega)
        have hp : (visit ((bfsTo adj N start k).1.getD c.toNat 0) (adj c) (bfsTo adj N start k)).2[j]? = some (bfsTo adj N start k).2[j] := visit_pre (adj c) _ _ hz
        rw [hp] at hx
        injection hx with hx
        have h0 := bfs_done hs ha k j (by omega) x (by rw [hz, hx]) y hy
        have h2 : (visit ((bfsTo adj N start k).1.getD c.toNat 0) (adj c) (bfsTo adj N start k)).1.getD y.toNat 0 = (bfsTo adj N start k).1.getD y.toNat 0 := visit_keeps (adj c) _ _ h0
        rw [h2]; exact h0
theorem bfs_start (hs : 0 ≤ start ∧ start < N) : ∀ k : Nat, (bfsTo adj N start k).1.getD start.toNat 0 = 0
  | 0 => by rw [bfsTo, getD_set_same (by simp; omega)]
  | k + 1 => by
    rw [bfsTo, bfsStep]
    split
    · exact bfs_start hs k
    · rename_i c hc
      have h2 : (visit ((bfsTo adj N start k).1.getD c.toNat 0) (adj c) (bfsTo adj N start k)).1.getD start.toNat 0 = (bfsTo adj N start k).1.getD start.toNat 0 := visit_keeps (adj c) _ _ (by rw [bfs_start hs k]; omega)
      rw [h2]; exact bfs_start hs k
theorem getD_lt {L : List Int} {i : Nat} (h : i < L.length) (a b : Int) : L.getD i a = L.getD i b := by
  rw [List.getD_eq_getElem?_getD, List.getD_eq_getElem?_getD, List.getElem?_eq_getElem h]; rfl
theorem far_len (hs : 0 ≤ start ∧ start < N) (ha : ∀ c : Int, 0 ≤ c ∧ c < N → ∀ x ∈ adj c, 0 ≤ x ∧ x < N) : (farL adj N start).length = N := (bfs_ok hs ha N).len
/-- Whoever is reached reaches on. -/
theorem far_step (hs : 0 ≤ start ∧ start < N) (ha : ∀ c : Int, 0 ≤ c ∧ c < N → ∀ x ∈ adj c, 0 ≤ x ∧ x < N) {x y : Int} (hx : 0 ≤ x) (hf : 0 ≤ (farL adj N start).getD x.toNat (-1)) (hy : y ∈ adj x) : 0 ≤ (farL adj N start).getD y.toNat (-1) := by
  have hq := bfs_known hs ha N x.toNat hf
  rw [Int.toNat_of_nonneg hx] at hq
  obtain ⟨j, hj, hjx⟩ := List.getElem_of_mem hq
  have hql := bfs_q_len hs ha N
  have hxr := (bfs_ok hs ha N).range x hq
  have h := bfs_done hs ha N j (by omega) x (by rw [List.getElem?_eq_getElem hj, hjx]) y hy
  have hyr := ha x hxr y hy
  rw [farL, getD_lt (by rw [(bfs_ok hs ha N).len]; omega) (-1) 0]
  exact h
theorem far_from {S : Int → Prop} (hs : 0 ≤ start ∧ start < N) (ha : ∀ c : Int, 0 ≤ c ∧ c < N → ∀ x ∈ adj c, 0 ≤ x ∧ x < N) (h0 : S start) (hcl : ∀ x, S x → ∀ y ∈ adj x, S y) {i : Nat} (hf : 0 ≤ (farL adj N start).getD i (-1)) : S (i : Int) :=
  bfs_from h0 hcl N _ (bfs_known hs ha N i hf)
theorem far_start (hs : 0 ≤ start ∧ start < N) (ha : ∀ c : Int, 0 ≤ c ∧ c < N → ∀ x ∈ adj c, 0 ≤ x ∧ x < N) : (farL adj N start).getD start.toNat (-1) = 0 := by
  rw [getD_lt (by rw [far_len hs ha]; omega) (-1) 0]; exact bfs_start hs N
end
theorem far_trans {adj : Int → List Int} {N : Nat} {p q : Int} (hp : 0 ≤ p ∧ p < N) (hq : 0 ≤ q ∧ q < N) (ha : ∀ c : Int, 0 ≤ c ∧ c < N → ∀ x ∈ adj c, 0 ≤ x ∧ x < N) (h1 : 0 ≤ (farL adj N p).getD q.toNat (-1)) {r : Nat} (h2 : 0 ≤ (farL adj N q).getD r (-1)) : 0 ≤ (farL adj N p).getD r (-1) := by
  have h := far_from (S := fun y => (0 ≤ y ∧ y < N) ∧ 0 ≤ (farL adj N p).getD y.toNat (-1)) hq ha ⟨hq, h1⟩ (fun x hx y hy => ⟨ha x hx.1 y hy, far_step hp ha hx.1.1 hx.2 hy⟩) h2
  have := h.2
  rwa [Int.toNat_natCast] at this
theorem far_symm {adj : Int → List Int} {N : Nat} {C : Int → Prop} (hC : ∀ x, C x → 0 ≤ x ∧ x < (N : Int)) (hsym : ∀ x y, C x → y ∈ adj x → C y ∧ x ∈ adj y) {p : Int} (hp : C p) (ha : ∀ c : Int, 0 ≤ c ∧ c < N → ∀ x ∈ adj c, 0 ≤ x ∧ x < N) {i : Nat} (hf : 0 ≤ (farL adj N p).getD i (-1)) : C (i : Int) ∧ 0 ≤ (farL adj N (i : Int)).getD p.toNat (-1) := by
  refine far_from (S := fun y => C y ∧ 0 ≤ (farL adj N y).getD p.toNat (-1)) (hC p hp) ha ⟨hp, by rw [far_start (hC p hp) ha]; omega⟩ (fun x hx y hy => ?_) hf
  obtain ⟨hCy, hxy⟩ := hsym x y hx.1 hy
  refine ⟨hCy, ?_⟩
  have h1 : 0 ≤ (farL adj N y).getD x.toNat (-1) := far_step (hC y hCy) ha (hC y hCy).1 (by rw [far_start (hC y hCy) ha]; omega) hxy
  exact far_trans (hC y hCy) (hC x hx.1) ha h1 hx.2

/-! ### Cells picked by a test -/
def selTo (f : Nat → Bool) : Nat → List Int
  | 0 => []
  | k + 1 => if f k then selTo f k ++ [(k : Int)] else selTo f k
theorem selTo_yes {f : Nat → Bool} {k : Nat} (h : f k = true) : selTo f (k + 1) = selTo f k ++ [(k : Int)] := by rw [selTo, if_pos h]
theorem selTo_no {f : Nat → Bool} {k : Nat} (h : f k = false) : selTo f (k + 1) = selTo f k := by rw [selTo, if_neg (by simp [h])]
theorem selTo_len (f : Nat → Bool) : ∀ k, (selTo f k).length ≤ k
  | 0 => Nat.le_refl _
  | k + 1 => by
    have := selTo_len f k
    rw [selTo]; split
    · rw [List.length_append]; simp; omega
    · omega
theorem selTo_congr {f g : Nat → Bool} : ∀ k, (∀ i, i < k → f i = g i) → selTo f k = selTo g k
  | 0, _ => rfl
  | k + 1, h => by rw [selTo, selTo, h k (by omega), selTo_congr k (fun i hi => h i (by omega))]
theorem selTo_stop {f : Nat → Bool} {N : Nat} (h : ∀ i, N ≤ i → f i = false) {k : Nat} (hk : N ≤ k) : selTo f k = selTo f N := by
  induction k with
  | zero => rw [show N = 0 by omega]
  | succ k ih =>
    by_cases e : N = k + 1
    · rw [e]
    · rw [selTo_no (h k (by omega)), ih (by omega)]
theorem selTo_none {f : Nat → Bool} (k : Nat) (h : ∀ i, i < k → f i = false) : selTo f k = [] := by
  rw [selTo_congr (g := fun _ => false) k h]
  induction k with
  | zero => rfl
  | succ k ih => rw [selTo_no rfl, ih (fun i hi => h i (by omega))]
theorem selTo_mem {f : Nat → Bool} {x : Int} : ∀ {k : Nat}, x ∈ selTo f k ↔ ∃ i, i < k ∧ f i = true ∧ x = (i : Int)
  | 0 => by simp [selTo]
  | k + 1 => by
    rw [selTo]
    split
    · rename_i hf
      rw [List.mem_append, selTo_mem]
      constructor
      · rintro (⟨i, hi, h⟩ | h)
        · exact ⟨i, by omega, h⟩
        · exact ⟨k, by omega, hf, by simpa using h⟩
      · rintro ⟨i, hi, h1, h2⟩
        by_cases e : i = k
        · subst e; right; simp [h2]
        · exact .inl ⟨i, by omega, h1, h2⟩
    · rename_i hf
      rw [selTo_mem]
      constructor
      · rintro ⟨i, hi, h⟩; exact ⟨i, by omega, h⟩
      · rintro ⟨i, hi, h1, h2⟩
        by_cases e : i = k
        · subst e; exact absurd h1 hf
        · exact ⟨i, by omega, h1, h2⟩

end Go.Proofs.YtcfibfbenccimaaGreatDoor

namespace Go.Proofs.YtcfibfbenccimaaGreatDoor

/-! ### Counts -/
def padTo (l : List Int) (n : Nat) : List Int := l ++ List.replicate (n - l.length) 0
def bump (l : List Int) (i : Nat) : List Int := l.set i (l.getD i 0 + 1)
def cntStep (out : List Int) (x : Int) : List Int := if x < 0 then out else bump (padTo out (x.toNat + 1)) x.toNat
def cntL (L : List Int) : List Int := L.foldl cntStep []
def bumpStep (c : List Int) (x : Int) : List Int := if x < 0 then c else bump c x.toNat
theorem padTo_len (l : List Int) (n : Nat) : (padTo l n).length = max l.length n := by rw [padTo, List.length_append, List.length_replicate]; omega
theorem padTo_self {l : List Int} {n : Nat} (h : n ≤ l.length) : padTo l n = l := by rw [padTo, show n - l.length = 0 by omega]; simp
theorem padTo_nil (n : Nat) : padTo [] n = List.replicate n 0 := by simp [padTo]
theorem padTo_succ {l : List Int} {n : Nat} (h : l.length ≤ n) : padTo l (n + 1) = padTo l n ++ [0] := by
  rw [padTo, padTo, show n + 1 - l.length = (n - l.length) + 1 by omega, List.replicate_succ', List.append_assoc]
theorem padTo_padTo {l : List Int} {m n : Nat} (h : m ≤ n) : padTo (padTo l m) n = padTo l n := by
  rcases Nat.le_total m l.length with h1 | h1
  · rw [padTo_self h1]
  · have e : (padTo l m).length = m := by rw [padTo_len]; omega
    rw [padTo, e, padTo, padTo, List.append_assoc, List.replicate_append_replicate, show m - l.length + (n - m) = n - l.length by omega]
theorem bump_len (l : List Int) (i : Nat) : (bump l i).length = l.length := by rw [bump, List.length_set]
theorem bump_pad {l : List Int} {i n : Nat} (h : i < l.length) : bump (padTo l n) i = padTo (bump l i) n := by
  rw [bump, padTo, padTo, bump_len, List.getD_eq_getElem?_getD, List.getElem?_append_left h, ← List.getD_eq_getElem?_getD, List.set_append_left _ _ h, bump]
theorem cnt_pad {M : Nat} : ∀ (L out : List Int), (∀ x ∈ L, x < M) → out.length ≤ M → L.foldl bumpStep (padTo out M) = padTo (L.foldl cntStep out) M ∧ (L.foldl cntStep out).length ≤ M
  | [], _, _, h => ⟨rfl, h⟩
  | x :: t, out, hL, h => by
    rw [List.foldl_cons, List.foldl_cons]
    have ht := fun y hy => hL y (List.mem_cons_of_mem x hy)
    have hx := hL x List.mem_cons_self
    by_cases hn : x < 0
    · rw [bumpStep, cntStep, if_pos hn, if_pos hn]; exact cnt_pad t out ht h
    · rw [bumpStep, cntStep, if_neg hn, if_neg hn]
      have e : bump (padTo out M) x.toNat = padTo (bump (padTo out (x.toNat + 1)) x.toNat) M := by
        rw [← bump_pad (by rw [padTo_len]; omega), padTo_padTo (by omega)]
      rw [e]
      exact cnt_pad t _ ht (by rw [bump_len, padTo_len]; omega)
theorem cnt_len : ∀ (L out : List Int) (m : Nat), out.length ≤ m → (∃ x ∈ L, x.toNat + 1 = m ∧ 0 ≤ x) → (∀ x ∈ L, x < m) → (L.foldl cntStep out).length = m
  | [], _, _, _, h, _ => by obtain ⟨x, hx, _⟩ := h; simp at hx
  | x :: t, out, m, ho, h, hL => by
    have ht := fun y hy => hL y (List.mem_cons_of_mem x hy)
    have hx := hL x List.mem_cons_self
    rw [List.foldl_cons]
    obtain ⟨y, hy, e, h0⟩ := h
    have ho2 : (cntStep out x).length ≤ m := by
      rw [cntStep]; split
      · exact ho
      · rw [bump_len, padTo_len]; omega
    by_cases hm : ∃ z ∈ t, z.toNat + 1 = m ∧ 0 ≤ z
    · exact cnt_len t _ m ho2 hm ht
    · have exy : y = x := by
        rcases List.mem_cons.1 hy with h1 | h1
        · exact h1
        · exact absurd ⟨y, h1, e, h0⟩ hm
      subst exy
      have e2 : (cntStep out y).length = m := by rw [cntStep, if_neg (by omega), bump_len, padTo_len]; omega
      have h3 := (cnt_pad (M := m) t (cntStep out y) ht (by omega)).1
      rw [padTo_self (by omega)] at h3
      have h4 : ∀ (l c : List Int), (l.foldl bumpStep c).length = c.length := by
        intro l
        induction l with
        | nil => intro c; rfl
        | cons z l ih => intro c; rw [List.foldl_cons, ih, bumpStep]; split; rfl; rw [bump_len]
      have h5 := (cnt_pad (M := m) t (cntStep out y) ht (by omega)).2
      have h6 : ∀ (l c : List Int), c.length ≤ (l.foldl cntStep c).length := by
        intro l
        induction l with
        | nil => intro c; exact Nat.le_refl _
        | cons z l ih =>
          intro c
          rw [List.foldl_cons]
          refine Nat.le_trans ?_ (ih _)
          rw [cntStep]; split
          · exact Nat.le_refl _
          · rw [bump_len, padTo_len]; omega
      have := h6 t (cntStep out y)
      omega
theorem bumpStep_len (L c : List Int) : (L.foldl bumpStep c).length = c.length := by
  induction L generalizing c with
  | nil => rfl
  | cons z l ih => rw [List.foldl_cons, ih, bumpStep]; split; rfl; rw [bump_len]
theorem bump_minus (m : Nat) (c : List Int) : (List.replicate m (-1)).foldl bumpStep c = c := by
  induction m with
  | zero => rfl
  | succ m ih => rw [List.replicate_succ, List.foldl_cons, bumpStep, if_pos (by omega), ih]
theorem take_foldl {α β : Type} (f : β → α → β) {L : List α} {k : Nat} {x : α} (h : L[k]? = some x) (z : β) : (L.take (k + 1)).foldl f z = f ((L.take k).foldl f z) x := by
  rw [List.take_add_one, h, List.foldl_append]; rfl
/-- Both counts are the same where the greatest distance is met. -/
theorem cnt_both {L : List Int} {g : Nat} (hm : (g : Int) ∈ L) (hle : ∀ x ∈ L, x ≤ (g : Int)) (m : Nat) : (L ++ List.replicate m (-1)).foldl bumpStep (List.replicate (g + 1) 0) = cntL L ∧ (cntL L).length = g + 1 := by
  have hlt : ∀ x ∈ L, x < ((g + 1 : Nat) : Int) := fun x hx => by have := hle x hx; omega
  have h1 := cnt_pad (M := g + 1) L [] hlt (by simp)
  have h2 := cnt_len L [] (g + 1) (by simp) ⟨_, hm, by omega, by omega⟩ hlt
  rw [List.foldl_append, bump_minus, ← padTo_nil, h1.1, padTo_self (by omega)]
  exact ⟨rfl, h2⟩

/-! ### The first of the greatest -/
def mostTo (L : List Int) : Nat → Int
  | 0 => -1
  | k + 1 => if 0 ≤ L.getD k (-1) ∧ (mostTo L k < 0 ∨ L.getD (mostTo L k).toNat (-1) < L.getD k (-1)) then (k : Int) else mostTo L k
/-- What holds of the first of the greatest among the first k. -/
def MostOk (L : List Int) (k : Nat) (b : Int) : Prop := (b = -1 ∧ ∀ i, i < k → L.getD i (-1) < 0) ∨ ∃ j : Nat, b = (j : Int) ∧ j < k ∧ 0 ≤ L.getD j (-1) ∧ (∀ i, i < k → L.getD i (-1) ≤ L.getD j (-1)) ∧ ∀ i, i < j → L.getD i (-1) < L.getD j (-1)
theorem mostTo_ok (L : List Int) : ∀ k, MostOk L k (mostTo L k)
  | 0 => .inl ⟨rfl, fun i hi => absurd hi (by omega)⟩
  | k + 1 => by
    have h := mostTo_ok L k
    rw [mostTo]
    rcases h with ⟨e, h⟩ | ⟨j, e, hj, h0, hle, hlt⟩
    · rw [e]
      by_cases hk : 0 ≤ L.getD k (-1)
      · rw [if_pos ⟨hk, .inl (by omega)⟩]
        refine .inr ⟨k, rfl, by omega, hk, fun i hi => ?_, fun i hi => by have := h i hi; omega⟩
        rcases Nat.lt_or_ge i k with h1 | h1
        · have := h i h1; omega
        · rw [show i = k by omega]; exact Int.le_refl _
      · rw [if_neg (fun h => hk h.1)]
        refine .inl ⟨rfl, fun i hi => ?_⟩
        rcases Nat.lt_or_ge i k with h1 | h1
        · exact h i h1
        · rw [show i = k by omega]; omega
    · rw [e, Int.toNat_natCast]
      by_cases hk : L.getD j (-1) < L.getD k (-1)
      · rw [if_pos ⟨by omega, .inr hk⟩]
        refine .inr ⟨k, rfl, by omega, by omega, fun i hi => ?_, fun i hi => by have := hle i hi; omega⟩
        rcases Nat.lt_or_ge i k with h1 | h1
        · have := hle i h1; omega
        · rw [show i = k by omega]; exact Int.le_refl _
      · rw [if_neg (fun h => by rcases h.2 with h | h <;> omega)]
        refine .inr ⟨j, rfl, by omega, h0, fun i hi => ?_, hlt⟩
        rcases Nat.lt_or_ge i k with h1 | h1
        · exact hle i h1
        · rw [show i = k by omega]; omega
/-- The first of the greatest, and this. -/
structure IsMost (L : List Int) (j : Nat) : Prop where
  lt : j < L.length
  nn : 0 ≤ L.getD j (-1)
  le : ∀ i, L.getD i (-1) ≤ L.getD j (-1)
  first : ∀ i, i < j → L.getD i (-1) < L.getD j (-1)
theorem most_is {L : List Int} {k : Nat} (hk : k < L.length) (h0 : 0 ≤ L.getD k (-1)) : ∃ j : Nat, mostTo L L.length = (j : Int) ∧ IsMost L j := by
  rcases mostTo_ok L L.length with ⟨_, h⟩ | ⟨j, e, hj, hn, hle, hlt⟩
  · have := h k hk; omega
  · refine ⟨j, e, hj, hn, fun i => ?_, hlt⟩
    rcases Nat.lt_or_ge i L.length with h1 | h1
    · exact hle i h1
    · have : L.getD i (-1) = -1 := by rw [List.getD_eq_getElem?_getD, List.getElem?_eq_none h1]; rfl
      omega
theorem max_of {L : List Int} {g : Int} (hne : L ≠ []) (hm : g ∈ L) (hle : ∀ x ∈ L, x ≤ g) : Go.Lib.maxOf L = g := by
  have key : ∀ (l : List Int) (z : Int), (∀ x ∈ l, x ≤ g) → z ≤ g → (g ∈ l ∨ z = g) → l.foldl max z = g := by
    intro l
    induction l with
    | nil => intro z _ _ h; rcases h with h | h; simp at h; exact h
    | cons y t ih =>
      intro z hl hz h
      rw [List.foldl_cons]
      have hy := hl y List.mem_cons_self
      refine ih _ (fun x hx => hl x (List.mem_cons_of_mem _ hx)) (by omega) ?_
      rcases h with h | h
      · rcases List.mem_cons.1 h with h | h
        · right; omega
        · exact .inl h
      · right; omega
  cases L with
  | nil => exact absurd rfl hne
  | cons y t => exact key _ _ hle (hle y List.mem_cons_self) (.inl hm)
theorem idx_of {L : List Int} {j : Nat} {g : Int} (hj : j < L.length) (h : L.getD j 0 = g) (hne : ∀ i, i < j → L.getD i 0 ≠ g) : Go.Lib.idxOf L g = (j : Int) := by
  have := Go.Lib.idxOf_hit L L.length j g hj (Nat.le_refl _) h hne
  rwa [List.take_length] at this

end Go.Proofs.YtcfibfbenccimaaGreatDoor

namespace Go.Proofs.YtcfibfbenccimaaGreatDoor
open Go.RowKit

theorem cell_laid (w : World) (L : List Int) (E : TypeId) : ∀ j, j < L.length → (w.alloc (.cells (L.map (Value.int .i64)).toArray E)).cell? ⟨w.heap.size, 0 + j, none⟩ = some (.int .i64 (L.getD j 0)) := by
  intro j hj
  have h := newbox (w := w) (w' := w.alloc (.cells (L.map (Value.int .i64)).toArray E)) (cs := (L.map (Value.int .i64)).toArray) (t := E) (Below.refl _ _) j
  rw [Nat.zero_add, h, ← Array.getElem?_toList, List.toList_toArray, List.getElem?_map, List.getElem?_eq_getElem hj, List.getD_eq_getElem?_getD, List.getElem?_eq_getElem hj]
  rfl
theorem range_laid (w : World) (L : List Int) (E : TypeId) : (w.alloc (.cells (L.map (Value.int .i64)).toArray E)).rangeAt w.heap.size 0 (L.map (Value.int .i64)) := fun j v hv => by
  have h := newbox (w := w) (w' := w.alloc (.cells (L.map (Value.int .i64)).toArray E)) (cs := (L.map (Value.int .i64)).toArray) (t := E) (Below.refl _ _) j
  rw [Nat.zero_add, h, ← Array.getElem?_toList, List.toList_toArray]; exact hv
theorem range_keep {w w' : World} {g o : Nat} {cs : List Value} (h : w.rangeAt g o cs) (hg : g < w.heap.size) (hb : Below w.heap.size w w') : w'.rangeAt g o cs := fun j v hv => cell_keep (h j v hv) hg hb
theorem range_cells {w : World} {g : Nat} {L : List Int} (h : ∀ j, j < L.length → w.cell? ⟨g, 0 + j, none⟩ = some (.int .i64 (L.getD j 0))) : w.rangeAt g 0 (L.map (Value.int .i64)) := fun j v hv => by
  rw [List.getElem?_map] at hv
  cases hj : L[j]? with
  | none => rw [hj] at hv; cases hv
  | some y =>
    rw [hj] at hv
    injection hv with hv
    have hjl : j < L.length := (List.getElem?_eq_some_iff.1 hj).1
    rw [← hv, h j hjl, List.getD_eq_getElem?_getD, hj]; rfl
theorem bump_bd (D : List Int) (m : Nat) : ∀ (k : Nat) (v : Int), v ∈ (D.take k).foldl bumpStep (List.replicate m 0) → 0 ≤ v ∧ v ≤ (k : Int)
  | 0, v, h => by
    rw [List.take_zero] at h
    have := (List.mem_replicate.1 h).2; omega
  | k + 1, v, h => by
    cases hx : D[k]? with
    | none =>
      rw [List.take_add_one, hx] at h
      have := bump_bd D m k v (by simpa using h); omega
    | some x =>
      rw [take_foldl bumpStep hx] at h
      have key : ∀ u, u ∈ (D.take k).foldl bumpStep (List.replicate m 0) → 0 ≤ u ∧ u ≤ (k : Int) := bump_bd D m k
      generalize (D.take k).foldl bumpStep (List.replicate m 0) = O0 at h key
      rw [bumpStep] at h
      split at h
      · have := key v h; omega
      · rw [bump] at h
        rcases List.mem_or_eq_of_mem_set h with h | h
        · have := key v h; omega
        · rw [List.getD_eq_getElem?_getD] at h
          cases he : O0[x.toNat]? with
          | none => rw [he] at h; simp at h; omega
          | some u => rw [he] at h; simp at h; have := key u (List.mem_of_getElem? he); omega

theorem run_whole (g : Nat) (w : World) :
    (Instr.sliceAt 84 (.pointer (some ⟨g, 0, none⟩)) none none none).run Tryz.prog w = .ok (.slice (some ⟨g, 0, none⟩) 144 144) w := by
  have hl : Tryz.prog.arrayLen 84 = 144 := by kernel_rfl
  have he : Tryz.prog.elem 84 = 3 := by kernel_rfl
  have hu : Tryz.prog.underlying 84 = some (.array (Tryz.prog.arrayLen 84) (Tryz.prog.elem 84)) := by rw [hl, he]; exact Tryz.underlying84
  rw [run_sliceAt_array_all w _ _ hu, he, Tryz.sizeOf3, hl]
  simp [slicedAt]
  rfl

set_option maxRecDepth 100000 in
set_option maxHeartbeats 2000000 in
theorem greatest_any (L : List Int) (h64 : L.length = 144) (w : World) :
    Calls Tryz.prog 107 #[.agg (L.map (Value.int .i64)).toArray] w fun e w' => e = .returned (.int .i64 (Go.Lib.maxOf L)) ∧ Below w.heap.size w w' := by
  obtain ⟨W1, hW1⟩ : ∃ W1, W1 = w.alloc (.cells (L.map (Value.int .i64)).toArray 84) := ⟨_, rfl⟩
  have hcs := cell_laid w L 84
  rw [← hW1] at hcs
  have HCS := Lib.hid hcs; have HL := Lib.hid h64
  have B := Lib.hid (show Below w.heap.size w W1 by rw [hW1]; exact below_new (Below.refl _ _) _)
  have hsl := fun w' => run_whole w.heap.size w'
  obtain ⟨V, hV⟩ : ∃ V, V = L.map (Value.int .i64) := ⟨_, rfl⟩
  rw [← hV] at hW1 ⊢
  clear hcs h64 hV
  go_enter Tryz.func107, Tryz.ntmps107
  go_wp2_with fail
  rw [← hW1]
  clear hW1
  refine (Tryz.slices_Max_int w.heap.size 0 144 144 L _ (by omega) (by have := HL.out; omega) (by omega) HCS.out).mono ?_
  rintro e wz ⟨rfl, rfl⟩
  go_wp2
  go_ret
  exact ⟨ret_int (by rw [List.take_of_length_le (by have := HL.out; omega)]), B.out⟩

theorem most_max {D L : List Int} {j m : Nat} (M : IsMost D j) (h : L = D ++ List.replicate m (-1)) : Go.Lib.maxOf L = D.getD j (-1) := by
  have hj := M.lt
  have e : D.getD j (-1) = D[j] := by rw [List.getD_eq_getElem?_getD, List.getElem?_eq_getElem hj]; rfl
  refine max_of ?_ ?_ ?_
  · intro h0; rw [h0] at h; have := congrArg List.length h; simp at this; omega
  · rw [h, e]; exact List.mem_append_left _ (List.getElem_mem hj)
  · intro x hx
    rw [h] at hx
    rcases List.mem_append.1 hx with hx | hx
    · obtain ⟨i, hi, rfl⟩ := List.getElem_of_mem hx
      have := M.le i
      rwa [List.getD_eq_getElem?_getD, List.getElem?_eq_getElem hi] at this
    · have := (List.mem_replicate.1 hx).2; have := M.nn; omega
theorem run_farK (L : List Int) (_hl : L.length = 144) (q : Nat) (hq : q < 144) (v : Int) (hv : L[q]? = some v) (w : World) :
    (Instr.index 84 (.agg (L.map (Value.int .i64)).toArray) (.int .i64 (q : Int))).run Tryz.prog w = .ok (.int .i64 v) w := by
  have hu := Tryz.underlying84
  have hz := Tryz.sizeOf3
  have ha := Tryz.isAgg3
  simp [Instr.index, run_underlying hu, asIntOf, go_sem]
  rw [if_pos hq, hv]
  rfl

end Go.Proofs.YtcfibfbenccimaaGreatDoor

namespace Go.Proofs.YtcfibfbenccimaaGreatDoor
open Go.RowKit

theorem infoDs : (Tryz.prog.info? 84).map (·.size) = some 144 := by kernel_rfl
theorem wpList_store64 {ops : Array Oper} {rest : List Oper} {o : Oper} {a : Act} {w0 : World} {Q : Exit → Act → World → Prop} (L : List Int) (hL : L.length = 144) (hg : o.guard = none) (x y : Operand)
    (ho : o.op = .store 84 x y) (hd : o.dst = none) (hx : a.eval x = .pointer (some ⟨w0.heap.size, 0, none⟩)) (hy : a.eval y = .agg (L.map (Value.int .i64)).toArray)
    (E : TypeId) (old : Array Value) (hold : old.size = 144) (h : wpList Tryz.prog ops Q rest a (w0.alloc (.cells (L.map (Value.int .i64)).toArray E))) :
    wpList Tryz.prog ops Q (o :: rest) a (w0.alloc (.cells old E)) := by
  refine wpList_store_rowTo hg _ x y ho hd w0.heap.size (L.map (Value.int .i64)).toArray hx hy E old (show (w0.heap.push _)[w0.heap.size]? = _ by rw [Array.getElem?_push_size]) (by rw [infoDs]; simp [hL]) (by rw [hold]; simp [hL]) ?_ ?_
  · refine Array.all_eq_true_iff_forall_mem.2 (fun v hv => ?_)
    simp only [List.mem_toArray, List.mem_map] at hv
    obtain ⟨i, _, rfl⟩ := hv
    rfl
  · rw [World.setRow_alloc_new]; exact h
theorem run_cut (g N : Nat) (hN : N ≤ 144) (w : World) :
    (Instr.sliceAt 84 (.pointer (some ⟨g, 0, none⟩)) none (some (.int .i64 (N : Int))) none).run Tryz.prog w = .ok (.slice (some ⟨g, 0, none⟩) N 144) w := by
  have hl : Tryz.prog.arrayLen 84 = 144 := by kernel_rfl
  have he : Tryz.prog.elem 84 = 3 := by kernel_rfl
  have hu : Tryz.prog.underlying 84 = some (.array (Tryz.prog.arrayLen 84) (Tryz.prog.elem 84)) := by rw [hl, he]; exact Tryz.underlying84
  rw [run_sliceAt_array_h w _ _ hu .i64 (N : Int) (by omega) (by rw [hl]; omega), he, Tryz.sizeOf3, hl]
  simp [slicedAt]
  rfl
theorem own_slice {E : TypeId} {w : World} {lo n : Nat} {v : Value} {xs : List Int} (h : w.ownsRow lo E 1 v n (xs.map (Value.int .i64))) : ∃ A c, v = .slice A n c ∧ OwnI E w lo A n c xs := by
  have h0 := h
  rcases h.2 with ⟨hv, hn⟩ | ⟨g, cap, cur, hv, _⟩
  · subst hn; subst hv; exact ⟨_, _, rfl, h0⟩
  · subst hv; exact ⟨_, _, rfl, h0⟩

end Go.Proofs.YtcfibfbenccimaaGreatDoor

namespace Go.Proofs.YtcfibfbenccimaaGreatDoor
open Go.RowKit

theorem far_len64 {W H a b p : Int} {xs : List Int} {N : Nat} (h : OnFacts W H xs a b N) (hp : hasB W H xs p = true) : (farL (leapsL W H xs a b) 144 p).length = 144 := by
  rw [far64 h hp, List.length_append, dist_len h hp, List.length_replicate]; have := h.n; omega

end Go.Proofs.YtcfibfbenccimaaGreatDoor

namespace Go.Proofs.YtcfibfbenccimaaGreatDoor
open Go.RowKit

/-- Whether place i of the list has a distance of at most q. -/
def nearB (L : List Int) (q : Int) (i : Nat) : Bool := inB (L.getD i (-1)) 0 q
theorem near_in {L : List Int} {q x : Int} {i : Nat} (h : L[i]? = some x) : nearB L q i = inB x 0 q := by rw [nearB, List.getD_eq_getElem?_getD, h]; rfl
theorem getD_pad (L : List Int) (m i : Nat) : (L ++ List.replicate m (-1)).getD i (-1) = L.getD i (-1) := by
  rw [List.getD_eq_getElem?_getD, List.getD_eq_getElem?_getD]
  rcases Nat.lt_or_ge i L.length with h | h
  · rw [List.getElem?_append_left h]
  · rw [List.getElem?_append_right h, List.getElem?_eq_none h, List.getElem?_replicate]
    split <;> rfl

set_option maxRecDepth 100000 in
set_option maxHeartbeats 2000000 in
theorem cellsWithin_any (L : List Int) (h64 : L.length = 144) (hb0 : ∀ x ∈ L, -1 ≤ x ∧ x ≤ 144) (q : Int) (w : World) :
    Calls Tryz.prog 106 #[.agg (L.map (Value.int .i64)).toArray, .int .i64 q] w fun e w' => ∃ A' n' c', e = .returned (.slice A' n' c') ∧ OwnI 3 w' w.heap.size A' n' c' (selTo (nearB L q) 144) ∧ Below w.heap.size w w' := by
  obtain ⟨i0, hi, hz0, hz1, hz2⟩ := info_parts infoI
  have HI := Lib.hid hi; have HZ0 := Lib.hid hz0; have HZ1 := Lib.hid hz1; have HZ2 := Lib.hid hz2
  clear hi hz0 hz1 hz2
  have HL := Lib.hid h64; have HB0 := Lib.hid hb0
  obtain ⟨W1, hW1⟩ : ∃ W1, W1 = w.alloc (.cells (L.map (Value.int .i64)).toArray 84) := ⟨_, rfl⟩
  have hrg := range_laid w L 84
  have HIN := Lib.hid (show (Tryz.prog.info? 84).map (·.size) = some (L.map (Value.int .i64)).length from infoD.trans (by rw [List.length_map, h64]))
  have hsz : W1.heap.size = w.heap.size + 1 := by rw [hW1]; simp
  have B := Lib.hid (show Below w.heap.size w W1 by rw [hW1]; exact below_new (Below.refl _ _) _)
  have hix := fun (k : Nat) (hk : k < 144) (x : Int) (hx : L[k]? = some x) (w' : World) => run_farK L h64 k hk x hx w'
  obtain ⟨V, hV⟩ : ∃ V, V = L.map (Value.int .i64) := ⟨_, rfl⟩
  rw [← hV] at hW1 hrg HIN hix ⊢
  have HRG := Lib.hid hrg
  have HIX := Lib.hid hix
  clear hrg h64 hb0 hix hV
  go_enter Tryz.func106, Tryz.ntmps106
  go_wp2_with (refine wpList_load_mid rfl 84 (.tmp 2) rfl w.heap.size 0 rfl V _ HRG.out Tryz.underlying84 rfl HIN.out ?_)
  rw [← hW1]
  clear hW1 HRG
  go_loopw [5, 9] (fun v i wr => ∃ (k n' c' : Nat) (A' : Option Addr), k ≤ 144 ∧ i = .int .i64 k ∧ v = .slice A' n' c' ∧ OwnI 3 wr W1.heap.size A' n' c' (selTo (nearB L q) k) ∧ Below W1.heap.size W1 wr) (fun _ i _ => 144 - (intOf i).toNat)
  case atStart => exact ⟨0, 0, 0, none, by omega, rfl, rfl, OwnI.none_ _ _ _, Below.refl _ _⟩
  case round =>
    obtain ⟨k, n', c', A', hk, rfl, rfl, hown, hbw⟩ := hrel
    have hbsz := hbw.size
    by_cases hlt : k < 144
    · obtain ⟨x, hx⟩ : ∃ x, L[k]? = some x := ⟨_, List.getElem?_eq_getElem (show k < L.length by have := HL.out; omega)⟩
      have hxb := HB0.out x (List.mem_of_getElem? hx)
      have hix := HIX.out k hlt x hx
      have hn' : n' ≤ 144 := by have := selTo_len (nearB L q) k; have := hown.len; omega
      have hnb : nearB L q k = inB x 0 q := near_in hx
      have HX := Lib.hid hx; have HO := Lib.hid hown; have HB := Lib.hid hbw; have HNB := Lib.hid hnb
      clear hx hown hbw hnb
      by_cases hm : x = -1
      · subst hm
        go_wp2
        go_roundw
        case rel => exact ⟨k + 1, n', c', A', by omega, by go_num, rfl, by rw [selTo_no (by rw [HNB.out]; rfl)]; exact HO.out, HB.out⟩
        case measure => simp [intOf]; omega
      · have hm' : (x != -1) = true := by simpa using hm
        by_cases hq : x ≤ q
        · go_wp2_with (at_builtin; refine wpList_app1 rfl (.tmp 20) (.tmp 22) 22 3 rfl i0 Tryz.underlying22 HI.out HZ0.out HZ1.out HZ2.out W1.heap.size A' n' c' (selTo (nearB L q) k) (k : Int) rfl HO.out rfl (by omega) hbsz ?_; intro A2 c2 w2 hown2 hb2')
          have HO2 := Lib.hid hown2; have HB2 := Lib.hid (HB.out.trans hb2')
          clear hown2 hb2'
          go_wp2
          go_roundw
          case rel => exact ⟨k + 1, n' + 1, c2, A2, by omega, by go_num, rfl, by rw [selTo_yes (by rw [HNB.out, inB]; simp; omega)]; exact HO2.out, HB2.out⟩
          case measure => simp [intOf]; omega
        · go_wp2
          go_roundw
          case rel => exact ⟨k + 1, n', c', A', by omega, by go_num, rfl, by rw [selTo_no (by rw [HNB.out, inB]; simp; omega)]; exact HO.out, HB.out⟩
          case measure => simp [intOf]; omega
    · obtain rfl : k = 144 := by omega
      have HO := Lib.hid (hown.lower (show w.heap.size ≤ W1.heap.size by omega)); have HB := Lib.hid (below_next B.out hbw)
      clear hown hbw
      go_wp2
      go_ret
      exact ⟨_, _, _, rfl, HO.out, HB.out⟩


theorem has_max : ∀ {L : List Int}, L ≠ [] → ∃ m ∈ L, ∀ x ∈ L, x ≤ m
  | [], h => absurd rfl h
  | [a], _ => ⟨a, by simp, by simp⟩
  | a :: b :: t, _ => by
    obtain ⟨m, hm, h⟩ := has_max (L := b :: t) (by simp)
    by_cases c : a ≤ m
    · exact ⟨m, List.mem_cons_of_mem _ hm, fun x hx => by
        rcases List.mem_cons.1 hx with rfl | hx
        · exact c
        · exact h x hx⟩
    · exact ⟨a, by simp, fun x hx => by
        rcases List.mem_cons.1 hx with rfl | hx
        · omega
        · have := h x hx; omega⟩
theorem le_maxOf {L : List Int} {x : Int} (h : x ∈ L) : x ≤ Go.Lib.maxOf L := by
  have hne : L ≠ [] := List.ne_nil_of_mem h
  obtain ⟨m, hm, hx⟩ := has_max hne
  rw [max_of hne hm hx]; exact hx x h
theorem near_max {L : List Int} : nearB L (Go.Lib.maxOf L) = fun i => decide (0 ≤ L.getD i (-1)) := by
  funext i
  rw [nearB]
  rcases Nat.lt_or_ge i L.length with h | h
  · have hm : L.getD i (-1) ∈ L := by rw [List.getD_eq_getElem?_getD, List.getElem?_eq_getElem h]; exact List.getElem_mem h
    have := le_maxOf hm
    rw [inB, Bool.eq_iff_iff, decide_eq_true_eq, decide_eq_true_eq]; omega
  · rw [List.getD_eq_getElem?_getD, List.getElem?_eq_none h, inB]; simp
/-- The cells that have a distance. -/
def reachL (L : List Int) : List Int := selTo (fun i => decide (0 ≤ L.getD i (-1))) 144

set_option maxRecDepth 100000 in
set_option maxHeartbeats 1000000 in
theorem reached_any (L : List Int) (h64 : L.length = 144) (hb0 : ∀ x ∈ L, -1 ≤ x ∧ x ≤ 144) (w : World) :
    Calls Tryz.prog 92 #[.agg (L.map (Value.int .i64)).toArray] w fun e w' => ∃ A' n' c', e = .returned (.slice A' n' c') ∧ OwnI 3 w' w.heap.size A' n' c' (reachL L) ∧ Below w.heap.size w w' := by
  have HG := Lib.hid (fun w' => greatest_any L h64 w')
  have HC := Lib.hid (fun w' => cellsWithin_any L h64 hb0 (Go.Lib.maxOf L) w')
  rw [near_max] at HC
  have HR := Lib.hid (show selTo (fun i => decide (0 ≤ L.getD i (-1))) 144 = reachL L from rfl)
  rw [HR.out] at HC
  have HIN := Lib.hid (show (Tryz.prog.info? 84).map (·.size) = some (L.map (Value.int .i64)).length from infoD.trans (by rw [List.length_map, h64]))
  have HRL := Lib.hid (range_laid w L 84)
  obtain ⟨V, hV⟩ : ∃ V, V = L.map (Value.int .i64) := ⟨_, rfl⟩
  rw [← hV] at HG HC HIN HRL ⊢
  obtain ⟨m, hm⟩ : ∃ m, m = Go.Lib.maxOf L := ⟨_, rfl⟩
  rw [← hm] at HG HC
  obtain ⟨W3, hW3⟩ : ∃ W3, W3 = w.alloc (.cells V.toArray 84) := ⟨_, rfl⟩
  rw [← hW3] at HRL
  have B := Lib.hid (show Below w.heap.size w W3 by rw [hW3]; exact below_new (Below.refl _ _) _)
  have hs3 : w.heap.size < W3.heap.size := by rw [hW3]; simp
  obtain ⟨gx, hgx⟩ : ∃ gx, gx = w.heap.size := ⟨_, rfl⟩
  rw [← hgx] at HRL
  have hrg := HRL.out
  clear h64 hb0 hV hm HR
  go_enter Tryz.func92, Tryz.ntmps92
  go_upto_region 1 with fail
  rw [← hW3, ← hgx]
  rw [← hgx] at hs3
  clear hW3 hgx
  refine wp_region_held_drew (S := fun w' => w'.rangeAt gx 0 V ∧ True) (by kernel_rfl) ?_ (fun hHeld => ?_)
  · (try dsimp only)
    exact ⟨hrg, trivial⟩
  refine wpAnyH_take (i := 0) (oi := ⟨_, _, _, _, _, _⟩) (v := .agg V.toArray) rfl (by kernel_rfl) (by kernel_rfl) (by kernel_rfl) (fun _ _ _ h => h) (yieldsIf_load_mid (by rfl) 84 (.tmp 1) rfl gx 0 rfl V _ (fun _ hSw => hSw.1) Tryz.underlying84 rfl HIN.out) (by assumption) ?_
  (try simp only [Act.put, List.setIfInBounds_toArray, List.set_cons_zero, List.set_cons_succ])
  refine wpAnyH_take (i := 1) (oi := ⟨_, _, _, _, _, _⟩) (v := .agg V.toArray) rfl (by kernel_rfl) (by kernel_rfl) (by kernel_rfl) (fun _ _ _ h => h) (yieldsIf_load_mid (by rfl) 84 (.tmp 1) rfl gx 0 rfl V _ (fun _ hSw => hSw.1) Tryz.underlying84 rfl HIN.out) (by assumption) ?_
  (try simp only [Act.put, List.setIfInBounds_toArray, List.set_cons_zero, List.set_cons_succ])
  refine wpAnyH_ready (rs := [2]) (by kernel_rfl) (by simp) ?_
  refine AllReadyH.cons (o := ⟨_, _, _, _, _, _⟩) rfl (fun K hK => ?_) AllReadyH.nil
  go_simp
  (go_at_call 107; refine (HG.out _).mono ?_; rintro e wv ⟨rfl, hb⟩; (repeat (first | replace hb := below_undrew hb | replace hb := below_undrewN hb)); replace hrg := range_keep hrg hs3 hb; replace hs3 := lt_keep hs3 hb; replace B := Lib.hid (below_next B.out hb); clear hb)
  (try go_wp2_with fail)
  refine hK.out _ _ ?_ (fun hHeld => ?_)
  · (try dsimp only)
    exact ⟨hrg, trivial⟩
  clear hK K
  (try simp only [Act.put, List.setIfInBounds_toArray, List.set_cons_zero, List.set_cons_succ])
  refine wpAnyH_ready (rs := [3]) (by kernel_rfl) (by simp) ?_
  refine AllReadyH.cons (o := ⟨_, _, _, _, _, _⟩) rfl (fun K hK => ?_) AllReadyH.nil
  go_simp
  (go_at_call 106; refine (HC.out _).mono ?_; rintro e wx ⟨A', n', c', rfl, hown, hb⟩; (repeat (first | replace hb := below_undrew hb | replace hb := below_undrewN hb)); have O := Lib.hid (hown.lower B.out.size); replace hrg := range_keep hrg hs3 hb; replace hs3 := lt_keep hs3 hb; replace B := Lib.hid (below_next B.out hb); clear hb; clear hown)
  (try go_wp2_with fail)
  refine hK.out _ _ ?_ (fun hHeld => ?_)
  · (try dsimp only)
    exact ⟨hrg, trivial⟩
  clear hK K
  (try simp only [Act.put, List.setIfInBounds_toArray, List.set_cons_zero, List.set_cons_succ])
  refine wpAnyH_take (i := 4) (oi := ⟨_, _, _, _, _, _⟩) (v := ?_) rfl (by kernel_rfl) (by kernel_rfl) (by kernel_rfl) (fun _ _ _ h => h) (Or.inl ⟨by rfl, ?_⟩) (by assumption) ?_
  rotate_left
  · intro w hSw
    (try dsimp only at hSw)
    go_simp
    (try with_reducible rfl)
  (try simp only [Act.put, List.setIfInBounds_toArray, List.set_cons_zero, List.set_cons_succ])
  refine wpAnyH_done (by kernel_rfl) ?_ _
  go_wp2
  go_ret
  exact ⟨_, _, _, rfl, O.out, B.out⟩
end Go.Proofs.YtcfibfbenccimaaGreatDoor

namespace Go.Proofs.YtcfibfbenccimaaGreatDoor
open Go.RowKit

theorem l1In_b (n lo hi : Int) (w : World) : Calls Tryz.prog 55 #[.int .i64 n, .int .i64 lo, .int .i64 hi] w fun e w' => e = .returned (.bool (inB n lo hi)) ∧ Below w.heap.size w w' :=
  (l1In_any n lo hi w).mono fun _ _ h => ⟨h.1, h.2 ▸ Below.refl _ _⟩
end Go.Proofs.YtcfibfbenccimaaGreatDoor

namespace Go.Proofs.YtcfibfbenccimaaGreatDoor
open Go.RowKit

/-- Whether place i of the list has a distance of at most q. -/
def okWithin (W H : Int) (xs : List Int) (a b p q : Int) : Bool := onB W H xs a b [p] && inB q 0 12
def withinV (W H : Int) (xs : List Int) (a b p q : Int) : List Int := if okWithin W H xs a b p q = true then selTo (nearB (distL W H xs a b p) q) (W * H).toNat else []

end Go.Proofs.YtcfibfbenccimaaGreatDoor

namespace Go.Proofs.YtcfibfbenccimaaGreatDoor
open Go.RowKit

end Go.Proofs.YtcfibfbenccimaaGreatDoor

namespace Go.Proofs.YtcfibfbenccimaaGreatDoor
open Go.RowKit

theorem dist_bd {W H a b p : Int} {xs : List Int} {N : Nat} (h : OnFacts W H xs a b N) (hp : hasB W H xs p = true) : ∀ x ∈ distL W H xs a b p, -1 ≤ x ∧ x ≤ 64 := fun x hx => far_bd h hp x (by rw [far64 h hp]; exact List.mem_append_left _ hx)
theorem dist_self {W H a b p : Int} {xs : List Int} {N : Nat} (h : OnFacts W H xs a b N) (hp : hasB W H xs p = true) : (distL W H xs a b p).getD p.toNat (-1) = 0 := by
  have hr := (hasB_iff.1 hp).1
  have := h.wh
  rw [distL]
  exact far_start (by omega) (fun c _ y hy => by have := leaps_in h.wh hy; omega)
theorem dist_selfN {W H a b : Int} {s : Nat} {xs : List Int} {N : Nat} (h : OnFacts W H xs a b N) (hp : hasB W H xs (s : Int) = true) : (distL W H xs a b (s : Int)).getD s (-1) = 0 := dist_self h hp
theorem most_idx {D L : List Int} {j m : Nat} (M : IsMost D j) (h : L = D ++ List.replicate m (-1)) : Go.Lib.idxOf L (D.getD j (-1)) = (j : Int) := by
  have hj := M.lt
  have g : ∀ i, i < D.length → L.getD i 0 = D.getD i (-1) := fun i hi => by
    rw [h, List.getD_eq_getElem?_getD, List.getElem?_append_left hi, List.getD_eq_getElem?_getD, List.getElem?_eq_getElem hi]; rfl
  exact idx_of (by rw [h, List.length_append]; omega) (g j hj) (fun i hi => by rw [g i (by omega)]; have := M.first i hi; omega)
def farthAt (W H : Int) (xs : List Int) (a b p : Int) : Int := if onB W H xs a b [p] = true then mostTo (distL W H xs a b p) (W * H).toNat else 0
def farthBy (W H : Int) (xs : List Int) (a b p : Int) : Int := if onB W H xs a b [p] = true then (distL W H xs a b p).getD (mostTo (distL W H xs a b p) (W * H).toNat).toNat (-1) else 0

end Go.Proofs.YtcfibfbenccimaaGreatDoor

namespace Go.Proofs.YtcfibfbenccimaaGreatDoor
open Go.RowKit

end Go.Proofs.YtcfibfbenccimaaGreatDoor

namespace Go.Proofs.YtcfibfbenccimaaGreatDoor
open Go.RowKit

/-! ### A row of booleans that the call owns -/
def OwnB (E : TypeId) (w : World) (lo : Nat) (A : Option Addr) (n c : Nat) (xs : List Bool) : Prop := w.ownsRow lo E 1 (.slice A n c) n (xs.map Value.bool)
section
variable {E : TypeId} {w w' : World} {lo : Nat} {A : Option Addr} {n c : Nat} {xs : List Bool}
theorem OwnB.len (h : OwnB E w lo A n c xs) : xs.length = n := by simpa [OwnB] using h.1
theorem OwnB.cell {g k : Nat} {x : Bool} (h : OwnB E w lo (some ⟨g, 0, none⟩) n c xs) (hx : xs[k]? = some x) : w.cell? ⟨g, k, none⟩ = some (.bool x) := by
  have hl := h.len
  have hk : k < n := by
    rcases Nat.lt_or_ge k xs.length with h' | h'
    · omega
    · rw [List.getElem?_eq_none h'] at hx; cases hx
  rw [World.ownsRow.cellAt h k (by omega), List.getElem?_map, hx]; rfl
theorem OwnB.frozen {g : Nat} (h : OwnB E w lo (some ⟨g, 0, none⟩) n c xs) (k : Nat) : w.frozen? ⟨g, k, none⟩ = false := World.ownsRow.frozenAt h k
theorem OwnB.stored {g : Nat} (h : OwnB E w lo (some ⟨g, 0, none⟩) n c xs) (k : Nat) (x : Bool) :
    OwnB E (w.setCell ⟨g, k, none⟩ (.bool x)) lo (some ⟨g, 0, none⟩) n c (xs.set k x) ∧ w.grownBy (w.setCell ⟨g, k, none⟩ (.bool x)) (some g) := by
  have := World.ownsRow.stored h k (.bool x)
  rw [← List.map_set] at this
  exact this
theorem OwnB.keep (h : OwnB E w lo A n c xs) (hb : Below w.heap.size w w') : OwnB E w' lo A n c xs := by
  refine ⟨h.1, ?_⟩
  rcases h.2 with hn | ⟨g, cap, cur, hv, hlo, hg, r⟩
  · exact .inl hn
  · exact .inr ⟨g, cap, cur, hv, hlo, (hb.block g (Array.getElem?_eq_some_iff.1 hg).1).trans hg, r⟩
theorem OwnB.other {row : Option Nat} (h : OwnB E w lo A n c xs) (hg : w.grownBy w' row) (hne : ∀ a, A = some a → some a.block ≠ row) : OwnB E w' lo A n c xs := by
  refine ⟨h.1, ?_⟩
  rcases h.2 with hn | ⟨g, cap, cur, hv, hlo, hgg, r⟩
  · exact .inl hn
  · refine .inr ⟨g, cap, cur, hv, hlo, ?_, r⟩
    injection hv with h1
    rw [hg.block g (Array.getElem?_eq_some_iff.1 hgg).1 (hne _ h1)]
    exact hgg
end
theorem infoBl : (Tryz.prog.info? 4).map (fun i => (i.zero, i.size, i.bytes)) = some (some (.bool false), 1, 1) := by kernel_rfl
/-- f 0, f 1, .. : N of them. -/
def boolRow (f : Nat → Bool) (N : Nat) : List Bool := (List.range N).map f
theorem boolRow_at {f : Nat → Bool} {N i : Nat} (h : i < N) : (boolRow f N)[i]? = some (f i) := by simp [boolRow, h]
theorem boolRow_congr {f g : Nat → Bool} {N : Nat} (h : ∀ i, i < N → f i = g i) : boolRow f N = boolRow g N := by
  apply List.map_congr_left; intro i hi; exact h i (List.mem_range.1 hi)
theorem boolRow_set (f : Nat → Bool) (N k : Nat) (b : Bool) : (boolRow f N).set k b = boolRow (fun i => if i = k then b else f i) N := by
  apply List.ext_getElem?
  intro i
  rw [List.getElem?_set]
  by_cases hi : i < N
  · by_cases e : k = i
    · subst e; rw [if_pos rfl, if_pos (by simpa [boolRow] using hi), boolRow_at hi, if_pos rfl]
    · rw [if_neg e, boolRow_at hi, boolRow_at hi, if_neg (fun h => e h.symm)]
  · rw [List.getElem?_eq_none (by simpa [boolRow] using hi), List.getElem?_eq_none (by simpa [boolRow] using hi)]
    split
    · rw [if_neg (by simp [boolRow]; omega)]
    · rfl

/-! ### Blocks that are told apart by what they hold -/
theorem row_block {w : World} {lo : Nat} {E : TypeId} {k : Nat} {a : Addr} {n c : Nat} {xs : List Value} (h : w.ownsRow lo E k (.slice (some a) n c) n xs) : ∃ cur, w.heap[a.block]? = some (.cells cur E (0, 0)) := by
  rcases h.2 with ⟨hv, _⟩ | ⟨g, cap, cur, hv, _, hg, _⟩
  · cases hv
  · injection hv with h1
    injection h1 with h1
    subst h1
    exact ⟨cur, hg⟩
theorem rows_apart {w : World} {lo lo' : Nat} {E E' : TypeId} {k k' : Nat} {a a' : Addr} {n c n' c' : Nat} {xs ys : List Value} (hne : E ≠ E') (h : w.ownsRow lo E k (.slice (some a) n c) n xs) (h' : w.ownsRow lo' E' k' (.slice (some a') n' c') n' ys) : a.block ≠ a'.block := by
  obtain ⟨c1, h1⟩ := row_block h
  obtain ⟨c2, h2⟩ := row_block h'
  intro e
  rw [e, h2] at h1
  injection h1 with h1
  injection h1 with _ h1 _
  exact hne h1.symm
theorem map_apart {w : World} {lo : Nat} {E : TypeId} {k : Nat} {a : Addr} {n c : Nat} {xs : List Value} {P : Program} {kt : TypeId} {mb m : Nat} {z : Value} {f : Int → Value} (h : w.ownsRow lo E k (.slice (some a) n c) n xs) (hm : MapI P kt w mb m z f) : a.block ≠ mb := by
  obtain ⟨c1, h1⟩ := row_block h
  obtain ⟨D, ⟨es, cl, h2, _⟩, _⟩ := hm
  intro e
  rw [e, h2] at h1
  cases h1

/-! ### A row of slices, each a row of its own -/
abbrev SlV := Option Addr × Nat × Nat
def encS (v : SlV) : List Value := [.slice v.1 v.2.1 v.2.2]
/-- The slice '.slice A n c' holds slices that read as the lists ps, each in a block of the call's own. -/
def PartsAt (w : World) (lo top : Nat) (A : Option Addr) (n c : Nat) (ps : List (List Int)) : Prop :=
  ∃ vs : List SlV, OwnK encS 1 22 w lo A n c vs ∧ ps.length = n ∧ (∀ (i : Nat) (v : SlV) (p : List Int), vs[i]? = some v → ps[i]? = some p → OwnI 3 w lo v.1 v.2.1 v.2.2 p) ∧
    (∀ (i j : Nat) (v u : SlV), i < j → vs[i]? = some v → vs[j]? = some u → ∀ x y, v.1 = some x → u.1 = some y → x.block < y.block) ∧
    ∀ (i : Nat) (v : SlV), vs[i]? = some v → ∀ x, v.1 = some x → x.block < top
theorem PartsAt.none_ (w : World) (lo top : Nat) : PartsAt w lo top none 0 0 [] := ⟨[], OwnK.none_ _ _ _ _ _, rfl, fun i v p h => by simp at h, fun i j v u _ h => by simp at h, fun i v h => by simp at h⟩
theorem PartsAt.other {w w' : World} {lo top : Nat} {A : Option Addr} {n c : Nat} {ps : List (List Int)} {row : Option Nat} (h : PartsAt w lo top A n c ps) (hg : w.grownBy w' row)
    (hA : ∀ a, A = some a → some a.block ≠ row) (hI : ∀ (a : Addr) (m k : Nat) (p : List Int), OwnI 3 w lo (some a) m k p → some a.block ≠ row) : PartsAt w' lo top A n c ps := by
  obtain ⟨vs, h1, h2, h3, h4, h5⟩ := h
  refine ⟨vs, h1.other hg hA, h2, fun i v p hv hp => (h3 i v p hv hp).other hg (fun a ha => ?_), h4, h5⟩
  have h5 := h3 i v p hv hp
  rw [ha] at h5
  exact hI a _ _ _ h5
theorem PartsAt.keep {w w' : World} {lo top : Nat} {A : Option Addr} {n c : Nat} {ps : List (List Int)} (h : PartsAt w lo top A n c ps) (hb : Below w.heap.size w w') : PartsAt w' lo top A n c ps :=
  h.other (grown_of_below hb none) (fun _ _ => by simp) (fun _ _ _ _ _ => by simp)
theorem PartsAt.lower {w : World} {lo lo' top : Nat} {A : Option Addr} {n c : Nat} {ps : List (List Int)} (h : PartsAt w lo top A n c ps) (hl : lo' ≤ lo) : PartsAt w lo' top A n c ps := by
  obtain ⟨vs, h1, h2, h3, h4, h5⟩ := h
  exact ⟨vs, h1.lower hl, h2, fun i v p hv hp => (h3 i v p hv hp).lower hl, h4, h5⟩
theorem PartsAt.len {w : World} {lo top : Nat} {A : Option Addr} {n c : Nat} {ps : List (List Int)} (h : PartsAt w lo top A n c ps) : ps.length = n := by obtain ⟨_, _, h, _⟩ := h; exact h
/-- A write into a row of booleans leaves it alone. -/
theorem PartsAt.bools {w w' : World} {lo lo' top : Nat} {A : Option Addr} {n c : Nat} {ps : List (List Int)} {gb m k : Nat} {bs : List Bool} (h : PartsAt w lo top A n c ps) (hB : OwnB 4 w lo' (some ⟨gb, 0, none⟩) m k bs) (hg : w.grownBy w' (some gb)) : PartsAt w' lo top A n c ps := by
  have h0 := h
  obtain ⟨vs, h1, _⟩ := h0
  refine h.other hg (fun a ha => ?_) (fun a m' k' p hp => ?_)
  · subst ha
    have := rows_apart (by decide : 22 ≠ 4) h1.2 hB
    simpa using this
  · have := rows_apart (by decide : 3 ≠ 4) hp hB
    simpa using this
/-- An update of a map leaves it alone. -/
theorem PartsAt.maps {w w' : World} {lo top : Nat} {A : Option Addr} {n c : Nat} {ps : List (List Int)} {P : Program} {kt : TypeId} {mb m : Nat} {z : Value} {f : Int → Value} (h : PartsAt w lo top A n c ps) (hM : MapI P kt w mb m z f) (hg : w.grownBy w' (some mb)) : PartsAt w' lo top A n c ps := by
  have h0 := h
  obtain ⟨vs, h1, _⟩ := h0
  refine h.other hg (fun a ha => ?_) (fun a m' k' p hp => ?_)
  · subst ha
    have := map_apart h1.2 hM
    simpa using this
  · have := map_apart hp hM
    simpa using this
theorem own_keepLo {E : TypeId} {k : Nat} {w w' : World} {lo L : Nat} {v : Value} {n : Nat} {xs : List Value} (h : w.ownsRow lo E k v n xs) (hb : Below L w w') (hL : ∀ b, v.ownBlock = some b → b < L) : w'.ownsRow lo E k v n xs := by
  refine ⟨h.1, ?_⟩
  rcases h.2 with hn | ⟨g, cap, cur, hv, hlo, hg, r⟩
  · exact .inl hn
  · exact .inr ⟨g, cap, cur, hv, hlo, (hb.block g (hL g (by rw [hv]; rfl))).trans hg, r⟩
theorem OwnB.keepLo {E : TypeId} {w w' : World} {lo L g n c : Nat} {xs : List Bool} (h : OwnB E w lo (some ⟨g, 0, none⟩) n c xs) (hb : Below L w w') (hL : g < L) : OwnB E w' lo (some ⟨g, 0, none⟩) n c xs :=
  own_keepLo h hb (fun b hb => by simp [Value.ownBlock] at hb; omega)
theorem PartsAt.keepLo {w w' : World} {lo top L : Nat} {A : Option Addr} {n c : Nat} {ps : List (List Int)} (h : PartsAt w lo top A n c ps) (hb : Below L w w') (hA : ∀ a, A = some a → a.block < L) (ht : top ≤ L) : PartsAt w' lo top A n c ps := by
  obtain ⟨vs, h1, h2, h3, h4, h5⟩ := h
  refine ⟨vs, ⟨h1.1, own_keepLo h1.2 hb (fun b hb => ?_)⟩, h2, fun i v p hv hp => own_keepLo (h3 i v p hv hp) hb (fun b hb => ?_), h4, h5⟩
  · rcases A with _ | a
    · simp [Value.ownBlock] at hb
    · simp [Value.ownBlock] at hb; rw [← hb]; exact hA a rfl
  · obtain ⟨v1, v2, v3⟩ := v
    rcases v1 with _ | a
    · simp [Value.ownBlock] at hb
    · simp [Value.ownBlock] at hb; have := h5 i _ hv a rfl; omega
theorem PartsAt.lt {w : World} {lo top : Nat} {A : Option Addr} {n c : Nat} {ps : List (List Int)} (h : PartsAt w lo top A n c ps) : ∀ a, A = some a → a.block < w.heap.size := fun a ha => by
  obtain ⟨vs, h1, _⟩ := h
  subst ha
  obtain ⟨cur, h⟩ := row_block h1.2
  exact (Array.getElem?_eq_some_iff.1 h).1
theorem grown_below {a b c : World} {row : Option Nat} (h : a.grownBy b row) (k : Below a.heap.size b c) : a.grownBy c row :=
  ⟨k.os.trans h.os, k.tape.trans h.tape, k.output.trans h.output, Nat.le_trans h.size k.size, fun i hi hne => (k.block i hi).trans (h.block i hi hne)⟩
/-- append of one slice, whose row lies behind all the others. -/
theorem wpList_appS {ops : Array Oper} {rest : List Oper} {o : Oper} {a : Act} {Q : Exit → Act → World → Prop} {w : World} (hgd : o.guard = none) (s x : Operand)
    (ho : o.op = .call { callee := .builtin .append, args := #[s, x], argTypes := #[81, 81] }) (lo top : Nat) (A : Option Addr) (n c : Nat) (ps : List (List Int)) (A3 : Option Addr) (n3 c3 : Nat) (p : List Int)
    (hs : a.eval s = .slice A n c) (hown : PartsAt w lo top A n c ps) (hp : OwnI 3 w lo A3 n3 c3 p) (hpn : ∀ y, A3 = some y → top ≤ y.block) (htop : top ≤ w.heap.size)
    (hx : a.eval x = .slice (some ⟨w.heap.size, 0, none⟩) 1 1)
    (hn : n ≤ 100000) (hlo : lo ≤ w.heap.size)
    (h : ∀ A' c' w', PartsAt w' lo w.heap.size A' (n + 1) c' (ps ++ [p]) → Below lo w w' → (∀ (gb lo' m k : Nat) (bs : List Bool), OwnB 4 w lo' (some ⟨gb, 0, none⟩) m k bs → OwnB 4 w' lo' (some ⟨gb, 0, none⟩) m k bs) →
      (∀ (P : Program) (kt : TypeId) (mb m : Nat) (z : Value) (f : Int → Value), MapI P kt w mb m z f → MapI P kt w' mb m z f) → (∀ (lo' : Nat) (a' : Addr) (m k : Nat) (q : List Int), OwnI 3 w lo' (some a') m k q → OwnI 3 w' lo' (some a') m k q) →
      wpList Tryz.prog ops Q rest (a.put o.dst (.slice A' (n + 1) c')) w') :
    wpList Tryz.prog ops Q (o :: rest) a (w.alloc (.cells #[.slice A3 n3 c3] 22)) := by
  obtain ⟨vs, h1, h2, h3, h4, h5⟩ := hown
  have hal : Below w.heap.size w (w.alloc (.cells #[.slice A3 n3 c3] 22)) := below_new (Below.refl _ _) _
  have hz : (Tryz.prog.info? 22).map (fun i => (i.zero, i.size, i.bytes)) = some (some (.slice none 0 0), 1, 24) := by kernel_rfl
  obtain ⟨i0, hi, hz0, hz1, hz2⟩ := info_parts hz
  refine wpList_appK (enc := encS) (k := 1) (E := 22) hgd s x 81 ho i0 (.slice none 0 0) 24 Tryz.underlying81 hi hz0 hz1 hz2 rfl (by decide) (by decide) (fun _ => rfl) (fun v u hu => ?_) [(A3, n3, c3)] ⟨w.heap.size, 0, none⟩ 1 1 hs (h1.keep hal) hx rfl (fun j u hj => ?_) (by omega) (by simp; omega) ?_
  · simp [encS] at hu; subst hu; rfl
  · match j, hj with
    | 0, hj =>
      simp [encS] at hj; subst hj
      exact cell_of_row (w.alloc (.cells #[.slice A3 n3 c3] 22)) w.heap.size 0 #[.slice A3 n3 c3] 22 (0, 0) (heap_alloc_new w _)
    | j + 1, hj => simp [encS] at hj
  · intro A' c' w' hK hgr hbl
    have hgw : w.grownBy w' (rowOf A) := grown_next (grown_of_below hal _) (by rcases A with _ | b <;> exact hgr)
    have keepI : ∀ (lo' : Nat) (a' : Addr) (m k : Nat) (q : List Int), OwnI 3 w lo' (some a') m k q → OwnI 3 w' lo' (some a') m k q := fun lo' a' m k q hq => hq.other hgw (fun a ha => by
      injection ha with ha
      subst ha
      rcases A with _ | b
      · simp [rowOf]
      · have := rows_apart (by decide : 3 ≠ 22) hq h1.2
        simpa [rowOf] using this)
    have keepN : ∀ (lo' : Nat) (v : Option Addr) (m k : Nat) (q : List Int), OwnI 3 w lo' v m k q → OwnI 3 w' lo' v m k q := fun lo' v m k q hq => by
      rcases v with _ | v
      · exact hq.other hgw (fun a ha => by cases ha)
      · exact keepI lo' v m k q hq
    refine h A' c' w' ⟨vs ++ [(A3, n3, c3)], hK, by rw [List.length_append, h2]; rfl, fun i v q hv hq => ?_, fun i j v u hij hv hu y z hy hz => ?_, fun i v hv y hy => ?_⟩ ((Below.refl _ _).alloc hlo _ |>.trans hbl) (fun gb lo' m k bs hB => hB.other hgw (fun a ha => ?_)) (fun P kt mb m z f hM => hM.other hgw ?_) keepI
    · have hvl : vs.length = n := h1.len
      by_cases e : i < n
      · rw [List.getElem?_append_left (by omega)] at hv
        rw [List.getElem?_append_left (by omega)] at hq
        exact keepN _ _ _ _ _ (h3 i v q hv hq)
      · rw [List.getElem?_append_right (by omega)] at hv
        rw [List.getElem?_append_right (by omega)] at hq
        have e0 : i - n = 0 := by
          rcases Nat.eq_zero_or_pos (i - n) with h | h
          · exact h
          · rw [hvl, List.getElem?_eq_none (by simp; omega)] at hv; cases hv
        rw [hvl, e0] at hv
        rw [h2, e0] at hq
        simp at hv hq
        subst hv; subst hq
        exact keepN _ _ _ _ _ hp
    · have hvl : vs.length = n := h1.len
      have hj : j < (vs ++ [(A3, n3, c3)]).length := (List.getElem?_eq_some_iff.1 hu).1
      rw [List.length_append, hvl] at hj
      simp only [List.length_cons, List.length_nil] at hj
      rw [List.getElem?_append_left (by omega)] at hv
      by_cases e : j < n
      · rw [List.getElem?_append_left (by omega)] at hu
        exact h4 i j v u hij hv hu y z hy hz
      · rw [List.getElem?_append_right (by omega), hvl, show j - n = 0 by omega] at hu
        simp at hu; subst hu
        have := h5 i v hv y hy
        have := hpn z hz
        omega
    · have hvl : vs.length = n := h1.len
      by_cases e : i < n
      · rw [List.getElem?_append_left (by omega)] at hv
        have := h5 i v hv y hy
        omega
      · have hj : i < (vs ++ [(A3, n3, c3)]).length := (List.getElem?_eq_some_iff.1 hv).1
        rw [List.length_append, hvl] at hj
        simp only [List.length_cons, List.length_nil] at hj
        rw [List.getElem?_append_right (by omega), hvl, show i - n = 0 by omega] at hv
        simp at hv; subst hv
        rcases hp.form with ⟨h, _⟩ | ⟨g, h, _, h2, _⟩
        · rw [h] at hy; cases hy
        · rw [h] at hy; injection hy with hy; rw [← hy]; exact h2
    · injection ha with ha
      subst ha
      rcases A with _ | b
      · simp [rowOf]
      · have := rows_apart (by decide : 4 ≠ 22) hB h1.2
        simpa [rowOf] using this
    · rcases A with _ | b
      · simp [rowOf]
      · have := map_apart h1.2 hM
        intro e; injection e with e; exact this e.symm

end Go.Proofs.YtcfibfbenccimaaGreatDoor

namespace Go.Proofs.YtcfibfbenccimaaGreatDoor
open Go.RowKit

def inParts (ps : List (List Int)) (x : Int) : Bool := ps.any fun p => p.contains x
def partStep (P : Int → List Int) (ps : List (List Int)) (c : Int) : List (List Int) := if inParts ps c = true then ps else ps ++ [P c]
def gTo (P : Int → List Int) (cells : List Int) (k : Nat) : List (List Int) := (cells.take k).foldl (partStep P) []
def gAll (P : Int → List Int) (cells : List Int) : List (List Int) := cells.foldl (partStep P) []
theorem inParts_app (ps : List (List Int)) (p : List Int) (x : Int) : inParts (ps ++ [p]) x = (inParts ps x || p.contains x) := by simp [inParts]
theorem gTo_yes {P : Int → List Int} {cells : List Int} {c : Int} {k : Nat} (hc : cells[k]? = some c) (h : inParts (gTo P cells k) c = true) : gTo P cells (k + 1) = gTo P cells k := by
  rw [gTo, take_foldl _ hc, partStep]; exact if_pos h
theorem gTo_no {P : Int → List Int} {cells : List Int} {c : Int} {k : Nat} (hc : cells[k]? = some c) (h : inParts (gTo P cells k) c = false) : gTo P cells (k + 1) = gTo P cells k ++ [P c] := by
  rw [gTo, take_foldl _ hc, partStep]; exact if_neg (by rw [show inParts ((cells.take k).foldl (partStep P) []) c = false from h]; simp)
theorem gTo_len (P : Int → List Int) (cells : List Int) : ∀ k, (gTo P cells k).length ≤ k
  | 0 => by simp [gTo]
  | k + 1 => by
    have ih := gTo_len P cells k
    cases hc : cells[k]? with
    | none =>
      have e : gTo P cells (k + 1) = gTo P cells k := by rw [gTo, gTo, List.take_add_one, hc]; simp
      rw [e]; omega
    | some c =>
      cases h : inParts (gTo P cells k) c with
      | true => rw [gTo_yes hc h]; omega
      | false => rw [gTo_no hc h, List.length_append]; simp; omega
theorem sel_contains {f : Nat → Bool} {N i : Nat} (h : i < N) : (selTo f N).contains (i : Int) = f i := by
  cases hf : f i with
  | true => rw [List.contains_iff_mem]; exact selTo_mem.2 ⟨i, h, hf, rfl⟩
  | false =>
    rw [← Bool.not_eq_true, List.contains_iff_mem]
    intro hm
    obtain ⟨j, _, hj, e⟩ := selTo_mem.1 hm
    rw [show j = i by omega, hf] at hj; cases hj
theorem take_contains {p : List Int} {j : Nat} {y x : Int} (hy : p[j]? = some y) : (p.take (j + 1)).contains x = (if x = y then true else (p.take j).contains x) := by
  rw [List.take_add_one, hy]
  by_cases e : x = y
  · subst e; simp
  · simp [e]

end Go.Proofs.YtcfibfbenccimaaGreatDoor
