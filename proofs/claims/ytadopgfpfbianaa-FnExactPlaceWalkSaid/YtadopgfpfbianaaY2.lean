/-
  Contracts: the steps of a walk: which they are; slices.Index at spots.
-/
import Derived.Test.YtadopgfpfbianaaZ3
import Derived.Test.YtadopgfpfbianaaY0
import Derived.Test.YtadopgfpfbianaaS4
import Derived.Deep.RegionHeld3
namespace Go.Proofs.Ytadopgfpfbianaa
open Go.RowKit

theorem rowIn {W H x : Int} (hW : 1 ≤ W ∧ W ≤ 8) (hx : 0 ≤ x ∧ x < W * H) : 0 ≤ x / W ∧ x / W < H :=
  ⟨Int.ediv_nonneg hx.1 (by omega), Int.ediv_lt_of_lt_mul (by omega) (by rw [Int.mul_comm]; exact hx.2)⟩
theorem colIn {W x : Int} (hW : 1 ≤ W ∧ W ≤ 8) : 0 ≤ x % W ∧ x % W < W := ⟨Int.emod_nonneg _ (by omega), Int.emod_lt_of_pos _ (by omega)⟩
theorem okH {W H a b : Int} {xs ps : List Int} (h : okWk W H xs a b ps = true) : 1 ≤ H ∧ H ≤ 8 := (goodB_iff.1 (two_gK (ok_two h))).2.1
theorem okIn {W H a b : Int} {xs ps : List Int} (h : okWk W H xs a b ps = true) : ∀ x ∈ ps, 0 ≤ x ∧ x < W * H := fun x hx => (hasB_iff.1 (path_has (walk_path2 (ok_walk h)) x hx)).1
def diffP (W x y : Int) : Int × Int := (y % W - x % W, y / W - x / W)
theorem goes_leap {W H a b : Int} {hs : List Int} : ∀ (ps : List Int) (o : Option Int) (i : Nat) (x y : Int), goesB W H hs a b o ps = true → ps[i]? = some x → ps[i + 1]? = some y → leapB W a b x y = true
  | [], _, _, _, _, _, h, _ => by simp at h
  | [_], _, i, _, _, _, _, h => by simp at h
  | c :: d :: t, o, 0, x, y, h, h1, h2 => by
    simp only [List.getElem?_cons_zero, List.getElem?_cons_succ, Option.some.injEq] at h1 h2
    subst h1 h2
    simp only [goesB, Bool.and_eq_true] at h
    exact h.2.1.2
  | c :: d :: t, o, i + 1, x, y, h, h1, h2 => by
    have h3 : goesB W H hs a b (some c) (d :: t) = true := by
      simp only [goesB, Bool.and_eq_true] at h ⊢
      exact ⟨⟨h.2.1.1, h.2.1.2⟩, h.2.2⟩
    exact goes_leap (d :: t) (some c) i x y h3 (by simpa using h1) (by simpa using h2)
theorem leap_step {W a b x y : Int} (hl : leaperB a b = true) (h : leapB W a b x y = true) : diffP W x y ∈ stepsL a b := by
  rw [stepsL_mem hl]
  simp only [leapB, decide_eq_true_eq] at h
  unfold stepB
  apply decide_eq_true
  show (absV (y % W - x % W) = a ∧ absV (y / W - x / W) = b) ∨ (absV (y % W - x % W) = b ∧ absV (y / W - x / W) = a)
  rcases h with ⟨h1, h2⟩ | ⟨h1, h2⟩
  · exact Or.inl ⟨(absV_sub _ _).trans h1, (absV_sub _ _).trans h2⟩
  · exact Or.inr ⟨(absV_sub _ _).trans h1, (absV_sub _ _).trans h2⟩
theorem idx_first {p : Int × Int} : ∀ (qs : List (Int × Int)) (k : Nat), qs[k]? = some p → (∀ j, j < k → qs[j]? ≠ some p) → qs.idxOf p = k
  | [], _, h, _ => by simp at h
  | q :: t, 0, h, _ => by
    simp only [List.getElem?_cons_zero, Option.some.injEq] at h
    subst h
    exact List.idxOf_cons_self
  | q :: t, k + 1, h, hn => by
    have hq : q ≠ p := fun e => hn 0 (by omega) (by rw [List.getElem?_cons_zero, e])
    have hb : (q == p) = false := by simpa using hq
    rw [List.idxOf_cons, hb, cond_false, idx_first t k (by simpa using h) (fun j hj => by have := hn (j + 1) (by omega); simpa using this)]
theorem idx_only {p : Int × Int} {qs : List (Int × Int)} {j : Nat} (hn : qs.Nodup) (h : qs[j]? = some p) : qs.idxOf p = j :=
  idx_first qs j h fun i hi he => by
    obtain ⟨h1, e1⟩ := List.getElem?_eq_some_iff.1 h
    obtain ⟨h2, e2⟩ := List.getElem?_eq_some_iff.1 he
    have := (List.nodup_iff_pairwise_ne.1 hn)
    exact (List.pairwise_iff_getElem.1 this i j h2 h1 hi) (e2.trans e1.symm)
def stepI (W a b : Int) (ps : List Int) (i : Nat) : Int := ((stepsL a b).idxOf (diffP W (ps.getD i 0) (ps.getD (i + 1) 0)) : Int)
def stepIs (W a b : Int) (ps : List Int) (n : Nat) : List Int := (List.range n).map (stepI W a b ps)
theorem stepIs_succ (W a b : Int) (ps : List Int) (n : Nat) : stepIs W a b ps (n + 1) = stepIs W a b ps n ++ [stepI W a b ps n] := by
  rw [stepIs, List.range_succ, List.map_append]; rfl
theorem stepIs_len (W a b : Int) (ps : List Int) (n : Nat) : (stepIs W a b ps n).length = n := by simp [stepIs]
def wstepsV (W H : Int) (xs : List Int) (a b : Int) (ps : List Int) : List Int := if okWk W H xs a b ps then stepIs W a b ps (ps.length - 1) else []
theorem len_StepsOfWalk (W H : Int) (xs : List Int) (a b : Int) (ps : List Int) : (wstepsV W H xs a b ps).length ≤ 1000000 := by
  unfold wstepsV; split
  · rename_i h; have := ok_len h; rw [stepIs_len]; omega
  · simp
theorem ok_leaper {W H a b : Int} {xs ps : List Int} (h : okWk W H xs a b ps = true) : leaperB a b = true := by
  have := ok_two h
  simp only [twoV, Bool.and_eq_true] at this
  exact this.2
theorem ok_step {W H a b x y : Int} {xs ps : List Int} {i : Nat} (h : okWk W H xs a b ps = true) (hx : ps[i]? = some x) (hy : ps[i + 1]? = some y) : diffP W x y ∈ stepsL a b := by
  have h1 := walk_path2 (ok_walk h)
  simp only [pathB, Bool.and_eq_true] at h1
  exact leap_step (ok_leaper h) (goes_leap ps none i x y h1.2 hx hy)
theorem stepI_at {W a b x y : Int} {ps : List Int} {i : Nat} (hx : ps[i]? = some x) (hy : ps[i + 1]? = some y) : stepI W a b ps i = ((stepsL a b).idxOf (diffP W x y) : Int) := by
  rw [stepI, List.getD_eq_getElem?_getD, List.getD_eq_getElem?_getD, hx, hy]; rfl

end Go.Proofs.Ytadopgfpfbianaa
