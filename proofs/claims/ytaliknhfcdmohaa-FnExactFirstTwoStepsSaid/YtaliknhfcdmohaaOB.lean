/-
  Plain functions and facts: two steps by turns around, cells seen.
-/
import Derived.Test.YtaliknhfcdmohaaO0
namespace Go.Proofs.Ytaliknhfcdmohaa
open Go.RowKit

def nextT (W H : Int) (ac up : Bool) (s1 s2 : Int × Int) (t : Int) (P : List Int) (n : Int) : Int :=
  if (P.length : Int) % t = 0 then stepA W H ac up n s2.1 s2.2 else stepA W H ac up n s1.1 s1.2
def goT (W H : Int) (ac up : Bool) (s1 s2 : Int × Int) (t : Int) : Nat → List Int → Int → List Int
  | 0, P, _ => P
  | f + 1, P, n => if 0 ≤ n ∧ n ∉ P then goT W H ac up s1 s2 t f (P ++ [n]) (nextT W H ac up s1 s2 t (P ++ [n]) n) else P
def turnsL (W H : Int) (ac up : Bool) (s1 s2 : Int × Int) (t : Int) : List Int := goT W H ac up s1 s2 t (W * H).toNat [] 0
theorem nodup_len : ∀ (N : Nat) (P : List Int), P.Nodup → (∀ x ∈ P, 0 ≤ x ∧ x < N) → P.length ≤ N := by
  intro N
  induction N with
  | zero =>
    intro P _ h
    cases P with
    | nil => simp
    | cons x t => have := h x List.mem_cons_self; omega
  | succ N ih =>
    intro P hn h
    by_cases hN : (N : Int) ∈ P
    · have h1 := ih (P.erase N) (hn.erase _) (fun x hx => by
        have h2 := (hn.mem_erase_iff).1 hx
        have := h x h2.2
        omega)
      have h3 := List.length_erase_of_mem hN
      have h4 : 0 < P.length := List.length_pos_of_mem hN
      omega
    · have := ih P hn (fun x hx => by
        have := h x hx
        have : x ≠ N := fun e => hN (e ▸ hx)
        omega)
      omega
theorem goT_stop {W H n t : Int} {ac up : Bool} {s1 s2 : Int × Int} {f : Nat} {P : List Int} (h : ¬ (0 ≤ n ∧ n ∉ P)) : goT W H ac up s1 s2 t f P n = P := by
  cases f with
  | zero => rfl
  | succ f => rw [goT, if_neg h]
theorem goT_go {W H n t : Int} {ac up : Bool} {s1 s2 : Int × Int} {f N : Nat} {P : List Int} (hn : P.Nodup) (hP : ∀ x ∈ P, 0 ≤ x ∧ x < N) (hf : f + P.length = N) (h0 : 0 ≤ n) (h1 : n < N) (h : n ∉ P) :
    ∃ f', f = f' + 1 ∧ f' + (P ++ [n]).length = N ∧ goT W H ac up s1 s2 t f P n = goT W H ac up s1 s2 t f' (P ++ [n]) (nextT W H ac up s1 s2 t (P ++ [n]) n) ∧ (P ++ [n]).Nodup ∧ ∀ x ∈ P ++ [n], 0 ≤ x ∧ x < N := by
  have hnd : (P ++ [n]).Nodup := List.nodup_append.2 ⟨hn, by simp, fun a ha b hb => by rw [List.mem_singleton] at hb; subst hb; exact fun e => h (e ▸ ha)⟩
  have hin : ∀ x ∈ P ++ [n], 0 ≤ x ∧ x < N := fun x hx => by
    rcases List.mem_append.1 hx with hx | hx
    · exact hP x hx
    · rw [List.mem_singleton] at hx; subst hx; exact ⟨h0, h1⟩
  have hl := nodup_len N _ hnd hin
  rw [List.length_append, List.length_singleton] at hl
  obtain ⟨f', rfl⟩ : ∃ f', f = f' + 1 := ⟨f - 1, by omega⟩
  exact ⟨f', rfl, by rw [List.length_append, List.length_singleton]; omega, by rw [goT, if_pos ⟨h0, h⟩], hnd, hin⟩
theorem nextT_rng (W H : Int) (ac up : Bool) (s1 s2 : Int × Int) (t : Int) (P : List Int) (n : Int) : -1 ≤ nextT W H ac up s1 s2 t P n ∧ (nextT W H ac up s1 s2 t P n = -1 ∨ nextT W H ac up s1 s2 t P n < W * H) := by
  unfold nextT; split
  · exact stepA_rng W H ac up n s2.1 s2.2
  · exact stepA_rng W H ac up n s1.1 s1.2
theorem goT_len {W H t : Int} {ac up : Bool} {s1 s2 : Int × Int} : ∀ (f : Nat) (P : List Int) (n : Int), (goT W H ac up s1 s2 t f P n).length ≤ P.length + f
  | 0, P, n => by simp [goT]
  | f + 1, P, n => by
    unfold goT
    split
    · have := goT_len (W := W) (H := H) (t := t) (ac := ac) (up := up) (s1 := s1) (s2 := s2) f (P ++ [n]) (nextT W H ac up s1 s2 t (P ++ [n]) n)
      rw [List.length_append, List.length_singleton] at this
      omega
    · omega
theorem turnsL_len {W H t : Int} {ac up : Bool} {s1 s2 : Int × Int} (hg : goodA W H = true) : (turnsL W H ac up s1 s2 t).length ≤ 144 := by
  have h1 := goT_len (W := W) (H := H) (t := t) (ac := ac) (up := up) (s1 := s1) (s2 := s2) (W * H).toNat [] 0
  have h2 := areaA hg
  unfold turnsL
  simp only [List.length_nil] at h1
  omega
/-- Of the first M numbers those that stand in a list. -/
def seenL (M : Nat) (P : List Int) : List Bool := (List.range M).map fun i : Nat => decide ((i : Int) ∈ P)
theorem seenL_len (M : Nat) (P : List Int) : (seenL M P).length = M := by simp [seenL]
theorem seenL_at {M i : Nat} {P : List Int} (h : i < M) : (seenL M P)[i]? = some (decide ((i : Int) ∈ P)) := by simp [seenL, h]
theorem seenL_set {M i : Nat} {P : List Int} : (seenL M P).set i true = seenL M (P ++ [(i : Int)]) := by
  apply List.ext_getElem?
  intro j
  rw [List.getElem?_set]
  by_cases hj : j < M
  · rw [seenL_at hj, seenL_at hj, seenL_len]
    by_cases e : i = j
    · subst e; rw [if_pos rfl, if_pos hj]; simp
    · rw [if_neg e]
      have : ¬ (j : Int) = (i : Int) := by omega
      simp [this]
  · have e1 : (seenL M P)[j]? = none := List.getElem?_eq_none (by rw [seenL_len]; omega)
    have e2 : (seenL M (P ++ [(i : Int)]))[j]? = none := List.getElem?_eq_none (by rw [seenL_len]; omega)
    rw [e1, e2, seenL_len]
    by_cases e : i = j
    · subst e; rw [if_pos rfl, if_neg hj]
    · rw [if_neg e]
theorem seenL_nil (M : Nat) : seenL M [] = List.replicate M false := by
  simp [seenL, List.map_const']
def lenA (a b : Int) : Int := ((stepsL a b).length : Int)
def okT (W H a b f s t : Int) : Bool := leaperB a b && goodA W H && inB f 0 (lenA a b - 1) && inB s 0 (lenA a b - 1) && inB t 2 150
def stepN (a b f : Int) : Int × Int := (stepsL a b).getD f.toNat (0, 0)
def turnsV (W H : Int) (ac up : Bool) (a b f s t : Int) : List Int := if okT W H a b f s t then turnsL W H ac up (stepN a b f) (stepN a b s) t else []
theorem okT_iff {W H a b f s t : Int} : okT W H a b f s t = true ↔ leaperB a b = true ∧ goodA W H = true ∧ (0 ≤ f ∧ f < lenA a b) ∧ (0 ≤ s ∧ s < lenA a b) ∧ (2 ≤ t ∧ t ≤ 150) := by
  simp only [okT, Bool.and_eq_true, inB_iff]
  constructor
  · rintro ⟨⟨⟨⟨h1, h2⟩, h3⟩, h4⟩, h5⟩; exact ⟨h1, h2, by omega, by omega, h5⟩
  · rintro ⟨h1, h2, h3, h4, h5⟩; exact ⟨⟨⟨⟨h1, h2⟩, by omega⟩, by omega⟩, h5⟩
theorem turnsV_no {W H a b f s t : Int} {ac up : Bool} (h : okT W H a b f s t = false) : turnsV W H ac up a b f s t = [] := by rw [turnsV, h]; rfl
theorem len_TwoSteps (W H : Int) (ac up : Bool) (a b f s t : Int) : (turnsV W H ac up a b f s t).length ≤ 1000000 := by
  unfold turnsV; split
  · rename_i h; have := turnsL_len (t := t) (ac := ac) (up := up) (s1 := stepN a b f) (s2 := stepN a b s) (okT_iff.1 h).2.1; omega
  · simp
theorem stepN_at {a b f : Int} (h : 0 ≤ f ∧ f < lenA a b) : (stepsL a b)[f.toNat]? = some (stepN a b f) := by
  have h1 : f.toNat < (stepsL a b).length := by have := h.2; unfold lenA at this; omega
  rw [stepN, List.getD_eq_getElem?_getD, List.getElem?_eq_getElem h1]; rfl

end Go.Proofs.Ytaliknhfcdmohaa
