/-
  Plain functions and facts: boards around, steps and leaps around, lists without neighbours that are equal.
-/
import Derived.Test.YtaliknhfcdmohaaQ1
namespace Go.Proofs.Ytaliknhfcdmohaa
open Go.RowKit

def goodA (W H : Int) : Bool := inB W 1 12 && inB H 1 12
theorem goodA_iff {W H : Int} : goodA W H = true ↔ (1 ≤ W ∧ W ≤ 12) ∧ (1 ≤ H ∧ H ≤ 12) := by simp [goodA, inB]
theorem mul12 {x y : Int} (hx : 0 ≤ x ∧ x ≤ 12) (hy : 0 ≤ y ∧ y ≤ 12) : 0 ≤ x * y ∧ x * y ≤ 144 :=
  ⟨Int.mul_nonneg hx.1 hy.1, by have := Int.mul_le_mul hx.2 hy.2 hy.1 (by decide); omega⟩
theorem areaA {W H : Int} (h : goodA W H = true) : 1 ≤ W * H ∧ W * H ≤ 144 := by
  obtain ⟨h1, h2⟩ := goodA_iff.1 h
  exact ⟨by have := Int.mul_le_mul h1.1 h2.1 (by decide) (by omega); omega, (mul12 ⟨by omega, h1.2⟩ ⟨by omega, h2.2⟩).2⟩
def cellA (W H q : Int) : Bool := goodA W H && inB q 0 (W * H - 1)
theorem cellA_iff {W H q : Int} : cellA W H q = true ↔ goodA W H = true ∧ 0 ≤ q ∧ q < W * H := by
  rw [cellA, Bool.and_eq_true, inB_iff]
  constructor
  · rintro ⟨h1, h2, h3⟩; exact ⟨h1, h2, by omega⟩
  · rintro ⟨h1, h2, h3⟩; exact ⟨h1, h2, by omega⟩
def byA (x y : Int) : Bool := inB x (-20) 20 && inB y (-20) 20
def colA (j : Bool) (n p : Int) : Int := if j then p % n else p
def inA (W H p q : Int) : Bool := inB p 0 (W - 1) && inB q 0 (H - 1)
def stepA (W H : Int) (ac up : Bool) (q x y : Int) : Int :=
  if inA W H (colA ac W (q % W + x)) (colA up H (q / W + y)) then colA up H (q / W + y) * W + colA ac W (q % W + x) else -1
theorem inA_iff {W H p q : Int} : inA W H p q = true ↔ (0 ≤ p ∧ p < W) ∧ (0 ≤ q ∧ q < H) := by
  rw [inA, Bool.and_eq_true, inB_iff, inB_iff]; omega
theorem wrap_tmod {n p : Int} (hn : 1 ≤ n) : (p.tmod n + n).tmod n = p % n := by
  have h1 : 0 ≤ p.tmod n + n := by have := Int.lt_tmod_of_pos p (show 0 < n by omega); omega
  rw [Int.tmod_eq_emod_of_nonneg h1, Int.add_emod_right, Int.tmod_def, Int.sub_emod, Int.mul_emod_right, Int.sub_zero, Int.emod_emod]
theorem mod_bdA {W q : Int} (hW : 1 ≤ W ∧ W ≤ 12) : 0 ≤ q % W ∧ q % W < W ∧ q % W ≤ 11 :=
  ⟨Int.emod_nonneg _ (by omega), Int.emod_lt_of_pos _ (by omega), by have := Int.emod_lt_of_pos q (show 0 < W by omega); omega⟩
theorem div_bdA {W H q : Int} (hW : 1 ≤ W) (hq : 0 ≤ q ∧ q < W * H) : 0 ≤ q / W ∧ q / W < H :=
  ⟨Int.ediv_nonneg hq.1 (by omega), Int.ediv_lt_of_lt_mul (by omega) (by rw [Int.mul_comm]; exact hq.2)⟩
theorem colA_rng {n p : Int} {j : Bool} (hn : 1 ≤ n ∧ n ≤ 12) (hp : -100 ≤ p ∧ p ≤ 100) : -100 ≤ colA j n p ∧ colA j n p ≤ 100 := by
  unfold colA; split
  · have := mod_bdA (q := p) hn; omega
  · exact hp
theorem numA {W H p q : Int} (h : inA W H p q = true) : 0 ≤ q * W + p ∧ q * W + p < W * H := by
  obtain ⟨h1, h2⟩ := inA_iff.1 h
  have h3 : 0 ≤ q * W := Int.mul_nonneg h2.1 (by omega)
  have h4 : (q + 1) * W ≤ H * W := Int.mul_le_mul_of_nonneg_right (by omega) (by omega)
  rw [Int.add_mul] at h4
  rw [Int.mul_comm W H]
  omega
theorem stepA_rng (W H : Int) (ac up : Bool) (q x y : Int) : -1 ≤ stepA W H ac up q x y ∧ (stepA W H ac up q x y = -1 ∨ stepA W H ac up q x y < W * H) := by
  unfold stepA; split
  · rename_i h; have := numA h; omega
  · omega
theorem stepA_no {W H q x y : Int} {ac up : Bool} (h : inA W H (colA ac W (q % W + x)) (colA up H (q / W + y)) = false) : stepA W H ac up q x y = -1 := by
  unfold stepA; rw [h]; rfl
theorem stepA_yes {W H q x y : Int} {ac up : Bool} (h : inA W H (colA ac W (q % W + x)) (colA up H (q / W + y)) = true) : stepA W H ac up q x y = colA up H (q / W + y) * W + colA ac W (q % W + x) := by
  unfold stepA; rw [h]; rfl

/-! ### The leaps from a cell -/
def okA (W H : Int) (ac up : Bool) (q : Int) (p : Int × Int) : Bool := decide (0 ≤ stepA W H ac up q p.1 p.2) && decide (stepA W H ac up q p.1 p.2 ≠ q)
def leapsA (W H : Int) (ac up : Bool) (a b q : Int) : List Int := (upTo (W * H).toNat).filter fun c => decide (c ≠ q) && (stepsL a b).any fun p => decide (stepA W H ac up q p.1 p.2 = c)
/-- The steps taken so far, in the model. -/
def accA (W H : Int) (ac up : Bool) (q : Int) (l : List (Int × Int)) : List Int := l.foldl (fun out p => if okA W H ac up q p = true then insI (stepA W H ac up q p.1 p.2) out else out) []
/-- The same in the program, in the order of the steps. -/
def endsA (W H : Int) (ac up : Bool) (q : Int) (l : List (Int × Int)) : List Int := (l.filter (okA W H ac up q)).map fun p => stepA W H ac up q p.1 p.2
theorem okA_iff {W H q : Int} {ac up : Bool} {p : Int × Int} : okA W H ac up q p = true ↔ 0 ≤ stepA W H ac up q p.1 p.2 ∧ stepA W H ac up q p.1 p.2 ≠ q := by simp [okA]
theorem leapsA_mem {W H a b q c : Int} {ac up : Bool} : c ∈ leapsA W H ac up a b q ↔ ∃ p ∈ stepsL a b, okA W H ac up q p = true ∧ stepA W H ac up q p.1 p.2 = c := by
  rw [leapsA, List.mem_filter, upTo_mem, Bool.and_eq_true, List.any_eq_true]
  simp only [decide_eq_true_eq]
  constructor
  · rintro ⟨⟨h1, _⟩, h3, p, hp, he⟩
    exact ⟨p, hp, okA_iff.2 ⟨by omega, by omega⟩, he⟩
  · rintro ⟨p, hp, hk, he⟩
    have h1 := okA_iff.1 hk
    have h2 := stepA_rng W H ac up q p.1 p.2
    exact ⟨⟨by omega, by omega⟩, by omega, p, hp, he⟩
theorem leapsA_rise (W H : Int) (ac up : Bool) (a b q : Int) : (leapsA W H ac up a b q).Pairwise (· < ·) := (upTo_pairwise _).filter _
theorem accA_snoc (W H : Int) (ac up : Bool) (q : Int) (l : List (Int × Int)) (p : Int × Int) : accA W H ac up q (l ++ [p]) = if okA W H ac up q p = true then insI (stepA W H ac up q p.1 p.2) (accA W H ac up q l) else accA W H ac up q l := by
  simp [accA, List.foldl_append]
theorem accA_factsN (W H : Int) (ac up : Bool) (q : Int) : ∀ (n : Nat) (l : List (Int × Int)), l.length = n → (accA W H ac up q l).Pairwise (· < ·) ∧ (accA W H ac up q l).length ≤ l.length ∧ ∀ c, c ∈ accA W H ac up q l ↔ ∃ p ∈ l, okA W H ac up q p = true ∧ stepA W H ac up q p.1 p.2 = c := by
  intro n
  induction n with
  | zero =>
    intro l hl
    obtain rfl := List.eq_nil_of_length_eq_zero hl
    exact ⟨List.Pairwise.nil, by simp [accA], by simp [accA]⟩
  | succ n ih =>
    intro l hl
    rcases List.eq_nil_or_concat l with rfl | ⟨l, p, rfl⟩
    · simp at hl
    obtain ⟨h1, h2, h3⟩ := ih l (by simpa using hl)
    rw [List.concat_eq_append, accA_snoc]
    split
    · rename_i hk
      refine ⟨insI_rise _ _ h1, by have := insI_len (stepA W H ac up q p.1 p.2) (accA W H ac up q l); rw [List.length_append]; simp; omega, fun c => ?_⟩
      rw [insI_mem, h3]
      constructor
      · rintro (rfl | ⟨p', hp, h4⟩)
        · exact ⟨p, by simp, hk, rfl⟩
        · exact ⟨p', by simp [hp], h4⟩
      · rintro ⟨p', hp, h4, h5⟩
        rcases List.mem_append.1 hp with hp | hp
        · exact .inr ⟨p', hp, h4, h5⟩
        · rw [List.mem_singleton] at hp; subst hp; exact .inl h5.symm
    · rename_i hk
      refine ⟨h1, by rw [List.length_append]; omega, fun c => ?_⟩
      rw [h3]
      constructor
      · rintro ⟨p', hp, h4⟩; exact ⟨p', by simp [hp], h4⟩
      · rintro ⟨p', hp, h4, h5⟩
        rcases List.mem_append.1 hp with hp | hp
        · exact ⟨p', hp, h4, h5⟩
        · rw [List.mem_singleton] at hp; subst hp; exact absurd h4 hk
theorem accA_facts (W H : Int) (ac up : Bool) (q : Int) (l : List (Int × Int)) : (accA W H ac up q l).Pairwise (· < ·) ∧ (accA W H ac up q l).length ≤ l.length ∧ ∀ c, c ∈ accA W H ac up q l ↔ ∃ p ∈ l, okA W H ac up q p = true ∧ stepA W H ac up q p.1 p.2 = c := accA_factsN W H ac up q _ l rfl
theorem accA_all (W H : Int) (ac up : Bool) (a b q : Int) : accA W H ac up q (stepsL a b) = leapsA W H ac up a b q :=
  rise_unique (accA_facts W H ac up q _).1 (leapsA_rise W H ac up a b q) fun c => by rw [(accA_facts W H ac up q _).2.2, leapsA_mem]
theorem leapsA_len {W H a b q : Int} {ac up : Bool} (hl : leaperB a b = true) : (leapsA W H ac up a b q).length ≤ 8 := by
  rw [← accA_all]; exact Nat.le_trans (accA_facts W H ac up q _).2.1 (stepsL_len hl)
theorem endsA_len {W H q : Int} {ac up : Bool} {l : List (Int × Int)} : (endsA W H ac up q l).length ≤ l.length := by
  rw [endsA, List.length_map]; exact List.length_filter_le _ _
theorem endsA_mem {W H q c : Int} {ac up : Bool} {l : List (Int × Int)} : c ∈ endsA W H ac up q l ↔ ∃ p ∈ l, okA W H ac up q p = true ∧ stepA W H ac up q p.1 p.2 = c := by
  rw [endsA, List.mem_map]
  constructor
  · rintro ⟨p, hp, h⟩; rw [List.mem_filter] at hp; exact ⟨p, hp.1, hp.2, h⟩
  · rintro ⟨p, hp, h1, h2⟩; exact ⟨p, List.mem_filter.2 ⟨hp, h1⟩, h2⟩
theorem endsA_yes {W H q : Int} {ac up : Bool} {l : List (Int × Int)} {k : Nat} {p : Int × Int} (hx : l[k]? = some p) (h : okA W H ac up q p = true) : endsA W H ac up q (l.take (k + 1)) = endsA W H ac up q (l.take k) ++ [stepA W H ac up q p.1 p.2] := by
  rw [List.take_add_one, hx, endsA, List.filter_append]; simp [endsA, h]
theorem endsA_no {W H q : Int} {ac up : Bool} {l : List (Int × Int)} {k : Nat} {p : Int × Int} (hx : l[k]? = some p) (h : okA W H ac up q p = false) : endsA W H ac up q (l.take (k + 1)) = endsA W H ac up q (l.take k) := by
  rw [List.take_add_one, hx, endsA, List.filter_append]; simp [endsA, h]
/-- Neighbours that are equal are told once: of a list in order that leaves each number once. -/
theorem comp_rise {l : List Int} (hs : l.Pairwise (· ≤ ·)) : ∀ m, m ≤ l.length → (Lib.compactUpTo l.toArray m).Pairwise (· < ·) ∧ ∀ x, x ∈ Lib.compactUpTo l.toArray m ↔ x ∈ l.take m := by
  intro m
  induction m with
  | zero => intro _; simp [Lib.compactUpTo]
  | succ m ih =>
    intro hm
    obtain ⟨h1, h2⟩ := ih (by omega)
    have hd : (l.toArray)[m]! = l[m]'(by omega) := by simp [getElem!_pos, show m < l.length by omega]
    have hx : l[m]? = some (l[m]'(by omega)) := List.getElem?_eq_getElem (by omega)
    rw [Lib.compactUpTo_succ, hd, List.take_add_one, hx]
    simp only [Option.toList_some]
    by_cases hk : Lib.keeps l.toArray m = true
    · rw [if_pos hk]
      refine ⟨List.pairwise_append.2 ⟨h1, by simp, fun x hx' y hy => ?_⟩, fun x => by rw [List.mem_append, List.mem_append, h2]⟩
      rw [List.mem_singleton] at hy
      subst hy
      obtain ⟨j, hj, hjx⟩ := List.mem_iff_getElem.1 ((h2 x).1 hx')
      rw [List.length_take] at hj
      rw [List.getElem_take] at hjx
      have hm0 : m ≠ 0 := by omega
      have hd1 : (l.toArray)[m - 1]! = l[m - 1]'(by omega) := by simp [getElem!_pos, show m - 1 < l.length by omega]
      have hne : l[m]'(by omega) ≠ l[m - 1]'(by omega) := by
        simp only [Lib.keeps, decide_eq_true_eq] at hk
        rcases hk with hk | hk
        · exact absurd hk hm0
        · rw [hd, hd1] at hk; exact hk
      have hle : l[m - 1]'(by omega) ≤ l[m]'(by omega) := List.pairwise_iff_getElem.1 hs (m - 1) m (by omega) (by omega) (by omega)
      have hle2 : x ≤ l[m - 1]'(by omega) := by
        rcases Nat.lt_or_ge j (m - 1) with h | h
        · rw [← hjx]; exact List.pairwise_iff_getElem.1 hs j (m - 1) (by omega) (by omega) h
        · have : j = m - 1 := by omega
          subst this; rw [hjx]; omega
      omega
    · rw [if_neg hk, List.append_nil]
      refine ⟨h1, fun x => ?_⟩
      rw [h2, List.mem_append]
      refine ⟨fun h => .inl h, fun h => ?_⟩
      rcases h with h | h
      · exact h
      · rw [List.mem_singleton] at h
        have hm0 : m ≠ 0 := by rintro rfl; simp [Lib.keeps] at hk
        have hd1 : (l.toArray)[m - 1]! = l[m - 1]'(by omega) := by simp [getElem!_pos, show m - 1 < l.length by omega]
        have he : l[m]'(by omega) = l[m - 1]'(by omega) := by
          simp only [Lib.keeps, decide_eq_true_eq, not_or, Classical.not_not] at hk
          have := hk.2
          rw [hd, hd1] at this; exact this
        rw [h, he]
        exact List.mem_iff_getElem.2 ⟨m - 1, by rw [List.length_take]; omega, by rw [List.getElem_take]⟩
theorem comp_ends {W H a b q : Int} {ac up : Bool} {l : List Int} (hp : l.Perm (endsA W H ac up q (stepsL a b))) (hs : l.Pairwise (· ≤ ·)) : Lib.compactUpTo l.toArray l.length = leapsA W H ac up a b q := by
  obtain ⟨h1, h2⟩ := comp_rise hs l.length (Nat.le_refl _)
  refine rise_unique h1 (leapsA_rise W H ac up a b q) fun c => ?_
  rw [h2, List.take_length, hp.mem_iff, endsA_mem, leapsA_mem]

end Go.Proofs.Ytaliknhfcdmohaa
