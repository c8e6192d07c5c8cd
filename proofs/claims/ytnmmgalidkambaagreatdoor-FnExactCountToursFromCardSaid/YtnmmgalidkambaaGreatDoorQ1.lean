/-
  Plain functions and facts: the steps of a leaper, the cells to which it leaps, pairs of leaps, holes that are carried to another board.
-/
import Derived.Test.YtnmmgalidkambaaGreatDoorB9
import Derived.Lib.SlicesCompact
namespace Go.Proofs.YtnmmgalidkambaaGreatDoor
open Go.RowKit

def rangeI (b : Int) : List Int := (List.range (2 * b + 1).toNat).map fun i : Nat => (i : Int) - b
def stepB (a b x y : Int) : Bool := decide ((absV x = a ∧ absV y = b) ∨ (absV x = b ∧ absV y = a))
def stepsL (a b : Int) : List (Int × Int) := (rangeI b).flatMap fun x => ((rangeI b).filter (stepB a b x)).map fun y => (x, y)
def eightL (a b : Int) : List (Int × Int) := [(a, b), (-a, b), (a, -b), (-a, -b), (b, a), (-b, a), (b, -a), (-b, -a)]
def lexB (p q : Int × Int) : Bool := decide (p.1 < q.1 ∨ (p.1 = q.1 ∧ p.2 < q.2))
/-- insertion into a list in order -/
def insL (p : Int × Int) : List (Int × Int) → List (Int × Int)
  | [] => [p]
  | q :: t => if lexB q p then q :: insL p t else p :: q :: t
def sortL (l : List (Int × Int)) : List (Int × Int) := l.foldr insL []
theorem leaper_cases {a b : Int} (h : leaperB a b = true) {P : Int → Int → Prop} (hP : ∀ a ∈ [0,1,2,3,4,5], ∀ b ∈ [1,2,3,4,5], a ≤ b → P a b) : P a b := by
  simp [leaperB] at h
  obtain ⟨h1, h2, h3, h4⟩ := h
  refine hP a ?_ b ?_ h2 <;> simp <;> omega
theorem ins_perm (p : Int × Int) (l : List (Int × Int)) : (insL p l).Perm (p :: l) := by
  induction l with
  | nil => exact List.Perm.refl _
  | cons q t ih =>
    unfold insL
    split
    · exact (ih.cons q).trans (List.Perm.swap _ _ _)
    · exact List.Perm.refl _
theorem sort_perm (l : List (Int × Int)) : (sortL l).Perm l := by
  induction l with
  | nil => exact List.Perm.refl _
  | cons p t ih => exact (ins_perm p _).trans (ih.cons p)
def lexLe (p q : Int × Int) : Prop := lexB q p = false
theorem lexB_iff {p q : Int × Int} : lexB p q = true ↔ p.1 < q.1 ∨ (p.1 = q.1 ∧ p.2 < q.2) := by simp [lexB]
theorem lexLe_iff {p q : Int × Int} : lexLe p q ↔ p.1 < q.1 ∨ (p.1 = q.1 ∧ p.2 ≤ q.2) := by
  simp [lexLe, lexB]; omega
theorem ins_sorted {p : Int × Int} {l : List (Int × Int)} (h : l.Pairwise lexLe) : (insL p l).Pairwise lexLe := by
  induction l with
  | nil => simp [insL]
  | cons q t ih =>
    rw [List.pairwise_cons] at h
    unfold insL
    split
    · rename_i hq
      refine List.Pairwise.cons (fun x hx => ?_) (ih h.2)
      rcases List.mem_cons.1 ((ins_perm p t).mem_iff.1 hx) with rfl | hx
      · rw [lexLe_iff]; have := lexB_iff.1 hq; omega
      · exact h.1 x hx
    · rename_i hq
      have hpq : lexLe p q := by simpa [lexLe] using hq
      refine List.Pairwise.cons (fun x hx => ?_) (List.Pairwise.cons h.1 h.2)
      rcases List.mem_cons.1 hx with rfl | hx
      · exact hpq
      · have := h.1 x hx; rw [lexLe_iff] at *; omega
theorem sort_sorted (l : List (Int × Int)) : (sortL l).Pairwise lexLe := by
  induction l with
  | nil => exact List.Pairwise.nil
  | cons p t ih => exact ins_sorted ih
theorem lexLe_antisymm {p q : Int × Int} (h1 : lexLe p q) (h2 : lexLe q p) : p = q := by
  rw [lexLe_iff] at *
  ext <;> omega
theorem sorted_unique {l m : List (Int × Int)} (hp : l.Perm m) (hl : l.Pairwise lexLe) (hm : m.Pairwise lexLe) : l = m := by
  induction l generalizing m with
  | nil => exact (List.Perm.nil_eq hp)
  | cons p t ih =>
    cases m with
    | nil => exact absurd hp.length_eq (by simp)
    | cons q r =>
      rw [List.pairwise_cons] at hl hm
      have e : p = q := by
        have h1 : q ∈ p :: t := hp.mem_iff.2 List.mem_cons_self
        have h2 : p ∈ q :: r := hp.mem_iff.1 List.mem_cons_self
        rcases List.mem_cons.1 h1 with e | h1
        · exact e.symm
        · rcases List.mem_cons.1 h2 with e | h2
          · exact e
          · exact lexLe_antisymm (hl.1 q h1) (hm.1 p h2)
      subst e
      rw [ih (List.Perm.cons_inv hp) hl.2 hm.2]

theorem comp_sort_eight {a b : Int} (h : leaperB a b = true) : Lib.compactUpTo (sortL (eightL a b)).toArray 8 = stepsL a b :=
  leaper_cases h (P := fun a b => Lib.compactUpTo (sortL (eightL a b)).toArray 8 = stepsL a b) (by decide)
theorem stepB_iff {a b x y : Int} : stepB a b x y = true ↔ (absV x = a ∧ absV y = b) ∨ (absV x = b ∧ absV y = a) := by simp [stepB]
theorem rangeI_mem {b x : Int} : x ∈ rangeI b ↔ -b ≤ x ∧ x ≤ b := by
  simp only [rangeI, List.mem_map, List.mem_range]
  constructor
  · rintro ⟨i, hi, rfl⟩; omega
  · intro h; exact ⟨(x + b).toNat, by omega, by omega⟩
theorem stepsL_mem {a b : Int} {p : Int × Int} (h : leaperB a b = true) : p ∈ stepsL a b ↔ stepB a b p.1 p.2 = true := by
  simp only [leaperB, decide_eq_true_eq] at h
  simp only [stepsL, List.mem_flatMap, List.mem_map, List.mem_filter]
  constructor
  · rintro ⟨x, hx, y, ⟨hy, hs⟩, rfl⟩; exact hs
  · intro hs
    have h1 : -b ≤ p.1 ∧ p.1 ≤ b ∧ -b ≤ p.2 ∧ p.2 ≤ b := by
      rw [stepB_iff] at hs; unfold absV at hs
      split at hs <;> split at hs <;> omega
    exact ⟨p.1, rangeI_mem.2 (by omega), p.2, ⟨rangeI_mem.2 (by omega), hs⟩, rfl⟩
theorem rangeI_nodup (b : Int) : (rangeI b).Nodup := by
  rw [rangeI, List.Nodup, List.pairwise_map]
  exact List.nodup_range.imp (fun h => by omega)
theorem stepsL_nodup {a b : Int} (h : leaperB a b = true) : (stepsL a b).Nodup :=
  leaper_cases h (P := fun a b => (stepsL a b).Nodup) (by decide)
theorem stepsL_len {a b : Int} (h : leaperB a b = true) : (stepsL a b).length ≤ 8 :=
  leaper_cases h (P := fun a b => (stepsL a b).length ≤ 8) (by decide)
theorem stepsL_bd {a b : Int} {p : Int × Int} (h : leaperB a b = true) (hp : p ∈ stepsL a b) : -5 ≤ p.1 ∧ p.1 ≤ 5 ∧ -5 ≤ p.2 ∧ p.2 ≤ 5 := by
  have hs := (stepsL_mem h).1 hp
  simp only [leaperB, decide_eq_true_eq] at h
  rw [stepB_iff] at hs; unfold absV at hs
  split at hs <;> split at hs <;> omega
/-! ### The cells to which a leaper leaps -/
def leapsL (W H : Int) (hs : List Int) (a b c : Int) : List Int := (cellsL W H hs).filter (leapB W a b c)
def spotB (W H : Int) (hs : List Int) (x y : Int) : Bool := decide (0 ≤ x ∧ x < W) && hasB W H hs (y * W + x)
def endN (W c : Int) (p : Int × Int) : Int := (c / W + p.2) * W + (c % W + p.1)
def goesL (W H : Int) (hs : List Int) (a b c : Int) : List (Int × Int) := (stepsL a b).filter fun p => spotB W H hs (c % W + p.1) (c / W + p.2)
theorem spotB_iff {W H x y : Int} {hs : List Int} : spotB W H hs x y = true ↔ (0 ≤ x ∧ x < W) ∧ hasB W H hs (y * W + x) = true := by simp [spotB]
theorem rise_unique : ∀ {l m : List Int}, l.Pairwise (· < ·) → m.Pairwise (· < ·) → (∀ x, x ∈ l ↔ x ∈ m) → l = m
  | [], [], _, _, _ => rfl
  | [], y :: m, _, _, h => absurd ((h y).2 List.mem_cons_self) (by simp)
  | x :: l, [], _, _, h => absurd ((h x).1 List.mem_cons_self) (by simp)
  | x :: l, y :: m, hl, hm, h => by
    rw [List.pairwise_cons] at hl hm
    have e : x = y := by
      have h1 := (h x).1 List.mem_cons_self
      have h2 := (h y).2 List.mem_cons_self
      rcases List.mem_cons.1 h1 with e | h1
      · exact e
      · rcases List.mem_cons.1 h2 with e | h2
        · exact e.symm
        · have := hl.1 y h2; have := hm.1 x h1; omega
    subst e
    rw [rise_unique hl.2 hm.2 fun z => ?_]
    constructor
    · intro hz
      rcases List.mem_cons.1 ((h z).1 (List.mem_cons_of_mem _ hz)) with e | h'
      · have := hl.1 z hz; omega
      · exact h'
    · intro hz
      rcases List.mem_cons.1 ((h z).2 (List.mem_cons_of_mem _ hz)) with e | h'
      · have := hm.1 z hz; omega
      · exact h'
theorem rise_of_sorted : ∀ {l : List Int}, l.Pairwise (· ≤ ·) → l.Nodup → l.Pairwise (· < ·)
  | [], _, _ => List.Pairwise.nil
  | x :: l, h, hn => by
    rw [List.pairwise_cons] at h
    rw [List.nodup_cons] at hn
    exact List.Pairwise.cons (fun y hy => by have := h.1 y hy; have : x ≠ y := fun e => hn.1 (e ▸ hy); omega) (rise_of_sorted h.2 hn.2)
theorem mod_of {W x y : Int} (hx : 0 ≤ x ∧ x < W) : (y * W + x) % W = x ∧ (y * W + x) / W = y := by
  constructor
  · rw [Int.add_comm, Int.add_mul_emod_self_right]; exact Int.emod_eq_of_lt hx.1 hx.2
  · rw [Int.add_comm, Int.add_mul_ediv_right _ _ (by omega), Int.ediv_eq_zero_of_lt hx.1 hx.2]; omega
theorem num_of (W q : Int) : q / W * W + q % W = q := by have := Int.emod_add_mul_ediv q W; rw [Int.mul_comm]; omega
theorem end_parts {W H c : Int} {hs : List Int} {p : Int × Int} (h : spotB W H hs (c % W + p.1) (c / W + p.2) = true) : endN W c p % W = c % W + p.1 ∧ endN W c p / W = c / W + p.2 :=
  mod_of (spotB_iff.1 h).1
theorem ends_mem {W H a b c q : Int} {hs : List Int} (hW : 1 ≤ W) (hl : leaperB a b = true) : q ∈ (goesL W H hs a b c).map (endN W c) ↔ q ∈ leapsL W H hs a b c := by
  simp only [List.mem_map, goesL, leapsL, List.mem_filter, cellsL_mem]
  constructor
  · rintro ⟨p, ⟨hp, hs'⟩, rfl⟩
    obtain ⟨e1, e2⟩ := end_parts hs'
    refine ⟨(spotB_iff.1 hs').2, ?_⟩
    have := stepB_iff.1 ((stepsL_mem hl).1 hp)
    rw [leapB, e1, e2, decide_eq_true_eq, absV_sub _ (c % W + p.1), absV_sub _ (c / W + p.2), show c % W + p.1 - c % W = p.1 by omega, show c / W + p.2 - c / W = p.2 by omega]
    exact this
  · rintro ⟨hq, hlp⟩
    have hx0 := Int.emod_nonneg q (show W ≠ 0 by omega)
    have hx1 := Int.emod_lt_of_pos q (show 0 < W by omega)
    have e1 : c % W + (q % W - c % W) = q % W := by omega
    have e2 : c / W + (q / W - c / W) = q / W := by omega
    refine ⟨(q % W - c % W, q / W - c / W), ⟨(stepsL_mem hl).2 (stepB_iff.2 ?_), ?_⟩, ?_⟩
    · rw [leapB, decide_eq_true_eq, absV_sub (c % W), absV_sub (c / W)] at hlp; exact hlp
    · rw [e1, e2]; exact spotB_iff.2 ⟨⟨hx0, hx1⟩, by rw [num_of]; exact hq⟩
    · show (c / W + (q / W - c / W)) * W + (c % W + (q % W - c % W)) = q
      rw [e1, e2, num_of]
theorem ends_nodup {W H a b c : Int} {hs : List Int} (hl : leaperB a b = true) : ((goesL W H hs a b c).map (endN W c)).Nodup := by
  rw [List.Nodup, List.pairwise_map]
  have h := (stepsL_nodup hl).filter fun p => spotB W H hs (c % W + p.1) (c / W + p.2)
  refine List.Pairwise.imp_of_mem (fun {p q} hp hq hne he => hne ?_) h
  obtain ⟨e1, e2⟩ := end_parts (List.mem_filter.1 hp).2
  obtain ⟨e3, e4⟩ := end_parts (List.mem_filter.1 hq).2
  rw [he] at e1 e2
  ext <;> omega
theorem leapsL_rise (W H : Int) (hs : List Int) (a b c : Int) : (leapsL W H hs a b c).Pairwise (· < ·) := (cellsL_pairwise W H hs).filter _
theorem ends_sorted {W H a b c : Int} {hs l : List Int} (hW : 1 ≤ W) (hl : leaperB a b = true) (hp : l.Perm ((goesL W H hs a b c).map (endN W c))) (hs' : l.Pairwise (· ≤ ·)) : l = leapsL W H hs a b c :=
  rise_unique (rise_of_sorted hs' ((hp.nodup_iff).2 (ends_nodup hl))) (leapsL_rise ..) fun _ => (hp.mem_iff).trans (ends_mem hW hl)
theorem goesL_len {W H a b c : Int} {hs : List Int} (hW : 1 ≤ W) (hl : leaperB a b = true) : (goesL W H hs a b c).length = (leapsL W H hs a b c).length := by
  have h := (List.perm_ext_iff_of_nodup (ends_nodup (c := c) hl) ((leapsL_rise W H hs a b c).imp (fun h => by omega))).2 (fun x => ends_mem hW hl)
  have := h.length_eq
  rwa [List.length_map] at this

/-! ### Pairs -/
def leadsB (p : Int × Int) : Bool := decide (0 < p.2 ∨ (p.2 = 0 ∧ 0 < p.1))
theorem leads_iff {W H a b c : Int} {hs : List Int} {p : Int × Int} (hW : 1 ≤ W) (hp : p ∈ goesL W H hs a b c) : leadsB p = decide (c < endN W c p) := by
  obtain ⟨e1, e2⟩ := end_parts (List.mem_filter.1 hp).2
  have hb := (spotB_iff.1 (List.mem_filter.1 hp).2).1
  have hx0 := Int.emod_nonneg c (show W ≠ 0 by omega)
  have hx1 := Int.emod_lt_of_pos c (show 0 < W by omega)
  have hn := num_of W c
  have he : endN W c p = c / W * W + p.2 * W + (c % W + p.1) := by rw [endN, Int.add_mul]
  rw [leadsB, Bool.eq_iff_iff, decide_eq_true_eq, decide_eq_true_eq, he]
  have : p.2 * W + p.1 > 0 ↔ (0 < p.2 ∨ (p.2 = 0 ∧ 0 < p.1)) := by
    constructor
    · intro h
      rcases Int.lt_trichotomy p.2 0 with h2 | h2 | h2
      · have : p.2 * W ≤ (-1) * W := Int.mul_le_mul_of_nonneg_right (by omega) (by omega)
        omega
      · rw [h2] at h; omega
      · omega
    · rintro (h | ⟨h1, h2⟩)
      · have : 1 * W ≤ p.2 * W := Int.mul_le_mul_of_nonneg_right (by omega) (by omega)
        omega
      · rw [h1]; omega
  rw [← this]; omega
theorem leads_count {W H a b c : Int} {hs : List Int} (hW : 1 ≤ W) (hl : leaperB a b = true) : ((goesL W H hs a b c).filter leadsB).length = ((leapsL W H hs a b c).filter fun q => decide (c < q)).length := by
  have h := (List.perm_ext_iff_of_nodup (ends_nodup (c := c) hl) ((leapsL_rise W H hs a b c).imp (fun h => by omega))).2 (fun x => ends_mem hW hl)
  have h2 := (h.filter fun q => decide (c < q)).length_eq
  rw [List.filter_map, List.length_map] at h2
  rw [← h2]
  congr 1
  exact List.filter_congr fun p hp => leads_iff hW hp
theorem leapB_comm (W a b p q : Int) : leapB W a b p q = leapB W a b q p := by
  rw [leapB, leapB, absV_sub (p % W), absV_sub (p / W)]
theorem leapB_irr {W a b p : Int} (hl : leaperB a b = true) : leapB W a b p p = false := by
  simp only [leaperB, decide_eq_true_eq] at hl
  rw [leapB, decide_eq_false_iff_not, Int.sub_self, Int.sub_self]
  unfold absV; simp; omega
def sumL (l : List Int) : Int := l.foldl (· + ·) 0
theorem foldl_add (l : List Int) (z : Int) : l.foldl (· + ·) z = z + sumL l := by
  induction l generalizing z with
  | nil => simp [sumL]
  | cons x t ih =>
    have h : sumL (x :: t) = (0 + x) + sumL t := by rw [sumL, List.foldl_cons, ih]
    rw [List.foldl_cons, ih, h]; omega
theorem sumL_cons (x : Int) (t : List Int) : sumL (x :: t) = x + sumL t := by rw [sumL, List.foldl_cons, foldl_add]; omega
theorem sumL_snoc (x : Int) (t : List Int) : sumL (t ++ [x]) = sumL t + x := by rw [sumL, List.foldl_append]; rfl
theorem sumL_map_add (f g : Int → Int) (l : List Int) : sumL (l.map fun c => f c + g c) = sumL (l.map f) + sumL (l.map g) := by
  induction l with
  | nil => rfl
  | cons x t ih => simp only [List.map_cons, sumL_cons, ih]; omega
theorem count_as_sum (p : Int → Bool) (l : List Int) : ((l.filter p).length : Int) = sumL (l.map fun c => if p c then 1 else 0) := by
  induction l with
  | nil => rfl
  | cons x t ih =>
    rw [List.map_cons, sumL_cons, List.filter_cons]
    cases p x with
    | true => simp; omega
    | false => simp; omega
/-- Both directions of a relation: half of all pairs lead on. -/
theorem twice_pairs (R : Int → Int → Bool) (hR : ∀ p q, R p q = R q p) (hI : ∀ p, R p p = false) : ∀ {l : List Int}, l.Pairwise (· < ·) →
    2 * sumL (l.map fun c => (((l.filter (R c)).filter fun q => decide (c < q)).length : Int)) = sumL (l.map fun c => ((l.filter (R c)).length : Int))
  | [], _ => rfl
  | x :: t, h => by
    rw [List.pairwise_cons] at h
    have ih := twice_pairs R hR hI h.2
    simp only [List.map_cons, sumL_cons]
    have e1 : (((x :: t).filter (R x)).filter fun q => decide (x < q)) = t.filter (R x) := by
      rw [List.filter_cons, hI x, if_neg (by simp), List.filter_eq_self]
      intro q hq; simpa using h.1 q (List.mem_filter.1 hq).1
    have e2 : (x :: t).filter (R x) = t.filter (R x) := by rw [List.filter_cons, hI x, if_neg (by simp)]
    have e3 : (t.map fun c => ((((x :: t).filter (R c)).filter fun q => decide (c < q)).length : Int)) = t.map fun c => (((t.filter (R c)).filter fun q => decide (c < q)).length : Int) := by
      apply List.map_congr_left
      intro c hc
      have hxc := h.1 c hc
      rw [List.filter_cons]
      split
      · rw [List.filter_cons, if_neg (by simp; omega)]
      · rfl
    have e4 : (t.map fun c => (((x :: t).filter (R c)).length : Int)) = t.map fun c => (if R x c then 1 else 0) + ((t.filter (R c)).length : Int) := by
      apply List.map_congr_left
      intro c _
      rw [List.filter_cons, hR c x]
      cases R x c with
      | true => simp; omega
      | false => simp
    rw [e1, e2, e3, e4, sumL_map_add, ← count_as_sum]
    omega
theorem pairs_half {W H a b : Int} {hs : List Int} (hW : 1 ≤ W) (hl : leaperB a b = true) :
    sumL ((cellsL W H hs).map fun c => (((goesL W H hs a b c).filter leadsB).length : Int)) = sumL ((cellsL W H hs).map fun c => ((leapsL W H hs a b c).length : Int)) / 2 := by
  have h := twice_pairs (leapB W a b) (leapB_comm W a b) (fun p => leapB_irr hl) (cellsL_pairwise W H hs)
  have e : ((cellsL W H hs).map fun c => (((goesL W H hs a b c).filter leadsB).length : Int)) = (cellsL W H hs).map fun c => (((leapsL W H hs a b c).filter fun q => decide (c < q)).length : Int) := by
    apply List.map_congr_left
    intro c _
    rw [leads_count hW hl]
  rw [e]
  unfold leapsL
  omega
/-! ### Holes that are carried to another board -/
def insI (n : Int) : List Int → List Int
  | [] => [n]
  | x :: t => if x < n then x :: insI n t else if x = n then x :: t else n :: x :: t
def movedL (l : List Int) : List Int := l.foldl (fun acc n => insI n acc) []
theorem insI_mem (n : Int) (l : List Int) (x : Int) : x ∈ insI n l ↔ x = n ∨ x ∈ l := by
  induction l with
  | nil => simp [insI]
  | cons y t ih =>
    unfold insI
    split
    · simp only [List.mem_cons, ih]
      constructor
      · rintro (h | h | h) <;> simp [h]
      · rintro (h | h | h) <;> simp [h]
    · split
      · rename_i e; subst e; simp
      · simp
theorem insI_rise (n : Int) (l : List Int) (h : l.Pairwise (· < ·)) : (insI n l).Pairwise (· < ·) := by
  induction l with
  | nil => simp [insI]
  | cons y t ih =>
    rw [List.pairwise_cons] at h
    unfold insI
    split
    · refine List.Pairwise.cons (fun x hx => ?_) (ih h.2)
      rcases (insI_mem n t x).1 hx with rfl | hx
      · assumption
      · exact h.1 x hx
    · split
      · exact List.Pairwise.cons h.1 h.2
      · refine List.Pairwise.cons (fun x hx => ?_) (List.Pairwise.cons h.1 h.2)
        rcases List.mem_cons.1 hx with rfl | hx
        · omega
        · have := h.1 x hx; omega
theorem insI_len (n : Int) (l : List Int) : (insI n l).length ≤ l.length + 1 := by
  induction l with
  | nil => simp [insI]
  | cons y t ih =>
    unfold insI
    split
    · simp; omega
    · split <;> simp
theorem insI_pass {n : Int} {l : List Int} {k : Nat} (h : ∀ j, j < k → ∀ x, l[j]? = some x → x < n) : insI n l = l.take k ++ insI n (l.drop k) := by
  induction k generalizing l with
  | zero => simp
  | succ k ih =>
    cases l with
    | nil => simp
    | cons y t =>
      have hy : y < n := h 0 (by omega) y rfl
      rw [insI, if_pos hy, ih (l := t) (fun j hj x hx => h (j + 1) (by omega) x (by simpa using hx))]
      simp
theorem foldl_ins_rise (l acc : List Int) (h : acc.Pairwise (· < ·)) : (l.foldl (fun acc n => insI n acc) acc).Pairwise (· < ·) := by
  induction l generalizing acc with
  | nil => exact h
  | cons n t ih => exact ih _ (insI_rise n acc h)
theorem foldl_ins_mem (l acc : List Int) (x : Int) : x ∈ l.foldl (fun acc n => insI n acc) acc ↔ x ∈ l ∨ x ∈ acc := by
  induction l generalizing acc with
  | nil => simp
  | cons n t ih =>
    rw [List.foldl_cons, ih, insI_mem, List.mem_cons]
    constructor
    · rintro (h | h | h) <;> simp [h]
    · rintro ((h | h) | h) <;> simp [h]
theorem movedL_rise (l : List Int) : (movedL l).Pairwise (· < ·) := foldl_ins_rise l [] List.Pairwise.nil
theorem movedL_mem (l : List Int) (x : Int) : x ∈ movedL l ↔ x ∈ l := by rw [movedL, foldl_ins_mem]; simp
theorem movedL_len (l : List Int) : (movedL l).length ≤ l.length := by
  have : ∀ acc : List Int, (l.foldl (fun acc n => insI n acc) acc).length ≤ l.length + acc.length := by
    intro acc
    induction l generalizing acc with
    | nil => simp
    | cons n t ih => have h1 := ih (insI n acc); have h2 := insI_len n acc; rw [List.foldl_cons, List.length_cons]; omega
  have h := this []
  simp only [List.length_nil, Nat.add_zero] at h
  exact h
theorem movedL_snoc (l : List Int) (n : Int) : movedL (l ++ [n]) = insI n (movedL l) := by simp [movedL]
theorem moved_of_sorted {l m : List Int} (hp : m.Perm l) (hn : l.Nodup) (hs : m.Pairwise (· ≤ ·)) : m = movedL l :=
  rise_unique (rise_of_sorted hs (hp.nodup_iff.2 hn)) (movedL_rise l) fun x => hp.mem_iff.trans (movedL_mem l x).symm
theorem turn_inj {W H c d : Int} (hc : 0 ≤ c ∧ c < W * H) (hd : 0 ≤ d ∧ d < W * H) (hW : 1 ≤ W) (h : turnV W H c = turnV W H d) : c = d := by
  have b1 : 0 ≤ c / W ∧ c / W < H := ⟨Int.ediv_nonneg hc.1 (by omega), Int.ediv_lt_of_lt_mul (by omega) (by rw [Int.mul_comm]; exact hc.2)⟩
  have b2 : 0 ≤ d / W ∧ d / W < H := ⟨Int.ediv_nonneg hd.1 (by omega), Int.ediv_lt_of_lt_mul (by omega) (by rw [Int.mul_comm]; exact hd.2)⟩
  have e1 := mod_of (W := H) (x := H - 1 - c / W) (y := c % W) (by omega)
  have e2 := mod_of (W := H) (x := H - 1 - d / W) (y := d % W) (by omega)
  rw [show c % W * H + (H - 1 - c / W) = d % W * H + (H - 1 - d / W) by unfold turnV at h; omega] at e1
  have n1 := num_of W c; have n2 := num_of W d
  have f1 : c % W = d % W := e1.2.symm.trans e2.2
  have f2 : c / W = d / W := by have := e1.1.symm.trans e2.1; omega
  rw [← n1, ← n2, f1, f2]
theorem mirror_inj {W c d : Int} (hW : 1 ≤ W) (h : mirrorV W c = mirrorV W d) : c = d := by
  have x0 := Int.emod_nonneg c (show W ≠ 0 by omega)
  have x1 := Int.emod_lt_of_pos c (show 0 < W by omega)
  have y0 := Int.emod_nonneg d (show W ≠ 0 by omega)
  have y1 := Int.emod_lt_of_pos d (show 0 < W by omega)
  have n1 := num_of W c; have n2 := num_of W d
  have e1 := mod_of (W := W) (x := W - 1 - c % W) (y := c / W) (by omega)
  have e2 := mod_of (W := W) (x := W - 1 - d % W) (y := d / W) (by omega)
  rw [show c / W * W + (W - 1 - c % W) = d / W * W + (W - 1 - d % W) by unfold mirrorV at h; omega] at e1
  have f1 : c % W = d % W := by have := e1.1.symm.trans e2.1; omega
  have f2 : c / W = d / W := e1.2.symm.trans e2.2
  rw [← n1, ← n2, f1, f2]
theorem nodup_map_on {f : Int → Int} {l : List Int} (hn : l.Nodup) (hf : ∀ x ∈ l, ∀ y ∈ l, f x = f y → x = y) : (l.map f).Nodup := by
  rw [List.Nodup, List.pairwise_map]
  exact hn.imp_of_mem fun hx hy hne he => hne (hf _ hx _ hy he)

end Go.Proofs.YtnmmgalidkambaaGreatDoor
