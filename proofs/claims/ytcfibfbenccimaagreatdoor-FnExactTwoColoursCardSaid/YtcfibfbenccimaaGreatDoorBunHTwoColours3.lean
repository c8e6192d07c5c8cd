/-
  Plain functions and facts: the steps of a leaper, the cells to which it leaps, pairs of leaps, holes that are carried to another board.
  Pure: the number of one bits of a word as bits.OnesCount64 counts them, and of a set of cells.
  DERIVED: THE SHELF's CONTRACTS AT THIS DUMP, IN PLAIN WORDS (tools/lay-plain.mjs out of 'TryzTzfShelf.lean', which tools/lay-shelf.mjs wrote): THE SAME DECLARATIONS UNDER THE SAME NAMES: 'import', 'namespace', 'open', 'def', 'theorem' AND NOTHING ELSE: no command of the shelf's: FOR A HAND-IN. Each laying: the table of numbers ('.._ren') and one theorem, a field a fact of the dump's own or the kernel's comparison; each contract: ONE APPLICATION.
  Cells of a set, least first: pure facts; least, without, size and each of a set.
  The cells of a set as an iterator: its contract.
  A range over a method value (an iterator with its receiver bound), whose body always goes on: the caller's law.
  Rows of words that a block holds: loaded and stored whole.
  Contracts: IsLeap.
  Contracts: paths.
  Contracts: IsPath.
  Contracts: sets of cells as bits.
-/
import Derived.Test.YtcfibfbenccimaaGreatDoorBunHTwoColours2
import Derived.Lib.SlicesCompact
import Derived.Shelf.Spec.TrailingZeros
import Derived.Ground.Names7Prog
import Derived.Test.YtcfibfbenccimaaGreatDoorProg
import Derived.Laws.BitsAllLaws
import Derived.RangeFuncNested
import Derived.RangeFuncBound
import Derived.RangeFuncCalls
import Derived.RangeFuncLeaves
import Derived.Shelf.Abstract
import Derived.Shelf.RegionOpen
import Derived.WalkKit
import Derived.OwnWalkIn
import Derived.TacticsInMore
import Derived.LoopNIn
import Derived.LoopIn
import Derived.RangeFuncWrites
import Derived.Test.YtcfibfbenccimaaGreatDoorBunHTwoColours1
import Derived.Deep.WholeRow
import Derived.Deep.MidRow
import Derived.Deep.Heap
import Derived.Maps.RangeWalk
import Derived.Deep.RegionHeld3
import Derived.Laws.Bits64b
import Derived.Laws.Bits128
namespace Go.Proofs.YtcfibfbenccimaaGreatDoor
open Go.RowKit

def rangeI (b : Int) : List Int := (List.range (2 * b + 1).toNat).map fun i : Nat => (i : Int) - b
def stepB (a b x y : Int) : Bool := decide ((absV x = a ∧ absV y = b) ∨ (absV x = b ∧ absV y = a))
def stepsL (a b : Int) : List (Int × Int) := (rangeI b).flatMap fun x => ((rangeI b).filter (stepB a b x)).map fun y => (x, y)
def eightL (a b : Int) : List (Int × Int) := [(a, b), (-a, b), (a, -b), (-a, -b), (b, a), (-b, a), (b, -a), (-b, -a)]
def lexB (p q : Int × Int) : Bool := decide (p.1 < q.1 ∨ (p.1 = q.1 ∧ p.2 < q.2))
/-- insertion into a list in order -/
def insL (p : Int × Int) : List (Int × Int) → List (Int × Int)
  | [] => [p]
  | q :: t => if lexB q p then q :: insL p t else p :: q :: t
def sortL (l : List (Int × Int)) : List (Int × Int) := l.foldr insL []
theorem leaper_cases {a b : Int} (h : leaperB a b = true) {P : Int → Int → Prop} (hP : ∀ a ∈ [0,1,2,3,4,5], ∀ b ∈ [1,2,3,4,5], a ≤ b → P a b) : P a b := by
  simp [leaperB] at h
  obtain ⟨h1, h2, h3, h4⟩ := h
  refine hP a ?_ b ?_ h2 <;> simp <;> omega
theorem ins_perm (p : Int × Int) (l : List (Int × Int)) : (insL p l).Perm (p :: l) := by
  induction l with
  | nil => exact List.Perm.refl _
  | cons q t ih =>
    unfold insL
    split
    · exact (ih.cons q).trans (List.Perm.swap _ _ _)
    · exact List.Perm.refl _
theorem sort_perm (l : List (Int × Int)) : (sortL l).Perm l := by
  induction l with
  | nil => exact List.Perm.refl _
  | cons p t ih => exact (ins_perm p _).trans (ih.cons p)
def lexLe (p q : Int × Int) : Prop := lexB q p = false
theorem lexB_iff {p q : Int × Int} : lexB p q = true ↔ p.1 < q.1 ∨ (p.1 = q.1 ∧ p.2 < q.2) := by simp [lexB]
theorem lexLe_iff {p q : Int × Int} : lexLe p q ↔ p.1 < q.1 ∨ (p.1 = q.1 ∧ p.2 ≤ q.2) := by
  simp [lexLe, lexB]; omega
theorem ins_sorted {p : Int × Int} {l : List (Int × Int)} (h : l.Pairwise lexLe) : (insL p l).Pairwise lexLe := by
  induction l with
  | nil => simp [insL]
  | cons q t ih =>
    rw [List.pairwise_cons] at h
    unfold insL
    split
    · rename_i hq
      refine List.Pairwise.cons (fun x hx => ?_) (ih h.2)
      rcases List.mem_cons.1 ((ins_perm p t).mem_iff.1 hx) with rfl | hx
      · rw [lexLe_iff]; have := lexB_iff.1 hq; omega
      · exact h.1 x hx
    · rename_i hq
      have hpq : lexLe p q := by simpa [lexLe] using hq
      refine List.Pairwise.cons (fun x hx => ?_) (List.Pairwise.cons h.1 h.2)
      rcases List.mem_cons.1 hx with rfl | hx
      · exact hpq
      · have := h.1 x hx; rw [lexLe_iff] at *; omega
theorem sort_sorted (l : List (Int × Int)) : (sortL l).Pairwise lexLe := by
  induction l with
  | nil => exact List.Pairwise.nil
  | cons p t ih => exact ins_sorted ih
theorem lexLe_antisymm {p q : Int × Int} (h1 : lexLe p q) (h2 : lexLe q p) : p = q := by
  rw [lexLe_iff] at *
  ext <;> omega
theorem sorted_unique {l m : List (Int × Int)} (hp : l.Perm m) (hl : l.Pairwise lexLe) (hm : m.Pairwise lexLe) : l = m := by
  induction l generalizing m with
  | nil => exact (List.Perm.nil_eq hp)
  | cons p t ih =>
    cases m with
    | nil => exact absurd hp.length_eq (by simp)
    | cons q r =>
      rw [List.pairwise_cons] at hl hm
      have e : p = q := by
        have h1 : q ∈ p :: t := hp.mem_iff.2 List.mem_cons_self
        have h2 : p ∈ q :: r := hp.mem_iff.1 List.mem_cons_self
        rcases List.mem_cons.1 h1 with e | h1
        · exact e.symm
        · rcases List.mem_cons.1 h2 with e | h2
          · exact e
          · exact lexLe_antisymm (hl.1 q h1) (hm.1 p h2)
      subst e
      rw [ih (List.Perm.cons_inv hp) hl.2 hm.2]

theorem comp_sort_eight {a b : Int} (h : leaperB a b = true) : Lib.compactUpTo (sortL (eightL a b)).toArray 8 = stepsL a b :=
  leaper_cases h (P := fun a b => Lib.compactUpTo (sortL (eightL a b)).toArray 8 = stepsL a b) (by decide)
theorem stepB_iff {a b x y : Int} : stepB a b x y = true ↔ (absV x = a ∧ absV y = b) ∨ (absV x = b ∧ absV y = a) := by simp [stepB]
theorem rangeI_mem {b x : Int} : x ∈ rangeI b ↔ -b ≤ x ∧ x ≤ b := by
  simp only [rangeI, List.mem_map, List.mem_range]
  constructor
  · rintro ⟨i, hi, rfl⟩; omega
  · intro h; exact ⟨(x + b).toNat, by omega, by omega⟩
theorem stepsL_mem {a b : Int} {p : Int × Int} (h : leaperB a b = true) : p ∈ stepsL a b ↔ stepB a b p.1 p.2 = true := by
  simp only [leaperB, decide_eq_true_eq] at h
  simp only [stepsL, List.mem_flatMap, List.mem_map, List.mem_filter]
  constructor
  · rintro ⟨x, hx, y, ⟨hy, hs⟩, rfl⟩; exact hs
  · intro hs
    have h1 : -b ≤ p.1 ∧ p.1 ≤ b ∧ -b ≤ p.2 ∧ p.2 ≤ b := by
      rw [stepB_iff] at hs; unfold absV at hs
      split at hs <;> split at hs <;> omega
    exact ⟨p.1, rangeI_mem.2 (by omega), p.2, ⟨rangeI_mem.2 (by omega), hs⟩, rfl⟩
theorem rangeI_nodup (b : Int) : (rangeI b).Nodup := by
  rw [rangeI, List.Nodup, List.pairwise_map]
  exact List.nodup_range.imp (fun h => by omega)
theorem stepsL_nodup {a b : Int} (h : leaperB a b = true) : (stepsL a b).Nodup :=
  leaper_cases h (P := fun a b => (stepsL a b).Nodup) (by decide)
theorem stepsL_len {a b : Int} (h : leaperB a b = true) : (stepsL a b).length ≤ 8 :=
  leaper_cases h (P := fun a b => (stepsL a b).length ≤ 8) (by decide)
theorem stepsL_bd {a b : Int} {p : Int × Int} (h : leaperB a b = true) (hp : p ∈ stepsL a b) : -5 ≤ p.1 ∧ p.1 ≤ 5 ∧ -5 ≤ p.2 ∧ p.2 ≤ 5 := by
  have hs := (stepsL_mem h).1 hp
  simp only [leaperB, decide_eq_true_eq] at h
  rw [stepB_iff] at hs; unfold absV at hs
  split at hs <;> split at hs <;> omega
/-! ### The cells to which a leaper leaps -/
def leapsL (W H : Int) (hs : List Int) (a b c : Int) : List Int := (cellsL W H hs).filter (leapB W a b c)
def spotB (W H : Int) (hs : List Int) (x y : Int) : Bool := decide (0 ≤ x ∧ x < W) && hasB W H hs (y * W + x)
def endN (W c : Int) (p : Int × Int) : Int := (c / W + p.2) * W + (c % W + p.1)
def goesL (W H : Int) (hs : List Int) (a b c : Int) : List (Int × Int) := (stepsL a b).filter fun p => spotB W H hs (c % W + p.1) (c / W + p.2)
theorem spotB_iff {W H x y : Int} {hs : List Int} : spotB W H hs x y = true ↔ (0 ≤ x ∧ x < W) ∧ hasB W H hs (y * W + x) = true := by simp [spotB]
theorem rise_unique : ∀ {l m : List Int}, l.Pairwise (· < ·) → m.Pairwise (· < ·) → (∀ x, x ∈ l ↔ x ∈ m) → l = m
  | [], [], _, _, _ => rfl
  | [], y :: m, _, _, h => absurd ((h y).2 List.mem_cons_self) (by simp)
  | x :: l, [], _, _, h => absurd ((h x).1 List.mem_cons_self) (by simp)
  | x :: l, y :: m, hl, hm, h => by
    rw [List.pairwise_cons] at hl hm
    have e : x = y := by
      have h1 := (h x).1 List.mem_cons_self
      have h2 := (h y).2 List.mem_cons_self
      rcases List.mem_cons.1 h1 with e | h1
      · exact e
      · rcases List.mem_cons.1 h2 with e | h2
        · exact e.symm
        · have := hl.1 y h2; have := hm.1 x h1; omega
    subst e
    rw [rise_unique hl.2 hm.2 fun z => ?_]
    constructor
    · intro hz
      rcases List.mem_cons.1 ((h z).1 (List.mem_cons_of_mem _ hz)) with e | h'
      · have := hl.1 z hz; omega
      · exact h'
    · intro hz
      rcases List.mem_cons.1 ((h z).2 (List.mem_cons_of_mem _ hz)) with e | h'
      · have := hm.1 z hz; omega
      · exact h'
theorem rise_of_sorted : ∀ {l : List Int}, l.Pairwise (· ≤ ·) → l.Nodup → l.Pairwise (· < ·)
  | [], _, _ => List.Pairwise.nil
  | x :: l, h, hn => by
    rw [List.pairwise_cons] at h
    rw [List.nodup_cons] at hn
    exact List.Pairwise.cons (fun y hy => by have := h.1 y hy; have : x ≠ y := fun e => hn.1 (e ▸ hy); omega) (rise_of_sorted h.2 hn.2)
theorem mod_of {W x y : Int} (hx : 0 ≤ x ∧ x < W) : (y * W + x) % W = x ∧ (y * W + x) / W = y := by
  constructor
  · rw [Int.add_comm, Int.add_mul_emod_self_right]; exact Int.emod_eq_of_lt hx.1 hx.2
  · rw [Int.add_comm, Int.add_mul_ediv_right _ _ (by omega), Int.ediv_eq_zero_of_lt hx.1 hx.2]; omega
theorem num_of (W q : Int) : q / W * W + q % W = q := by have := Int.emod_add_mul_ediv q W; rw [Int.mul_comm]; omega
theorem end_parts {W H c : Int} {hs : List Int} {p : Int × Int} (h : spotB W H hs (c % W + p.1) (c / W + p.2) = true) : endN W c p % W = c % W + p.1 ∧ endN W c p / W = c / W + p.2 :=
  mod_of (spotB_iff.1 h).1
theorem ends_mem {W H a b c q : Int} {hs : List Int} (hW : 1 ≤ W) (hl : leaperB a b = true) : q ∈ (goesL W H hs a b c).map (endN W c) ↔ q ∈ leapsL W H hs a b c := by
  simp only [List.mem_map, goesL, leapsL, List.mem_filter, cellsL_mem]
  constructor
  · rintro ⟨p, ⟨hp, hs'⟩, rfl⟩
    obtain ⟨e1, e2⟩ := end_parts hs'
    refine ⟨(spotB_iff.1 hs').2, ?_⟩
    have := stepB_iff.1 ((stepsL_mem hl).1 hp)
    rw [leapB, e1, e2, decide_eq_true_eq, absV_sub _ (c % W + p.1), absV_sub _ (c / W + p.2), show c % W + p.1 - c % W = p.1 by omega, show c / W + p.2 - c / W = p.2 by omega]
    exact this
  · rintro ⟨hq, hlp⟩
    have hx0 := Int.emod_nonneg q (show W ≠ 0 by omega)
    have hx1 := Int.emod_lt_of_pos q (show 0 < W by omega)
    have e1 : c % W + (q % W - c % W) = q % W := by omega
    have e2 : c / W + (q / W - c / W) = q / W := by omega
    refine ⟨(q % W - c % W, q / W - c / W), ⟨(stepsL_mem hl).2 (stepB_iff.2 ?_), ?_⟩, ?_⟩
    · rw [leapB, decide_eq_true_eq, absV_sub (c % W), absV_sub (c / W)] at hlp; exact hlp
    · rw [e1, e2]; exact spotB_iff.2 ⟨⟨hx0, hx1⟩, by rw [num_of]; exact hq⟩
    · show (c / W + (q / W - c / W)) * W + (c % W + (q % W - c % W)) = q
      rw [e1, e2, num_of]
theorem ends_nodup {W H a b c : Int} {hs : List Int} (hl : leaperB a b = true) : ((goesL W H hs a b c).map (endN W c)).Nodup := by
  rw [List.Nodup, List.pairwise_map]
  have h := (stepsL_nodup hl).filter fun p => spotB W H hs (c % W + p.1) (c / W + p.2)
  refine List.Pairwise.imp_of_mem (fun {p q} hp hq hne he => hne ?_) h
  obtain ⟨e1, e2⟩ := end_parts (List.mem_filter.1 hp).2
  obtain ⟨e3, e4⟩ := end_parts (List.mem_filter.1 hq).2
  rw [he] at e1 e2
  ext <;> omega
theorem leapsL_rise (W H : Int) (hs : List Int) (a b c : Int) : (leapsL W H hs a b c).Pairwise (· < ·) := (cellsL_pairwise W H hs).filter _
theorem ends_sorted {W H a b c : Int} {hs l : List Int} (hW : 1 ≤ W) (hl : leaperB a b = true) (hp : l.Perm ((goesL W H hs a b c).map (endN W c))) (hs' : l.Pairwise (· ≤ ·)) : l = leapsL W H hs a b c :=
  rise_unique (rise_of_sorted hs' ((hp.nodup_iff).2 (ends_nodup hl))) (leapsL_rise ..) fun _ => (hp.mem_iff).trans (ends_mem hW hl)
theorem goesL_len {W H a b c : Int} {hs : List Int} (hW : 1 ≤ W) (hl : leaperB a b = true) : (goesL W H hs a b c).length = (leapsL W H hs a b c).length := by
  have h := (List.perm_ext_iff_of_nodup (ends_nodup (c := c) hl) ((leapsL_rise W H hs a b c).imp (fun h => by omega))).2 (fun x => ends_mem hW hl)
  have := h.length_eq
  rwa [List.length_map] at this

/-! ### Pairs -/
def leadsB (p : Int × Int) : Bool := decide (0 < p.2 ∨ (p.2 = 0 ∧ 0 < p.1))
theorem leads_iff {W H a b c : Int} {hs : List Int} {p : Int × Int} (hW : 1 ≤ W) (hp : p ∈ goesL W H hs a b c) : leadsB p = decide (c < endN W c p) := by
  obtain ⟨e1, e2⟩ := end_parts (List.mem_filter.1 hp).2
  have hb := (spotB_iff.1 (List.mem_filter.1 hp).2).1
  have hx0 := Int.emod_nonneg c (show W ≠ 0 by omega)
  have hx1 := Int.emod_lt_of_pos c (show 0 < W by omega)
  have hn := num_of W c
  have he : endN W c p = c / W * W + p.2 * W + (c % W + p.1) := by rw [endN, Int.add_mul]
  rw [leadsB, Bool.eq_iff_iff, decide_eq_true_eq, decide_eq_true_eq, he]
  have : p.2 * W + p.1 > 0 ↔ (0 < p.2 ∨ (p.2 = 0 ∧ 0 < p.1)) := by
    constructor
    · intro h
      rcases Int.lt_trichotomy p.2 0 with h2 | h2 | h2
      · have : p.2 * W ≤ (-1) * W := Int.mul_le_mul_of_nonneg_right (by omega) (by omega)
        omega
      · rw [h2] at h; omega
      · omega
    · rintro (h | ⟨h1, h2⟩)
      · have : 1 * W ≤ p.2 * W := Int.mul_le_mul_of_nonneg_right (by omega) (by omega)
        omega
      · rw [h1]; omega
  rw [← this]; omega
theorem leads_count {W H a b c : Int} {hs : List Int} (hW : 1 ≤ W) (hl : leaperB a b = true) : ((goesL W H hs a b c).filter leadsB).length = ((leapsL W H hs a b c).filter fun q => decide (c < q)).length := by
  have h := (List.perm_ext_iff_of_nodup (ends_nodup (c := c) hl) ((leapsL_rise W H hs a b c).imp (fun h => by omega))).2 (fun x => ends_mem hW hl)
  have h2 := (h.filter fun q => decide (c < q)).length_eq
  rw [List.filter_map, List.length_map] at h2
  rw [← h2]
  congr 1
  exact List.filter_congr fun p hp => leads_iff hW hp
theorem leapB_comm (W a b p q : Int) : leapB W a b p q = leapB W a b q p := by
  rw [leapB, leapB, absV_sub (p % W), absV_sub (p / W)]
theorem leapB_irr {W a b p : Int} (hl : leaperB a b = true) : leapB W a b p p = false := by
  simp only [leaperB, decide_eq_true_eq] at hl
  rw [leapB, decide_eq_false_iff_not, Int.sub_self, Int.sub_self]
  unfold absV; simp; omega
def sumL (l : List Int) : Int := l.foldl (· + ·) 0
theorem foldl_add (l : List Int) (z : Int) : l.foldl (· + ·) z = z + sumL l := by
  induction l generalizing z with
  | nil => simp [sumL]
  | cons x t ih =>
    have h : sumL (x :: t) = (0 + x) + sumL t := by rw [sumL, List.foldl_cons, ih]
    rw [List.foldl_cons, ih, h]; omega
theorem sumL_cons (x : Int) (t : List Int) : sumL (x :: t) = x + sumL t := by rw [sumL, List.foldl_cons, foldl_add]; omega
theorem sumL_snoc (x : Int) (t : List Int) : sumL (t ++ [x]) = sumL t + x := by rw [sumL, List.foldl_append]; rfl
theorem sumL_map_add (f g : Int → Int) (l : List Int) : sumL (l.map fun c => f c + g c) = sumL (l.map f) + sumL (l.map g) := by
  induction l with
  | nil => rfl
  | cons x t ih => simp only [List.map_cons, sumL_cons, ih]; omega
theorem count_as_sum (p : Int → Bool) (l : List Int) : ((l.filter p).length : Int) = sumL (l.map fun c => if p c then 1 else 0) := by
  induction l with
  | nil => rfl
  | cons x t ih =>
    rw [List.map_cons, sumL_cons, List.filter_cons]
    cases p x with
    | true => simp; omega
    | false => simp; omega
/-- Both directions of a relation: half of all pairs lead on. -/
theorem twice_pairs (R : Int → Int → Bool) (hR : ∀ p q, R p q = R q p) (hI : ∀ p, R p p = false) : ∀ {l : List Int}, l.Pairwise (· < ·) →
    2 * sumL (l.map fun c => (((l.filter (R c)).filter fun q => decide (c < q)).length : Int)) = sumL (l.map fun c => ((l.filter (R c)).length : Int))
  | [], _ => rfl
  | x :: t, h => by
    rw [List.pairwise_cons] at h
    have ih := twice_pairs R hR hI h.2
    simp only [List.map_cons, sumL_cons]
    have e1 : (((x :: t).filter (R x)).filter fun q => decide (x < q)) = t.filter (R x) := by
      rw [List.filter_cons, hI x, if_neg (by simp), List.filter_eq_self]
      intro q hq; simpa using h.1 q (List.mem_filter.1 hq).1
    have e2 : (x :: t).filter (R x) = t.filter (R x) := by rw [List.filter_cons, hI x, if_neg (by simp)]
    have e3 : (t.map fun c => ((((x :: t).filter (R c)).filter fun q => decide (c < q)).length : Int)) = t.map fun c => (((t.filter (R c)).filter fun q => decide (c < q)).length : Int) := by
      apply List.map_congr_left
      intro c hc
      have hxc := h.1 c hc
      rw [List.filter_cons]
      split
      · rw [List.filter_cons, if_neg (by simp; omega)]
      · rfl
    have e4 : (t.map fun c => (((x :: t).filter (R c)).length : Int)) = t.map fun c => (if R x c then 1 else 0) + ((t.filter (R c)).length : Int) := by
      apply List.map_congr_left
      intro c _
      rw [List.filter_cons, hR c x]
      cases R x c with
      | true => simp; omega
      | false => simp
    rw [e1, e2, e3, e4, sumL_map_add, ← count_as_sum]
    omega
theorem pairs_half {W H a b : Int} {hs : List Int} (hW : 1 ≤ W) (hl : leaperB a b = true) :
    sumL ((cellsL W H hs).map fun c => (((goesL W H hs a b c).filter leadsB).length : Int)) = sumL ((cellsL W H hs).map fun c => ((leapsL W H hs a b c).length : Int)) / 2 := by
  have h := twice_pairs (leapB W a b) (leapB_comm W a b) (fun p => leapB_irr hl) (cellsL_pairwise W H hs)
  have e : ((cellsL W H hs).map fun c => (((goesL W H hs a b c).filter leadsB).length : Int)) = (cellsL W H hs).map fun c => (((leapsL W H hs a b c).filter fun q => decide (c < q)).length : Int) := by
    apply List.map_congr_left
    intro c _
    rw [leads_count hW hl]
  rw [e]
  unfold leapsL
  omega
/-! ### Holes that are carried to another board -/
def insI (n : Int) : List Int → List Int
  | [] => [n]
  | x :: t => if x < n then x :: insI n t else if x = n then x :: t else n :: x :: t
def movedL (l : List Int) : List Int := l.foldl (fun acc n => insI n acc) []
theorem insI_mem (n : Int) (l : List Int) (x : Int) : x ∈ insI n l ↔ x = n ∨ x ∈ l := by
  induction l with
  | nil => simp [insI]
  | cons y t ih =>
    unfold insI
    split
    · simp only [List.mem_cons, ih]
      constructor
      · rintro (h | h | h) <;> simp [h]
      · rintro (h | h | h) <;> simp [h]
    · split
      · rename_i e; subst e; simp
      · simp
theorem insI_rise (n : Int) (l : List Int) (h : l.Pairwise (· < ·)) : (insI n l).Pairwise (· < ·) := by
  induction l with
  | nil => simp [insI]
  | cons y t ih =>
    rw [List.pairwise_cons] at h
    unfold insI
    split
    · refine List.Pairwise.cons (fun x hx => ?_) (ih h.2)
      rcases (insI_mem n t x).1 hx with rfl | hx
      · assumption
      · exact h.1 x hx
    · split
      · exact List.Pairwise.cons h.1 h.2
      · refine List.Pairwise.cons (fun x hx => ?_) (List.Pairwise.cons h.1 h.2)
        rcases List.mem_cons.1 hx with rfl | hx
        · omega
        · have := h.1 x hx; omega
theorem insI_len (n : Int) (l : List Int) : (insI n l).length ≤ l.length + 1 := by
  induction l with
  | nil => simp [insI]
  | cons y t ih =>
    unfold insI
    split
    · simp; omega
    · split <;> simp
theorem insI_pass {n : Int} {l : List Int} {k : Nat} (h : ∀ j, j < k → ∀ x, l[j]? = some x → x < n) : insI n l = l.take k ++ insI n (l.drop k) := by
  induction k generalizing l with
  | zero => simp
  | succ k ih =>
    cases l with
    | nil => simp
    | cons y t =>
      have hy : y < n := h 0 (by omega) y rfl
      rw [insI, if_pos hy, ih (l := t) (fun j hj x hx => h (j + 1) (by omega) x (by simpa using hx))]
      simp
theorem foldl_ins_rise (l acc : List Int) (h : acc.Pairwise (· < ·)) : (l.foldl (fun acc n => insI n acc) acc).Pairwise (· < ·) := by
  induction l generalizing acc with
  | nil => exact h
  | cons n t ih => exact ih _ (insI_rise n acc h)
theorem foldl_ins_mem (l acc : List Int) (x : Int) : x ∈ l.foldl (fun acc n => insI n acc) acc ↔ x ∈ l ∨ x ∈ acc := by
  induction l generalizing acc with
  | nil => simp
  | cons n t ih =>
    rw [List.foldl_cons, ih, insI_mem, List.mem_cons]
    constructor
    · rintro (h | h | h) <;> simp [h]
    · rintro ((h | h) | h) <;> simp [h]
theorem movedL_rise (l : List Int) : (movedL l).Pairwise (· < ·) := foldl_ins_rise l [] List.Pairwise.nil
theorem movedL_mem (l : List Int) (x : Int) : x ∈ movedL l ↔ x ∈ l := by rw [movedL, foldl_ins_mem]; simp
theorem movedL_len (l : List Int) : (movedL l).length ≤ l.length := by
  have : ∀ acc : List Int, (l.foldl (fun acc n => insI n acc) acc).length ≤ l.length + acc.length := by
    intro acc
    induction l generalizing acc with
    | nil => simp
    | cons n t ih => have h1 := ih (insI n acc); have h2 := insI_len n acc; rw [List.foldl_cons, List.length_cons]; omega
  have h := this []
  simp only [List.length_nil, Nat.add_zero] at h
  exact h
theorem movedL_snoc (l : List Int) (n : Int) : movedL (l ++ [n]) = insI n (movedL l) := by simp [movedL]
theorem moved_of_sorted {l m : List Int} (hp : m.Perm l) (hn : l.Nodup) (hs : m.Pairwise (· ≤ ·)) : m = movedL l :=
  rise_unique (rise_of_sorted hs (hp.nodup_iff.2 hn)) (movedL_rise l) fun x => hp.mem_iff.trans (movedL_mem l x).symm
theorem turn_inj {W H c d : Int} (hc : 0 ≤ c ∧ c < W * H) (hd : 0 ≤ d ∧ d < W * H) (hW : 1 ≤ W) (h : turnV W H c = turnV W H d) : c = d := by
  have b1 : 0 ≤ c / W ∧ c / W < H := ⟨Int.ediv_nonneg hc.1 (by omega), Int.ediv_lt_of_lt_mul (by omega) (by rw [Int.mul_comm]; exact hc.2)⟩
  have b2 : 0 ≤ d / W ∧ d / W < H := ⟨Int.ediv_nonneg hd.1 (by omega), Int.ediv_lt_of_lt_mul (by omega) (by rw [Int.mul_comm]; exact hd.2)⟩
  have e1 := mod_of (W := H) (x := H - 1 - c / W) (y := c % W) (by omega)
  have e2 := mod_of (W := H) (x := H - 1 - d / W) (y := d % W) (by omega)
  rw [show c % W * H + (H - 1 - c / W) = d % W * H + (H - 1 - d / W) by unfold turnV at h; omega] at e1
  have n1 := num_of W c; have n2 := num_of W d
  have f1 : c % W = d % W := e1.2.symm.trans e2.2
  have f2 : c / W = d / W := by have := e1.1.symm.trans e2.1; omega
  rw [← n1, ← n2, f1, f2]
theorem mirror_inj {W c d : Int} (hW : 1 ≤ W) (h : mirrorV W c = mirrorV W d) : c = d := by
  have x0 := Int.emod_nonneg c (show W ≠ 0 by omega)
  have x1 := Int.emod_lt_of_pos c (show 0 < W by omega)
  have y0 := Int.emod_nonneg d (show W ≠ 0 by omega)
  have y1 := Int.emod_lt_of_pos d (show 0 < W by omega)
  have n1 := num_of W c; have n2 := num_of W d
  have e1 := mod_of (W := W) (x := W - 1 - c % W) (y := c / W) (by omega)
  have e2 := mod_of (W := W) (x := W - 1 - d % W) (y := d / W) (by omega)
  rw [show c / W * W + (W - 1 - c % W) = d / W * W + (W - 1 - d % W) by unfold mirrorV at h; omega] at e1
  have f1 : c % W = d % W := by have := e1.1.symm.trans e2.1; omega
  have f2 : c / W = d / W := e1.2.symm.trans e2.2
  rw [← n1, ← n2, f1, f2]
theorem nodup_map_on {f : Int → Int} {l : List Int} (hn : l.Nodup) (hf : ∀ x ∈ l, ∀ y ∈ l, f x = f y → x = y) : (l.map f).Nodup := by
  rw [List.Nodup, List.pairwise_map]
  exact hn.imp_of_mem fun hx hy hne he => hne (hf _ hx _ hy he)

end Go.Proofs.YtcfibfbenccimaaGreatDoor

namespace Go.Proofs.YtcfibfbenccimaaGreatDoor

/-- The number of one bits among the lowest n. -/
def popN : Nat → Nat → Nat
  | 0, _ => 0
  | n + 1, x => x % 2 + popN n (x / 2)

theorem popN_append : ∀ (a b x : Nat), popN (a + b) x = popN a (x % 2 ^ a) + popN b (x / 2 ^ a)
  | 0, b, x => by simp [popN]
  | a + 1, b, x => by
    rw [show a + 1 + b = (a + b) + 1 by omega]
    simp only [popN]
    rw [popN_append a b (x / 2)]
    have e1 : x % 2 ^ (a + 1) % 2 = x % 2 := by
      rw [Nat.pow_succ, Nat.mul_comm]
      rw [Nat.mod_mul_right_mod]
    have e2 : x % 2 ^ (a + 1) / 2 = x / 2 % 2 ^ a := by
      rw [Nat.pow_succ, Nat.mul_comm, Nat.mod_mul_right_div_self]
    have e3 : x / 2 / 2 ^ a = x / 2 ^ (a + 1) := by
      rw [Nat.div_div_eq_div_mul, Nat.pow_succ, Nat.mul_comm]
    rw [e1, e2, e3]; omega

theorem and_split (q r m c : Nat) (hr : r < 256) (hc : c < 256) : (256 * q + r) &&& (256 * m + c) = 256 * (q &&& m) + (r &&& c) := by
  have h1 := Nat.and_div_two_pow (a := 256 * q + r) (b := 256 * m + c) (n := 8)
  have h2 := Nat.and_mod_two_pow (a := 256 * q + r) (b := 256 * m + c) (n := 8)
  have e1 : (256 * q + r) / 2 ^ 8 = q := by omega
  have e2 : (256 * m + c) / 2 ^ 8 = m := by omega
  have e3 : (256 * q + r) % 2 ^ 8 = r := by omega
  have e4 : (256 * m + c) % 2 ^ 8 = c := by omega
  rw [e1, e2] at h1; rw [e3, e4] at h2
  omega

theorem shr_split (k q r m c : Nat) (hk : k ≤ 8) (hr : r < 256) (hc : c < 2 ^ (8 - k)) : ((256 * q + r) / 2 ^ k) &&& (256 * m + c) = 256 * ((q / 2 ^ k) &&& m) + ((r / 2 ^ k) &&& c) := by
  have hp : 2 ^ k * 2 ^ (8 - k) = 256 := by rw [← Nat.pow_add, show k + (8 - k) = 8 by omega]
  have hc8 : c < 256 := Nat.lt_of_lt_of_le hc (by rw [← hp]; exact Nat.le_mul_of_pos_left _ (Nat.two_pow_pos k))
  have hX : (256 * q + r) / 2 ^ k = 256 * (q / 2 ^ k) + ((256 * q + r) / 2 ^ k) % 256 := by
    have h1 : (256 * q + r) / 2 ^ k / 256 = q / 2 ^ k := by
      have e0 : (256 * q + r) / 256 = q := by omega
      rw [Nat.div_div_eq_div_mul, Nat.mul_comm (2 ^ k), ← Nat.div_div_eq_div_mul, e0]
    have := Nat.div_add_mod ((256 * q + r) / 2 ^ k) 256
    rw [h1] at this; omega
  rw [hX, and_split _ _ _ _ (Nat.mod_lt _ (by decide)) hc8]
  congr 1
  -- the low byte behind the mask
  have hz : ∀ y, y &&& c = (y % 2 ^ (8 - k)) &&& c := by
    intro y
    have h2 := Nat.and_mod_two_pow (a := y) (b := c) (n := 8 - k)
    rw [Nat.mod_eq_of_lt hc, Nat.mod_eq_of_lt (Nat.lt_of_le_of_lt Nat.and_le_right hc)] at h2
    exact h2
  rw [hz ((256 * q + r) / 2 ^ k % 256)]
  have e5 : (256 * q + r) / 2 ^ k % 256 % 2 ^ (8 - k) = r / 2 ^ k := by
    rw [Nat.mod_mod_of_dvd _ ⟨2 ^ k, by rw [Nat.mul_comm, hp]⟩]
    rw [← Nat.mod_mul_right_div_self, hp]
    congr 1; omega
  rw [e5]

/-- A mask of n bytes. -/
def maskN (c : Nat) : Nat → Nat
  | 0 => 0
  | n + 1 => 256 * maskN c n + c

def sw1 (n x : Nat) : Nat := ((x / 2) &&& maskN 85 n) + (x &&& maskN 85 n)
def sw2 (n x : Nat) : Nat := ((x / 4) &&& maskN 51 n) + (x &&& maskN 51 n)
def sw3 (n x : Nat) : Nat := ((x / 16) + x) &&& maskN 15 n
def b1 (r : Nat) : Nat := ((r / 2) &&& 85) + (r &&& 85)
def b2 (r : Nat) : Nat := ((r / 4) &&& 51) + (r &&& 51)

theorem sw1_step (n q r : Nat) (hr : r < 256) : sw1 (n + 1) (256 * q + r) = 256 * sw1 n q + b1 r := by
  have hm : maskN 85 (n + 1) = 256 * maskN 85 n + 85 := rfl
  unfold sw1 b1
  rw [hm]
  have h1 := shr_split 1 q r (maskN 85 n) 85 (by decide) hr (by decide)
  have h2 := and_split q r (maskN 85 n) 85 hr (by decide)
  simp only [Nat.pow_one] at h1
  rw [h1, h2]; omega

theorem sw2_step (n q r : Nat) (hr : r < 256) : sw2 (n + 1) (256 * q + r) = 256 * sw2 n q + b2 r := by
  have hm : maskN 51 (n + 1) = 256 * maskN 51 n + 51 := rfl
  unfold sw2 b2
  rw [hm]
  have h1 := shr_split 2 q r (maskN 51 n) 51 (by decide) hr (by decide)
  have h2 := and_split q r (maskN 51 n) 51 hr (by decide)
  simp only [show (2:Nat) ^ 2 = 4 by decide] at h1
  rw [h1, h2]; omega

theorem and15 (x : Nat) : x &&& 15 = x % 16 := Nat.and_two_pow_sub_one_eq_mod x 4

theorem sw3_step (n q r : Nat) (hr : r < 256) (h0 : r % 16 ≤ 4) (h1 : r / 16 ≤ 4) (h2 : q % 16 ≤ 4) : sw3 (n + 1) (256 * q + r) = 256 * sw3 n q + (r / 16 + r % 16) := by
  have hm : maskN 15 (n + 1) = 256 * maskN 15 n + 15 := rfl
  unfold sw3
  rw [hm]
  have e : (256 * q + r) / 16 + (256 * q + r) = 256 * (q / 16 + q) + (16 * (q % 16 + r / 16) + (r / 16 + r % 16)) := by omega
  rw [e, and_split _ _ _ _ (by omega) (by decide), and15]
  congr 1
  omega

theorem byte_fact : ∀ r : Fin 256, b1 r.val < 256 ∧ b2 (b1 r.val) % 16 ≤ 4 ∧ b2 (b1 r.val) / 16 ≤ 4 ∧ b2 (b1 r.val) / 16 + b2 (b1 r.val) % 16 = popN 8 r.val := by decide +kernel

/-- The three steps, byte by byte. -/
theorem sw_step (n q r : Nat) (hr : r < 256) (hq : sw2 n (sw1 n q) % 16 ≤ 4) :
    sw2 (n + 1) (sw1 (n + 1) (256 * q + r)) % 16 ≤ 4 ∧ sw3 (n + 1) (sw2 (n + 1) (sw1 (n + 1) (256 * q + r))) = 256 * sw3 n (sw2 n (sw1 n q)) + popN 8 r := by
  obtain ⟨f1, f2, f3, f4⟩ := byte_fact ⟨r, hr⟩
  simp only at f1 f2 f3 f4
  rw [sw1_step n q r hr, sw2_step n _ _ f1]
  refine ⟨by omega, ?_⟩
  rw [sw3_step n _ _ (by omega) f2 f3 hq, f4]

theorem popN_le : ∀ n x, popN n x ≤ n
  | 0, _ => by simp [popN]
  | n + 1, x => by simp only [popN]; have := popN_le n (x / 2); omega

/-- All bytes. -/
def bytesOf : Nat → Nat → Nat
  | 0, _ => 0
  | n + 1, x => 256 * bytesOf n (x / 256) + popN 8 (x % 256)

theorem bytesOf_zero (x : Nat) : bytesOf 0 x = 0 := rfl
theorem bytesOf_succ (n x : Nat) : bytesOf (n + 1) x = 256 * bytesOf n (x / 256) + popN 8 (x % 256) := rfl

theorem sw_all : ∀ n x, x < 256 ^ n → sw2 n (sw1 n x) % 16 ≤ 4 ∧ sw3 n (sw2 n (sw1 n x)) = bytesOf n x
  | 0, x, h => by
    have : x = 0 := by simpa using h
    subst this; decide
  | n + 1, x, h => by
    have hx : x = 256 * (x / 256) + x % 256 := by omega
    obtain ⟨i1, i2⟩ := sw_all n (x / 256) (by rw [Nat.pow_succ] at h; exact Nat.div_lt_of_lt_mul (by omega))
    obtain ⟨j1, j2⟩ := sw_step n (x / 256) (x % 256) (by omega) i1
    rw [← hx] at j1 j2
    exact ⟨j1, by rw [j2, i2, bytesOf]⟩

theorem popN_bytes (n x : Nat) (k : Nat) (h : n = 8 + k) : popN n x = popN 8 (x % 256) + popN k (x / 256) := by
  subst h; exact popN_append 8 k x

theorem div_of_split (M a q X : Nat) (e : X = a + M * q) (h : a < M) : X / M = q := by
  rw [e, Nat.add_mul_div_left _ _ (by omega), Nat.div_eq_of_lt h]; omega

theorem swar_sum (B0 B1 B2 B3 B4 B5 B6 B7 x x1 x2 x3 : Nat) (h0 : B0 ≤ 8) (h1 : B1 ≤ 8) (h2 : B2 ≤ 8) (h3 : B3 ≤ 8) (h4 : B4 ≤ 8) (h5 : B5 ≤ 8) (h6 : B6 ≤ 8) (h7 : B7 ≤ 8)
    (e : x = B0 + 256 * (B1 + 256 * (B2 + 256 * (B3 + 256 * (B4 + 256 * (B5 + 256 * (B6 + 256 * B7)))))))
    (e1 : x1 = x + x / 256) (e2 : x2 = x1 + x1 / 65536) (e3 : x3 = x2 + x2 / 4294967296) :
    x3 % 128 = B0 + B1 + B2 + B3 + B4 + B5 + B6 + B7 ∧ x3 < 9223372036854775808 := by
  have d1 := div_of_split 256 B0 _ x e (by omega)
  rw [d1] at e1
  have d2 := div_of_split 65536 ((B0 + B1) + 256 * (B1 + B2)) ((B2 + B3) + 256 * ((B3 + B4) + 256 * ((B4 + B5) + 256 * ((B5 + B6) + 256 * ((B6 + B7) + 256 * B7))))) x1 (by omega) (by omega)
  rw [d2] at e2
  have d3 := div_of_split 4294967296 ((B0 + B1 + (B2 + B3)) + 256 * ((B1 + B2 + (B3 + B4)) + 256 * ((B2 + B3 + (B4 + B5)) + 256 * (B3 + B4 + (B5 + B6))))) ((B4 + B5 + (B6 + B7)) + 256 * ((B5 + B6 + B7) + 256 * ((B6 + B7) + 256 * B7))) x2 (by omega) (by omega)
  rw [d3] at e3
  clear d1 d2 d3
  have f : x3 = (B0 + B1 + B2 + B3 + B4 + B5 + B6 + B7) + 256 * ((B1 + B2 + (B3 + B4) + (B5 + B6 + B7)) + 256 * ((B2 + B3 + (B4 + B5) + (B6 + B7)) + 256 * ((B3 + B4 + (B5 + B6) + B7) + 256 * ((B4 + B5 + (B6 + B7)) + 256 * ((B5 + B6 + B7) + 256 * ((B6 + B7) + 256 * B7)))))) := by omega
  clear e e1 e2 e3
  subst f
  constructor
  · rw [Nat.add_mod, Nat.mod_eq_of_lt (b := 128) (a := B0 + B1 + B2 + B3 + B4 + B5 + B6 + B7) (by omega), show (256 : Nat) = 128 * 2 by rfl, Nat.mul_assoc 128 2, Nat.mul_mod_right, Nat.add_zero, Nat.mod_eq_of_lt (by omega)]
  · omega

/-- Go's text of bits.OnesCount64. -/
theorem onesCount64 (x y1 y2 y3 x1 x2 x3 : Nat) (hx : x < 18446744073709551616)
    (e1 : y1 = ((x / 2) &&& 6148914691236517205) + (x &&& 6148914691236517205))
    (e2 : y2 = ((y1 / 4) &&& 3689348814741910323) + (y1 &&& 3689348814741910323))
    (e3 : y3 = ((y2 / 16) + y2) &&& 1085102592571150095)
    (f1 : x1 = y3 + y3 / 256) (f2 : x2 = x1 + x1 / 65536) (f3 : x3 = x2 + x2 / 4294967296) :
    x3 % 128 = popN 64 x ∧ x3 < 9223372036854775808 := by
  have m0 : maskN 85 8 = 6148914691236517205 := by decide
  have m1 : maskN 51 8 = 3689348814741910323 := by decide
  have m2 : maskN 15 8 = 1085102592571150095 := by decide
  have hy : y3 = bytesOf 8 x := by
    have := (sw_all 8 x (by omega)).2
    rw [← this, e3, e2, e1]
    unfold sw3 sw2 sw1
    rw [m0, m1, m2]
  have hp : popN 64 x = popN 8 (x % 256) + (popN 8 (x / 256 % 256) + (popN 8 (x / 256 / 256 % 256) + (popN 8 (x / 256 / 256 / 256 % 256) + (popN 8 (x / 256 / 256 / 256 / 256 % 256) + (popN 8 (x / 256 / 256 / 256 / 256 / 256 % 256) + (popN 8 (x / 256 / 256 / 256 / 256 / 256 / 256 % 256) + (popN 8 (x / 256 / 256 / 256 / 256 / 256 / 256 / 256 % 256)))))))) := by
    rw [popN_bytes 64 x 56 rfl, popN_bytes 56 _ 48 rfl, popN_bytes 48 _ 40 rfl, popN_bytes 40 _ 32 rfl, popN_bytes 32 _ 24 rfl, popN_bytes 24 _ 16 rfl, popN_bytes 16 _ 8 rfl]
    rw [popN_bytes 8 (x / 256 / 256 / 256 / 256 / 256 / 256 / 256) 0 rfl]; exact congrArg _ (congrArg _ (congrArg _ (congrArg _ (congrArg _ (congrArg _ (congrArg _ (Nat.add_zero _)))))))
  have l := fun r => popN_le 8 r
  rw [hp]
  have hb : bytesOf 8 x = popN 8 (x % 256) + 256 * (popN 8 (x / 256 % 256) + 256 * (popN 8 (x / 256 / 256 % 256) + 256 * (popN 8 (x / 256 / 256 / 256 % 256) + 256 * (popN 8 (x / 256 / 256 / 256 / 256 % 256) + 256 * (popN 8 (x / 256 / 256 / 256 / 256 / 256 % 256) + 256 * (popN 8 (x / 256 / 256 / 256 / 256 / 256 / 256 % 256) + 256 * popN 8 (x / 256 / 256 / 256 / 256 / 256 / 256 / 256 % 256))))))) := by
    rw [bytesOf_succ 7, bytesOf_succ 6, bytesOf_succ 5, bytesOf_succ 4, bytesOf_succ 3, bytesOf_succ 2, bytesOf_succ 1, bytesOf_succ 0, bytesOf_zero]
    simp only [Nat.mul_zero, Nat.zero_add, Nat.add_comm]
  rw [hb] at hy
  have hl := swar_sum _ _ _ _ _ _ _ _ y3 x1 x2 x3 (l (x % 256)) (l (x / 256 % 256)) (l (x / 256 / 256 % 256)) (l (x / 256 / 256 / 256 % 256)) (l (x / 256 / 256 / 256 / 256 % 256)) (l (x / 256 / 256 / 256 / 256 / 256 % 256)) (l (x / 256 / 256 / 256 / 256 / 256 / 256 % 256)) (l (x / 256 / 256 / 256 / 256 / 256 / 256 / 256 % 256)) hy f1 f2 f3
  refine ⟨?_, hl.2⟩
  rw [hl.1]
  simp only [Nat.add_assoc]

theorem popN_or : ∀ (n x c : Nat), c < n → popN n (x ||| 2 ^ c) = popN n x + if x.testBit c then 0 else 1
  | 0, _, _, h => by omega
  | n + 1, x, 0, _ => by
    simp only [popN, Nat.pow_zero]
    have e1 : (x ||| 1) % 2 = 1 := by
      have h := Nat.or_mod_two_pow (a := x) (b := 1) (n := 1)
      rcases Nat.mod_two_eq_zero_or_one x with h0 | h0
      · rw [Nat.pow_one, h0] at h; exact h
      · rw [Nat.pow_one, h0] at h; exact h
    have e2 : (x ||| 1) / 2 = x / 2 := by
      have := Nat.or_div_two_pow (a := x) (b := 1) (n := 1)
      simpa using this
    rw [e1, e2, Nat.testBit_zero]
    by_cases h : x % 2 = 1
    · simp [h]
    · have : x % 2 = 0 := by omega
      simp [this]; omega
  | n + 1, x, c + 1, h => by
    simp only [popN]
    have e1 : (x ||| 2 ^ (c + 1)) % 2 = x % 2 := by
      have h := Nat.or_mod_two_pow (a := x) (b := 2 ^ (c + 1)) (n := 1)
      have hz : 2 ^ (c + 1) % 2 = 0 := by rw [Nat.pow_succ]; omega
      simpa [hz] using h
    have e2 : (x ||| 2 ^ (c + 1)) / 2 = x / 2 ||| 2 ^ c := by
      have h := Nat.or_div_two_pow (a := x) (b := 2 ^ (c + 1)) (n := 1)
      have hz : 2 ^ (c + 1) / 2 = 2 ^ c := by rw [Nat.pow_succ]; omega
      simpa [hz] using h
    rw [e1, e2, popN_or n (x / 2) c (by omega), Nat.testBit_succ]
    omega

/-- The set of a list of cells. -/
def setBits (xs : List Nat) : Nat := xs.foldl (fun s c => s ||| 2 ^ c) 0

theorem setBits_snoc (xs : List Nat) (c : Nat) : setBits (xs ++ [c]) = setBits xs ||| 2 ^ c := by
  simp [setBits, List.foldl_append]

theorem setBits_test (c : Nat) : ∀ (n : Nat) (xs : List Nat), xs.length = n → ((setBits xs).testBit c = true ↔ c ∈ xs)
  | 0, xs, h => by
    have : xs = [] := List.eq_nil_of_length_eq_zero h
    subst this; simp [setBits]
  | n + 1, xs, h => by
    obtain ⟨ys, y, rfl⟩ : ∃ ys y, xs = ys ++ [y] := ⟨xs.dropLast, xs.getLast (by intro e; simp [e] at h), (List.dropLast_concat_getLast _).symm⟩
    rw [setBits_snoc, Nat.testBit_or, Bool.or_eq_true, setBits_test c n ys (by simpa using h), Nat.testBit_two_pow]
    simp [eq_comm]

theorem setBits_lt (xs : List Nat) (h : ∀ c ∈ xs, c < 64) : setBits xs < 18446744073709551616 := by
  apply Nat.lt_pow_two_of_testBit (n := 64)
  intro i hi
  by_cases hm : (setBits xs).testBit i = true
  · have := (setBits_test i _ xs rfl).1 hm
    have := h i this; omega
  · simpa using hm

/-- A list has a bit for each of its cells just where none stands in it twice. -/
theorem popN_set : ∀ (n : Nat) (xs : List Nat), xs.length = n → (∀ c ∈ xs, c < 64) → popN 64 (setBits xs) ≤ xs.length ∧ (popN 64 (setBits xs) = xs.length ↔ xs.Nodup)
  | 0, xs, h, _ => by
    have : xs = [] := List.eq_nil_of_length_eq_zero h
    subst this; simp [setBits]; decide
  | n + 1, xs, h, hc => by
    obtain ⟨ys, y, rfl⟩ : ∃ ys y, xs = ys ++ [y] := ⟨xs.dropLast, xs.getLast (by intro e; simp [e] at h), (List.dropLast_concat_getLast _).symm⟩
    obtain ⟨i1, i2⟩ := popN_set n ys (by simpa using h) (fun c hm => hc c (by simp [hm]))
    rw [setBits_snoc, popN_or 64 _ y (hc y (by simp))]
    have ht := setBits_test y _ ys rfl
    have hn : (ys ++ [y]).Nodup ↔ ys.Nodup ∧ y ∉ ys := by
      rw [List.nodup_append]
      simp
      intro _
      constructor
      · intro h hm; exact h y hm rfl
      · intro h a ha e; exact h (e ▸ ha)
    rw [hn]
    by_cases hm : (setBits ys).testBit y = true
    · have := ht.1 hm
      simp [hm]
      constructor
      · omega
      · constructor
        · intro h; omega
        · intro h; exact absurd this h.2
    · have hm' : y ∉ ys := fun h => hm (ht.2 h)
      simp [hm]
      constructor
      · omega
      · rw [i2]; constructor
        · intro h; exact ⟨h, hm'⟩
        · intro h; exact h.1
end Go.Proofs.YtcfibfbenccimaaGreatDoor

namespace Go.Proofs
open Go.Shelf
def Tryz.tz64_ren : Go.Shelf.Ren := ⟨fun | 29 => 89 | n => n, fun | 22 => 48 | 3 => 3 | 4 => 4 | 25 => 103 | 54 => 118 | 0 => 0 | 5 => 5 | n => n, fun | 1 => 0 | n => n⟩
theorem Tryz.tz64 : Go.Proofs.Lays7.n29 Tryz.prog Tryz.tz64_ren := {
  mixed := by kernel_rfl
  f29 := Tryz.func89.trans (congrArg some (by kernel_rfl))
  t0 := Tryz.underlying0
  a0 := Tryz.isAgg0
  z0 := Tryz.sizeOf0
  v0 := Tryz.zeroValue0
  i0 := by kernel_rfl
  t3 := Tryz.underlying3
  a3 := Tryz.isAgg3
  z3 := Tryz.sizeOf3
  v3 := Tryz.zeroValue3
  i3 := by kernel_rfl
  t4 := Tryz.underlying4
  a4 := Tryz.isAgg4
  z4 := Tryz.sizeOf4
  v4 := Tryz.zeroValue4
  i4 := by kernel_rfl
  t5 := Tryz.underlying5
  a5 := Tryz.isAgg5
  z5 := Tryz.sizeOf5
  v5 := Tryz.zeroValue5
  i5 := by kernel_rfl
  t22 := Tryz.underlying48
  a22 := Tryz.isAgg48
  z22 := Tryz.sizeOf48
  v22 := Tryz.zeroValue48
  i22 := by kernel_rfl
  t25 := Tryz.underlying103
  a25 := Tryz.isAgg103
  z25 := Tryz.sizeOf103
  v25 := Tryz.zeroValue103
  i25 := by kernel_rfl
  t54 := Tryz.underlying118
  a54 := Tryz.isAgg118
  z54 := Tryz.sizeOf118
  g1 := by kernel_rfl }
end Go.Proofs

namespace Go.Proofs.YtcfibfbenccimaaGreatDoor
open Go.RowKit

/-- The cells of a set, increasing. -/
def bitsL (s : Nat) : List Int := ((List.range 64).filter fun i => s.testBit i).map fun i : Nat => (i : Int)
def clr (s c : Nat) : Nat := s &&& (18446744073709551615 - 2 ^ c)
theorem bitsL_mem {s : Nat} {x : Int} : x ∈ bitsL s ↔ 0 ≤ x ∧ x < 64 ∧ s.testBit x.toNat = true := by
  unfold bitsL
  rw [List.mem_map]
  constructor
  · rintro ⟨i, hi, rfl⟩
    rw [List.mem_filter, List.mem_range] at hi
    exact ⟨by omega, by omega, by simpa using hi.2⟩
  · rintro ⟨h0, h1, h2⟩
    exact ⟨x.toNat, by rw [List.mem_filter, List.mem_range]; exact ⟨by omega, h2⟩, by omega⟩
theorem bitsL_rise (s : Nat) : (bitsL s).Pairwise (· < ·) := by
  unfold bitsL
  rw [List.pairwise_map]
  have h : (List.range 64).Pairwise (· < ·) := List.pairwise_lt_range
  exact (h.filter _).imp (fun h => by omega)
theorem bitsL_zero : bitsL 0 = [] := by
  apply List.eq_nil_iff_forall_not_mem.2
  intro x hx
  have := (bitsL_mem.1 hx).2.2
  simp at this
theorem mask_bit {c i : Nat} (hc : c < 64) : (18446744073709551615 - 2 ^ c).testBit i = (decide (i < 64) && decide (i ≠ c)) := by
  have h := Nat.testBit_two_pow_sub_succ (x := 2 ^ c) (n := 64) (Nat.pow_lt_pow_right (by decide) hc) i
  rw [show 2 ^ 64 - (2 ^ c + 1) = 18446744073709551615 - 2 ^ c by omega, Nat.testBit_two_pow] at h
  rw [h]
  by_cases e : c = i <;> simp [e, eq_comm]
theorem clr_bit {s c i : Nat} (hc : c < 64) : (clr s c).testBit i = (s.testBit i && (decide (i < 64) && decide (i ≠ c))) := by
  rw [clr, Nat.testBit_and, mask_bit hc]
theorem clr_le (s c : Nat) : clr s c ≤ s := Nat.and_le_left
theorem clr_lt {s c : Nat} (hc : c < 64) (h : s.testBit c = true) : clr s c < s := by
  rcases Nat.lt_or_eq_of_le (clr_le s c) with h1 | h1
  · exact h1
  · have := clr_bit (s := s) (i := c) hc
    rw [h1, h] at this; simp at this
theorem ctz_facts {s : Nat} (h0 : s ≠ 0) (hs : s < 18446744073709551616) : Lib.ctz 64 s < 64 ∧ s.testBit (Lib.ctz 64 s) = true ∧ ∀ i, i < Lib.ctz 64 s → s.testBit i = false := by
  obtain ⟨m, hm, hk⟩ := Lib.ctzFrom_spec 64 s (by omega) (by omega)
  have e : Lib.ctz 64 s = Lib.ctzFrom 64 s := by rw [Lib.ctz, if_neg h0]
  rw [e]
  generalize Lib.ctzFrom 64 s = k at hm hk
  refine ⟨hk, ?_, fun i hi => ?_⟩
  · rw [hm, Nat.mul_comm, Nat.testBit_mul_two_pow]; simp [Nat.testBit_zero]
  · rw [hm, Nat.mul_comm, Nat.testBit_mul_two_pow]; simp; omega
theorem bitsL_step {s : Nat} (h0 : s ≠ 0) (hs : s < 18446744073709551616) : bitsL s = ((Lib.ctz 64 s : Nat) : Int) :: bitsL (clr s (Lib.ctz 64 s)) := by
  obtain ⟨hk, hb, hlow⟩ := ctz_facts h0 hs
  generalize Lib.ctz 64 s = k at hk hb hlow
  refine rise_unique (bitsL_rise s) (List.Pairwise.cons (fun x hx => ?_) (bitsL_rise _)) fun x => ?_
  · obtain ⟨h1, h2, h3⟩ := bitsL_mem.1 hx
    rw [clr_bit hk] at h3
    simp only [Bool.and_eq_true, decide_eq_true_eq] at h3
    rcases Nat.lt_or_ge x.toNat k with h | h
    · rw [hlow _ h] at h3; simp at h3
    · omega
  · rw [List.mem_cons, bitsL_mem, bitsL_mem, clr_bit hk]
    constructor
    · rintro ⟨h1, h2, h3⟩
      by_cases e : x = (k : Int)
      · exact .inl e
      · refine .inr ⟨h1, h2, ?_⟩
        rw [h3]; simp; omega
    · rintro (rfl | ⟨h1, h2, h3⟩)
      · exact ⟨by omega, by omega, by simpa using hb⟩
      · simp only [Bool.and_eq_true] at h3
        exact ⟨h1, h2, h3.1⟩

/-- The table of bits.TrailingZeros64 lies in its variable. -/
def Tab64 (w : World) : Prop := TabAt 0 Lib.deBruijn64tab w
theorem Tab64.keep {w w' : World} (h : Tab64 w) (hlt : 0 < w.heap.size) (hb : Below w.heap.size w w') : Tab64 w' := fun j hj => (hb.cell (p := ⟨0, j, none⟩) hlt).trans (h j hj)
theorem tab_keep {w w' : World} (h : Tab64 w ∧ 0 < w.heap.size) (hb : Below w.heap.size w w') : Tab64 w' ∧ 0 < w'.heap.size := ⟨h.1.keep h.2 hb, Nat.lt_of_lt_of_le h.2 hb.size⟩

theorem least_any (s : Nat) (hs : s < 18446744073709551616) (w : World) (hT : Tab64 w) :
    Calls Tryz.prog 70 #[.int .u64 (s : Int)] w fun e w' => e = .returned (.int .i64 (Lib.ctz 64 s : Int)) ∧ w = w' := by
  have h := Any7.bits_TrailingZeros64 Tryz.tz64 s hs w (fun _ => hT)
  go_enter Tryz.func70, Tryz.ntmps70
  go_wp2_with fail
  refine h.mono ?_
  rintro e wv ⟨rfl, rfl⟩
  go_wp2
  go_ret
  exact ⟨rfl, rfl⟩

theorem wrap_natE (a : Nat) (v : Int) (ha : a < 18446744073709551616) (hv : v = (a : Int)) : IntKind.u64.wrap v = (a : Int) := by
  rw [IntKind.wrap_u64, hv]; omega

theorem without_any (s c : Nat) (hs : s < 18446744073709551616) (hc : c < 64) (w : World) :
    Calls Tryz.prog 82 #[.int .u64 (s : Int), .int .i64 (c : Int)] w fun e w' => e = .returned (.int .u64 (clr s c : Int)) ∧ w = w' := by
  have hp : (2 : Nat) ^ c < 18446744073709551616 := Nat.lt_of_lt_of_le (Nat.pow_lt_pow_right (by decide) hc) (by decide)
  have hw2 : IntKind.u64.wrap ((2 : Int) ^ c) = ((2 ^ c : Nat) : Int) := wrap_natE _ _ hp (by simp)
  have han := u64_andNot_nat s (2 ^ c) hs hp
  go_enter Tryz.func82, Tryz.ntmps82
  go_wp2
  go_ret
  exact ⟨by
    show Ending.returned (.int .u64 (bits BinOp.andNot IntKind.u64 (s : Int) _)) = _
    rw [show ((2 : Int) ^ c) = ((2 ^ c : Nat) : Int) by simp, han]; rfl, rfl⟩
end Go.Proofs.YtcfibfbenccimaaGreatDoor

namespace Go.Proofs.YtcfibfbenccimaaGreatDoor
open Go.RowKit Go.Shelf
attribute [local go_sem] Oper.semAt_some

set_option maxRecDepth 100000 in
set_option maxHeartbeats 1000000 in
/-- 'each' yields the cells of a set, least first, so long as it is told to go on. -/
theorem each_in (n l s : Nat) (hs : s < 18446744073709551616) (J : List Int → World → Prop) (W : World) (hT : ∀ pre w, J pre w → Tab64 w)
    (hY : ∀ (pre : List Int) (x : Int) (rest : List Int) (w : World), bitsL s = pre ++ x :: rest → J pre w → YieldAt Fence.wide (n - 1) Tryz.prog l #[.int .i64 x] w fun e w' => e = .returned (.bool true) ∧ J (pre ++ [x]) w')
    (h0 : J [] W) :
    CallsIn Fence.wide n Tryz.prog 61 #[.int .u64 (s : Int), .func (.yield l) #[] #[]] W fun e w' => (∃ v, e = .returned v) ∧ J (bitsL s) w' := by
  refine callsIn_of_wp Tryz.func61 rfl trivial ?_ rfl
  simp only [Tryz.ntmps61, List.size_toArray, List.length_cons, List.length_nil, Nat.reduceAdd, Nat.reduceSub, Array.replicate_succ, Array.replicate_zero, List.push_toArray, List.append_toArray, List.nil_append, List.cons_append]
  gi_wp2
  gi_loopw [0] (fun v wr => ∃ (r : Nat) (pre : List Int), v = .int .u64 (r : Int) ∧ r < 18446744073709551616 ∧ bitsL s = pre ++ bitsL r ∧ J pre wr) (fun v _ => (intOf v).toNat)
  case atStart => exact ⟨s, [], rfl, hs, rfl, h0⟩
  case round =>
    obtain ⟨r, pre, rfl, hr, hsp, hJ⟩ := hrel
    by_cases hz : r = 0
    · subst hz
      have HF := Lib.hid (show bitsL s = pre by rw [hsp, bitsL_zero, List.append_nil])
      clear hsp
      have h00 : ((((0 : Nat) : Int)) != 0) = false := rfl
      gi_wp2
      refine ⟨trivial, ?_⟩
      gi_wp2
      refine ⟨fun _ h => (by cases h), ?_⟩
      gi_wp2
      go_end0
      exact ⟨⟨_, rfl⟩, by rw [HF.out]; exact hJ⟩
    · have hz0 : ((r : Int) == 0) = false := by simp; omega
      have hz1 : ¬ ((r : Int) = 0) := by omega
      obtain ⟨hk, hb, hlow⟩ := ctz_facts hz hr
      have hst := bitsL_step hz hr
      have hL1 := least_any r hr wr (hT pre wr hJ)
      have hclt := clr_lt hk hb
      generalize hkd : Lib.ctz 64 r = k at hk hb hlow hst hL1 hclt
      have HK := Lib.hid hkd
      have HN := Lib.hid (show bitsL s = (pre ++ [(k : Int)]) ++ bitsL (clr r k) by rw [hsp, hst]; simp)
      obtain ⟨fn, tmps, assign, body, hy, hR⟩ := hY pre (k : Int) (bitsL (clr r k)) wr (by rw [hsp, hst]) hJ
      have HC := Lib.hid hclt
      have HR := Lib.hid (Nat.lt_of_lt_of_le hclt (Nat.le_of_lt hr))
      clear hsp hst hb hlow hkd hclt
      gi_wp2
      refine ⟨trivial, (fun h => by cases h), (callsIn_wide.2 hL1).mono ?_⟩
      rintro e w' ⟨rfl, rfl⟩
      clear hL1
      gi_wp2
      refine ⟨(fun h => by cases h), hR.mono ?_⟩
      rintro e w' ⟨rfl, hJ2⟩
      clear hR hy
      have hL2 := least_any r hr w' (hT _ w' hJ2)
      have hW2 := without_any r k hr hk w'
      rw [HK.out] at hL2
      gi_wp2
      refine ⟨trivial, (fun h => by cases h), (callsIn_wide.2 hL2).mono ?_⟩
      rintro e w'' ⟨rfl, rfl⟩
      clear hL2
      gi_wp2
      refine ⟨trivial, (fun h => by cases h), (callsIn_wide.2 hW2).mono ?_⟩
      rintro e w'' ⟨rfl, rfl⟩
      clear hW2
      gi_wp2
      go_roundw
      case rel => exact ⟨clr r k, pre ++ [(k : Int)], rfl, HR.out, HN.out, hJ2⟩
      case measure => have := HC.out; simp [intOf]; omega
end Go.Proofs.YtcfibfbenccimaaGreatDoor

namespace Go.Proofs.YtcfibfbenccimaaGreatDoor
open Go.RowKit Go.Shelf

/-- What an iterator with a bound receiver promises: it hands over the numbers xs, one after the other. -/
def Hands (P : Program) (n gf : Nat) (sv : Value) (xs : List Int) (T : World → Prop) : Prop :=
  ∀ (l : Nat) (J : List Int → World → Prop) (W : World), (∀ pre w, J pre w → T w) →
    (∀ (pre : List Int) (x : Int) (rest : List Int) (w : World), xs = pre ++ x :: rest → J pre w → YieldAt Fence.wide (n - 1) P l #[.int .i64 x] w fun e w' => e = .returned (.bool true) ∧ J (pre ++ [x]) w') →
    J [] W → CallsIn Fence.wide n P gf #[sv, .func (.yield l) #[] #[]] W fun e w' => (∃ v, e = .returned v) ∧ J xs w'

theorem each_hands (n s : Nat) (hs : s < 18446744073709551616) : Hands Tryz.prog n 61 (.int .u64 (s : Int)) (bitsL s) Tab64 :=
  fun l J W hT hY h0 => each_in n l s hs J W hT hY h0

theorem wpIn_hands {P : Program} {n : Nat} {g : Operand} {p : Tmp} {assign body : Code} {Q : Exit → Act → World → Prop} {a : Act} {w : World} {gf : Nat} {sv : Value}
    (hg : a.eval g = .func (.func gf) #[sv] #[]) (eg : ∀ args w, (callFunc gf args).run P w = .ok (.enter gf args) w)
    {xs : List Int} {T : World → Prop} (hit : Hands P (n - 1) gf sv xs T)
    (I : List Int → World → Prop) (hT : ∀ pre w, I pre w → T w) (hI : OwnFrom w.heap.size I) (h0 : I [] w) (a₁ : Int → Act)
    (hassign : ∀ (l : Nat) (x : Int) (W : World) (K : Act → World → Prop), K (a₁ x) W →
      assign.wpIn (Fence.wide.inRound l) (n - 1 - 1) P (Exit.then K (fun _ _ _ => False)) { tmps := ((#[p] : Array Tmp).zip #[Value.int .i64 x]).foldl (fun t (p, v) => t.setIfInBounds p v) a.tmps, defers := [] } W)
    (hbody : ∀ (l : Nat) (pre : List Int) (x : Int) (rest : List Int) (W : World), w.heap.size ≤ l → xs = pre ++ x :: rest → I pre W →
      body.wpIn (Fence.wide.inRound l) (n - 1 - 1) P (ownPostG w.heap.size (fun _ _ => True) I (fun _ _ _ => False) (pre ++ [x]) W) (a₁ x) W)
    (hdone : ∀ (D : Nat) (W : World), w.heap.size ≤ D → I xs W → W.heap[D]? = some (.deferred (some [])) → Q .normal { a with defers := { target := .collected D, args := #[] } :: a.defers } W) :
    (Code.rangeFunc g #[p] assign body).wpIn Fence.wide n P Q a w := by
  refine wpIn_rangeFunc ?_
  intro fn _
  obtain ⟨rec, hrec⟩ : ∃ rec : LoopState → Loop, rec = fun st => { state := st, pending := none, fn, tmps := a.tmps, params := #[p], assign, body, defers := w.heap.size } := ⟨_, rfl⟩
  obtain ⟨W1, hW1⟩ : ∃ W1, W1 = (w.alloc (.deferred (some []))).alloc (.loop (rec .ready)) := ⟨_, rfl⟩
  have hL1 : W1.heap[w.heap.size + 1]? = some (.loop (rec .ready)) := by
    rw [hW1]
    have h := World.alloc_heap_new (w.alloc (.deferred (some []))) (.loop (rec .ready))
    rw [World.size_alloc] at h
    exact h
  have hK1 : W1.heap[w.heap.size]? = some (.deferred (some [])) := by
    rw [hW1]
    exact (Below.heap_alloc _ _ _ (by simp)).trans (World.alloc_heap_new w _)
  have hI1 : I [] W1 := by rw [hW1]; exact hI.alloc _ (hI.alloc _ h0)
  refine ⟨w.heap.size + 1, [{ target := .collected w.heap.size, args := #[] }], W1, { target := .fn (.func gf) #[], args := #[sv, .func (.yield (w.heap.size + 1)) #[] #[]] }, W1, gf,
    #[sv, .func (.yield (w.heap.size + 1)) #[] #[]], W1, ?_, ?_, fun _ _ => trivial, ?_, (fun h => by cases h), ?_⟩
  · rw [hW1, hrec]; exact run_enterLoop_outer fn a.tmps #[p] assign body
  · simp only [resolve, hg]
    simp [go_sem]
  · simp [invoke, go_sem, eg]
  · refine (hit (w.heap.size + 1) (fun pre W => I pre W ∧ W.heap[w.heap.size + 1]? = some (.loop (rec .ready)) ∧ W.heap[w.heap.size]? = some (.deferred (some []))) W1
      (fun pre W h => hT pre W h.1) ?_ ⟨hI1, hL1, hK1⟩).mono ?_
    · rintro pre x rest W hsp ⟨hi, hl, hk⟩
      have hlt := (Array.getElem?_eq_some_iff.1 hl).1
      have hy := run_yield (P := P) (args := #[.int .i64 x]) hl (by rw [hrec]; rfl)
      have hbg := run_beginRound (P := P) hl (by rw [hrec])
      obtain ⟨busy, hbusy⟩ : ∃ busy : Loop, busy = { rec .ready with state := .busy } := ⟨_, rfl⟩
      rw [← hbusy] at hbg
      have hl2 : (W.putObj (w.heap.size + 1) (.loop busy)).heap[w.heap.size + 1]? = some (.loop busy) := World.putObj_heap_same hlt
      have hk2 : (W.putObj (w.heap.size + 1) (.loop busy)).heap[w.heap.size]? = some (.deferred (some [])) := (World.putObj_heap_other (by omega)).trans hk
      rw [hrec] at hy
      refine ⟨fn, _, assign, body, hy, roundIn_of_wpIn trivial (hassign _ x W _ ⟨_, hbg, ?_⟩)⟩
      refine wpIn_mono (hbody (w.heap.size + 1) pre x rest _ (by omega) hsp (hI.putObj _ hi (by omega) hl rfl)) ?_
      intro e a3 W3 hp
      cases e with
      | normal =>
        obtain ⟨hk3, _, hi3⟩ := hp
        have hl3 := hk3.same _ _ (by omega) hl2 rfl
        have hd3 := hk3.same _ _ (Nat.le_refl _) hk2 rfl
        have hend := run_endRound (P := P) none hl3
        have hre : ({ busy with state := if (none : Option Code).isNone then .ready else .done, pending := none } : Loop) = rec .ready := by rw [hbusy, hrec]; rfl
        rw [hre] at hend
        exact ⟨_, _, hend, rfl, hI.putObj _ hi3 (by omega) hl3 rfl, World.putObj_heap_same (Array.getElem?_eq_some_iff.1 hl3).1, (World.putObj_heap_other (by omega)).trans hd3⟩
      | ret => exact hp.2.elim
      | exit id => exact hp.2.elim
      | goto t => exact hp.2.elim
      | panic ch => exact hp.elim
      | outgrown => exact hp.elim
    · rintro e W2 ⟨⟨v, rfl⟩, hi, hl, hk⟩
      have hend := run_endLoop (P := P) hl (by rw [hrec]; simp)
      exact ⟨none, _, by rw [hrec] at hend; exact hend, hdone _ _ (Nat.le_refl _) (hI.putObj _ hi (by omega) hl rfl) ((World.putObj_heap_other (by omega)).trans hk)⟩
end Go.Proofs.YtcfibfbenccimaaGreatDoor

namespace Go.Proofs.YtcfibfbenccimaaGreatDoor
open Go.RowKit Go.Shelf
attribute [local go_sem] Oper.semAt_some

def words (L : List Nat) : List Value := L.map fun n : Nat => .int .u64 (n : Int)
theorem words_one (L : List Nat) : ∀ v ∈ words L, v.oneCell' = true := by
  intro v hv
  obtain ⟨n, _, rfl⟩ := List.mem_map.1 hv
  rfl
theorem grown_set (W : World) (g j : Nat) (v : Value) : W.grownBy (W.setCell ⟨g, j, none⟩ v) (some g) :=
  ⟨rfl, rfl, rfl, by rw [Deep.nblk_setCell]; exact Nat.le_refl _, fun k _ hne => Deep.blk_setCell_other W _ v k (fun e => hne (by rw [e]))⟩
theorem heap_set {W : World} {g j : Nat} {cs : Array Value} {t : TypeId} (v : Value) (h : W.heap[g]? = some (.cells cs t (0, 0))) : (W.setCell ⟨g, j, none⟩ v).heap[g]? = some (.cells (cs.setIfInBounds j v) t (0, 0)) := by
  simp [World.setCell, Array.getElem?_modify, h]
theorem load_row {P : Program} {w : World} {g : Nat} {cs : List Value} {t : TypeId} (h : w.heap[g]? = some (.cells cs.toArray t (0, 0))) (n : Nat) (hn : cs.length = n) :
    (loadCellsFrom ⟨g, 0, none⟩ 0 n #[]).run P w = .ok cs.toArray w := by
  subst hn
  have := run_loadCells_list (P := P) w ⟨g, 0, none⟩ cs (fun j v hv => by
    rw [Addr.add_mid, Nat.zero_add, cell_of_row _ _ j _ t (0, 0) h]
    simpa using hv)
  simpa [loadCells] using this
theorem store_row {P : Program} {w : World} {g : Nat} {c : Array Value} {cs : List Value} {t : TypeId} (h : w.heap[g]? = some (.cells c t (0, 0))) (hi : (P.info? t).map (·.size) = some cs.length) (ho : c.size = cs.length) (h1 : ∀ v ∈ cs, v.oneCell' = true) :
    (storeCells ⟨g, 0, none⟩ cs 0).run P w = .ok () (w.setRow g cs.toArray) := by
  have := run_storeVar_row (P := P) w g t t c cs.toArray h (by simpa using hi) (by simpa using ho) (all_oneCell_toArray h1)
  cases hq : P.info? t with
  | none => simp [hq] at hi
  | some i =>
    have hs : cs.length = i.size := by simp [hq] at hi; omega
    simpa [storeVar, sizeOf, typeInfo, hq, Value.cells, hs] using this
theorem heap_setRow {W : World} {g : Nat} {cs c' : Array Value} {t : TypeId} (h : W.heap[g]? = some (.cells cs t (0, 0))) : (W.setRow g c').heap[g]? = some (.cells c' t (0, 0)) := by
  simp [World.setRow, Array.getElem?_modify, h]
theorem grown_setRow (W : World) (g : Nat) (c' : Array Value) : W.grownBy (W.setRow g c') (some g) :=
  ⟨rfl, rfl, rfl, by simp [World.setRow], fun k _ hne => by
    have : ¬ g = k := fun e => hne (by rw [e])
    simp [World.setRow, Array.getElem?_modify, this]⟩

theorem wpIn_load_run {F : Fence} {n : Nat} {P : Program} {op : Oper} {a : Act} {w : World} {K : Act → World → Prop} {Q : Exit → Act → World → Prop} (ty : TypeId) (x : Operand) (p v : Value) (ho : op.op = .load ty x)
    (hx : a.eval x = p) (hr : (Instr.loadAt ty p).run P w = .ok v w) (h : K (a.put op.dst v) w) : op.wpIn F n P a w K Q := by
  refine ⟨fun f hf => (by simp [Oper.about, ho] at hf), ?_⟩
  rw [Oper.semAt_plain F _ _ (fun c => by rw [ho]; simp)]
  unfold execOp
  simp only [ho, hx, Sem.run_bind, hr, Sem.run_pure, Result.andThen_ok]
  exact h
theorem wpIn_store_run {F : Fence} {n : Nat} {P : Program} {op : Oper} {a : Act} {w w' : World} {K : Act → World → Prop} {Q : Exit → Act → World → Prop} (ty : TypeId) (x y : Operand) (p v : Value) (ho : op.op = .store ty x y)
    (hx : a.eval x = p) (hy : a.eval y = v) (hr : (Instr.storeAt ty p v).run P w = .ok () w') (h : K (a.put op.dst undef) w') : op.wpIn F n P a w K Q := by
  refine ⟨fun f hf => (by simp [Oper.about, ho] at hf), ?_⟩
  rw [Oper.semAt_plain F _ _ (fun c => by rw [ho]; simp)]
  unfold execOp
  simp only [ho, hx, hy, Sem.run_bind, hr, Sem.run_pure, Result.andThen_ok]
  exact h


end Go.Proofs.YtcfibfbenccimaaGreatDoor

namespace Go.Proofs.YtcfibfbenccimaaGreatDoor
open Go.RowKit

def okLeap (W H : Int) (xs : List Int) (a b p q : Int) : Bool := leaperB a b && (hasV W H xs p && hasV W H xs q)
def isLeapV (W H : Int) (xs : List Int) (a b p q : Int) : Bool := okLeap W H xs a b p q && leapB W a b p q

set_option maxHeartbeats 400000 in
theorem boTwo_any (W H : Int) (A : Option Addr) (n c : Nat) (xs : List Int) (a b : Int) (w : World) (ha : Rd w A n xs) :
    Calls Tryz.prog 28 #[brd W H A n c, lpr a b] w fun e w' => e = .returned (.bool (goodB W H xs && leaperB a b)) ∧ Below w.heap.size w w' := by
  by_cases hg : goodB W H xs = true
  · go_enter Tryz.func28, Tryz.ntmps28
    go_wp2_with fail
    refine (boGood_any _ _ _ _ _ _ _ ((ha.alloc _).alloc _)).mono ?_
    rw [hg]
    rintro e wv ⟨rfl, hb⟩
    have hbx := below_box hb
    have a0 : wv.cell? ⟨w.heap.size, 0, none⟩ = some (.int .i64 W) := by simpa using newbox hbx 0
    have a1 : wv.cell? ⟨w.heap.size, 1, none⟩ = some (.int .i64 H) := by simpa using newbox hbx 1
    have a2 : wv.cell? ⟨w.heap.size, 2, none⟩ = some (.slice A n c) := by simpa using newbox hbx 2
    have al : w.heap.size < wv.heap.size := by simpa using newbox_lt hbx
    have l0 : wv.cell? ⟨w.heap.size + 1, 0, none⟩ = some (.int .i64 a) := by simpa using newbox hb 0
    have l1 : wv.cell? ⟨w.heap.size + 1, 1, none⟩ = some (.int .i64 b) := by simpa using newbox hb 1
    have ll : w.heap.size + 1 < wv.heap.size := by simpa using newbox_lt hb
    have B := Lib.hid (below_box hbx)
    clear hb hbx
    go_wp2_with fail
    refine (boLeaper_any _ _ _).mono ?_
    rintro e wv ⟨rfl, hb⟩
    replace a0 := cell_keep a0 al hb; replace a1 := cell_keep a1 al hb; replace a2 := cell_keep a2 al hb; replace al := lt_keep al hb
    replace l0 := cell_keep l0 ll hb; replace l1 := cell_keep l1 ll hb; replace ll := lt_keep ll hb
    replace B := Lib.hid (below_next B.out hb)
    clear hb
    go_wp2
    go_ret
    exact ⟨ret_bool (by rw [hg]; rfl), B.out⟩
  · have hg' : goodB W H xs = false := by simpa using hg
    go_enter Tryz.func28, Tryz.ntmps28
    go_wp2_with fail
    refine (boGood_any _ _ _ _ _ _ _ ((ha.alloc _).alloc _)).mono ?_
    rw [hg']
    rintro e wv ⟨rfl, hb⟩
    have hbx := below_box hb
    have a0 : wv.cell? ⟨w.heap.size, 0, none⟩ = some (.int .i64 W) := by simpa using newbox hbx 0
    have a1 : wv.cell? ⟨w.heap.size, 1, none⟩ = some (.int .i64 H) := by simpa using newbox hbx 1
    have a2 : wv.cell? ⟨w.heap.size, 2, none⟩ = some (.slice A n c) := by simpa using newbox hbx 2
    have al : w.heap.size < wv.heap.size := by simpa using newbox_lt hbx
    have l0 : wv.cell? ⟨w.heap.size + 1, 0, none⟩ = some (.int .i64 a) := by simpa using newbox hb 0
    have l1 : wv.cell? ⟨w.heap.size + 1, 1, none⟩ = some (.int .i64 b) := by simpa using newbox hb 1
    have ll : w.heap.size + 1 < wv.heap.size := by simpa using newbox_lt hb
    have B := Lib.hid (below_box hbx)
    clear hb hbx
    go_wp2
    go_ret
    exact ⟨ret_bool (by rw [hg']; rfl), B.out⟩

theorem range_of {W H q : Int} {xs : List Int} (hN : 1 ≤ W * H ∧ W * H ≤ 64) (h : hasB W H xs q = true) : 0 ≤ q ∧ q ≤ 64 := by
  have := (hasB_iff.1 h).1; omega

end Go.Proofs.YtcfibfbenccimaaGreatDoor

namespace Go.Proofs.YtcfibfbenccimaaGreatDoor
open Go.RowKit

def goesB (W H : Int) (hs : List Int) (a b : Int) : Option Int → List Int → Bool
  | _, [] => true
  | p, c :: t => hasB W H hs c && (match p with | none => true | some q => leapB W a b q c) && goesB W H hs a b (some c) t
def pathB (W H : Int) (hs : List Int) (a b : Int) (ps : List Int) : Bool := decide (1 ≤ ps.length ∧ ps.length ≤ 64) && goesB W H hs a b none ps
def prevOf (ps : List Int) : Nat → Option Int
  | 0 => none
  | k + 1 => ps[k]?
theorem goes_drop {W H a b x : Int} {hs ps : List Int} {k : Nat} {p : Option Int} (hx : ps[k]? = some x) :
    goesB W H hs a b p (ps.drop k) = (hasB W H hs x && (match p with | none => true | some q => leapB W a b q x) && goesB W H hs a b (some x) (ps.drop (k + 1))) := by
  rw [drop_cons_of hx]; rfl
theorem below_undrewN {w w' : World} {k : Nat} (h : Below (w.drewN k).heap.size (w.drewN k) w') : Below w.heap.size w w' := ⟨h.os, h.tape, h.output, h.size, h.block⟩

end Go.Proofs.YtcfibfbenccimaaGreatDoor

namespace Go.Proofs.YtcfibfbenccimaaGreatDoor
open Go.RowKit

def twoV (W H : Int) (xs : List Int) (a b : Int) : Bool := goodB W H xs && leaperB a b
def isPathV (W H : Int) (xs : List Int) (a b : Int) (ps : List Int) : Bool := if twoV W H xs a b then pathB W H xs a b ps else false

end Go.Proofs.YtcfibfbenccimaaGreatDoor

namespace Go.Proofs.YtcfibfbenccimaaGreatDoor
open Go.RowKit

theorem and_nat (a b : Nat) (v : Int) (ha : a < 18446744073709551616) (hb : b < 18446744073709551616) (hv : v = (a : Int)) : bits .and .u64 v (b : Int) = ((a &&& b : Nat) : Int) := by
  rw [hv]; exact bits_and_u64_nat a b ha hb
theorem wrap_nat (a : Nat) (v : Int) (ha : a < 18446744073709551616) (hv : v = (a : Int)) : IntKind.u64.wrap v = (a : Int) := by
  rw [IntKind.wrap_u64, hv]; omega

theorem withS_any (s c : Nat) (hs : s < 18446744073709551616) (hc : c < 64) (w : World) :
    Calls Tryz.prog 68 #[.int .u64 (s : Int), .int .i64 (c : Int)] w fun e w' => e = .returned (.int .u64 ((s ||| 2 ^ c : Nat) : Int)) ∧ w = w' := by
  have hp : (2 : Nat) ^ c < 18446744073709551616 := Nat.lt_of_lt_of_le (Nat.pow_lt_pow_right (by decide) hc) (by decide)
  have hw2 : IntKind.u64.wrap ((2 : Int) ^ c) = ((2 ^ c : Nat) : Int) := wrap_nat _ _ hp (by simp)
  have hor := bits_or_u64_nat s (2 ^ c) hs hp
  go_enter Tryz.func68, Tryz.ntmps68
  go_wp2
  go_ret
  exact ⟨by rw [show ((2 : Int) ^ c) = ((2 ^ c : Nat) : Int) by simp, hor]; rfl, rfl⟩

set_option maxHeartbeats 1000000 in
theorem setOf_any (A : Option Addr) (n c : Nat) (ps : List Int) (w : World) (ha : Rd w A n ps) (hc : ∀ x ∈ ps, 0 ≤ x ∧ x < 64) :
    Calls Tryz.prog 38 #[.slice A n c] w fun e w' => e = .returned (.int .u64 (setBits (ps.map Int.toNat) : Int)) ∧ Below w.heap.size w w' := by
  have h3 := ha.2.1
  have H1 := Lib.hid ha.1
  have HC := Lib.hid hc
  clear hc
  go_enter Tryz.func38, Tryz.ntmps38
  go_wp2
  go_loopw [3, 8] (fun s i wr => ∃ (k S : Nat), k ≤ n ∧ i = .int .i64 k ∧ s = .int .u64 (S : Int) ∧ S = setBits ((ps.take k).map Int.toNat) ∧ Below w.heap.size w wr) (fun _ i _ => n - (intOf i).toNat)
  case atStart => exact ⟨0, 0, Nat.zero_le _, rfl, rfl, by simp [setBits], Below.refl _ _⟩
  case round =>
    obtain ⟨k, S, hk, rfl, rfl, hs, hbw⟩ := hrel
    have HS := Lib.hid hs
    have hS : S < 18446744073709551616 := by
      rw [hs]; refine setBits_lt _ (fun c hm => ?_)
      obtain ⟨y, hy, rfl⟩ := List.mem_map.1 hm
      have := HC.out y (List.mem_of_mem_take hy); omega
    clear hs
    by_cases hlt : k < n
    · obtain ⟨b1, o1, x, rfl, hl1, hx, hc1⟩ := (ha.keep hbw).at_ hlt
      have HX := Lib.hid hx
      obtain ⟨hx0, hx64⟩ := HC.out x (List.mem_of_getElem? hx)
      clear hx
      obtain ⟨j, rfl⟩ : ∃ j : Nat, x = (j : Int) := ⟨x.toNat, by omega⟩
      have hj : j < 64 := by omega
      go_wp2_with fail
      refine (withS_any S j hS hj _).mono ?_
      rintro e wv ⟨rfl, rfl⟩
      go_wp2
      go_roundw
      case rel => exact ⟨k + 1, S ||| 2 ^ j, by omega, by go_num, rfl, by rw [List.take_add_one, HX.out, List.map_append, HS.out]; exact (setBits_snoc _ _).symm, hbw⟩
      case measure => simp [intOf]; omega
    · go_wp2
      go_ret
      exact ⟨by rw [HS.out, List.take_of_length_le (by have := H1.out; omega)]; rfl, hbw⟩

end Go.Proofs.YtcfibfbenccimaaGreatDoor
