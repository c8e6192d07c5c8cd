/-
  Puzzles, in plain terms: numbers of a puzzle, the cells that may have each place.
-/
import Derived.Test.YtkdfilhiljfanaaK2
namespace Go.Proofs.Ytkdfilhiljfanaa

/-- Whether the k-th number of a list may stand there. -/
def numOk (W H : Int) (xs : List Int) (m : Int) (ns : List Int) (k : Nat) (x : Int) : Bool := inB x 0 m && (x == 0 || (hasB W H xs k && !(ns.take k).contains x))
def numsFrom (W H : Int) (xs : List Int) (m : Int) (ns : List Int) : Nat → List Int → Bool
  | _, [] => true
  | k, x :: t => numOk W H xs m ns k x && numsFrom W H xs m ns (k + 1) t
theorem numsFrom_drop {W H x m : Int} {xs ns : List Int} {k : Nat} (hx : ns[k]? = some x) : numsFrom W H xs m ns k (ns.drop k) = (numOk W H xs m ns k x && numsFrom W H xs m ns (k + 1) (ns.drop (k + 1))) := by
  rw [drop_cons_of hx]; rfl
theorem numsFrom_at {W H m : Int} {xs ns : List Int} : ∀ (cs : List Int) (i : Nat), numsFrom W H xs m ns i cs = true → ∀ k x, cs[k]? = some x → numOk W H xs m ns (i + k) x = true
  | [], _, _, k, x, h => by simp at h
  | y :: t, i, hg, 0, x, h => by
    simp only [numsFrom, Bool.and_eq_true] at hg
    simp at h; subst h; exact hg.1
  | y :: t, i, hg, k + 1, x, h => by
    simp only [numsFrom, Bool.and_eq_true] at hg
    have := numsFrom_at t (i + 1) hg.2 k x (by simpa using h)
    rwa [show i + 1 + k = i + (k + 1) by omega] at this
def fewB (W H : Int) (xs : List Int) : Bool := decide ((cellsL W H xs).length ≤ 16)
/-- A board and a leaper that puzzles may have. -/
def pzB (W H : Int) (xs : List Int) (a b : Int) : Bool := twoV W H xs a b && fewB W H xs
def goodP (W H : Int) (xs : List Int) (a b : Int) (ns : List Int) : Bool := pzB W H xs a b && (decide ((ns.length : Int) = W * H) && numsFrom W H xs ((cellsL W H xs).length : Int) ns 0 ns)
theorem goodP_len {W H a b : Int} {xs ns : List Int} (h : goodP W H xs a b ns = true) : (ns.length : Int) = W * H := by
  simp only [goodP, Bool.and_eq_true, decide_eq_true_eq] at h; exact h.2.1
theorem goodP_two {W H a b : Int} {xs ns : List Int} (h : goodP W H xs a b ns = true) : twoV W H xs a b = true := by
  simp only [goodP, pzB, Bool.and_eq_true, decide_eq_true_eq] at h; exact h.1.1
theorem goodP_few {W H a b : Int} {xs ns : List Int} (h : goodP W H xs a b ns = true) : (cellsL W H xs).length ≤ 16 := by
  simp only [goodP, pzB, fewB, Bool.and_eq_true, decide_eq_true_eq] at h; exact h.1.2
theorem goodP_at {W H a b : Int} {xs ns : List Int} (h : goodP W H xs a b ns = true) {k : Nat} {x : Int} (hx : ns[k]? = some x) : numOk W H xs ((cellsL W H xs).length : Int) ns k x = true := by
  simp only [goodP, Bool.and_eq_true, decide_eq_true_eq] at h
  have := numsFrom_at ns 0 h.2.2 k x hx
  rwa [Nat.zero_add] at this
theorem numOk_rng {W H m x : Int} {xs ns : List Int} {k : Nat} (h : numOk W H xs m ns k x = true) : 0 ≤ x ∧ x ≤ m := by
  simp only [numOk, Bool.and_eq_true] at h
  exact inB_iff.1 h.1
theorem numOk_has {W H m x : Int} {xs ns : List Int} {k : Nat} (h : numOk W H xs m ns k x = true) (h0 : ¬ x = 0) : hasB W H xs k = true := by
  simp only [numOk, Bool.and_eq_true, Bool.or_eq_true, beq_iff_eq] at h
  rcases h.2 with h1 | h1
  · exact absurd h1 h0
  · exact h1.1

/-- The cells before the k-th one that have the place p, counted from 0. -/
def placeN (ns : List Int) (k p : Nat) : Nat := setBits ((List.range k).filter fun i => ns[i]? == some ((p : Int) + 1))
def placeL (ns : List Int) (k : Nat) : List Nat := (List.range 20).map (placeN ns k)
theorem placeL_len (ns : List Int) (k : Nat) : (placeL ns k).length = 20 := by simp [placeL]
theorem placeL_zero (ns : List Int) : placeL ns 0 = List.replicate 20 0 := by rfl
theorem placeN_yes {ns : List Int} {k p : Nat} (h : ns[k]? = some ((p : Int) + 1)) : placeN ns (k + 1) p = placeN ns k p ||| 2 ^ k := by
  rw [placeN, List.range_succ, List.filter_append, List.filter_cons, if_pos (by simp [h]), List.filter_nil, setBits_snoc]; rfl
theorem placeN_no {ns : List Int} {k p : Nat} (h : ns[k]? ≠ some ((p : Int) + 1)) : placeN ns (k + 1) p = placeN ns k p := by
  rw [placeN, List.range_succ, List.filter_append, List.filter_cons, if_neg (by simpa using h), List.filter_nil, List.append_nil]; rfl
theorem placeN_test {ns : List Int} {k p i : Nat} : (placeN ns k p).testBit i = true ↔ i < k ∧ ns[i]? = some ((p : Int) + 1) := by
  rw [placeN, setBits_test i _ _ rfl]; simp
theorem placeN_lt {ns : List Int} {k p : Nat} (hk : k ≤ 64) : placeN ns k p < 18446744073709551616 := setBits_lt _ (fun i hi => by simp at hi; omega)
theorem nat_zero_iff (n : Nat) : n = 0 ↔ ∀ i, n.testBit i = false := by
  constructor
  · rintro rfl i; simp
  · intro h; exact Nat.eq_of_testBit_eq fun i => by rw [h i]; simp
/-- No cell before the k-th one has a place just where the set is empty. -/
theorem placeN_zero {ns : List Int} {k p : Nat} : placeN ns k p = 0 ↔ (ns.take k).contains ((p : Int) + 1) = false := by
  rw [nat_zero_iff]
  simp only [List.contains_eq_mem, decide_eq_false_iff_not]
  constructor
  · intro h hm
    obtain ⟨i, hi⟩ := List.mem_iff_getElem?.1 hm
    rw [List.getElem?_take] at hi
    split at hi
    · rename_i h2
      have h3 := placeN_test.2 ⟨h2, hi⟩
      rw [h i] at h3; cases h3
    · cases hi
  · intro h i
    cases hh : (placeN ns k p).testBit i
    · rfl
    · obtain ⟨h1, h2⟩ := placeN_test.1 hh
      exact absurd (List.mem_iff_getElem?.2 ⟨i, by rw [List.getElem?_take, if_pos h1]; exact h2⟩) h
theorem placeL_at {ns : List Int} {k p : Nat} (hp : p < 20) : (placeL ns k)[p]? = some (placeN ns k p) := by
  simp [placeL, hp]
theorem placeL_set {ns : List Int} {k p : Nat} (h : ns[k]? = some ((p : Int) + 1)) : (placeL ns k).set p (placeN ns k p ||| 2 ^ k) = placeL ns (k + 1) := by
  apply List.ext_getElem?
  intro j
  rw [List.getElem?_set]
  by_cases hj : j < 20
  · by_cases e : p = j
    · subst e
      rw [if_pos rfl, if_pos (by rw [placeL_len]; omega), placeL_at hj, placeN_yes h]
    · rw [if_neg e, placeL_at hj, placeL_at hj, placeN_no (by rw [h]; simp; omega)]
  · have e1 : (placeL ns (k + 1))[j]? = none := List.getElem?_eq_none (by rw [placeL_len]; omega)
    have e2 : (placeL ns k)[j]? = none := List.getElem?_eq_none (by rw [placeL_len]; omega)
    rw [e1, e2]
    split
    · rw [if_neg (by rw [placeL_len]; omega)]
    · rfl
theorem placeL_skip {ns : List Int} {k : Nat} (h : ns[k]? = some 0) : placeL ns (k + 1) = placeL ns k := by
  unfold placeL
  refine List.map_congr_left fun c _ => placeN_no (by rw [h]; simp; omega)
/-- The gaps before the k-th cell. -/
def gapsN (W H : Int) (xs ns : List Int) (k : Nat) : Nat := setBits ((List.range k).filter fun i => ns[i]? == some 0 && hasB W H xs i)
theorem gapsN_zero (W H : Int) (xs ns : List Int) : gapsN W H xs ns 0 = 0 := rfl
theorem gapsN_yes {W H : Int} {xs ns : List Int} {k : Nat} (h : ns[k]? = some 0) (h2 : hasB W H xs k = true) : gapsN W H xs ns (k + 1) = gapsN W H xs ns k ||| 2 ^ k := by
  rw [gapsN, List.range_succ, List.filter_append, List.filter_cons, if_pos (by simp [h, h2]), List.filter_nil, setBits_snoc]; rfl
theorem gapsN_no {W H : Int} {xs ns : List Int} {k : Nat} (h : ¬ (ns[k]? = some 0 ∧ hasB W H xs k = true)) : gapsN W H xs ns (k + 1) = gapsN W H xs ns k := by
  rw [gapsN, List.range_succ, List.filter_append, List.filter_cons, if_neg (by simpa using h), List.filter_nil, List.append_nil]; rfl
theorem gapsN_lt {W H : Int} {xs ns : List Int} {k : Nat} (hk : k ≤ 64) : gapsN W H xs ns k < 18446744073709551616 := setBits_lt _ (fun i hi => by simp at hi; omega)
/-- The places before the j-th one are left to the gaps if no cell has them. -/
def fillP (g : Nat) (L : List Nat) (j : Nat) : List Nat := (L.take j).map (fun s => if s = 0 then g else s) ++ L.drop j
theorem fillP_zero (g : Nat) (L : List Nat) : fillP g L 0 = L := rfl
theorem fillP_len (g : Nat) (L : List Nat) (j : Nat) : (fillP g L j).length = L.length := by
  simp only [fillP, List.length_append, List.length_map, List.length_take, List.length_drop]; omega
theorem fillP_get (g : Nat) (L : List Nat) (j i : Nat) : (fillP g L j)[i]? = L[i]?.map fun s => if i < j ∧ s = 0 then g else s := by
  unfold fillP
  by_cases h : i < j
  · by_cases h2 : i < L.length
    · rw [List.getElem?_append_left (by simp; omega), List.getElem?_map, List.getElem?_take, if_pos h]
      cases L[i]? with
      | none => rfl
      | some s => simp [h]
    · rw [List.getElem?_append_right (by simp; omega), List.getElem?_drop, List.getElem?_eq_none (by simp; omega), List.getElem?_eq_none (by omega)]; rfl
  · by_cases h2 : j ≤ L.length
    · rw [List.getElem?_append_right (by simp; omega), List.getElem?_drop]
      simp only [List.length_map, List.length_take]
      rw [show j + (i - min j L.length) = i by omega]
      cases L[i]? with
      | none => rfl
      | some s => simp [h]
    · rw [List.getElem?_append_right (by simp; omega), List.getElem?_drop, List.getElem?_eq_none (by omega), List.getElem?_eq_none (by omega)]; rfl
theorem fillP_at {g : Nat} {L : List Nat} {j s : Nat} (h : L[j]? = some s) : (fillP g L j)[j]? = some s := by
  rw [fillP_get, h]; simp
theorem fillP_next {g : Nat} {L : List Nat} {j s : Nat} (h : L[j]? = some s) : fillP g L (j + 1) = (fillP g L j).set j (if s = 0 then g else s) := by
  have hj : j < L.length := (List.getElem?_eq_some_iff.1 h).1
  refine List.ext_getElem? fun i => ?_
  rw [List.getElem?_set, fillP_get, fillP_get, fillP_len]
  by_cases e : j = i
  · subst e; rw [if_pos rfl, if_pos hj, h]; simp
  · rw [if_neg e]
    cases L[i]? with
    | none => rfl
    | some t =>
      have : (i < j + 1 ∧ t = 0) ↔ (i < j ∧ t = 0) := by omega
      simp only [Option.map_some, this]
theorem fillP_same {g : Nat} {L : List Nat} {j s : Nat} (h : L[j]? = some s) (h0 : ¬ s = 0) : fillP g L (j + 1) = fillP g L j := by
  refine List.ext_getElem? fun i => ?_
  rw [fillP_get, fillP_get]
  by_cases e : j = i
  · subst e; rw [h]; simp [h0]
  · cases L[i]? with
    | none => rfl
    | some t =>
      have : (i < j + 1 ∧ t = 0) ↔ (i < j ∧ t = 0) := by omega
      simp only [Option.map_some, this]
/-- The cells that may have each place of a puzzle's solutions. -/
def planL (W H : Int) (xs ns : List Int) : List Nat := fillP (gapsN W H xs ns ns.length) (placeL ns ns.length) (cellsL W H xs).length
def planV (W H : Int) (xs : List Int) (a b : Int) (ns : List Int) : List Nat := if goodP W H xs a b ns then planL W H xs ns else List.replicate 20 0
theorem planL_len (W H : Int) (xs ns : List Int) : (planL W H xs ns).length = 20 := by rw [planL, fillP_len, placeL_len]
theorem goodP_no {W H a b : Int} {xs ns : List Int} (h : numsFrom W H xs ((cellsL W H xs).length : Int) ns 0 ns = false) : goodP W H xs a b ns = false := by
  rw [goodP, h]; simp

end Go.Proofs.Ytkdfilhiljfanaa
