/-
  Puzzles, in plain terms: a tour has the shown numbers just where each of its cells may stand at its place.
-/
import Derived.Test.YtkdfilhiljfanaaA0
import Derived.Test.YtkdfilhiljfanaaW1
namespace Go.Proofs.Ytkdfilhiljfanaa

/-- Whether a cell may stand at a place of a tour. -/
def fitB (ns : List Int) (c place : Int) : Bool := ns.getD c.toNat 0 == place || (ns.getD c.toNat 0 == 0 && !ns.contains place)
def fitsFrom (ns : List Int) : Nat → List Int → Bool
  | _, [] => true
  | k, c :: t => fitB ns c ((k : Int) + 1) && fitsFrom ns (k + 1) t
theorem fitsFrom_drop {ns ps : List Int} {k : Nat} {x : Int} (hx : ps[k]? = some x) : fitsFrom ns k (ps.drop k) = (fitB ns x ((k : Int) + 1) && fitsFrom ns (k + 1) (ps.drop (k + 1))) := by
  rw [drop_cons_of hx]; rfl
theorem fitsFrom_iff {ns : List Int} : ∀ (ps : List Int) (i : Nat), fitsFrom ns i ps = true ↔ ∀ k c, ps[k]? = some c → fitB ns c (((i + k : Nat) : Int) + 1) = true
  | [], i => by simp [fitsFrom]
  | c :: t, i => by
    rw [fitsFrom, Bool.and_eq_true, fitsFrom_iff t (i + 1)]
    constructor
    · rintro ⟨h1, h2⟩ k x hx
      cases k with
      | zero => simp at hx; subst hx; simpa using h1
      | succ k => have := h2 k x (by simpa using hx); rwa [show i + 1 + k = i + (k + 1) by omega] at this
    · intro h
      refine ⟨by simpa using h 0 c rfl, fun k x hx => ?_⟩
      have := h (k + 1) x (by simpa using hx)
      rwa [show i + (k + 1) = i + 1 + k by omega] at this
/-- Whether the numbers of a tour are those that are shown. -/
def agreeFrom (nums : List Int) : Nat → List Int → Bool
  | _, [] => true
  | k, x :: t => (x == 0 || x == nums.getD k 0) && agreeFrom nums (k + 1) t
theorem agreeFrom_drop {nums ns : List Int} {k : Nat} {x : Int} (hx : ns[k]? = some x) : agreeFrom nums k (ns.drop k) = ((x == 0 || x == nums.getD k 0) && agreeFrom nums (k + 1) (ns.drop (k + 1))) := by
  rw [drop_cons_of hx]; rfl
theorem agreeFrom_iff {nums : List Int} : ∀ (ns : List Int) (i : Nat), agreeFrom nums i ns = true ↔ ∀ k x, ns[k]? = some x → (x = 0 ∨ x = nums.getD (i + k) 0)
  | [], i => by simp [agreeFrom]
  | c :: t, i => by
    rw [agreeFrom, Bool.and_eq_true, agreeFrom_iff t (i + 1), Bool.or_eq_true, beq_iff_eq, beq_iff_eq]
    constructor
    · rintro ⟨h1, h2⟩ k x hx
      cases k with
      | zero => simp at hx; subst hx; simpa using h1
      | succ k => have := h2 k x (by simpa using hx); rwa [show i + 1 + k = i + (k + 1) by omega] at this
    · intro h
      refine ⟨by simpa using h 0 c rfl, fun k x hx => ?_⟩
      have := h (k + 1) x (by simpa using hx)
      rwa [show i + (k + 1) = i + 1 + k by omega] at this
theorem sub_lenI : ∀ (l m : List Int), l.Nodup → (∀ x ∈ l, x ∈ m) → l.length ≤ m.length
  | [], m, _, _ => Nat.zero_le _
  | x :: t, m, hn, h => by
    rw [List.nodup_cons] at hn
    have hx := h x List.mem_cons_self
    have := sub_lenI t (m.erase x) hn.2 (fun y hy => (List.mem_erase_of_ne (by rintro rfl; exact hn.1 hy)).2 (h y (List.mem_cons_of_mem _ hy)))
    have h2 := List.length_erase_of_mem hx
    have h3 := List.length_pos_of_mem hx
    rw [List.length_cons]; omega
theorem walk_nodup {W H a b : Int} {xs ps : List Int} (h : walkB W H xs a b ps = true) : ps.Nodup := by
  simp only [walkB, Bool.and_eq_true, decide_eq_true_eq] at h; exact h.2
theorem tour_in {W H a b : Int} {xs ps : List Int} (h : tourB W H xs a b ps = true) : ∀ x ∈ ps, 0 ≤ x ∧ x < W * H := good_in (walk_path (tour_walk h))
theorem tour_all {W H a b : Int} {xs ps : List Int} (h : tourB W H xs a b ps = true) {c : Int} (hc : hasB W H xs c = true) : c ∈ ps := by
  by_cases hm : c ∈ ps
  · exact hm
  · have h1 := sub_lenI (c :: ps) (cellsL W H xs) (List.nodup_cons.2 ⟨hm, walk_nodup (tour_walk h)⟩) (fun x hx => by
      rcases List.mem_cons.1 hx with rfl | h2
      · exact cellsL_mem.2 hc
      · exact cellsL_mem.2 (path_has (walk_path (tour_walk h)) x h2))
    simp only [tourB, Bool.and_eq_true, decide_eq_true_eq] at h
    rw [List.length_cons] at h1; omega
theorem tour_tells {W H a b : Int} {xs ps : List Int} (h : tourB W H xs a b ps = true) (hN : 1 ≤ W * H) : Tells (W * H).toNat (numsL W H ps) ps :=
  tells_of (walk_nodup (tour_walk h)) (fun x hx => by have := tour_in h x hx; omega) rfl
theorem getD_of {l : List Int} {k : Nat} {x : Int} (h : l[k]? = some x) : l.getD k 0 = x := by rw [List.getD_eq_getElem?_getD, h]; rfl
theorem sol_eq {W H a b : Int} {xs ns ps : List Int} (hg : goodP W H xs a b ns = true) (ht : tourB W H xs a b ps = true) : fitsFrom ns 0 ps = agreeFrom (numsL W H ps) 0 ns := by
  have hN := good_N (two_gK (goodP_two hg))
  have T := tour_tells ht hN.1
  have hlen := goodP_len hg
  rw [Bool.eq_iff_iff, fitsFrom_iff, agreeFrom_iff]
  constructor
  · intro hf k x hk
    by_cases h0 : x = 0
    · exact .inl h0
    · right
      obtain ⟨i, hi⟩ := List.mem_iff_getElem?.1 (tour_all ht (numOk_has (goodP_at hg hk) h0))
      have h1 := hf i _ hi
      have h2 := T.num i _ hi
      rw [Int.toNat_natCast] at h2
      rw [Nat.zero_add, getD_of h2]
      simp only [fitB, Int.toNat_natCast, getD_of hk, Bool.or_eq_true, Bool.and_eq_true, beq_iff_eq, Nat.zero_add] at h1
      rcases h1 with h1 | h1
      · exact h1
      · exact absurd h1.1 h0
  · intro ha i c hi
    have hr := tour_in ht c (List.mem_of_getElem? hi)
    have h2 := T.num i _ hi
    obtain ⟨x, hx⟩ : ∃ x, ns[c.toNat]? = some x := ⟨_, List.getElem?_eq_getElem (by omega)⟩
    rw [Nat.zero_add]
    simp only [fitB, getD_of hx, Bool.or_eq_true, Bool.and_eq_true, beq_iff_eq, Bool.not_eq_true']
    have h3 := ha _ _ hx
    rw [Nat.zero_add, getD_of h2] at h3
    rcases h3 with h3 | h3
    · right
      refine ⟨h3, ?_⟩
      simp only [List.contains_eq_mem, decide_eq_false_iff_not]
      intro hm
      obtain ⟨k, hk⟩ := List.mem_iff_getElem?.1 hm
      have h4 := ha _ _ hk
      rw [Nat.zero_add] at h4
      have hkn : k < ns.length := (List.getElem?_eq_some_iff.1 hk).1
      rcases h4 with h4 | h4
      · omega
      · rcases T.at_ (c := k) (by omega) with h5 | ⟨i', h5, h6⟩
        · rw [getD_of h5] at h4; omega
        · rw [getD_of h6] at h4
          have e : i' = i := by omega
          subst e
          rw [hi] at h5
          injection h5 with h5
          rw [h5, Int.toNat_natCast, hk] at hx
          injection hx with hx
          omega
    · exact .inl h3
def okSol (W H : Int) (xs : List Int) (a b : Int) (ns ps : List Int) : Bool := goodP W H xs a b ns && (tourB W H xs a b ps && fitsFrom ns 0 ps)

end Go.Proofs.Ytkdfilhiljfanaa
