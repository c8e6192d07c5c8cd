/-
  Two colours by parts, in plain terms.
  Paintings: for each colour the cells that have it; colours of a board.
  Paintings by a colouring: plain facts; loads and stores of a painting in a drawn region.
  Contracts: the parts of a board, in the model.
  Contracts: the parts of a board, in the program.
  Contracts: two colours by parts, in the program.
-/
import Derived.Test.YtomfgjbicpeggaaGreatDoorBunHTwoColours7
import Derived.Test.YtomfgjbicpeggaaGreatDoorBunHTwoColours3
import Derived.Test.YtomfgjbicpeggaaGreatDoorBunHTwoColours2
import Derived.RangeFuncLeaves
import Derived.OwnWalkIn
import Derived.WalkKit
import Derived.BigRegionIn
import Derived.LoopIn
import Derived.Sort.QuietIn
import Derived.Deep.RegionWith
namespace Go.Proofs.YtomfgjbicpeggaaGreatDoor
open Go.RowKit

/-- The colours of the cells before the k-th one with a distance. -/
def layK (D : List Int) (out : List Int) : Nat → List Int
  | 0 => out
  | k + 1 => if 0 ≤ D.getD k (-1) then (layK D out k).set k (D.getD k (-1) % 2) else layK D out k
theorem layK_yes {D out : List Int} {k : Nat} (h : 0 ≤ D.getD k (-1)) : layK D out (k + 1) = (layK D out k).set k (D.getD k (-1) % 2) := if_pos h
theorem layK_no {D out : List Int} {k : Nat} (h : ¬ 0 ≤ D.getD k (-1)) : layK D out (k + 1) = layK D out k := if_neg h
theorem layK_len (D out : List Int) : ∀ k, (layK D out k).length = out.length
  | 0 => rfl
  | k + 1 => by
    by_cases h : 0 ≤ D.getD k (-1)
    · rw [layK_yes h, List.length_set, layK_len D out k]
    · rw [layK_no h, layK_len D out k]
theorem layK_at (D out : List Int) (i : Nat) (hi : i < out.length) : ∀ k, (layK D out k).getD i (-1) = if i < k ∧ 0 ≤ D.getD i (-1) then D.getD i (-1) % 2 else out.getD i (-1)
  | 0 => by simp [layK]
  | k + 1 => by
    have ih := layK_at D out i hi k
    have hl := layK_len D out k
    by_cases h : 0 ≤ D.getD k (-1)
    · rw [layK_yes h, List.getD_eq_getElem?_getD, List.getElem?_set]
      by_cases e : k = i
      · subst e
        rw [if_pos rfl, if_pos (by omega), if_pos ⟨by omega, h⟩]; rfl
      · rw [if_neg e, ← List.getD_eq_getElem?_getD, ih]
        by_cases h2 : i < k ∧ 0 ≤ D.getD i (-1)
        · rw [if_pos h2, if_pos ⟨by omega, h2.2⟩]
        · rw [if_neg h2, if_neg (fun h3 => h2 ⟨by omega, h3.2⟩)]
    · rw [layK_no h, ih]
      by_cases h2 : i < k ∧ 0 ≤ D.getD i (-1)
      · rw [if_pos h2, if_pos ⟨by omega, h2.2⟩]
      · rw [if_neg h2, if_neg (fun h3 => h2 ⟨by
          rcases Nat.lt_or_ge i k with h4 | h4
          · exact h4
          · have : i = k := by omega
            subst this; exact absurd h3.2 h, h3.2⟩)]

/-- One cell painted by the distances D. -/
def putD (D out : List Int) (x : Int) : List Int := out.set x.toNat (D.getD x.toNat (-1) % 2)
theorem put_part {f : Nat → Bool} {D out : List Int} : ∀ k, (∀ i, i < k → f i = decide (0 ≤ D.getD i (-1))) → (selTo f k).foldl (putD D) out = layK D out k
  | 0, _ => rfl
  | k + 1, h => by
    have ih := put_part (f := f) (D := D) (out := out) k (fun i hi => h i (by omega))
    have hk := h k (by omega)
    by_cases h0 : 0 ≤ D.getD k (-1)
    · rw [selTo_yes (by rw [hk]; simpa using h0), List.foldl_append, ih, layK_yes h0, List.foldl_cons, List.foldl_nil, putD, Int.toNat_natCast]
    · rw [selTo_no (by rw [hk]; simpa using h0), ih, layK_no h0]
theorem sel_head {f : Nat → Bool} {c : Nat} (hc : f c = true) (hlt : ∀ i, i < c → f i = false) : ∀ k, c < k → (selTo f k).head? = some (c : Int)
  | 0, h => by omega
  | k + 1, h => by
    by_cases e : c = k
    · subst e
      rw [selTo_yes hc, selTo_none c hlt]; rfl
    · have ih := sel_head hc hlt k (by omega)
      cases hf : f k with
      | true => rw [selTo_yes hf, List.head?_append, ih]; rfl
      | false => rw [selTo_no hf, ih]

/-! ### The model: cell by cell -/
def twoStep (F : Int → List Int) (N : Nat) (out : List Int) (c : Int) : List Int := if 0 ≤ out.getD c.toNat (-1) then out else layK (F c) out N
def twoTo (W H : Int) (xs : List Int) (a b : Int) (k : Nat) : List Int := ((cellsL W H xs).take k).foldl (twoStep (distL W H xs a b) (W * H).toNat) (List.replicate (W * H).toNat (-1))
def twoL (W H : Int) (xs : List Int) (a b : Int) : List Int := (cellsL W H xs).foldl (twoStep (distL W H xs a b) (W * H).toNat) (List.replicate (W * H).toNat (-1))
theorem twoTo_next {W H a b c : Int} {xs : List Int} {k : Nat} (hc : (cellsL W H xs)[k]? = some c) : twoTo W H xs a b (k + 1) = twoStep (distL W H xs a b) (W * H).toNat (twoTo W H xs a b k) c := take_foldl _ hc _
theorem twoTo_stop {W H a b : Int} {xs : List Int} {k : Nat} (hc : (cellsL W H xs)[k]? = none) : twoTo W H xs a b (k + 1) = twoTo W H xs a b k := by
  rw [twoTo, twoTo, List.take_add_one, hc]; simp
theorem partsTo_stop {W H a b : Int} {xs : List Int} {k : Nat} (hc : (cellsL W H xs)[k]? = none) : partsTo W H xs a b (k + 1) = partsTo W H xs a b k := by
  rw [partsTo, partsTo, List.take_add_one, hc]; simp

/-! ### The program: part by part -/
def putPart (F : Int → List Int) (out p : List Int) : List Int := p.foldl (putD (F (p.headD 0))) out
def byParts (F : Int → List Int) (N : Nat) (ps : List (List Int)) : List Int := ps.foldl (putPart F) (List.replicate N (-1))
theorem byParts_snoc (F : Int → List Int) (N : Nat) (ps : List (List Int)) (p : List Int) : byParts F N (ps ++ [p]) = putPart F (byParts F N ps) p := by simp [byParts]

structure TwoOk (W H : Int) (xs : List Int) (a b : Int) (N k : Nat) : Prop where
  eq : twoTo W H xs a b k = byParts (distL W H xs a b) N (partsTo W H xs a b k)
  len : (twoTo W H xs a b k).length = N
  iff : ∀ i, i < N → (0 ≤ (twoTo W H xs a b k).getD i (-1) ↔ inParts (partsTo W H xs a b k) (i : Int) = true)
  rng : ∀ i, i < N → (twoTo W H xs a b k).getD i (-1) = -1 ∨ (twoTo W H xs a b k).getD i (-1) = 0 ∨ (twoTo W H xs a b k).getD i (-1) = 1
  all : ∀ j x, j < k → (cellsL W H xs)[j]? = some x → inParts (partsTo W H xs a b k) x = true
  parts : ∀ p ∈ partsTo W H xs a b k, ∃ c, hasB W H xs c = true ∧ p = partL W H xs a b c ∧ p.head? = some c ∧ ∀ i : Nat, i < N → p.contains (i : Int) = true → (distL W H xs a b c).getD i (-1) % 2 = (twoTo W H xs a b k).getD i (-1)

theorem partL_near {W H a b c : Int} {xs : List Int} {N : Nat} (h : OnFacts W H xs a b N) (hp : hasB W H xs c = true) {i : Nat} (hi : i < N) : nearB (distL W H xs a b c) 64 i = decide (0 ≤ (distL W H xs a b c).getD i (-1)) := by
  have := dist_lo h hp hi
  rw [nearB, inB]
  exact decide_eq_decide.2 ⟨fun h => h.1, fun h => ⟨h, this.2⟩⟩
theorem reach_sym {W H a b p : Int} {xs : List Int} {N i : Nat} (h : OnFacts W H xs a b N) (hp : hasB W H xs p = true) (hd : 0 ≤ (distL W H xs a b p).getD i (-1)) : hasB W H xs (i : Int) = true ∧ 0 ≤ (distL W H xs a b (i : Int)).getD p.toNat (-1) := by
  have hN : (W * H).toNat = N := by have := h.wh; omega
  have rg : ∀ x, hasB W H xs x = true → 0 ≤ x ∧ x < (N : Int) := fun x hx => by have := (hasB_iff.1 hx).1; rw [h.wh] at this; exact this
  have had : ∀ c : Int, 0 ≤ c ∧ c < (N : Int) → ∀ x ∈ leapsL W H xs a b c, 0 ≤ x ∧ x < (N : Int) := fun c _ x hx => leaps_in h.wh hx
  have e : ∀ q, distL W H xs a b q = farL (leapsL W H xs a b) N q := fun q => by rw [distL, hN]
  rw [e] at hd ⊢
  exact far_symm (C := fun x => hasB W H xs x = true) rg leaps_sym hp had hd
theorem reach_trans {W H a b p q : Int} {xs : List Int} {N i : Nat} (h : OnFacts W H xs a b N) (hp : hasB W H xs p = true) (hq : hasB W H xs q = true) (h1 : 0 ≤ (distL W H xs a b p).getD q.toNat (-1)) (h2 : 0 ≤ (distL W H xs a b q).getD i (-1)) : 0 ≤ (distL W H xs a b p).getD i (-1) := by
  have hN : (W * H).toNat = N := by have := h.wh; omega
  have rg : ∀ x, hasB W H xs x = true → 0 ≤ x ∧ x < (N : Int) := fun x hx => by have := (hasB_iff.1 hx).1; rw [h.wh] at this; exact this
  have had : ∀ c : Int, 0 ≤ c ∧ c < (N : Int) → ∀ x ∈ leapsL W H xs a b c, 0 ≤ x ∧ x < (N : Int) := fun c _ x hx => leaps_in h.wh hx
  have e : ∀ q, distL W H xs a b q = farL (leapsL W H xs a b) N q := fun q => by rw [distL, hN]
  rw [e] at h1 h2 ⊢
  exact far_trans (rg p hp) (rg q hq) had h1 h2

theorem two_ok {W H a b : Int} {xs : List Int} {N : Nat} (h : OnFacts W H xs a b N) : ∀ k, TwoOk W H xs a b N k
  | 0 => by
    have hN : (W * H).toNat = N := by have := h.wh; omega
    have e : twoTo W H xs a b 0 = List.replicate N (-1) := by rw [twoTo, hN]; rfl
    have hg : ∀ i, i < N → (List.replicate N (-1 : Int)).getD i (-1) = -1 := fun i hi => by
      rw [List.getD_eq_getElem?_getD, List.getElem?_replicate, if_pos hi]; rfl
    refine ⟨e, by rw [e, List.length_replicate], fun i hi => ?_, fun i hi => ?_, fun j x hj => by omega, fun p hp => by simp [partsTo] at hp⟩
    · rw [e, hg i hi]; simp [partsTo, inParts]
    · rw [e, hg i hi]; exact Or.inl rfl
  | k + 1 => by
    have ih := two_ok h k
    have hN : (W * H).toNat = N := by have := h.wh; omega
    cases hc : (cellsL W H xs)[k]? with
    | none =>
      rcases ih with ⟨h1, h2, h3, h4, h5, h6⟩
      refine ⟨by rw [twoTo_stop hc, partsTo_stop hc]; exact h1, by rw [twoTo_stop hc]; exact h2, by rw [twoTo_stop hc, partsTo_stop hc]; exact h3, by rw [twoTo_stop hc]; exact h4, fun j x hj hx => ?_, by rw [partsTo_stop hc, twoTo_stop hc]; exact h6⟩
      rw [partsTo_stop hc]
      rcases Nat.lt_or_ge j k with hjk | hjk
      · exact h5 j x hjk hx
      · have : j = k := by omega
        subst this; rw [hc] at hx; cases hx
    | some c =>
      have hh : hasB W H xs c = true := cellsL_mem.1 (List.mem_of_getElem? hc)
      have hr := (hasB_iff.1 hh).1
      have hcN : c.toNat < N := by have := h.wh; omega
      have ec : ((c.toNat : Nat) : Int) = c := Int.toNat_of_nonneg hr.1
      have hin := ih.iff c.toNat hcN
      rw [ec] at hin
      cases hP : inParts (partsTo W H xs a b k) c with
      | true =>
        have e1 := partsTo_yes hc hP
        have e2 : twoTo W H xs a b (k + 1) = twoTo W H xs a b k := by rw [twoTo_next hc, twoStep, if_pos (hin.2 hP)]
        rcases ih with ⟨h1, h2, h3, h4, h5, h6⟩
        refine ⟨by rw [e1, e2]; exact h1, by rw [e2]; exact h2, by rw [e1, e2]; exact h3, by rw [e2]; exact h4, fun j x hj hx => ?_, by rw [e1, e2]; exact h6⟩
        rw [e1]
        rcases Nat.lt_or_ge j k with hjk | hjk
        · exact h5 j x hjk hx
        · have : j = k := by omega
          subst this; rw [hc] at hx; cases hx; exact hP
      | false =>
        have e1 := partsTo_no hc hP
        have e2 : twoTo W H xs a b (k + 1) = layK (distL W H xs a b c) (twoTo W H xs a b k) N := by
          rw [twoTo_next hc, twoStep, if_neg (by rw [hin, hP]; simp), hN]
        have hnear : ∀ i, i < N → nearB (distL W H xs a b c) 64 i = decide (0 ≤ (distL W H xs a b c).getD i (-1)) := fun i hi => partL_near h hh hi
        have hself := dist_self h hh
        -- no cell before c is reached from c
        have hbefore : ∀ i, i < c.toNat → nearB (distL W H xs a b c) 64 i = false := fun i hi => by
          rw [hnear i (by omega), decide_eq_false_iff_not]
          intro hd
          obtain ⟨hhi, hback⟩ := reach_sym h hh hd
          obtain ⟨j, hj, hjx⟩ := List.getElem_of_mem (cellsL_mem.2 hhi)
          have hjk : j < k := by
            rcases Nat.lt_or_ge j k with h4 | h4
            · exact h4
            · exfalso
              have hkl := (List.getElem?_eq_some_iff.1 hc).1
              have hkc := (List.getElem?_eq_some_iff.1 hc).2
              rcases Nat.eq_or_lt_of_le h4 with h5 | h5
              · subst h5; omega
              · have := List.pairwise_iff_getElem.1 (cellsL_pairwise W H xs) k j hkl hj h5
                omega
          have hip := ih.all j (i : Int) hjk (by rw [List.getElem?_eq_getElem hj, hjx])
          rw [inParts, List.any_eq_true] at hip
          obtain ⟨p, hp, hpx⟩ := hip
          obtain ⟨c2, hc2, rfl, -, -⟩ := ih.parts p hp
          rw [partL, sel_contains (by omega), partL_near h hc2 (by omega), decide_eq_true_eq] at hpx
          have hcc := reach_trans h hc2 hhi (by rw [Int.toNat_natCast]; exact hpx) hback
          have : inParts (partsTo W H xs a b k) c = true := by
            rw [inParts, List.any_eq_true]
            refine ⟨_, hp, ?_⟩
            rw [← ec, partL, sel_contains (by omega), partL_near h hc2 hcN, decide_eq_true_eq]
            exact hcc
          rw [this] at hP; cases hP
        have hhead? : (partL W H xs a b c).head? = some c := by
          have := sel_head (f := nearB (distL W H xs a b c) 64) (c := c.toNat) (by rw [hnear _ hcN, decide_eq_true_eq]; omega) hbefore (W * H).toNat (by omega)
          rw [partL, this, ec]
        have hhead : (partL W H xs a b c).headD 0 = c := by rw [List.headD_eq_head?_getD, hhead?]; rfl
        -- no cell of an earlier part is reached from c
        have happart : ∀ p ∈ partsTo W H xs a b k, ∀ i, i < N → p.contains (i : Int) = true → ¬ 0 ≤ (distL W H xs a b c).getD i (-1) := fun p hp i hi hpx hd => by
          obtain ⟨hhi, hback⟩ := reach_sym h hh hd
          obtain ⟨c2, hc2, rfl, -, -⟩ := ih.parts p hp
          rw [partL, sel_contains (by omega), partL_near h hc2 (by omega), decide_eq_true_eq] at hpx
          have hcc := reach_trans h hc2 hhi (by rw [Int.toNat_natCast]; exact hpx) hback
          have : inParts (partsTo W H xs a b k) c = true := by
            rw [inParts, List.any_eq_true]
            refine ⟨_, hp, ?_⟩
            rw [← ec, partL, sel_contains (by omega), partL_near h hc2 hcN, decide_eq_true_eq]
            exact hcc
          rw [this] at hP; cases hP
        refine ⟨?_, by rw [e2, layK_len]; exact ih.len, fun i hi => ?_, fun i hi => ?_, fun j x hj hx => ?_, fun p hp => ?_⟩
        · rw [e1, byParts_snoc, ← ih.eq, putPart, hhead, e2, partL, hN]
          exact (put_part N hnear).symm
        · rw [e1, e2, inParts_app, partL, sel_contains (by omega), hnear i hi, layK_at _ _ _ (by rw [ih.len]; exact hi)]
          by_cases h0 : 0 ≤ (distL W H xs a b c).getD i (-1)
          · rw [if_pos ⟨hi, h0⟩]; simp only [h0, decide_true, Bool.or_true, iff_true]; omega
          · rw [if_neg (fun h => h0 h.2), ih.iff i hi, decide_eq_false h0, Bool.or_false]
        · rw [e2, layK_at _ _ _ (by rw [ih.len]; exact hi)]
          by_cases h0 : 0 ≤ (distL W H xs a b c).getD i (-1)
          · rw [if_pos ⟨hi, h0⟩]; omega
          · rw [if_neg (fun h => h0 h.2)]; exact ih.rng i hi
        · rw [e1, inParts_app]
          rcases Nat.lt_or_ge j k with hjk | hjk
          · rw [ih.all j x hjk hx]; rfl
          · have : j = k := by omega
            subst this
            rw [hc] at hx; cases hx
            have h7 := sel_contains (f := nearB (distL W H xs a b c) 64) (N := (W * H).toNat) (i := c.toNat) (by omega)
            rw [ec] at h7
            rw [partL, h7, hnear _ hcN, decide_eq_true (by omega), Bool.or_true]
        · rw [e1] at hp
          rcases List.mem_append.1 hp with hp | hp
          · obtain ⟨c2, hc2, hp2, hp3, hp4⟩ := ih.parts p hp
            refine ⟨c2, hc2, hp2, hp3, fun i hi hpx => ?_⟩
            rw [hp4 i hi hpx, e2, layK_at _ _ _ (by rw [ih.len]; exact hi), if_neg (fun h => happart p hp i hi hpx h.2)]
          · have hp2 : p = partL W H xs a b c := by simpa using hp
            subst hp2
            refine ⟨c, hh, rfl, hhead?, fun i hi hpx => ?_⟩
            rw [partL, sel_contains (by omega), hnear i hi, decide_eq_true_eq] at hpx
            rw [e2, layK_at _ _ _ (by rw [ih.len]; exact hi), if_pos ⟨hi, hpx⟩]

theorem two_parts {W H a b : Int} {xs : List Int} {N : Nat} (h : OnFacts W H xs a b N) : (twoL W H xs a b).length = N ∧
    ∀ p ∈ partsL W H xs a b, ∃ c, hasB W H xs c = true ∧ p = partL W H xs a b c ∧ p.head? = some c ∧ ∀ x ∈ p, (0 ≤ x ∧ x < N) ∧ ((twoL W H xs a b).getD x.toNat (-1) = 0 ∨ (twoL W H xs a b).getD x.toNat (-1) = 1) ∧ 0 ≤ (distL W H xs a b c).getD x.toNat (-1) ∧ (distL W H xs a b c).getD x.toNat (-1) % 2 = (twoL W H xs a b).getD x.toNat (-1) := by
  have K := two_ok h (cellsL W H xs).length
  have e1 : twoTo W H xs a b (cellsL W H xs).length = twoL W H xs a b := by rw [twoTo, List.take_length]; rfl
  have e2 : partsTo W H xs a b (cellsL W H xs).length = partsL W H xs a b := by rw [partsTo, List.take_length]; rfl
  rcases K with ⟨h1, h2, h3, h4, _, h6⟩
  rw [e1, e2] at *
  refine ⟨h2, fun p hp => ?_⟩
  obtain ⟨c, hc, rfl, hd, hcol⟩ := h6 p hp
  refine ⟨c, hc, rfl, hd, fun x hx => ?_⟩
  have hN : (W * H).toNat = N := by have := h.wh; omega
  obtain ⟨i, hi, hfi, rfl⟩ := selTo_mem.1 hx
  rw [hN] at hi
  rw [partL_near h hc hi, decide_eq_true_eq] at hfi
  have hin := (h3 i hi).2 (by rw [inParts, List.any_eq_true]; exact ⟨_, hp, List.contains_iff_mem.2 hx⟩)
  rw [Int.toNat_natCast]
  refine ⟨⟨by omega, by omega⟩, ?_, hfi, hcol i hi (List.contains_iff_mem.2 hx)⟩
  rcases h4 i hi with h | h
  · omega
  · exact h
end Go.Proofs.YtomfgjbicpeggaaGreatDoor

namespace Go.Proofs.YtomfgjbicpeggaaGreatDoor
open Go.RowKit Go.Shelf
attribute [local go_sem] Oper.semAt_some

def cellOk (W H : Int) (xs : List Int) (k x : Int) : Bool := if hasB W H xs k then inB x 0 8 else x == -1
def goodFrom (W H : Int) (xs : List Int) : Nat → List Int → Bool
  | _, [] => true
  | k, x :: t => cellOk W H xs k x && goodFrom W H xs (k + 1) t
/-- Whether a list are colours of a board. -/
def goodCols (W H : Int) (xs cs : List Int) : Bool := decide ((cs.length : Int) = W * H) && goodFrom W H xs 0 cs
theorem goodFrom_drop {W H x : Int} {xs cs : List Int} {k : Nat} (hx : cs[k]? = some x) : goodFrom W H xs k (cs.drop k) = (cellOk W H xs k x && goodFrom W H xs (k + 1) (cs.drop (k + 1))) := by
  rw [drop_cons_of hx]; rfl
theorem goodFrom_at {W H : Int} {xs : List Int} : ∀ (cs : List Int) (i : Nat), goodFrom W H xs i cs = true → ∀ k x, cs[k]? = some x → cellOk W H xs ((i + k : Nat) : Int) x = true
  | [], _, _, k, x, h => by simp at h
  | y :: t, i, hg, 0, x, h => by
    simp only [goodFrom, Bool.and_eq_true] at hg
    simp at h; subst h; exact hg.1
  | y :: t, i, hg, k + 1, x, h => by
    simp only [goodFrom, Bool.and_eq_true] at hg
    have := goodFrom_at t (i + 1) hg.2 k x (by simpa using h)
    rwa [show i + 1 + k = i + (k + 1) by omega] at this
theorem good_at {W H : Int} {xs cs : List Int} (h : goodCols W H xs cs = true) {k : Nat} {x : Int} (hx : cs[k]? = some x) : cellOk W H xs k x = true := by
  simp only [goodCols, Bool.and_eq_true] at h
  have := goodFrom_at cs 0 h.2 k x hx
  rwa [Nat.zero_add] at this
theorem good_len {W H : Int} {xs cs : List Int} (h : goodCols W H xs cs = true) : (cs.length : Int) = W * H := by
  simp only [goodCols, Bool.and_eq_true, decide_eq_true_eq] at h; exact h.1
theorem ok_rng {W H k x : Int} {xs : List Int} (h : cellOk W H xs k x = true) : -1 ≤ x ∧ x ≤ 8 := by
  unfold cellOk at h
  split at h
  · have := inB_iff.1 h; omega
  · simp at h; omega

/-- The cells before the k-th one that have a colour. -/
def paintN (cs : List Int) (k c : Nat) : Nat := setBits ((List.range k).filter fun i => cs[i]? == some (c : Int))
def paintL (cs : List Int) (k : Nat) : List Nat := (List.range 9).map (paintN cs k)
theorem paintL_len (cs : List Int) (k : Nat) : (paintL cs k).length = 9 := by simp [paintL]
theorem paintN_yes {cs : List Int} {k c : Nat} (h : cs[k]? = some (c : Int)) : paintN cs (k + 1) c = paintN cs k c ||| 2 ^ k := by
  rw [paintN, List.range_succ, List.filter_append, List.filter_cons, if_pos (by simp [h]), List.filter_nil, setBits_snoc]; rfl
theorem paintN_no {cs : List Int} {k c : Nat} (h : cs[k]? ≠ some (c : Int)) : paintN cs (k + 1) c = paintN cs k c := by
  rw [paintN, List.range_succ, List.filter_append, List.filter_cons, if_neg (by simpa using h), List.filter_nil, List.append_nil]; rfl
theorem paintN_test {cs : List Int} {k c i : Nat} : (paintN cs k c).testBit i = true ↔ i < k ∧ cs[i]? = some (c : Int) := by
  rw [paintN, setBits_test i _ _ rfl]; simp
theorem paintN_lt {cs : List Int} {k c : Nat} (hk : k ≤ 64) : paintN cs k c < 18446744073709551616 := setBits_lt _ (fun i hi => by simp at hi; omega)
theorem paintN_pop (cs : List Int) (c : Nat) : ∀ k, k ≤ 64 → k ≤ cs.length → popN 64 (paintN cs k c) = (cs.take k).count (c : Int)
  | 0, _, _ => by simp [paintN, setBits]; decide
  | k + 1, h, hl => by
    have ih := paintN_pop cs c k (by omega) (by omega)
    have hx : cs[k]? = some cs[k] := List.getElem?_eq_getElem (by omega)
    have hb : (paintN cs k c).testBit k = false := by
      cases hh : (paintN cs k c).testBit k
      · rfl
      · have := paintN_test.1 hh; omega
    rw [List.take_add_one, hx, List.count_append]
    by_cases he : cs[k] = (c : Int)
    · rw [paintN_yes (by rw [hx, he]), popN_or _ _ _ (by omega), hb, ih]; simp [he]
    · rw [paintN_no (by rw [hx]; simpa using he), ih]; simp [he]
theorem paintL_at {cs : List Int} {k c : Nat} (hc : c < 9) : (paintL cs k)[c]? = some (paintN cs k c) := by
  simp [paintL, hc]
theorem paintL_set {cs : List Int} {k c : Nat} (h : cs[k]? = some (c : Int)) : (paintL cs k).set c (paintN cs k c ||| 2 ^ k) = paintL cs (k + 1) := by
  apply List.ext_getElem?
  intro j
  rw [List.getElem?_set]
  by_cases hj : j < 9
  · by_cases e : c = j
    · subst e
      rw [if_pos rfl, if_pos (by rw [paintL_len]; omega), paintL_at hj, paintN_yes h]
    · rw [if_neg e, paintL_at hj, paintL_at hj, paintN_no (by rw [h]; simp; omega)]
  · have e1 : (paintL cs (k + 1))[j]? = none := List.getElem?_eq_none (by rw [paintL_len]; omega)
    have e2 : (paintL cs k)[j]? = none := List.getElem?_eq_none (by rw [paintL_len]; omega)
    rw [e1, e2]
    split
    · rw [if_neg (by rw [paintL_len]; omega)]
    · rfl
theorem paintL_skip {cs : List Int} {k : Nat} {x : Int} (h : cs[k]? = some x) (hx : x < 0) : paintL cs (k + 1) = paintL cs k := by
  unfold paintL
  refine List.map_congr_left fun c _ => paintN_no (by rw [h]; simp; omega)


theorem info_painting : (Tryz.prog.info? 46).map (·.size) = some 9 := by kernel_rfl
/-- Nine empty sets. -/
def nine0 : Array Value := #[.int .u64 0, .int .u64 0, .int .u64 0, .int .u64 0, .int .u64 0, .int .u64 0, .int .u64 0, .int .u64 0, .int .u64 0]
def none9 : List Nat := List.replicate 9 0
theorem paintL_zero (cs : List Int) : paintL cs 0 = none9 := by rfl
theorem none9_len : none9.length = 9 := by rfl
theorem nine0_size : nine0.size = 9 := by rfl
theorem nine_words : nine0 = (words none9).toArray := by rfl

set_option maxRecDepth 100000 in
theorem paint_load {W : World} {g : Nat} {P : List Nat} (h : W.heap[g]? = some (.cells (words P).toArray 46 (0, 0))) (hP : P.length = 9) :
    (Instr.loadAt 46 (.pointer (some ⟨g, 0, none⟩))).run Tryz.prog W = .ok (.agg (words P).toArray) W :=
  run_loadAt_mid (P := Tryz.prog) W g 0 46 (words P) (.array _ _) (fun j v hv => by rw [Nat.zero_add, cell_of_row _ _ _ _ _ _ h]; simpa using hv) rfl rfl (by rw [info_painting]; simp [words, hP])
set_option maxRecDepth 100000 in
theorem paint_store {W : World} {g : Nat} {c : Array Value} {P : List Nat} (h : W.heap[g]? = some (.cells c 46 (0, 0))) (hc : c.size = 9) (hP : P.length = 9) :
    (Instr.storeAt 46 (.pointer (some ⟨g, 0, none⟩)) (.agg (words P).toArray)).run Tryz.prog W = .ok () (W.setRow g (words P).toArray) := by
  simp only [Instr.storeAt, Instr.sureAddr, Sem.run_bind, Sem.run_pure, Result.andThen_ok]
  exact run_storeVar_row _ _ _ _ _ _ h (by rw [info_painting]; simp [words, hP]) (by simp [words, hP, hc]) (all_oneCell_toArray (words_one _))

theorem run_paint (L : List Nat) (k v : Nat) (hk : k < 9) (hv : L[k]? = some v) (w : World) :
    (Instr.index 46 (.agg (words L).toArray) (.int .i64 (k : Int))).run Tryz.prog w = .ok (.int .u64 (v : Int)) w := by
  have hu := Tryz.underlying46
  have hz := Tryz.sizeOf44
  have ha := Tryz.isAgg44
  simp [Instr.index, run_underlying hu, asIntOf, go_sem]
  rw [if_pos hk, words, List.getElem?_map, hv]
  rfl
set_option maxRecDepth 100000 in
theorem paint_lay (w : World) {P : List Nat} (hP : P.length = 9) :
    (storeCells ⟨w.heap.size, 0, none⟩ (words P)).run Tryz.prog (w.alloc (.cells nine0 46)) = .ok () (w.alloc (.cells (words P).toArray 46)) :=
  run_storeCells_new (P := Tryz.prog) w 46 nine0 (words P).toArray (by rw [info_painting]; simp [words, hP]) (by rw [nine0_size]; simp [words, hP]) (all_oneCell_toArray (words_one _))

set_option maxRecDepth 100000 in
set_option maxHeartbeats 1000000 in
theorem with_any (P : List Nat) (hP : P.length = 9) (cell colour x : Nat) (hc : cell < 64) (hk : colour < 9) (hx : P[colour]? = some x) (hx9 : x < 18446744073709551616) (w : World) :
    Calls Tryz.prog 34 #[.agg (words P).toArray, .int .i64 cell, .int .i64 colour] w fun e w' => e = .returned (.agg (words (P.set colour (x ||| 2 ^ cell))).toArray) ∧ Below w.heap.size w w' := by
  refine (callsIn_wide (n := 5)).1 ?_
  refine callsIn_of_wp_marks Tryz.func34 rfl trivial ?_ rfl
  simp only [Tryz.ntmps34, List.size_toArray, List.length_cons, List.length_nil, Nat.reduceAdd, Nat.reduceSub, Array.replicate_succ, Array.replicate_zero, List.push_toArray, List.append_toArray, List.nil_append, List.cons_append]
  obtain ⟨W2, hW2⟩ : ∃ W2, W2 = (w.alloc (.cells (words P).toArray 46)).alloc (.cells nine0 46) := ⟨_, rfl⟩
  have hh : W2.heap[w.heap.size]? = some (.cells (words P).toArray 46 (0, 0)) := by rw [hW2, Below.heap_alloc _ _ _ (by simp)]; exact World.alloc_heap_new _ _
  have hr : W2.heap[w.heap.size + 1]? = some (.cells nine0 46 (0, 0)) := by
    have h := World.alloc_heap_new (w.alloc (.cells (words P).toArray 46)) (.cells nine0 46)
    rw [hW2]; rw [World.size_alloc] at h; exact h
  have hcell : W2.cell? ⟨w.heap.size, colour, none⟩ = some (.int .u64 (x : Int)) := by
    rw [cell_of_row _ _ _ _ _ _ hh, List.getElem?_toArray, words, List.getElem?_map, hx]; rfl
  have hfro : W2.frozen? ⟨w.heap.size, colour, none⟩ = false := frozen_of_row _ _ _ _ _ hh
  have hb1 : Below w.heap.size w W2 := by rw [hW2]; exact ((Below.refl _ _).alloc (Nat.le_refl _) _).alloc (by simp) _
  have hp : (2 : Nat) ^ cell < 18446744073709551616 := Nat.lt_of_lt_of_le (Nat.pow_lt_pow_right (by decide) hc) (by decide)
  have hw2 : IntKind.u64.wrap ((2 : Int) ^ cell) = ((2 ^ cell : Nat) : Int) := wrap_nat _ _ hp (by simp)
  have hor := bits_or_u64_nat x (2 ^ cell) hx9 hp
  unfold nine0 at hW2
  gi_wp2
  rw [← hW2]
  clear hW2
  gi_wp2
  have hh3 := heap_set (j := colour) (.int .u64 ((x ||| 2 ^ cell : Nat) : Int)) hh
  have hg3 := grown_set W2 w.heap.size colour (.int .u64 ((x ||| 2 ^ cell : Nat) : Int))
  have hr3 := (hg3.block (w.heap.size + 1) (Array.getElem?_eq_some_iff.1 hr).1 (by simp)).trans hr
  have hb3 := hb1.grown hg3 hb1.size (fun k e => by cases e; omega)
  have hset : (words P).toArray.setIfInBounds colour (.int .u64 ((x ||| 2 ^ cell : Nat) : Int)) = (words (P.set colour (x ||| 2 ^ cell))).toArray := by simp [words, List.map_set]
  rw [hset] at hh3
  have hL9 : (P.set colour (x ||| 2 ^ cell)).length = 9 := by simp [hP]
  clear hset hg3 hb1
  gi_region
  all_goals rw [show ((2 : Int) ^ cell) = ((2 ^ cell : Nat) : Int) by simp, hor]
  all_goals
    generalize W2.setCell ⟨w.heap.size, colour, none⟩ (.int .u64 ((x ||| 2 ^ cell : Nat) : Int)) = W3 at *
  all_goals
    have hld := paint_load (W := W3.drew) hh3 hL9
    have hst := paint_store (W := W3.drew) hr3 (by rfl) hL9
    have hh4 := heap_setRow (W := W3.drew) (c' := (words (P.set colour (x ||| 2 ^ cell))).toArray) hr3
    have hg4 := grown_setRow W3.drew (w.heap.size + 1) (words (P.set colour (x ||| 2 ^ cell))).toArray
    have hb4 := hb3.drew.grown hg4 hb3.size (fun k e => by cases e; omega)
    generalize W3.drew.setRow (w.heap.size + 1) (words (P.set colour (x ||| 2 ^ cell))).toArray = W4 at *
    clear hh hr hcell hfro hh3 hr3 hb3 hg4 hor hw2 hp
    gi_wp2_with (first | refine wpIn_load_run 46 _ _ _ rfl rfl hld ?_ | refine wpIn_store_run 46 _ _ _ _ rfl rfl rfl hst ?_)
    refine ⟨_, results_cell_row rfl _ _ _ _ (words (P.set colour (x ||| 2 ^ cell))).toArray _ _ rfl hh4 rfl rfl (by rw [info_painting]; simp [words, hP]), rfl, hb4⟩
end Go.Proofs.YtomfgjbicpeggaaGreatDoor

namespace Go.Proofs.YtomfgjbicpeggaaGreatDoor
open Go.RowKit Go.Shelf
attribute [local go_sem] Oper.semAt_some

/-- The painting of some cells by a colouring. -/
def paintF (f : Int → Nat) (ys : List Int) : List Nat := (List.range 9).map fun c => setBits ((ys.filter fun y => f y == c).map Int.toNat)
theorem paintF_len (f : Int → Nat) (ys : List Int) : (paintF f ys).length = 9 := by simp [paintF]
theorem paintF_at {f : Int → Nat} {ys : List Int} {c : Nat} (hc : c < 9) : (paintF f ys)[c]? = some (setBits ((ys.filter fun y => f y == c).map Int.toNat)) := by simp [paintF, hc]
theorem paintF_snoc {f : Int → Nat} {ys : List Int} {y : Int} : (paintF f ys).set (f y) (setBits ((ys.filter fun z => f z == f y).map Int.toNat) ||| 2 ^ y.toNat) = paintF f (ys ++ [y]) := by
  apply List.ext_getElem?
  intro j
  rw [List.getElem?_set]
  by_cases hj : j < 9
  · rw [paintF_at hj, paintF_at hj]
    by_cases e : f y = j
    · subst e
      rw [if_pos rfl, if_pos (by rw [paintF_len]; omega), List.filter_append, List.map_append]
      simp [setBits_snoc]
    · rw [if_neg e, List.filter_append, List.map_append]
      have : (f y == j) = false := by simpa using e
      simp [this]
  · have e1 : (paintF f (ys ++ [y]))[j]? = none := List.getElem?_eq_none (by rw [paintF_len]; omega)
    have e2 : (paintF f ys)[j]? = none := List.getElem?_eq_none (by rw [paintF_len]; omega)
    rw [e1, e2]
    split
    · rw [if_neg (by rw [paintF_len]; omega)]
    · rfl
theorem paintF_nil (f : Int → Nat) : paintF f [] = none9 := by rfl
theorem paintF_lt {f : Int → Nat} {ys : List Int} (h : ∀ y ∈ ys, 0 ≤ y ∧ y < 64) : ∀ s ∈ paintF f ys, s < 18446744073709551616 := by
  intro s hs
  obtain ⟨c, _, rfl⟩ := List.mem_map.1 hs
  refine setBits_lt _ (fun i hi => ?_)
  obtain ⟨y, hy, rfl⟩ := List.mem_map.1 hi
  have := h y (List.mem_filter.1 hy).1
  omega
/-- The painting in the midst of its making. -/
def MidP (W3 : World) (g : Nat) (L : List Nat) (W' : World) : Prop :=
  W3.grownBy W' (some g) ∧ W'.heap[g]? = some (.cells (words L).toArray 46 (0, 0))
theorem midP_below {W3 W W' : World} {g : Nat} {L : List Nat} (h : MidP W3 g L W) (hb : Below W.heap.size W W') : MidP W3 g L W' :=
  ⟨grown_next h.1 (grown_of_below hb _), (hb.block g (Array.getElem?_eq_some_iff.1 h.2).1).trans h.2⟩
theorem midP_set {W3 W : World} {g : Nat} {L : List Nat} (L' : List Nat) (h : MidP W3 g L W) : MidP W3 g L' (W.setRow g (words L').toArray) :=
  ⟨grown_next h.1 (grown_setRow _ _ _), heap_setRow h.2⟩

theorem cell_setRow_ne {W : World} {b o g : Nat} {v : Value} {cs : Array Value} (h : W.cell? ⟨b, o, none⟩ = some v) (hne : b ≠ g) : (W.setRow g cs).cell? ⟨b, o, none⟩ = some v := by
  rw [← h]
  simp [World.cell?, World.setRow, Array.getElem?_modify, show ¬ g = b from fun e => hne e.symm]

theorem range_of_row {w : World} {g : Nat} {L : List Value} {T : TypeId} (h : w.heap[g]? = some (.cells L.toArray T (0, 0))) : w.rangeAt g 0 L := fun j v hv => by
  rw [Nat.zero_add, cell_of_row _ _ _ _ _ _ h]; simpa using hv
theorem there_of_row {w : World} {g n : Nat} {L : List Value} {T : TypeId} (h : w.heap[g]? = some (.cells L.toArray T (0, 0))) (hn : L.length = n) : w.there g 0 n := fun j hj => by
  refine ⟨?_, frozen_of_row _ _ _ _ _ h⟩
  rw [Nat.zero_add, cell_of_row _ _ _ _ _ _ h, List.getElem?_toArray, List.getElem?_eq_getElem (by omega)]; rfl
theorem step_load_paint {ops : Array Oper} {o : Oper} {a : Act} {w : World} {K : Act → World → Prop} {Q : Exit → Act → World → Prop} {E0 : Prop} (hgd : o.guard = none) (x : Operand) (ho : o.op = .load 46 x)
    (g : Nat) (hx : a.eval x = .pointer (some ⟨g, 0, none⟩)) (L : List Nat) (h : w.heap[g]? = some (.cells (words L).toArray 46 (0, 0))) (hL : L.length = 9)
    (hK : K (a.put o.dst (.agg (words L).toArray)) w) : if Region.wanted o (yielded ops a.tmps) = true then Oper.wp Tryz.prog o a w K Q else E0 := by
  have hw : Region.wanted o (yielded ops a.tmps) = true := by simp [Region.wanted, hgd]
  rw [if_pos hw]
  unfold Oper.wp execOp
  simp only [ho, hx, Sem.run_bind, paint_load h hL, Sem.run_pure, Result.andThen_ok]
  exact hK
theorem step_store_paint {ops : Array Oper} {o : Oper} {a : Act} {w : World} {K : Act → World → Prop} {Q : Exit → Act → World → Prop} {E0 : Prop} (hgd : o.guard = none) (x y : Operand) (ho : o.op = .store 46 x y)
    (g : Nat) (hx : a.eval x = .pointer (some ⟨g, 0, none⟩)) (L L0 : List Nat) (hy : a.eval y = .agg (words L).toArray) (h : w.heap[g]? = some (.cells (words L0).toArray 46 (0, 0))) (hL0 : L0.length = 9) (hL : L.length = 9)
    (hK : K (a.put o.dst undef) (w.setRow g (words L).toArray)) : if Region.wanted o (yielded ops a.tmps) = true then Oper.wp Tryz.prog o a w K Q else E0 := by
  have hw : Region.wanted o (yielded ops a.tmps) = true := by simp [Region.wanted, hgd]
  rw [if_pos hw]
  unfold Oper.wp execOp
  simp only [ho, hx, hy, Sem.run_bind, paint_store h (by simp [words, hL0]) hL, Sem.run_pure, Result.andThen_ok]
  exact hK
theorem nine_of_len {P : List Nat} (h : P.length = 9) : ∃ y0 y1 y2 y3 y4 y5 y6 y7 y8 : Nat, P = [y0, y1, y2, y3, y4, y5, y6, y7, y8] := by
  match P, h with
  | [y0, y1, y2, y3, y4, y5, y6, y7, y8], _ => exact ⟨y0, y1, y2, y3, y4, y5, y6, y7, y8, rfl⟩
theorem nine_cells {W : World} {g : Nat} {T : TypeId} {y0 y1 y2 y3 y4 y5 y6 y7 y8 : Nat} (h : W.heap[g]? = some (.cells (words [y0, y1, y2, y3, y4, y5, y6, y7, y8]).toArray T (0, 0))) :
    W.cell? ⟨g, 0, none⟩ = some (.int .u64 ((y0 : Nat) : Int)) ∧ W.cell? ⟨g, 1, none⟩ = some (.int .u64 ((y1 : Nat) : Int)) ∧ W.cell? ⟨g, 2, none⟩ = some (.int .u64 ((y2 : Nat) : Int)) ∧ W.cell? ⟨g, 3, none⟩ = some (.int .u64 ((y3 : Nat) : Int)) ∧ W.cell? ⟨g, 4, none⟩ = some (.int .u64 ((y4 : Nat) : Int)) ∧ W.cell? ⟨g, 5, none⟩ = some (.int .u64 ((y5 : Nat) : Int)) ∧ W.cell? ⟨g, 6, none⟩ = some (.int .u64 ((y6 : Nat) : Int)) ∧ W.cell? ⟨g, 7, none⟩ = some (.int .u64 ((y7 : Nat) : Int)) ∧ W.cell? ⟨g, 8, none⟩ = some (.int .u64 ((y8 : Nat) : Int)) :=
  ⟨by rw [cell_of_row _ _ _ _ _ _ h]; rfl, by rw [cell_of_row _ _ _ _ _ _ h]; rfl, by rw [cell_of_row _ _ _ _ _ _ h]; rfl, by rw [cell_of_row _ _ _ _ _ _ h]; rfl, by rw [cell_of_row _ _ _ _ _ _ h]; rfl, by rw [cell_of_row _ _ _ _ _ _ h]; rfl, by rw [cell_of_row _ _ _ _ _ _ h]; rfl, by rw [cell_of_row _ _ _ _ _ _ h]; rfl, by rw [cell_of_row _ _ _ _ _ _ h]; rfl⟩
end Go.Proofs.YtomfgjbicpeggaaGreatDoor

namespace Go.Proofs.YtomfgjbicpeggaaGreatDoor
open Go.RowKit

theorem part_bd {W H a b c : Int} {xs : List Int} {N : Nat} (h : OnFacts W H xs a b N) (hp : hasB W H xs c = true) {x : Int} {i : Nat} (hx : (distL W H xs a b c)[i]? = some x) : nearB (distL W H xs a b c) 64 i = decide (0 ≤ x) := by
  have := dist_bd h hp x (List.mem_of_getElem? hx)
  rw [near_in hx, inB]
  by_cases h0 : 0 ≤ x
  · simp [h0]; omega
  · simp [h0]

end Go.Proofs.YtomfgjbicpeggaaGreatDoor

namespace Go.Proofs.YtomfgjbicpeggaaGreatDoor
open Go.RowKit

theorem zero_bool : ∀ w, (zeroValue 4).run Tryz.prog w = .ok (.bool false) w := fun _ => by kernel_rfl
theorem take_contains {p : List Int} {j : Nat} {y x : Int} (hy : p[j]? = some y) : (p.take (j + 1)).contains x = (if x = y then true else (p.take j).contains x) := by
  rw [List.take_add_one, hy]
  by_cases e : x = y
  · subst e; simp
  · simp [e]

set_option maxRecDepth 100000 in
set_option maxHeartbeats 4000000 in
theorem partsOf_any (W H : Int) (A : Option Addr) (n c : Nat) (xs : List Int) (a b : Int) (N lo0 mo : Nat) (w : World) (ha : Rd w A n xs) (hF : OnFacts W H xs a b N) (hom : OnMap w lo0 mo (cellsL W H xs) (leapsL W H xs a b)) :
    Calls Tryz.prog 32 #[brd W H A n c, .map (some mo)] w fun e w' => ∃ A' n' c' top, e = .returned (.slice A' n' c') ∧ PartsAt w' w.heap.size top A' n' c' (partsL W H xs a b) ∧ Below w.heap.size w w' := by
  have HF := Lib.hid hF
  have n64 := hF.n.2
  have HOM := Lib.hid hom
  obtain ⟨hW, hH, _, _⟩ := goodB_iff.1 hF.g
  have HN := Lib.hid (cells_le hW hH)
  have HG := Lib.hid hF.g
  clear hW hH hF hom
  obtain ⟨W2, hW2⟩ : ∃ W2, W2 = (w.alloc (.cells #[.int .i64 W, .int .i64 H, .slice A n c] 30)).alloc (.map #[] 0) := ⟨_, rfl⟩
  have a0 : W2.cell? ⟨w.heap.size, 0, none⟩ = some (.int .i64 W) := by rw [hW2]; go_simp
  have a1 : W2.cell? ⟨w.heap.size, 1, none⟩ = some (.int .i64 H) := by rw [hW2]; go_simp
  have a2 : W2.cell? ⟨w.heap.size, 2, none⟩ = some (.slice A n c) := by rw [hW2]; go_simp
  have hsz : W2.heap.size = w.heap.size + 2 := by rw [hW2]; simp
  have B := Lib.hid (show Below w.heap.size w W2 by rw [hW2]; exact below_new (below_new (Below.refl _ _) _) _)
  have ga : w.heap.size < W2.heap.size := by omega
  have hmp : MapI Tryz.prog 3 W2 (w.heap.size + 1) 0 (.bool false) (fun _ => .bool false) := by
    rw [hW2]
    have := MapI.made Tryz.prog 3 (w.alloc (.cells #[.int .i64 W, .int .i64 H, .slice A n c] 30)) (.bool false)
    simpa using this
  have MP := Lib.hid hmp
  have hmm := @run_makeMap Tryz.prog
  clear hmp
  go_enter Tryz.func32, Tryz.ntmps32
  go_wp2_with fail
  rw [← hW2]
  obtain ⟨mb, hmb⟩ : ∃ mb, mb = w.heap.size + 1 := ⟨_, rfl⟩
  rw [← hmb] at MP ⊢
  have hmb1 : w.heap.size + 1 ≤ mb := by omega
  have hmb2 : mb < W2.heap.size := by omega
  clear hW2 hmm hmb
  refine (cellsThere_any W H A n c xs _ (ha.keep B.out) HG.out).mono ?_
  rintro e ws ⟨A1, n1, c1, rfl, hst, hb⟩
  replace a0 := cell_keep a0 ga hb; replace a1 := cell_keep a1 ga hb; replace a2 := cell_keep a2 ga hb; replace ga := lt_keep ga hb
  replace MP := Lib.hid (MP.out.keep hb)
  have hs1 := hb.size
  have hms : mb < ws.heap.size := lt_keep hmb2 hb
  replace B := Lib.hid (below_next B.out hb)
  have hBs := B.out.size
  have ST := Lib.hid hst.rd
  have SL := Lib.hid hst.len
  have n8 : n1 ≤ 64 := by have := cellsTo_len (W := W) (H := H) (hs := xs) (W * H).toNat; have := hst.len; have := HN.out; unfold cellsL at *; omega
  have hA1 : Hid (∀ y, A1 = some y → y.block ≠ mb) := Lib.hid (fun y hy => by
    subst hy
    exact map_apart hst MP.out)
  have n9 := hst.rd.2.1
  have hPlen : Hid (∀ x, (partL W H xs a b x).length ≤ 64) := Lib.hid (fun x => by
    have := selTo_len (nearB (distL W H xs a b x) 64) (W * H).toNat; have := HN.out; unfold partL; omega)
  clear hst hb hmb2
  go_wp2
  go_loopw [5, 16] (fun v i wr => ∃ (k n' c' top m : Nat) (A' : Option Addr) (f : Int → Value), k ≤ n1 ∧ i = .int .i64 k ∧ v = .slice A' n' c' ∧ PartsAt wr ws.heap.size top A' n' c' (partsTo W H xs a b k) ∧ top ≤ wr.heap.size ∧ m ≤ 64 * k ∧ MapI Tryz.prog 3 wr mb m (.bool false) f ∧ (∀ x, f x = .bool (inParts (partsTo W H xs a b k) x)) ∧ ws.grownBy wr (some mb)) (fun _ i _ => n1 - (intOf i).toNat)
  case atStart => exact ⟨0, 0, 0, 0, 0, none, _, by omega, rfl, rfl, PartsAt.none_ _ _ _, by omega, by omega, MP.out, fun x => rfl, grown_refl _ _⟩
  case round =>
    clear MP
    obtain ⟨k, n', c', top, m, A', f, hk, rfl, rfl, hpa, htop, hm, hmap, hf, hgw⟩ := hrel
    have hBw : Below w.heap.size w wr := B.out.trans (below_of_grown hgw hBs (fun g h => by injection h with h; omega))
    have hsw := hgw.size
    have hnp : n' ≤ 64 := by have := partsTo_len W H xs a b k; have := hpa.len; omega
    have PA := Lib.hid hpa; have MA := Lib.hid hmap; have FF := Lib.hid hf
    by_cases hlt : k < n1
    · obtain ⟨bb, oo, x, rfl, hg1, hx, x0⟩ := ST.out.at_ hlt
      have hbm := hA1.out _ rfl
      simp only at hbm
      have hin := cellsL_mem.1 (List.mem_of_getElem? hx)
      have hxr := (hasB_iff.1 hin).1
      rw [HF.out.wh] at hxr
      obtain ⟨xn, rfl⟩ : ∃ xn : Nat, x = (xn : Int) := ⟨x.toNat, by omega⟩
      have hxn : xn < N := by omega
      have HX := Lib.hid hx; have HXI := Lib.hid hin
      replace x0 := hgw.cell x0 (by simp; omega)
      have HBW := Lib.hid hBw; have HGW := Lib.hid hgw
      have hlk := fun w' (h : MapI Tryz.prog 3 w' mb m (.bool false) f) => MapI.lookup (t := 76) (e := 4) h Tryz.underlying3 Tryz.underlying76 (zero_bool w') (wf_small (x := (xn : Int)) (by omega))
      have hl0 := hlk wr hmap
      rw [hf] at hl0
      clear hx hin hxr hgw hBw hpa hmap hf hlk
      cases hip : inParts (partsTo W H xs a b k) (xn : Int) with
      | true =>
        rw [hip] at hl0
        have HIP := Lib.hid hip
        clear hip
        go_wp2
        go_roundw
        case rel =>
          have e := partsTo_yes HX.out HIP.out
          exact ⟨k + 1, n', c', top, m, A', f, by omega, by go_num, rfl, by rw [e]; exact PA.out, htop, by omega, MA.out, by rw [e]; exact FF.out, HGW.out⟩
        case measure => simp [intOf]; omega
      | false =>
        rw [hip] at hl0
        have HIP := Lib.hid hip
        clear hip
        go_wp2_with fail
        clear hl0
        refine (distancesFrom_any lo0 mo (cellsL W H xs) (leapsL W H xs a b) xn _ (HOM.out.keep HBW.out) (by omega) (cellsL_mem.2 HXI.out) (cells_in HF.out) adj_in).mono ?_
        rintro e wu ⟨rfl, hb⟩
        have h64 := far_len64 HF.out HXI.out
        have hbd := far_bd HF.out HXI.out
        have hpl : selTo (nearB (farL (leapsL W H xs a b) 64 (xn : Int)) 64) 64 = partL W H xs a b (xn : Int) := by
          rw [partL, show (W * H).toNat = N by have := HF.out.wh; omega, far64 HF.out HXI.out]
          rw [selTo_congr 64 (g := nearB (distL W H xs a b (xn : Int)) 64) (fun i _ => by rw [nearB, getD_pad]; rfl)]
          exact selTo_stop (fun i hi => by rw [nearB, List.getD_eq_getElem?_getD, List.getElem?_eq_none (by rw [dist_len HF.out HXI.out]; exact hi)]; rfl) n64
        replace PA := Lib.hid (PA.out.keep hb); replace MA := Lib.hid (MA.out.keep hb)
        have htu := hb.size
        replace HGW := Lib.hid (grown_next HGW.out (grown_of_below hb (some mb)))
        clear hb
        go_wp2_with fail
        refine (cellsWithin_any _ h64 hbd 64 _).mono ?_
        rintro e wv ⟨A9, n9', c9, rfl, own, hb⟩
        rw [hpl] at own
        have hpn : Hid (∀ y, A9 = some y → top ≤ y.block ∧ y.block < wv.heap.size) := Lib.hid (fun y hy => by
          rcases own.form with ⟨h, _⟩ | ⟨g9, h, h2, h3, _⟩
          · rw [h] at hy; cases hy
          · rw [h] at hy; injection hy with hy; rw [← hy]; exact ⟨by show top ≤ g9; omega, h3⟩)
        replace PA := Lib.hid (PA.out.keep hb); replace MA := Lib.hid (MA.out.keep hb)
        have htv := hb.size
        replace HGW := Lib.hid (grown_next HGW.out (grown_of_below hb (some mb)))
        have OWN := Lib.hid (own.lower (show ws.heap.size ≤ wu.heap.size by omega))
        have PRD := Lib.hid own.rd
        have hp64 : n9' ≤ 64 := by have := hPlen.out (xn : Int); have := own.len; omega
        have hp9 := own.rd.2.1
        have hAm : Hid (∀ y, A9 = some y → y.block ≠ mb) := Lib.hid (fun y hy => by subst hy; exact map_apart own MA.out)
        have hbig : top ≤ wv.heap.size := by omega
        obtain ⟨p, hp⟩ : ∃ p, p = partL W H xs a b (xn : Int) := ⟨_, rfl⟩
        rw [← hp] at OWN PRD
        have HP := Lib.hid hp
        clear hb own hpl hbd h64 hp x0
        go_wp2
        go_loopw [29] (fun i wr => ∃ (j m2 : Nat) (f2 : Int → Value), j ≤ n9' ∧ i = .int .i64 j ∧ m2 ≤ 64 * k + j ∧ MapI Tryz.prog 3 wr mb m2 (.bool false) f2 ∧ (∀ x, f2 x = .bool (inParts (partsTo W H xs a b k) x || (p.take j).contains x)) ∧ wv.grownBy wr (some mb)) (fun i _ => n9' - (intOf i).toNat)
        case atStart => exact ⟨0, m, f, by omega, rfl, by omega, MA.out, fun x => by rw [FF.out x]; simp, grown_refl _ _⟩
        case round =>
          obtain ⟨j, m2, f2, hj, rfl, hm2, hmap, hf, hgx⟩ := hrel
          have hsx := hgx.size
          by_cases hjl : j < n9'
          · obtain ⟨b9, o9, y, rfl, hg9, hy, y0⟩ := PRD.out.at_ hjl
            have hbm9 := hAm.out _ rfl
            simp only at hbm9
            replace y0 := hgx.cell y0 (by simp; omega)
            have hyr : 0 ≤ y ∧ y ≤ 64 := by
              have hm := List.mem_of_getElem? hy
              rw [HP.out, partL] at hm
              obtain ⟨i, hi, _, e⟩ := selTo_mem.1 hm
              have := HN.out; omega
            have HY := Lib.hid hy; have MB := Lib.hid hmap; have F2 := Lib.hid hf; have HGX := Lib.hid hgx
            have HYR := Lib.hid hyr
            clear hy hmap hf hgx hyr
            go_wp2_with (at_mapUpdate; refine wpList_update rfl (.tmp 33) (.tmp 34) (.const (.bool true)) rfl Tryz.underlying3 Tryz.underlying76 rfl MB.out (by omega) y (.bool true) rfl rfl (wf_small HYR.out) ?_; intro w5 hm5 hg5)
            have M5 := Lib.hid hm5; have G5 := Lib.hid (grown_next HGX.out hg5)
            clear hm5 hg5
            go_wp2
            go_roundw
            case rel => exact ⟨j + 1, m2 + 1, _, by omega, by go_num, by omega, M5.out, fun x => by
              show (if x = y then Value.bool true else f2 x) = _
              rw [take_contains HY.out, F2.out x]
              by_cases e : x = y
              · rw [if_pos e, if_pos e]; simp
              · rw [if_neg e, if_neg e], G5.out⟩
            case measure => simp [intOf]; omega
          · obtain rfl : j = n9' := by omega
            have PA8 := Lib.hid (PA.out.maps MA.out hgx)
            have OWN8 := Lib.hid (OWN.out.other hgx (fun y hy => by have := hAm.out y hy; simpa using this))
            have MB := Lib.hid hmap; have F2 := Lib.hid hf
            have HG8 := Lib.hid (grown_next HGW.out hgx)
            have hpt : p.take j = p := List.take_of_length_le (by have := OWN.out.len; omega)
            have HPT := Lib.hid hpt
            have hpn2 : Hid (∀ y, A9 = some y → top ≤ y.block) := Lib.hid (fun y hy => (hpn.out y hy).1)
            have htx : top ≤ wr.heap.size := by omega
            have hlo : ws.heap.size ≤ wr.heap.size := by omega
            clear hmap hf hgx hpt
            go_wp2_with (at_builtin; refine wpList_appS rfl (.tmp 36) (.tmp 38) rfl ws.heap.size top A' n' c' (partsTo W H xs a b k) A9 j c9 p rfl PA8.out OWN8.out hpn2.out htx rfl (by omega) hlo ?_; intro A7 c7 w7 hpa7 hb7 kB kM kI)
            have PA7 := Lib.hid hpa7
            have M7 := Lib.hid (kM _ _ _ _ _ _ MB.out)
            have HG7 := Lib.hid (grown_below HG8.out hb7)
            have hs7 := hb7.size
            clear hpa7 hb7 kB kM kI
            go_wp2
            go_roundw
            case rel =>
              have e := partsTo_no HX.out HIP.out
              rw [← HP.out] at e
              exact ⟨k + 1, n' + 1, c7, _, m2, A7, f2, by omega, by go_num, rfl, by rw [e]; exact PA7.out, hs7, by omega, M7.out, fun x => by rw [F2.out x, HPT.out, e, inParts_app], HG7.out⟩
            case measure => simp [intOf]; omega
    · obtain rfl : k = n1 := by omega
      have eP : partsTo W H xs a b k = partsL W H xs a b := by rw [partsTo, List.take_of_length_le (by have := SL.out; omega)]; rfl
      rw [eP] at PA
      have HBW := Lib.hid hBw
      clear hgw hBw hpa hmap hf MA FF
      go_wp2
      go_ret
      exact ⟨_, _, _, _, rfl, PA.out.lower (by omega), HBW.out⟩

end Go.Proofs.YtomfgjbicpeggaaGreatDoor

namespace Go.Proofs.YtomfgjbicpeggaaGreatDoor
open Go.RowKit Go.Shelf
attribute [local go_sem] Oper.semAt_some

def fTwo (W H : Int) (xs : List Int) (a b : Int) (x : Int) : Nat := ((twoL W H xs a b).getD x.toNat (-1)).toNat

theorem PartsAt.at_ {w : World} {lo top : Nat} {A : Option Addr} {n c k : Nat} {ps : List (List Int)} (h : PartsAt w lo top A n c ps) (hk : k < n) :
    ∃ g A9 n9 c9 p, A = some ⟨g, 0, none⟩ ∧ lo ≤ g ∧ g < w.heap.size ∧ ps[k]? = some p ∧ w.cell? ⟨g, k, none⟩ = some (.slice A9 n9 c9) ∧ OwnI 3 w lo A9 n9 c9 p := by
  obtain ⟨vs, h1, h2, h3, _, _⟩ := h
  obtain ⟨g, rfl, hg1, hg2⟩ := h1.some_ hk
  have hl := h1.len
  obtain ⟨v, hv⟩ : ∃ v, vs[k]? = some v := ⟨_, List.getElem?_eq_getElem (show k < vs.length by omega)⟩
  obtain ⟨p, hp⟩ : ∃ p, ps[k]? = some p := ⟨_, List.getElem?_eq_getElem (show k < ps.length by omega)⟩
  have hc := h1.cell (k := 1) (j := 0) (fun _ => rfl) hv rfl
  rw [Nat.mul_one, Nat.add_zero] at hc
  exact ⟨g, _, _, _, _, rfl, hg1, hg2, hp, hc, h3 k _ _ hv hp⟩

set_option maxRecDepth 100000 in
theorem dist_lay {w : World} {L : List Int} (hL : L.length = 64) {old : Array Value} (ho : old.size = 64) :
    (Instr.storeAt 62 (.pointer (some ⟨w.heap.size, 0, none⟩)) (.agg (L.map (Value.int .i64)).toArray)).run Tryz.prog (w.alloc (.cells old 62)) = .ok () (w.alloc (.cells (L.map (Value.int .i64)).toArray 62)) :=
  run_storeAt_new _ _ _ _ (by rw [infoDs]; simp [hL]) (by simp [hL, ho]) (all_oneCell_toArray (fun v hv => by obtain ⟨i, _, rfl⟩ := List.mem_map.1 hv; rfl))

set_option maxRecDepth 100000 in
set_option maxHeartbeats 4000000 in
theorem twoColours_any (W H : Int) (A : Option Addr) (n c : Nat) (xs : List Int) (a b : Int) (N lo0 mo : Nat) (w : World) (ha : Rd w A n xs) (hF : OnFacts W H xs a b N) (hom : OnMap w lo0 mo (cellsL W H xs) (leapsL W H xs a b)) :
    Calls Tryz.prog 20 #[brd W H A n c, .map (some mo)] w fun e w' => e = .returned (.agg (words (paintF (fTwo W H xs a b) (partsL W H xs a b).flatten)).toArray) ∧ Below w.heap.size w w' := by
  obtain ⟨ps, hps⟩ : ∃ ps, ps = partsL W H xs a b := ⟨_, rfl⟩
  obtain ⟨f, hf⟩ : ∃ f, f = fTwo W H xs a b := ⟨_, rfl⟩
  rw [← hps, ← hf]
  have HFF := Lib.hid hf
  have HPS := Lib.hid hps
  clear hf
  have HF := Lib.hid hF
  have n64 := hF.n.2
  obtain ⟨W4, hW4⟩ : ∃ W4, W4 = ((w.alloc (.cells #[.int .i64 W, .int .i64 H, .slice A n c] 30)).alloc (.cells nine0 46)).alloc (.cells nine0 46) := ⟨_, rfl⟩
  have hs4 : W4.heap.size = w.heap.size + 3 := by rw [hW4]; simp
  have hb4 : Below w.heap.size w W4 := by rw [hW4]; exact ((below_new (Below.refl _ _) _).alloc (by simp) _).alloc (by simp; omega) _
  have hr4 : W4.heap[w.heap.size + 1]? = some (.cells nine0 46 (0, 0)) := by
    have h := World.alloc_heap_new (w.alloc (.cells #[.int .i64 W, .int .i64 H, .slice A n c] 30)) (.cells nine0 46)
    rw [hW4, Below.heap_alloc _ _ _ (by simp)]; rw [World.size_alloc] at h; exact h
  have hp4 : W4.heap[w.heap.size + 1 + 1]? = some (.cells nine0 46 (0, 0)) := by
    have h := World.alloc_heap_new ((w.alloc (.cells #[.int .i64 W, .int .i64 H, .slice A n c] 30)).alloc (.cells nine0 46)) (.cells nine0 46)
    rw [hW4]; rw [World.size_alloc, World.size_alloc] at h; exact h
  have hpo := partsOf_any W H A n c xs a b N lo0 mo W4 (ha.keep hb4) hF (hom.keep hb4)
  rw [← hps] at hpo
  unfold nine0 at hW4
  go_enter Tryz.func20, Tryz.ntmps20
  go_wp2_with fail
  rw [← hW4]
  clear hW4
  refine hpo.mono ?_
  rintro e ws ⟨A', n', c', top, rfl, hpa, hb⟩
  have hp5 := (hb.block (w.heap.size + 1 + 1) (by omega)).trans hp4
  have hr5 := Lib.hid ((hb.block (w.heap.size + 1) (by omega)).trans hr4)
  have hss := hb.size
  have HOM := Lib.hid hom
  have HB := Lib.hid (below_next hb4 hb)
  have PA := Lib.hid hpa
  obtain ⟨hTL, hTP⟩ := two_parts hF
  rw [← hps] at hTP
  have HTP := Lib.hid hTP
  have hn' : n' ≤ 64 := by
    have := hpa.len
    have h1 := partsTo_len W H xs a b (cellsL W H xs).length
    rw [partsTo, List.take_length] at h1
    have h2 := cellsTo_len (W := W) (H := H) (hs := xs) (W * H).toNat
    have h3 := hF.wh
    have h4 : (cellsL W H xs).length ≤ (W * H).toNat := h2
    have h5 : ps.length ≤ (cellsL W H xs).length := by rw [HPS.out]; exact h1
    omega
  have hpl := hpa.len
  have hmid : MidP ws (w.heap.size + 1 + 1) (paintF f (ps.take 0).flatten) ws := ⟨grown_refl _ _, by rw [List.take_zero, List.flatten_nil, paintF_nil, ← nine_words]; exact hp5⟩
  have HM := Lib.hid hmid
  clear hpa hb hb4 hpo hp4 hr4 hp5 hom ha hF hTP hmid hps
  go_wp2
  go_loopw [15] (fun i wr => ∃ k : Nat, k ≤ n' ∧ i = .int .i64 k ∧ MidP ws (w.heap.size + 1 + 1) (paintF f (ps.take k).flatten) wr) (fun i _ => n' - (intOf i).toNat)
  case atStart => exact ⟨0, Nat.zero_le _, rfl, HM.out⟩
  case round =>
    clear HM
    obtain ⟨k, hk, rfl, hmp⟩ := hrel
    have HMP := Lib.hid hmp
    have hsw := hmp.1.size
    by_cases hlt : k < n'
    · obtain ⟨g, A9, n9, c9, p, rfl, hg1, hg2, hp, hpc, hown⟩ := PA.out.at_ hlt
      obtain ⟨c0, hc0, hpe, hhd, hcol⟩ := HTP.out p (List.mem_of_getElem? hp)
      have hpn : 0 < n9 := by have := hown.len; cases p with | nil => simp at hhd | cons y t => simp at this; omega
      obtain ⟨g9, rfl, hg3, hg4⟩ := hown.some_ hpn
      have hx0 : p[0]? = some c0 := by rw [← hhd, List.head?_eq_getElem?]
      have x0 := hmp.1.cell hpc (by simp; omega)
      have y0 := hmp.1.cell (hown.cell hx0) (by simp; omega)
      have hcr := (hasB_iff.1 hc0).1
      rw [HF.out.wh] at hcr
      obtain ⟨s, rfl⟩ : ∃ s : Nat, c0 = (s : Int) := ⟨c0.toNat, by omega⟩
      have hwr := HB.out.grown hmp.1 HB.out.size (fun k e => by cases e; omega)
      have hD := distancesFrom_any lo0 mo (cellsL W H xs) (leapsL W H xs a b) s wr (HOM.out.keep hwr) (by omega) (cellsL_mem.2 hc0) (cells_in HF.out) adj_in
      have hL := far_len64 HF.out hc0
      have HC0 := Lib.hid hc0
      have hfar := far64 HF.out hc0
      obtain ⟨L, hLL⟩ : ∃ L, L = farL (leapsL W H xs a b) 64 (s : Int) := ⟨_, rfl⟩
      rw [← hLL] at hD hL hfar
      have OWN := Lib.hid hown; have HP := Lib.hid hp; have HCOL := Lib.hid hcol; have HFAR := Lib.hid hfar; have HWR := Lib.hid hwr
      clear hmp hpc hown hcol hfar hp hwr hhd hc0 hLL hx0
      go_wp2_with fail
      refine hD.mono ?_
      rintro e wu ⟨rfl, hbu⟩
      have hgl := OWN.out.len
      have hp9 : n9 ≤ 64 := by
        rw [← hgl, hpe, partL]
        have := selTo_len (nearB (distL W H xs a b (s : Int)) 64) (W * H).toNat
        have := HF.out.wh
        omega
      have hsu := hbu.size
      have HMU := Lib.hid (midP_below (midP_below HMP.out hbu) ((Below.refl _ _).alloc (Nat.le_refl wu.heap.size) (.cells (L.map (Value.int .i64)).toArray 62)))
      have HDC := Lib.hid (cell_laid wu L 62)
      clear hbu x0 y0
      go_wp2_with (refine wpList_store64 L hL rfl _ _ rfl rfl rfl rfl _ _ rfl ?_)
      obtain ⟨wd, hwd⟩ : ∃ wd, wd = wu.heap.size := ⟨_, rfl⟩
      obtain ⟨W6, hW6⟩ : ∃ W6, W6 = wu.alloc (.cells (L.map (Value.int .i64)).toArray 62) := ⟨_, rfl⟩
      have hs6 : W6.heap.size = wd + 1 := by rw [hW6, hwd]; simp
      rw [← hW6] at HMU HDC ⊢
      rw [← hwd] at HDC hsu ⊢
      clear hW6 hwd
      go_wp2
      have hFn := Lib.hid (show (ps.take (k + 1)).flatten = (ps.take k).flatten ++ p by rw [List.take_add_one, HP.out]; simp)
      have HM0 := Lib.hid (show MidP ws (w.heap.size + 1 + 1) (paintF f ((ps.take k).flatten ++ p.take 0)) W6 by rw [List.take_zero, List.append_nil]; exact HMU.out)
      have hcells : Hid (∀ y ∈ (ps.take k).flatten ++ p, 0 ≤ y ∧ y < 64) := Lib.hid (fun y hy => by
        rcases List.mem_append.1 hy with hy | hy
        · obtain ⟨q, hq, hyq⟩ := List.mem_flatten.1 hy
          obtain ⟨_, _, _, _, h9⟩ := HTP.out q (List.mem_of_mem_take hq)
          have := (h9 y hyq).1; omega
        · have := (HCOL.out y hy).1; omega)
      obtain ⟨pre, hpre⟩ : ∃ pre, pre = (ps.take k).flatten := ⟨_, rfl⟩
      rw [← hpre] at HM0 hFn hcells
      have hs6w : ws.heap.size ≤ wd := by omega
      clear HMU hpre HMP hD
      go_loopw [26] (fun i wx => ∃ j : Nat, j ≤ n9 ∧ i = .int .i64 j ∧ MidP ws (w.heap.size + 1 + 1) (paintF f (pre ++ p.take j)) wx ∧ W6.grownBy wx (some (w.heap.size + 1 + 1))) (fun i _ => n9 - (intOf i).toNat)
      case atStart => exact ⟨0, by omega, rfl, HM0.out, grown_refl _ _⟩
      case round =>
        clear HM0
        obtain ⟨j, hj, rfl, hmj, hgj⟩ := hrel
        have gl := (Array.getElem?_eq_some_iff.1 hmj.2).1
        have hwx := HB.out.grown hmj.1 HB.out.size (fun k e => by cases e; omega)
        have HWX := Lib.hid hwx
        have HPR := Lib.hid hmj.2; have HG1 := Lib.hid hmj.1; have HGJ := Lib.hid hgj
        by_cases hjl : j < n9
        · obtain ⟨x, hx⟩ : ∃ x, p[j]? = some x := ⟨_, List.getElem?_eq_getElem (show j < p.length by omega)⟩
          have hxm := List.mem_of_getElem? hx
          obtain ⟨hxN, hxc, hxd, hxe⟩ := HCOL.out x hxm
          have z0 := hmj.1.cell (OWN.out.cell hx) (by simp; omega)
          obtain ⟨q, rfl⟩ : ∃ q : Nat, x = (q : Int) := ⟨x.toNat, by omega⟩
          rw [Int.toNat_natCast] at hxc hxd hxe
          obtain ⟨d, hd⟩ : ∃ d, d = (distL W H xs a b (s : Int)).getD q (-1) := ⟨_, rfl⟩
          have hLd : L.getD q 0 = d := by
            rw [HFAR.out, List.getD_eq_getElem?_getD, List.getElem?_append_left (by rw [dist_len HF.out HC0.out]; omega), hd, List.getD_eq_getElem?_getD, List.getElem?_eq_getElem (by rw [dist_len HF.out HC0.out]; omega)]; rfl
          have e0 := HDC.out q (by omega)
          rw [Nat.zero_add, hLd] at e0
          have d0 := hgj.cell e0 (by simp; omega)
          rw [← hd] at hxd hxe
          have hfq : f (q : Int) = ((twoL W H xs a b).getD q (-1)).toNat := by rw [HFF.out, fTwo, Int.toNat_natCast]
          have hf9 : f (q : Int) < 9 := by omega
          have hdm : Int.tmod d 2 = ((f (q : Int) : Nat) : Int) := by rw [Int.tmod_eq_emod_of_nonneg hxd, hxe, hfq]; omega
          have HW1 := Lib.hid (with_any (paintF f (pre ++ p.take j)) (paintF_len _ _) q (f (q : Int)) _ (by omega) hf9 (paintF_at hf9) (setBits_lt _ (fun i hi => by
            obtain ⟨y, hy, rfl⟩ := List.mem_map.1 hi
            have hy2 := (List.mem_filter.1 hy).1
            have := hcells.out y (by
              rcases List.mem_append.1 hy2 with h | h
              · exact List.mem_append_left _ h
              · exact List.mem_append_right _ (List.mem_of_mem_take h))
            omega)))
          have hnx : (paintF f (pre ++ p.take j)).set (f (q : Int)) (setBits (((pre ++ p.take j).filter fun z => f z == f (q : Int)).map Int.toNat) ||| 2 ^ q) = paintF f (pre ++ p.take (j + 1)) := by
            have h := paintF_snoc (f := f) (ys := pre ++ p.take j) (y := (q : Int))
            rw [Int.toNat_natCast] at h
            rw [h, List.take_add_one, hx, List.append_assoc]; rfl
          rw [hnx, ← hdm] at HW1
          obtain ⟨P, hP⟩ : ∃ P, P = paintF f (pre ++ p.take j) := ⟨_, rfl⟩
          obtain ⟨P1, hP1⟩ : ∃ P1, P1 = paintF f (pre ++ p.take (j + 1)) := ⟨_, rfl⟩
          have hPl : P.length = 9 := by rw [hP]; exact paintF_len _ _
          have hPl1 : P1.length = 9 := by rw [hP1]; exact paintF_len _ _
          rw [← hP] at HPR HW1
          rw [← hP1] at HW1
          have HP1 := Lib.hid hP1
          have hq0 : (0 : Int) ≤ (q : Int) := by omega
          have hq1 : (q : Int) < 64 := by omega
          have hq64 : q < 64 := by omega
          have hd65 : d ≤ 64 := by
            have := dist_lo HF.out HC0.out (i := q) (by omega)
            rw [← hd] at this; exact this.2
          clear hx hxm hnx hP hP1 hxN hxc hxe hd hLd e0 hfq hdm hmj hgj hwx
          have hPw : (words P).length = 9 := by simp [words, hPl]
          have hS9 : (words P1).length = 9 := by simp [words, hPl1]
          have hI8 : (Tryz.prog.info? 46).map (·.size) = some (words P1).length := by rw [info_painting, hS9]
          have HC9 := Lib.hid (show (words P).toArray.size = (words P1).length by rw [hS9]; simpa using hPw)
          have hO9 : ∀ v ∈ words P1, v.oneCell' = true := words_one _
          obtain ⟨y0, y1, y2, y3, y4, y5, y6, y7, y8, rfl⟩ := nine_of_len hPl
          obtain ⟨q0, q1, q2, q3, q4, q5, q6, q7, q8⟩ := nine_cells HPR.out
          go_wp2
          go_region_with (go_at_call 34; refine (HW1.out _).mono ?_; rintro e wv ⟨rfl, hb⟩; (try replace hb := below_undrew hb); replace HPR := Lib.hid ((hb.block (w.heap.size + 1 + 1) gl).trans HPR.out); replace HG1 := Lib.hid (grown_next HG1.out (grown_of_below hb _)); replace HGJ := Lib.hid (grown_next HGJ.out (grown_of_below hb _)); replace gl := lt_keep gl hb; clear hb; obtain ⟨q0, q1, q2, q3, q4, q5, q6, q7, q8⟩ := nine_cells HPR.out; have hst := store_row (P := Tryz.prog) (cs := words P1) HPR.out hI8 HC9.out hO9)
          all_goals go_wp2
          all_goals go_roundw
          all_goals (first | exact ⟨j + 1, by omega, by go_num, ⟨grown_next HG1.out (grown_setRow _ _ _), by rw [← HP1.out]; exact heap_setRow HPR.out⟩, grown_next HGJ.out (grown_setRow _ _ _)⟩ | (simp [intOf]; omega))
        · obtain rfl : j = n9 := by omega
          have eP : p.take j = p := List.take_of_length_le (by omega)
          rw [eP, ← hFn.out] at hmj
          have HMJ := Lib.hid hmj
          clear hmj hgj hwx HPR HG1 HGJ HWX
          go_wp2
          go_roundw
          case rel => exact ⟨k + 1, by omega, by go_num, HMJ.out⟩
          case measure => simp [intOf]; omega
    · obtain rfl : k = n' := by omega
      have eF : ps.take k = ps := List.take_of_length_le (by omega)
      rw [eF] at hmp
      have hrr := (hmp.1.block (w.heap.size + 1) (by omega) (by simp)).trans hr5.out
      have hh5 := Lib.hid (heap_setRow (W := wr) (c' := (words (paintF f ps.flatten)).toArray) hrr)
      have hwr := HB.out.grown hmp.1 HB.out.size (fun k e => by cases e; omega)
      have hb5 := Lib.hid (hwr.grown (grown_setRow wr (w.heap.size + 1) (words (paintF f ps.flatten)).toArray) hwr.size (fun k e => by cases e; omega))
      have hP9 := paintF_len f ps.flatten
      obtain ⟨P, hP⟩ : ∃ P, P = paintF f ps.flatten := ⟨_, rfl⟩
      rw [← hP] at hmp hh5 hb5 hP9
      have HPP := Lib.hid hP
      have HRG := Lib.hid (range_of_row hmp.2)
      have hw9 : (words P).length = 9 := by simp [words, hP9]
      have HTH := Lib.hid (show nine0.size = (words P).toArray.size by simp [hw9]; rfl)
      have HRR := Lib.hid hrr
      have HIN := Lib.hid (show (Tryz.prog.info? 46).map (·.size) = some (words P).length by rw [info_painting, hw9])
      have HIN2 := Lib.hid (show (Tryz.prog.info? 46).map (·.size) = some (words P).toArray.size by rw [info_painting]; simp [hw9])
      have HONE := Lib.hid (all_oneCell_toArray (words_one P))
      clear hmp hrr hwr hP
      go_wp2_with (first | (refine wpList_load_mid rfl 46 (.tmp 5) rfl (w.heap.size + 1 + 1) 0 rfl (words P) _ HRG.out Tryz.underlying46 rfl HIN.out ?_) | (refine wpList_store_rowTo rfl _ (.tmp 4) (.tmp 39) rfl rfl (w.heap.size + 1) (words P).toArray rfl rfl 46 nine0 HRR.out HIN2.out HTH.out HONE.out ?_))
      exact bodyPost_ret (v := .agg (words P).toArray) (results_cell_row Tryz.results20 _ _ (w.heap.size + 1) 46 (words P).toArray (0, 0) _ rfl hh5.out Tryz.underlying46 rfl HIN2.out) rfl ⟨by rw [HPP.out], hb5.out⟩
end Go.Proofs.YtomfgjbicpeggaaGreatDoor
