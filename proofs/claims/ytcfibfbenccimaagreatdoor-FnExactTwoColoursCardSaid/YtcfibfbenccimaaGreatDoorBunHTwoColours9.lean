/-
  Memory words and plain facts for parts of a board: rows of booleans, rows of slices.
  Cells on routes, in plain terms.
  Two colours by parts, in plain terms.
  Paintings: for each colour the cells that have it; colours of a board.
  Paintings by a colouring: plain facts; loads and stores of a painting in a drawn region.
  Contracts: the parts of a board, in the model.
  A map from ints whose keys are known.
  DERIVED: THE SHELF's CONTRACTS AT THIS DUMP, IN PLAIN WORDS (tools/lay-plain.mjs out of 'TryzIterShelf.lean', which tools/lay-shelf.mjs wrote): THE SAME DECLARATIONS UNDER THE SAME NAMES: 'import', 'namespace', 'open', 'def', 'theorem' AND NOTHING ELSE: no command of the shelf's: FOR A HAND-IN. Each laying: the table of numbers ('.._ren') and one theorem, a field a fact of the dump's own or the kernel's comparison; each contract: ONE APPLICATION.
  A map from ints whose keys are known; slices.Sorted(maps.Keys(on)): the cells that are there.
  Contracts: leaps onward, as a map whose keys are the cells.
-/
import Derived.Test.YtcfibfbenccimaaGreatDoorBunHTwoColours8
import Derived.Test.YtcfibfbenccimaaGreatDoorBunHTwoColours3
import Derived.Test.YtcfibfbenccimaaGreatDoorBunHTwoColours2
import Derived.RangeFuncLeaves
import Derived.OwnWalkIn
import Derived.WalkKit
import Derived.BigRegionIn
import Derived.LoopIn
import Derived.Sort.QuietIn
import Derived.Deep.RegionWith
import Derived.Test.YtcfibfbenccimaaGreatDoorBunHTwoColours6
import Derived.Maps.OwnSet
import Derived.Shelf.SlIterI.Sorted
import Derived.Test.YtcfibfbenccimaaGreatDoorProg
import Derived.TacticsInMore
import Derived.Test.YtcfibfbenccimaaGreatDoorBunHTwoColours7
namespace Go.Proofs.YtcfibfbenccimaaGreatDoor
open Go.RowKit

/-! ### Parts, in plain terms -/
def partL (W H : Int) (xs : List Int) (a b c : Int) : List Int := selTo (nearB (distL W H xs a b c) 64) (W * H).toNat
def partsTo (W H : Int) (xs : List Int) (a b : Int) (k : Nat) : List (List Int) := ((cellsL W H xs).take k).foldl (partStep (partL W H xs a b)) []
def partsL (W H : Int) (xs : List Int) (a b : Int) : List (List Int) := (cellsL W H xs).foldl (partStep (partL W H xs a b)) []
theorem partsTo_yes {W H a b c : Int} {xs : List Int} {k : Nat} (hc : (cellsL W H xs)[k]? = some c) (h : inParts (partsTo W H xs a b k) c = true) : partsTo W H xs a b (k + 1) = partsTo W H xs a b k := by
  rw [partsTo, take_foldl _ hc, partStep]; exact if_pos h
theorem partsTo_no {W H a b c : Int} {xs : List Int} {k : Nat} (hc : (cellsL W H xs)[k]? = some c) (h : inParts (partsTo W H xs a b k) c = false) : partsTo W H xs a b (k + 1) = partsTo W H xs a b k ++ [partL W H xs a b c] := by
  rw [partsTo, take_foldl _ hc, partStep]; exact if_neg (by rw [show inParts (((cellsL W H xs).take k).foldl (partStep (partL W H xs a b)) []) c = false from h]; simp)
theorem partsTo_len (W H : Int) (xs : List Int) (a b : Int) : ∀ k, (partsTo W H xs a b k).length ≤ k
  | 0 => by simp [partsTo]
  | k + 1 => by
    have ih := partsTo_len W H xs a b k
    cases hc : (cellsL W H xs)[k]? with
    | none =>
      have e : partsTo W H xs a b (k + 1) = partsTo W H xs a b k := by rw [partsTo, partsTo, List.take_add_one, hc]; simp
      rw [e]; omega
    | some c =>
      cases h : inParts (partsTo W H xs a b k) c with
      | true => rw [partsTo_yes hc h]; omega
      | false => rw [partsTo_no hc h, List.length_append]; simp; omega
end Go.Proofs.YtcfibfbenccimaaGreatDoor

namespace Go.Proofs.YtcfibfbenccimaaGreatDoor
open Go.RowKit

def routeSel (D1 D2 : List Int) (d : Int) (i : Nat) : Bool := decide (0 ≤ D1.getD i (-1) ∧ 0 ≤ D2.getD i (-1) ∧ D1.getD i (-1) + D2.getD i (-1) = d)
def onRoutesV (W H : Int) (xs : List Int) (a b p q : Int) : List Int := if onB W H xs a b [p, q] = true then selTo (routeSel (distL W H xs a b p) (distL W H xs a b q) (distV W H xs a b p q)) (W * H).toNat else []
theorem sel_filter {W H : Int} {hs : List Int} (f : Int → Bool) : ∀ k : Nat, (cellsTo W H hs k).filter f = selTo (fun i => hasB W H hs (i : Int) && f (i : Int)) k
  | 0 => rfl
  | k + 1 => by
    have ih := sel_filter (W := W) (H := H) (hs := hs) f k
    cases hh : hasB W H hs (k : Int) with
    | false => rw [cellsTo_no hh, ih, selTo_no (by simp [hh])]
    | true =>
      rw [cellsTo_yes hh, List.filter_append, ih]
      cases hf : f (k : Int) with
      | false => rw [selTo_no (by simp [hf])]; simp [hf]
      | true => rw [selTo_yes (by simp [hh, hf])]; simp [hf]
theorem leaps_sym {W H a b : Int} {hs : List Int} (x y : Int) (hx : hasB W H hs x = true) (hy : y ∈ leapsL W H hs a b x) : hasB W H hs y = true ∧ x ∈ leapsL W H hs a b y := by
  rw [leapsL, List.mem_filter] at hy
  refine ⟨cellsL_mem.1 hy.1, ?_⟩
  rw [leapsL, List.mem_filter]
  exact ⟨cellsL_mem.2 hx, by rw [leapB_comm]; exact hy.2⟩
theorem dist_lo {W H a b p : Int} {xs : List Int} {N : Nat} (h : OnFacts W H xs a b N) (hp : hasB W H xs p = true) {i : Nat} (hi : i < N) : -1 ≤ (distL W H xs a b p).getD i (-1) ∧ (distL W H xs a b p).getD i (-1) ≤ 64 := by
  have hl := dist_len h hp
  rw [List.getD_eq_getElem?_getD, List.getElem?_eq_getElem (by omega)]
  have hm : (distL W H xs a b p)[i]'(by omega) ∈ farL (leapsL W H xs a b) 144 p := by rw [far64 h hp]; exact List.mem_append_left _ (List.getElem_mem _)
  exact far_bd h hp _ hm
theorem on_reach {W H a b p q : Int} {xs : List Int} {N : Nat} (h : OnFacts W H xs a b N) (hp : hasB W H xs p = true) (hq : hasB W H xs q = true) (hd : 0 ≤ (distL W H xs a b p).getD q.toNat (-1)) {i : Nat} (hi : i < N) {d : Int} (hd0 : 0 ≤ d) :
    (hasB W H xs (i : Int) && decide ((distL W H xs a b p).getD i (-1) + (distL W H xs a b q).getD i (-1) = d)) = routeSel (distL W H xs a b p) (distL W H xs a b q) d i := by
  have hN : (W * H).toNat = N := by have := h.wh; omega
  have rg : ∀ x, hasB W H xs x = true → 0 ≤ x ∧ x < (N : Int) := fun x hx => by have := (hasB_iff.1 hx).1; rw [h.wh] at this; exact this
  have had : ∀ c : Int, 0 ≤ c ∧ c < (N : Int) → ∀ x ∈ leapsL W H xs a b c, 0 ≤ x ∧ x < (N : Int) := fun c _ x hx => leaps_in h.wh hx
  have b1 := dist_lo h hp hi
  have b2 := dist_lo h hq hi
  have e1 : distL W H xs a b p = farL (leapsL W H xs a b) N p := by rw [distL, hN]
  have e2 : distL W H xs a b q = farL (leapsL W H xs a b) N q := by rw [distL, hN]
  have back : 0 ≤ (farL (leapsL W H xs a b) N q).getD p.toNat (-1) := by
    have := far_symm (C := fun x => hasB W H xs x = true) rg leaps_sym hp had (i := q.toNat) (by rw [← e1]; exact hd)
    have := this.2
    rwa [Int.toNat_of_nonneg (rg q hq).1] at this
  have iff1 : 0 ≤ (distL W H xs a b p).getD i (-1) → 0 ≤ (distL W H xs a b q).getD i (-1) := fun hA => by
    rw [e2]; rw [e1] at hA
    exact far_trans (rg q hq) (rg p hp) had back hA
  have iff2 : 0 ≤ (distL W H xs a b q).getD i (-1) → 0 ≤ (distL W H xs a b p).getD i (-1) := fun hB => by
    rw [e1]; rw [e2] at hB; rw [e1] at hd
    exact far_trans (rg p hp) (rg q hq) had hd hB
  by_cases hA : 0 ≤ (distL W H xs a b p).getD i (-1)
  · have hB := iff1 hA
    have hh : hasB W H xs (i : Int) = true := by
      have := far_symm (C := fun x => hasB W H xs x = true) rg leaps_sym hp had (i := i) (by rw [← e1]; exact hA)
      exact this.1
    rw [hh, routeSel]
    simp only [Bool.true_and, decide_eq_decide]
    exact ⟨fun h => ⟨hA, hB, h⟩, fun h => h.2.2⟩
  · have hB : ¬ 0 ≤ (distL W H xs a b q).getD i (-1) := fun h => hA (iff2 h)
    rw [routeSel, decide_eq_false (show ¬ (distL W H xs a b p).getD i (-1) + (distL W H xs a b q).getD i (-1) = d by omega), Bool.and_false, decide_eq_false (fun h => hA h.1)]

end Go.Proofs.YtcfibfbenccimaaGreatDoor

namespace Go.Proofs.YtcfibfbenccimaaGreatDoor
open Go.RowKit

/-- The colours of the cells before the k-th one with a distance. -/
def layK (D : List Int) (out : List Int) : Nat → List Int
  | 0 => out
  | k + 1 => if 0 ≤ D.getD k (-1) then (layK D out k).set k (D.getD k (-1) % 2) else layK D out k
theorem layK_yes {D out : List Int} {k : Nat} (h : 0 ≤ D.getD k (-1)) : layK D out (k + 1) = (layK D out k).set k (D.getD k (-1) % 2) := if_pos h
theorem layK_no {D out : List Int} {k : Nat} (h : ¬ 0 ≤ D.getD k (-1)) : layK D out (k + 1) = layK D out k := if_neg h
theorem layK_len (D out : List Int) : ∀ k, (layK D out k).length = out.length
  | 0 => rfl
  | k + 1 => by
    by_cases h : 0 ≤ D.getD k (-1)
    · rw [layK_yes h, List.length_set, layK_len D out k]
    · rw [layK_no h, layK_len D out k]
theorem layK_at (D out : List Int) (i : Nat) (hi : i < out.length) : ∀ k, (layK D out k).getD i (-1) = if i < k ∧ 0 ≤ D.getD i (-1) then D.getD i (-1) % 2 else out.getD i (-1)
  | 0 => by simp [layK]
  | k + 1 => by
    have ih := layK_at D out i hi k
    have hl := layK_len D out k
    by_cases h : 0 ≤ D.getD k (-1)
    · rw [layK_yes h, List.getD_eq_getElem?_getD, List.getElem?_set]
      by_cases e : k = i
      · subst e
        rw [if_pos rfl, if_pos (by omega), if_pos ⟨by omega, h⟩]; rfl
      · rw [if_neg e, ← List.getD_eq_getElem?_getD, ih]
        by_cases h2 : i < k ∧ 0 ≤ D.getD i (-1)
        · rw [if_pos h2, if_pos ⟨by omega, h2.2⟩]
        · rw [if_neg h2, if_neg (fun h3 => h2 ⟨by omega, h3.2⟩)]
    · rw [layK_no h, ih]
      by_cases h2 : i < k ∧ 0 ≤ D.getD i (-1)
      · rw [if_pos h2, if_pos ⟨by omega, h2.2⟩]
      · rw [if_neg h2, if_neg (fun h3 => h2 ⟨by
          rcases Nat.lt_or_ge i k with h4 | h4
          · exact h4
          · have : i = k := by omega
            subst this; exact absurd h3.2 h, h3.2⟩)]

/-- One cell painted by the distances D. -/
def putD (D out : List Int) (x : Int) : List Int := out.set x.toNat (D.getD x.toNat (-1) % 2)
theorem put_part {f : Nat → Bool} {D out : List Int} : ∀ k, (∀ i, i < k → f i = decide (0 ≤ D.getD i (-1))) → (selTo f k).foldl (putD D) out = layK D out k
  | 0, _ => rfl
  | k + 1, h => by
    have ih := put_part (f := f) (D := D) (out := out) k (fun i hi => h i (by omega))
    have hk := h k (by omega)
    by_cases h0 : 0 ≤ D.getD k (-1)
    · rw [selTo_yes (by rw [hk]; simpa using h0), List.foldl_append, ih, layK_yes h0, List.foldl_cons, List.foldl_nil, putD, Int.toNat_natCast]
    · rw [selTo_no (by rw [hk]; simpa using h0), ih, layK_no h0]
theorem sel_head {f : Nat → Bool} {c : Nat} (hc : f c = true) (hlt : ∀ i, i < c → f i = false) : ∀ k, c < k → (selTo f k).head? = some (c : Int)
  | 0, h => by omega
  | k + 1, h => by
    by_cases e : c = k
    · subst e
      rw [selTo_yes hc, selTo_none c hlt]; rfl
    · have ih := sel_head hc hlt k (by omega)
      cases hf : f k with
      | true => rw [selTo_yes hf, List.head?_append, ih]; rfl
      | false => rw [selTo_no hf, ih]

/-! ### The model: cell by cell -/
def twoStep (F : Int → List Int) (N : Nat) (out : List Int) (c : Int) : List Int := if 0 ≤ out.getD c.toNat (-1) then out else layK (F c) out N
def twoTo (W H : Int) (xs : List Int) (a b : Int) (k : Nat) : List Int := ((cellsL W H xs).take k).foldl (twoStep (distL W H xs a b) (W * H).toNat) (List.replicate (W * H).toNat (-1))
def twoL (W H : Int) (xs : List Int) (a b : Int) : List Int := (cellsL W H xs).foldl (twoStep (distL W H xs a b) (W * H).toNat) (List.replicate (W * H).toNat (-1))
theorem twoTo_next {W H a b c : Int} {xs : List Int} {k : Nat} (hc : (cellsL W H xs)[k]? = some c) : twoTo W H xs a b (k + 1) = twoStep (distL W H xs a b) (W * H).toNat (twoTo W H xs a b k) c := take_foldl _ hc _
theorem twoTo_stop {W H a b : Int} {xs : List Int} {k : Nat} (hc : (cellsL W H xs)[k]? = none) : twoTo W H xs a b (k + 1) = twoTo W H xs a b k := by
  rw [twoTo, twoTo, List.take_add_one, hc]; simp
theorem partsTo_stop {W H a b : Int} {xs : List Int} {k : Nat} (hc : (cellsL W H xs)[k]? = none) : partsTo W H xs a b (k + 1) = partsTo W H xs a b k := by
  rw [partsTo, partsTo, List.take_add_one, hc]; simp

/-! ### The program: part by part -/
def putPart (F : Int → List Int) (out p : List Int) : List Int := p.foldl (putD (F (p.headD 0))) out
def byParts (F : Int → List Int) (N : Nat) (ps : List (List Int)) : List Int := ps.foldl (putPart F) (List.replicate N (-1))
theorem byParts_snoc (F : Int → List Int) (N : Nat) (ps : List (List Int)) (p : List Int) : byParts F N (ps ++ [p]) = putPart F (byParts F N ps) p := by simp [byParts]

structure TwoOk (W H : Int) (xs : List Int) (a b : Int) (N k : Nat) : Prop where
  eq : twoTo W H xs a b k = byParts (distL W H xs a b) N (partsTo W H xs a b k)
  len : (twoTo W H xs a b k).length = N
  iff : ∀ i, i < N → (0 ≤ (twoTo W H xs a b k).getD i (-1) ↔ inParts (partsTo W H xs a b k) (i : Int) = true)
  rng : ∀ i, i < N → (twoTo W H xs a b k).getD i (-1) = -1 ∨ (twoTo W H xs a b k).getD i (-1) = 0 ∨ (twoTo W H xs a b k).getD i (-1) = 1
  all : ∀ j x, j < k → (cellsL W H xs)[j]? = some x → inParts (partsTo W H xs a b k) x = true
  parts : ∀ p ∈ partsTo W H xs a b k, ∃ c, hasB W H xs c = true ∧ p = partL W H xs a b c ∧ p.head? = some c ∧ ∀ i : Nat, i < N → p.contains (i : Int) = true → (distL W H xs a b c).getD i (-1) % 2 = (twoTo W H xs a b k).getD i (-1)

theorem partL_near {W H a b c : Int} {xs : List Int} {N : Nat} (h : OnFacts W H xs a b N) (hp : hasB W H xs c = true) {i : Nat} (hi : i < N) : nearB (distL W H xs a b c) 64 i = decide (0 ≤ (distL W H xs a b c).getD i (-1)) := by
  have := dist_lo h hp hi
  rw [nearB, inB]
  exact decide_eq_decide.2 ⟨fun h => h.1, fun h => ⟨h, this.2⟩⟩
theorem reach_sym {W H a b p : Int} {xs : List Int} {N i : Nat} (h : OnFacts W H xs a b N) (hp : hasB W H xs p = true) (hd : 0 ≤ (distL W H xs a b p).getD i (-1)) : hasB W H xs (i : Int) = true ∧ 0 ≤ (distL W H xs a b (i : Int)).getD p.toNat (-1) := by
  have hN : (W * H).toNat = N := by have := h.wh; omega
  have rg : ∀ x, hasB W H xs x = true → 0 ≤ x ∧ x < (N : Int) := fun x hx => by have := (hasB_iff.1 hx).1; rw [h.wh] at this; exact this
  have had : ∀ c : Int, 0 ≤ c ∧ c < (N : Int) → ∀ x ∈ leapsL W H xs a b c, 0 ≤ x ∧ x < (N : Int) := fun c _ x hx => leaps_in h.wh hx
  have e : ∀ q, distL W H xs a b q = farL (leapsL W H xs a b) N q := fun q => by rw [distL, hN]
  rw [e] at hd ⊢
  exact far_symm (C := fun x => hasB W H xs x = true) rg leaps_sym hp had hd
theorem reach_trans {W H a b p q : Int} {xs : List Int} {N i : Nat} (h : OnFacts W H xs a b N) (hp : hasB W H xs p = true) (hq : hasB W H xs q = true) (h1 : 0 ≤ (distL W H xs a b p).getD q.toNat (-1)) (h2 : 0 ≤ (distL W H xs a b q).getD i (-1)) : 0 ≤ (distL W H xs a b p).getD i (-1) := by
  have hN : (W * H).toNat = N := by have := h.wh; omega
  have rg : ∀ x, hasB W H xs x = true → 0 ≤ x ∧ x < (N : Int) := fun x hx => by have := (hasB_iff.1 hx).1; rw [h.wh] at this; exact this
  have had : ∀ c : Int, 0 ≤ c ∧ c < (N : Int) → ∀ x ∈ leapsL W H xs a b c, 0 ≤ x ∧ x < (N : Int) := fun c _ x hx => leaps_in h.wh hx
  have e : ∀ q, distL W H xs a b q = farL (leapsL W H xs a b) N q := fun q => by rw [distL, hN]
  rw [e] at h1 h2 ⊢
  exact far_trans (rg p hp) (rg q hq) had h1 h2

theorem two_ok {W H a b : Int} {xs : List Int} {N : Nat} (h : OnFacts W H xs a b N) : ∀ k, TwoOk W H xs a b N k
  | 0 => by
    have hN : (W * H).toNat = N := by have := h.wh; omega
    have e : twoTo W H xs a b 0 = List.replicate N (-1) := by rw [twoTo, hN]; rfl
    have hg : ∀ i, i < N → (List.replicate N (-1 : Int)).getD i (-1) = -1 := fun i hi => by
      rw [List.getD_eq_getElem?_getD, List.getElem?_replicate, if_pos hi]; rfl
    refine ⟨e, by rw [e, List.length_replicate], fun i hi => ?_, fun i hi => ?_, fun j x hj => by omega, fun p hp => by simp [partsTo] at hp⟩
    · rw [e, hg i hi]; simp [partsTo, inParts]
    · rw [e, hg i hi]; exact Or.inl rfl
  | k + 1 => by
    have ih := two_ok h k
    have hN : (W * H).toNat = N := by have := h.wh; omega
    cases hc : (cellsL W H xs)[k]? with
    | none =>
      rcases ih with ⟨h1, h2, h3, h4, h5, h6⟩
      refine ⟨by rw [twoTo_stop hc, partsTo_stop hc]; exact h1, by rw [twoTo_stop hc]; exact h2, by rw [twoTo_stop hc, partsTo_stop hc]; exact h3, by rw [twoTo_stop hc]; exact h4, fun j x hj hx => ?_, by rw [partsTo_stop hc, twoTo_stop hc]; exact h6⟩
      rw [partsTo_stop hc]
      rcases Nat.lt_or_ge j k with hjk | hjk
      · exact h5 j x hjk hx
      · have : j = k := by omega
        subst this; rw [hc] at hx; cases hx
    | some c =>
      have hh : hasB W H xs c = true := cellsL_mem.1 (List.mem_of_getElem? hc)
      have hr := (hasB_iff.1 hh).1
      have hcN : c.toNat < N := by have := h.wh; omega
      have ec : ((c.toNat : Nat) : Int) = c := Int.toNat_of_nonneg hr.1
      have hin := ih.iff c.toNat hcN
      rw [ec] at hin
      cases hP : inParts (partsTo W H xs a b k) c with
      | true =>
        have e1 := partsTo_yes hc hP
        have e2 : twoTo W H xs a b (k + 1) = twoTo W H xs a b k := by rw [twoTo_next hc, twoStep, if_pos (hin.2 hP)]
        rcases ih with ⟨h1, h2, h3, h4, h5, h6⟩
        refine ⟨by rw [e1, e2]; exact h1, by rw [e2]; exact h2, by rw [e1, e2]; exact h3, by rw [e2]; exact h4, fun j x hj hx => ?_, by rw [e1, e2]; exact h6⟩
        rw [e1]
        rcases Nat.lt_or_ge j k with hjk | hjk
        · exact h5 j x hjk hx
        · have : j = k := by omega
          subst this; rw [hc] at hx; cases hx; exact hP
      | false =>
        have e1 := partsTo_no hc hP
        have e2 : twoTo W H xs a b (k + 1) = layK (distL W H xs a b c) (twoTo W H xs a b k) N := by
          rw [twoTo_next hc, twoStep, if_neg (by rw [hin, hP]; simp), hN]
        have hnear : ∀ i, i < N → nearB (distL W H xs a b c) 64 i = decide (0 ≤ (distL W H xs a b c).getD i (-1)) := fun i hi => partL_near h hh hi
        have hself := dist_self h hh
        -- no cell before c is reached from c
        have hbefore : ∀ i, i < c.toNat → nearB (distL W H xs a b c) 64 i = false := fun i hi => by
          rw [hnear i (by omega), decide_eq_false_iff_not]
          intro hd
          obtain ⟨hhi, hback⟩ := reach_sym h hh hd
          obtain ⟨j, hj, hjx⟩ := List.getElem_of_mem (cellsL_mem.2 hhi)
          have hjk : j < k := by
            rcases Nat.lt_or_ge j k with h4 | h4
            · exact h4
            · exfalso
              have hkl := (List.getElem?_eq_some_iff.1 hc).1
              have hkc := (List.getElem?_eq_some_iff.1 hc).2
              rcases Nat.eq_or_lt_of_le h4 with h5 | h5
              · subst h5; omega
              · have := List.pairwise_iff_getElem.1 (cellsL_pairwise W H xs) k j hkl hj h5
                omega
          have hip := ih.all j (i : Int) hjk (by rw [List.getElem?_eq_getElem hj, hjx])
          rw [inParts, List.any_eq_true] at hip
          obtain ⟨p, hp, hpx⟩ := hip
          obtain ⟨c2, hc2, rfl, -, -⟩ := ih.parts p hp
          rw [partL, sel_contains (by omega), partL_near h hc2 (by omega), decide_eq_true_eq] at hpx
          have hcc := reach_trans h hc2 hhi (by rw [Int.toNat_natCast]; exact hpx) hback
          have : inParts (partsTo W H xs a b k) c = true := by
            rw [inParts, List.any_eq_true]
            refine ⟨_, hp, ?_⟩
            rw [← ec, partL, sel_contains (by omega), partL_near h hc2 hcN, decide_eq_true_eq]
            exact hcc
          rw [this] at hP; cases hP
        have hhead? : (partL W H xs a b c).head? = some c := by
          have := sel_head (f := nearB (distL W H xs a b c) 64) (c := c.toNat) (by rw [hnear _ hcN, decide_eq_true_eq]; omega) hbefore (W * H).toNat (by omega)
          rw [partL, this, ec]
        have hhead : (partL W H xs a b c).headD 0 = c := by rw [List.headD_eq_head?_getD, hhead?]; rfl
        -- no cell of an earlier part is reached from c
        have happart : ∀ p ∈ partsTo W H xs a b k, ∀ i, i < N → p.contains (i : Int) = true → ¬ 0 ≤ (distL W H xs a b c).getD i (-1) := fun p hp i hi hpx hd => by
          obtain ⟨hhi, hback⟩ := reach_sym h hh hd
          obtain ⟨c2, hc2, rfl, -, -⟩ := ih.parts p hp
          rw [partL, sel_contains (by omega), partL_near h hc2 (by omega), decide_eq_true_eq] at hpx
          have hcc := reach_trans h hc2 hhi (by rw [Int.toNat_natCast]; exact hpx) hback
          have : inParts (partsTo W H xs a b k) c = true := by
            rw [inParts, List.any_eq_true]
            refine ⟨_, hp, ?_⟩
            rw [← ec, partL, sel_contains (by omega), partL_near h hc2 hcN, decide_eq_true_eq]
            exact hcc
          rw [this] at hP; cases hP
        refine ⟨?_, by rw [e2, layK_len]; exact ih.len, fun i hi => ?_, fun i hi => ?_, fun j x hj hx => ?_, fun p hp => ?_⟩
        · rw [e1, byParts_snoc, ← ih.eq, putPart, hhead, e2, partL, hN]
          exact (put_part N hnear).symm
        · rw [e1, e2, inParts_app, partL, sel_contains (by omega), hnear i hi, layK_at _ _ _ (by rw [ih.len]; exact hi)]
          by_cases h0 : 0 ≤ (distL W H xs a b c).getD i (-1)
          · rw [if_pos ⟨hi, h0⟩]; simp only [h0, decide_true, Bool.or_true, iff_true]; omega
          · rw [if_neg (fun h => h0 h.2), ih.iff i hi, decide_eq_false h0, Bool.or_false]
        · rw [e2, layK_at _ _ _ (by rw [ih.len]; exact hi)]
          by_cases h0 : 0 ≤ (distL W H xs a b c).getD i (-1)
          · rw [if_pos ⟨hi, h0⟩]; omega
          · rw [if_neg (fun h => h0 h.2)]; exact ih.rng i hi
        · rw [e1, inParts_app]
          rcases Nat.lt_or_ge j k with hjk | hjk
          · rw [ih.all j x hjk hx]; rfl
          · have : j = k := by omega
            subst this
            rw [hc] at hx; cases hx
            have h7 := sel_contains (f := nearB (distL W H xs a b c) 64) (N := (W * H).toNat) (i := c.toNat) (by omega)
            rw [ec] at h7
            rw [partL, h7, hnear _ hcN, decide_eq_true (by omega), Bool.or_true]
        · rw [e1] at hp
          rcases List.mem_append.1 hp with hp | hp
          · obtain ⟨c2, hc2, hp2, hp3, hp4⟩ := ih.parts p hp
            refine ⟨c2, hc2, hp2, hp3, fun i hi hpx => ?_⟩
            rw [hp4 i hi hpx, e2, layK_at _ _ _ (by rw [ih.len]; exact hi), if_neg (fun h => happart p hp i hi hpx h.2)]
          · have hp2 : p = partL W H xs a b c := by simpa using hp
            subst hp2
            refine ⟨c, hh, rfl, hhead?, fun i hi hpx => ?_⟩
            rw [partL, sel_contains (by omega), hnear i hi, decide_eq_true_eq] at hpx
            rw [e2, layK_at _ _ _ (by rw [ih.len]; exact hi), if_pos ⟨hi, hpx⟩]

theorem two_parts {W H a b : Int} {xs : List Int} {N : Nat} (h : OnFacts W H xs a b N) : (twoL W H xs a b).length = N ∧
    ∀ p ∈ partsL W H xs a b, ∃ c, hasB W H xs c = true ∧ p = partL W H xs a b c ∧ p.head? = some c ∧ ∀ x ∈ p, (0 ≤ x ∧ x < N) ∧ ((twoL W H xs a b).getD x.toNat (-1) = 0 ∨ (twoL W H xs a b).getD x.toNat (-1) = 1) ∧ 0 ≤ (distL W H xs a b c).getD x.toNat (-1) ∧ (distL W H xs a b c).getD x.toNat (-1) % 2 = (twoL W H xs a b).getD x.toNat (-1) := by
  have K := two_ok h (cellsL W H xs).length
  have e1 : twoTo W H xs a b (cellsL W H xs).length = twoL W H xs a b := by rw [twoTo, List.take_length]; rfl
  have e2 : partsTo W H xs a b (cellsL W H xs).length = partsL W H xs a b := by rw [partsTo, List.take_length]; rfl
  rcases K with ⟨h1, h2, h3, h4, _, h6⟩
  rw [e1, e2] at *
  refine ⟨h2, fun p hp => ?_⟩
  obtain ⟨c, hc, rfl, hd, hcol⟩ := h6 p hp
  refine ⟨c, hc, rfl, hd, fun x hx => ?_⟩
  have hN : (W * H).toNat = N := by have := h.wh; omega
  obtain ⟨i, hi, hfi, rfl⟩ := selTo_mem.1 hx
  rw [hN] at hi
  rw [partL_near h hc hi, decide_eq_true_eq] at hfi
  have hin := (h3 i hi).2 (by rw [inParts, List.any_eq_true]; exact ⟨_, hp, List.contains_iff_mem.2 hx⟩)
  rw [Int.toNat_natCast]
  refine ⟨⟨by omega, by omega⟩, ?_, hfi, hcol i hi (List.contains_iff_mem.2 hx)⟩
  rcases h4 i hi with h | h
  · omega
  · exact h
end Go.Proofs.YtcfibfbenccimaaGreatDoor

namespace Go.Proofs.YtcfibfbenccimaaGreatDoor
open Go.RowKit Go.Shelf
attribute [local go_sem] Oper.semAt_some

def cellOk (W H : Int) (xs : List Int) (k x : Int) : Bool := if hasB W H xs k then inB x 0 8 else x == -1
def goodFrom (W H : Int) (xs : List Int) : Nat → List Int → Bool
  | _, [] => true
  | k, x :: t => cellOk W H xs k x && goodFrom W H xs (k + 1) t
/-- Whether a list are colours of a board. -/
def goodCols (W H : Int) (xs cs : List Int) : Bool := decide ((cs.length : Int) = W * H) && goodFrom W H xs 0 cs
theorem goodFrom_drop {W H x : Int} {xs cs : List Int} {k : Nat} (hx : cs[k]? = some x) : goodFrom W H xs k (cs.drop k) = (cellOk W H xs k x && goodFrom W H xs (k + 1) (cs.drop (k + 1))) := by
  rw [drop_cons_of hx]; rfl
theorem goodFrom_at {W H : Int} {xs : List Int} : ∀ (cs : List Int) (i : Nat), goodFrom W H xs i cs = true → ∀ k x, cs[k]? = some x → cellOk W H xs ((i + k : Nat) : Int) x = true
  | [], _, _, k, x, h => by simp at h
  | y :: t, i, hg, 0, x, h => by
    simp only [goodFrom, Bool.and_eq_true] at hg
    simp at h; subst h; exact hg.1
  | y :: t, i, hg, k + 1, x, h => by
    simp only [goodFrom, Bool.and_eq_true] at hg
    have := goodFrom_at t (i + 1) hg.2 k x (by simpa using h)
    rwa [show i + 1 + k = i + (k + 1) by omega] at this
theorem good_at {W H : Int} {xs cs : List Int} (h : goodCols W H xs cs = true) {k : Nat} {x : Int} (hx : cs[k]? = some x) : cellOk W H xs k x = true := by
  simp only [goodCols, Bool.and_eq_true] at h
  have := goodFrom_at cs 0 h.2 k x hx
  rwa [Nat.zero_add] at this
theorem good_len {W H : Int} {xs cs : List Int} (h : goodCols W H xs cs = true) : (cs.length : Int) = W * H := by
  simp only [goodCols, Bool.and_eq_true, decide_eq_true_eq] at h; exact h.1
theorem ok_rng {W H k x : Int} {xs : List Int} (h : cellOk W H xs k x = true) : -1 ≤ x ∧ x ≤ 8 := by
  unfold cellOk at h
  split at h
  · have := inB_iff.1 h; omega
  · simp at h; omega

/-- The cells before the k-th one that have a colour. -/
def paintN (cs : List Int) (k c : Nat) : Nat := setBits ((List.range k).filter fun i => cs[i]? == some (c : Int))
def paintL (cs : List Int) (k : Nat) : List Nat := (List.range 9).map (paintN cs k)
theorem paintL_len (cs : List Int) (k : Nat) : (paintL cs k).length = 9 := by simp [paintL]
theorem paintN_yes {cs : List Int} {k c : Nat} (h : cs[k]? = some (c : Int)) : paintN cs (k + 1) c = paintN cs k c ||| 2 ^ k := by
  rw [paintN, List.range_succ, List.filter_append, List.filter_cons, if_pos (by simp [h]), List.filter_nil, setBits_snoc]; rfl
theorem paintN_no {cs : List Int} {k c : Nat} (h : cs[k]? ≠ some (c : Int)) : paintN cs (k + 1) c = paintN cs k c := by
  rw [paintN, List.range_succ, List.filter_append, List.filter_cons, if_neg (by simpa using h), List.filter_nil, List.append_nil]; rfl
theorem paintN_test {cs : List Int} {k c i : Nat} : (paintN cs k c).testBit i = true ↔ i < k ∧ cs[i]? = some (c : Int) := by
  rw [paintN, setBits_test i _ _ rfl]; simp
theorem paintN_lt {cs : List Int} {k c : Nat} (hk : k ≤ 64) : paintN cs k c < 18446744073709551616 := setBits_lt _ (fun i hi => by simp at hi; omega)
theorem paintN_pop (cs : List Int) (c : Nat) : ∀ k, k ≤ 64 → k ≤ cs.length → popN 64 (paintN cs k c) = (cs.take k).count (c : Int)
  | 0, _, _ => by simp [paintN, setBits]; decide
  | k + 1, h, hl => by
    have ih := paintN_pop cs c k (by omega) (by omega)
    have hx : cs[k]? = some cs[k] := List.getElem?_eq_getElem (by omega)
    have hb : (paintN cs k c).testBit k = false := by
      cases hh : (paintN cs k c).testBit k
      · rfl
      · have := paintN_test.1 hh; omega
    rw [List.take_add_one, hx, List.count_append]
    by_cases he : cs[k] = (c : Int)
    · rw [paintN_yes (by rw [hx, he]), popN_or _ _ _ (by omega), hb, ih]; simp [he]
    · rw [paintN_no (by rw [hx]; simpa using he), ih]; simp [he]
theorem paintL_at {cs : List Int} {k c : Nat} (hc : c < 9) : (paintL cs k)[c]? = some (paintN cs k c) := by
  simp [paintL, hc]
theorem paintL_set {cs : List Int} {k c : Nat} (h : cs[k]? = some (c : Int)) : (paintL cs k).set c (paintN cs k c ||| 2 ^ k) = paintL cs (k + 1) := by
  apply List.ext_getElem?
  intro j
  rw [List.getElem?_set]
  by_cases hj : j < 9
  · by_cases e : c = j
    · subst e
      rw [if_pos rfl, if_pos (by rw [paintL_len]; omega), paintL_at hj, paintN_yes h]
    · rw [if_neg e, paintL_at hj, paintL_at hj, paintN_no (by rw [h]; simp; omega)]
  · have e1 : (paintL cs (k + 1))[j]? = none := List.getElem?_eq_none (by rw [paintL_len]; omega)
    have e2 : (paintL cs k)[j]? = none := List.getElem?_eq_none (by rw [paintL_len]; omega)
    rw [e1, e2]
    split
    · rw [if_neg (by rw [paintL_len]; omega)]
    · rfl
theorem paintL_skip {cs : List Int} {k : Nat} {x : Int} (h : cs[k]? = some x) (hx : x < 0) : paintL cs (k + 1) = paintL cs k := by
  unfold paintL
  refine List.map_congr_left fun c _ => paintN_no (by rw [h]; simp; omega)


theorem info_painting : (Tryz.prog.info? 64).map (·.size) = some 9 := by kernel_rfl
/-- Nine empty sets. -/
def nine0 : Array Value := #[.int .u64 0, .int .u64 0, .int .u64 0, .int .u64 0, .int .u64 0, .int .u64 0, .int .u64 0, .int .u64 0, .int .u64 0]
def none9 : List Nat := List.replicate 9 0
theorem paintL_zero (cs : List Int) : paintL cs 0 = none9 := by rfl
theorem none9_len : none9.length = 9 := by rfl
theorem nine0_size : nine0.size = 9 := by rfl
theorem nine_words : nine0 = (words none9).toArray := by rfl

set_option maxRecDepth 100000 in
theorem paint_load {W : World} {g : Nat} {P : List Nat} (h : W.heap[g]? = some (.cells (words P).toArray 64 (0, 0))) (hP : P.length = 9) :
    (Instr.loadAt 64 (.pointer (some ⟨g, 0, none⟩))).run Tryz.prog W = .ok (.agg (words P).toArray) W :=
  run_loadAt_mid (P := Tryz.prog) W g 0 64 (words P) (.array _ _) (fun j v hv => by rw [Nat.zero_add, cell_of_row _ _ _ _ _ _ h]; simpa using hv) rfl rfl (by rw [info_painting]; simp [words, hP])
set_option maxRecDepth 100000 in
theorem paint_store {W : World} {g : Nat} {c : Array Value} {P : List Nat} (h : W.heap[g]? = some (.cells c 64 (0, 0))) (hc : c.size = 9) (hP : P.length = 9) :
    (Instr.storeAt 64 (.pointer (some ⟨g, 0, none⟩)) (.agg (words P).toArray)).run Tryz.prog W = .ok () (W.setRow g (words P).toArray) := by
  simp only [Instr.storeAt, Instr.sureAddr, Sem.run_bind, Sem.run_pure, Result.andThen_ok]
  exact run_storeVar_row _ _ _ _ _ _ h (by rw [info_painting]; simp [words, hP]) (by simp [words, hP, hc]) (all_oneCell_toArray (words_one _))

theorem run_paint (L : List Nat) (k v : Nat) (hk : k < 9) (hv : L[k]? = some v) (w : World) :
    (Instr.index 64 (.agg (words L).toArray) (.int .i64 (k : Int))).run Tryz.prog w = .ok (.int .u64 (v : Int)) w := by
  have hu := Tryz.underlying64
  have hz := Tryz.sizeOf49
  have ha := Tryz.isAgg49
  simp [Instr.index, run_underlying hu, asIntOf, go_sem]
  rw [if_pos hk, words, List.getElem?_map, hv]
  rfl
set_option maxRecDepth 100000 in
theorem paint_lay (w : World) {P : List Nat} (hP : P.length = 9) :
    (storeCells ⟨w.heap.size, 0, none⟩ (words P)).run Tryz.prog (w.alloc (.cells nine0 64)) = .ok () (w.alloc (.cells (words P).toArray 64)) :=
  run_storeCells_new (P := Tryz.prog) w 64 nine0 (words P).toArray (by rw [info_painting]; simp [words, hP]) (by rw [nine0_size]; simp [words, hP]) (all_oneCell_toArray (words_one _))

set_option maxRecDepth 100000 in
set_option maxHeartbeats 1000000 in
theorem with_any (P : List Nat) (hP : P.length = 9) (cell colour x : Nat) (hc : cell < 64) (hk : colour < 9) (hx : P[colour]? = some x) (hx9 : x < 18446744073709551616) (w : World) :
    Calls Tryz.prog 75 #[.agg (words P).toArray, .int .i64 cell, .int .i64 colour] w fun e w' => e = .returned (.agg (words (P.set colour (x ||| 2 ^ cell))).toArray) ∧ Below w.heap.size w w' := by
  refine (callsIn_wide (n := 5)).1 ?_
  refine callsIn_of_wp_marks Tryz.func75 rfl trivial ?_ rfl
  simp only [Tryz.ntmps75, List.size_toArray, List.length_cons, List.length_nil, Nat.reduceAdd, Nat.reduceSub, Array.replicate_succ, Array.replicate_zero, List.push_toArray, List.append_toArray, List.nil_append, List.cons_append]
  obtain ⟨W2, hW2⟩ : ∃ W2, W2 = (w.alloc (.cells (words P).toArray 64)).alloc (.cells nine0 64) := ⟨_, rfl⟩
  have hh : W2.heap[w.heap.size]? = some (.cells (words P).toArray 64 (0, 0)) := by rw [hW2, Below.heap_alloc _ _ _ (by simp)]; exact World.alloc_heap_new _ _
  have hr : W2.heap[w.heap.size + 1]? = some (.cells nine0 64 (0, 0)) := by
    have h := World.alloc_heap_new (w.alloc (.cells (words P).toArray 64)) (.cells nine0 64)
    rw [hW2]; rw [World.size_alloc] at h; exact h
  have hcell : W2.cell? ⟨w.heap.size, colour, none⟩ = some (.int .u64 (x : Int)) := by
    rw [cell_of_row _ _ _ _ _ _ hh, List.getElem?_toArray, words, List.getElem?_map, hx]; rfl
  have hfro : W2.frozen? ⟨w.heap.size, colour, none⟩ = false := frozen_of_row _ _ _ _ _ hh
  have hb1 : Below w.heap.size w W2 := by rw [hW2]; exact ((Below.refl _ _).alloc (Nat.le_refl _) _).alloc (by simp) _
  have HWI := Lib.hid (fun V => withS_any x cell hx9 hc V)
  obtain ⟨y, hy⟩ : ∃ y, y = x ||| 2 ^ cell := ⟨_, rfl⟩
  rw [← hy] at HWI ⊢
  have hh3 := heap_set (j := colour) (.int .u64 (y : Int)) hh
  have hg3 := grown_set W2 w.heap.size colour (.int .u64 (y : Int))
  have hr3 := (hg3.block (w.heap.size + 1) (Array.getElem?_eq_some_iff.1 hr).1 (by simp)).trans hr
  have hb3 := hb1.grown hg3 hb1.size (fun k e => by cases e; omega)
  have hset : (words P).toArray.setIfInBounds colour (.int .u64 (y : Int)) = (words (P.set colour y)).toArray := by simp [words, List.map_set]
  rw [hset] at hh3
  have hL9 : (P.set colour y).length = 9 := by simp [hP]
  have hld := paint_load hh3 hL9
  have hst := paint_store hr3 (by rfl) hL9
  have hh4 := Lib.hid (heap_setRow (c' := (words (P.set colour y)).toArray) hr3)
  have hg4 := grown_setRow (W2.setCell ⟨w.heap.size, colour, none⟩ (.int .u64 (y : Int))) (w.heap.size + 1) (words (P.set colour y)).toArray
  have hb4 := Lib.hid (hb3.grown hg4 hb3.size (fun k e => by cases e; omega))
  clear hset hg3 hb1 hh hr hh3 hr3 hb3 hg4 hy
  unfold nine0 at hW2
  gi_wp2_with (rw [← hW2]; clear hW2)
  refine ⟨trivial, (callsIn_wide.2 (HWI.out _)).mono ?_⟩
  rintro e w' ⟨rfl, rfl⟩
  gi_wp2_with (first
    | refine wpIn_load_run 64 _ _ _ rfl rfl hld ?_
    | refine wpIn_store_run 64 _ _ _ _ rfl rfl rfl hst ?_)
  refine ⟨_, results_cell_row rfl _ _ _ _ (words (P.set colour y)).toArray _ _ rfl hh4.out rfl rfl (by rw [info_painting]; simp [words, hP]), rfl, hb4.out⟩
end Go.Proofs.YtcfibfbenccimaaGreatDoor

namespace Go.Proofs.YtcfibfbenccimaaGreatDoor
open Go.RowKit Go.Shelf
attribute [local go_sem] Oper.semAt_some

/-- The painting of some cells by a colouring. -/
def paintF (f : Int → Nat) (ys : List Int) : List Nat := (List.range 9).map fun c => setBits ((ys.filter fun y => f y == c).map Int.toNat)
theorem paintF_len (f : Int → Nat) (ys : List Int) : (paintF f ys).length = 9 := by simp [paintF]
theorem paintF_at {f : Int → Nat} {ys : List Int} {c : Nat} (hc : c < 9) : (paintF f ys)[c]? = some (setBits ((ys.filter fun y => f y == c).map Int.toNat)) := by simp [paintF, hc]
theorem paintF_snoc {f : Int → Nat} {ys : List Int} {y : Int} : (paintF f ys).set (f y) (setBits ((ys.filter fun z => f z == f y).map Int.toNat) ||| 2 ^ y.toNat) = paintF f (ys ++ [y]) := by
  apply List.ext_getElem?
  intro j
  rw [List.getElem?_set]
  by_cases hj : j < 9
  · rw [paintF_at hj, paintF_at hj]
    by_cases e : f y = j
    · subst e
      rw [if_pos rfl, if_pos (by rw [paintF_len]; omega), List.filter_append, List.map_append]
      simp [setBits_snoc]
    · rw [if_neg e, List.filter_append, List.map_append]
      have : (f y == j) = false := by simpa using e
      simp [this]
  · have e1 : (paintF f (ys ++ [y]))[j]? = none := List.getElem?_eq_none (by rw [paintF_len]; omega)
    have e2 : (paintF f ys)[j]? = none := List.getElem?_eq_none (by rw [paintF_len]; omega)
    rw [e1, e2]
    split
    · rw [if_neg (by rw [paintF_len]; omega)]
    · rfl
theorem paintF_nil (f : Int → Nat) : paintF f [] = none9 := by rfl
theorem paintF_lt {f : Int → Nat} {ys : List Int} (h : ∀ y ∈ ys, 0 ≤ y ∧ y < 64) : ∀ s ∈ paintF f ys, s < 18446744073709551616 := by
  intro s hs
  obtain ⟨c, _, rfl⟩ := List.mem_map.1 hs
  refine setBits_lt _ (fun i hi => ?_)
  obtain ⟨y, hy, rfl⟩ := List.mem_map.1 hi
  have := h y (List.mem_filter.1 hy).1
  omega
/-- The painting in the midst of its making. -/
def MidP (W3 : World) (g : Nat) (L : List Nat) (W' : World) : Prop :=
  W3.grownBy W' (some g) ∧ W'.heap[g]? = some (.cells (words L).toArray 64 (0, 0))
theorem midP_below {W3 W W' : World} {g : Nat} {L : List Nat} (h : MidP W3 g L W) (hb : Below W.heap.size W W') : MidP W3 g L W' :=
  ⟨grown_next h.1 (grown_of_below hb _), (hb.block g (Array.getElem?_eq_some_iff.1 h.2).1).trans h.2⟩
theorem midP_set {W3 W : World} {g : Nat} {L : List Nat} (L' : List Nat) (h : MidP W3 g L W) : MidP W3 g L' (W.setRow g (words L').toArray) :=
  ⟨grown_next h.1 (grown_setRow _ _ _), heap_setRow h.2⟩

theorem cell_setRow_ne {W : World} {b o g : Nat} {v : Value} {cs : Array Value} (h : W.cell? ⟨b, o, none⟩ = some v) (hne : b ≠ g) : (W.setRow g cs).cell? ⟨b, o, none⟩ = some v := by
  rw [← h]
  simp [World.cell?, World.setRow, Array.getElem?_modify, show ¬ g = b from fun e => hne e.symm]

theorem range_of_row {w : World} {g : Nat} {L : List Value} {T : TypeId} (h : w.heap[g]? = some (.cells L.toArray T (0, 0))) : w.rangeAt g 0 L := fun j v hv => by
  rw [Nat.zero_add, cell_of_row _ _ _ _ _ _ h]; simpa using hv
theorem there_of_row {w : World} {g n : Nat} {L : List Value} {T : TypeId} (h : w.heap[g]? = some (.cells L.toArray T (0, 0))) (hn : L.length = n) : w.there g 0 n := fun j hj => by
  refine ⟨?_, frozen_of_row _ _ _ _ _ h⟩
  rw [Nat.zero_add, cell_of_row _ _ _ _ _ _ h, List.getElem?_toArray, List.getElem?_eq_getElem (by omega)]; rfl
theorem step_load_paint {ops : Array Oper} {o : Oper} {a : Act} {w : World} {K : Act → World → Prop} {Q : Exit → Act → World → Prop} {E0 : Prop} (hgd : o.guard = none) (x : Operand) (ho : o.op = .load 64 x)
    (g : Nat) (hx : a.eval x = .pointer (some ⟨g, 0, none⟩)) (L : List Nat) (h : w.heap[g]? = some (.cells (words L).toArray 64 (0, 0))) (hL : L.length = 9)
    (hK : K (a.put o.dst (.agg (words L).toArray)) w) : if Region.wanted o (yielded ops a.tmps) = true then Oper.wp Tryz.prog o a w K Q else E0 := by
  have hw : Region.wanted o (yielded ops a.tmps) = true := by simp [Region.wanted, hgd]
  rw [if_pos hw]
  unfold Oper.wp execOp
  simp only [ho, hx, Sem.run_bind, paint_load h hL, Sem.run_pure, Result.andThen_ok]
  exact hK
theorem step_store_paint {ops : Array Oper} {o : Oper} {a : Act} {w : World} {K : Act → World → Prop} {Q : Exit → Act → World → Prop} {E0 : Prop} (hgd : o.guard = none) (x y : Operand) (ho : o.op = .store 64 x y)
    (g : Nat) (hx : a.eval x = .pointer (some ⟨g, 0, none⟩)) (L L0 : List Nat) (hy : a.eval y = .agg (words L).toArray) (h : w.heap[g]? = some (.cells (words L0).toArray 64 (0, 0))) (hL0 : L0.length = 9) (hL : L.length = 9)
    (hK : K (a.put o.dst undef) (w.setRow g (words L).toArray)) : if Region.wanted o (yielded ops a.tmps) = true then Oper.wp Tryz.prog o a w K Q else E0 := by
  have hw : Region.wanted o (yielded ops a.tmps) = true := by simp [Region.wanted, hgd]
  rw [if_pos hw]
  unfold Oper.wp execOp
  simp only [ho, hx, hy, Sem.run_bind, paint_store h (by simp [words, hL0]) hL, Sem.run_pure, Result.andThen_ok]
  exact hK
theorem nine_of_len {P : List Nat} (h : P.length = 9) : ∃ y0 y1 y2 y3 y4 y5 y6 y7 y8 : Nat, P = [y0, y1, y2, y3, y4, y5, y6, y7, y8] := by
  match P, h with
  | [y0, y1, y2, y3, y4, y5, y6, y7, y8], _ => exact ⟨y0, y1, y2, y3, y4, y5, y6, y7, y8, rfl⟩
theorem nine_cells {W : World} {g : Nat} {T : TypeId} {y0 y1 y2 y3 y4 y5 y6 y7 y8 : Nat} (h : W.heap[g]? = some (.cells (words [y0, y1, y2, y3, y4, y5, y6, y7, y8]).toArray T (0, 0))) :
    W.cell? ⟨g, 0, none⟩ = some (.int .u64 ((y0 : Nat) : Int)) ∧ W.cell? ⟨g, 1, none⟩ = some (.int .u64 ((y1 : Nat) : Int)) ∧ W.cell? ⟨g, 2, none⟩ = some (.int .u64 ((y2 : Nat) : Int)) ∧ W.cell? ⟨g, 3, none⟩ = some (.int .u64 ((y3 : Nat) : Int)) ∧ W.cell? ⟨g, 4, none⟩ = some (.int .u64 ((y4 : Nat) : Int)) ∧ W.cell? ⟨g, 5, none⟩ = some (.int .u64 ((y5 : Nat) : Int)) ∧ W.cell? ⟨g, 6, none⟩ = some (.int .u64 ((y6 : Nat) : Int)) ∧ W.cell? ⟨g, 7, none⟩ = some (.int .u64 ((y7 : Nat) : Int)) ∧ W.cell? ⟨g, 8, none⟩ = some (.int .u64 ((y8 : Nat) : Int)) :=
  ⟨by rw [cell_of_row _ _ _ _ _ _ h]; rfl, by rw [cell_of_row _ _ _ _ _ _ h]; rfl, by rw [cell_of_row _ _ _ _ _ _ h]; rfl, by rw [cell_of_row _ _ _ _ _ _ h]; rfl, by rw [cell_of_row _ _ _ _ _ _ h]; rfl, by rw [cell_of_row _ _ _ _ _ _ h]; rfl, by rw [cell_of_row _ _ _ _ _ _ h]; rfl, by rw [cell_of_row _ _ _ _ _ _ h]; rfl, by rw [cell_of_row _ _ _ _ _ _ h]; rfl⟩
end Go.Proofs.YtcfibfbenccimaaGreatDoor

namespace Go.Proofs.YtcfibfbenccimaaGreatDoor
open Go.RowKit

theorem part_bd {W H a b c : Int} {xs : List Int} {N : Nat} (h : OnFacts W H xs a b N) (hp : hasB W H xs c = true) {x : Int} {i : Nat} (hx : (distL W H xs a b c)[i]? = some x) : nearB (distL W H xs a b c) 64 i = decide (0 ≤ x) := by
  have := dist_bd h hp x (List.mem_of_getElem? hx)
  rw [near_in hx, inB]
  by_cases h0 : 0 ≤ x
  · simp [h0]; omega
  · simp [h0]

end Go.Proofs.YtcfibfbenccimaaGreatDoor

namespace Go.Proofs.YtcfibfbenccimaaGreatDoor
open Go.RowKit Go.Maps

/-- As MapI; ks tells which keys there are. -/
def MapK (P : Program) (k : TypeId) (w : World) (b n : Nat) (z : Value) (f : Int → Value) (ks : Int → Bool) : Prop :=
  ∃ D : DataW Value, w.ownsMap P k rawR b n D ∧ IsMap D ∧ (∀ x, D.atKey (.int .i64 x) (.held z) = .held (f x)) ∧ ∀ x, has D (.int .i64 x) = ks x

section
variable {P : Program} {k e t : TypeId} {w w' : World} {b n : Nat} {z : Value} {f : Int → Value} {ks : Int → Bool}
theorem MapK.map (h : MapK P k w b n z f ks) : MapI P k w b n z f := by obtain ⟨D, h1, h2, h3, _⟩ := h; exact ⟨D, h1, h2, h3⟩
theorem MapK.made (P : Program) (k : TypeId) (w : World) (z : Value) : MapK P k (w.alloc (.map #[] 0)) w.heap.size 0 z (fun _ => z) (fun _ => false) :=
  ⟨_, World.ownsMap_made _ _ _ _, isMap_empty, fun _ => rfl, fun _ => rfl⟩
theorem MapK.lt (h : MapK P k w b n z f ks) : b < w.heap.size := h.map.lt
theorem MapK.other {row : Option Nat} (h : MapK P k w b n z f ks) (hg : w.grownBy w' row) (hne : some b ≠ row) : MapK P k w' b n z f ks := by
  obtain ⟨D, h1, h2, h3⟩ := h
  exact ⟨D, h1.kept hg hne, h2, h3⟩
theorem MapK.keep (h : MapK P k w b n z f ks) (hb : Below w.heap.size w w') : MapK P k w' b n z f ks := h.other (grown_of_below hb none) (by simp)
theorem wpList_updateK {ops : Array Oper} {rest : List Oper} {o : Oper} {a : Act} {Q : Exit → Act → World → Prop}
    (hg : o.guard = none) (m x v : Operand) (hop : o.op = Op.mapUpdate t m x v) (hk : P.underlying k = some (.int .i64)) (ht : P.underlying t = some (.map k e))
    (hm : a.eval m = .map (some b)) (hown : MapK P k w b n z f ks) (hn : n < 1000000) (q : Int) (val : Value) (hx : a.eval x = .int .i64 q) (hv : a.eval v = val) (hq : (Lit.int .i64 q).wf = true)
    (hK : ∀ w', MapK P k w' b (n + 1) z (fun y => if y = q then val else f y) (fun y => if y = q then true else ks y) → w.grownBy w' (some b) → wpList P ops Q rest (a.put o.dst undef) w') :
    wpList P ops Q (o :: rest) a w := by
  obtain ⟨D, h1, h2, h3, h4⟩ := hown
  refine wpList_mapUpdate_own w hg m x v t hop k e (int_keyed hk) ht rawR b n D hm h1 (by unfold maxLen; omega) _ _ (.int .i64 q) hx hv (keyOf_int_mk hk hq) (.held val) [] rfl ?_
  intro w' hw hgr
  refine hK w' ⟨_, hw, h2.put _ _, fun y => ?_, fun y => ?_⟩ hgr
  · show _ = DataW.held (if y = q then val else f y)
    by_cases e : y = q
    · subst e
      rw [if_pos rfl]
      exact atKey_put_same h2 (by trivial) _ _
    · rw [if_neg e, atKey_put_other (fun h => e (by injection h)) _ _]
      exact h3 y
  · show _ = (if y = q then true else ks y)
    by_cases e : y = q
    · subst e
      rw [if_pos rfl]
      exact has_put_same h2 (by trivial) _
    · rw [if_neg e, has_put_other (fun h => e (by injection h)) _]
      exact h4 y
end

end Go.Proofs.YtcfibfbenccimaaGreatDoor

namespace Go.Proofs
open Go.Shelf
def Tryz.keysA_ren : Go.Shelf.Ren := ⟨fun | 7 => 105 | 10 => 125 | n => n, fun | 23 => 67 | 26 => 3 | 3 => 22 | 28 => 100 | 0 => 0 | 27 => 74 | 33 => 89 | 4 => 4 | n => n, fun | n => n⟩
theorem Tryz.keysA : Go.Proofs.SlLaysZI.n7 Tryz.prog Tryz.keysA_ren := {
  mixed := by kernel_rfl
  f7 := ⟨Tryz.f105.name, by decide, Tryz.func105.trans (congrArg some (by kernel_rfl))⟩
  f10 := ⟨Tryz.f125.name, by decide, Tryz.func125.trans (congrArg some (by kernel_rfl))⟩
  t0 := Tryz.underlying0
  a0 := Tryz.isAgg0
  z0 := Tryz.sizeOf0
  v0 := Tryz.zeroValue0
  t4 := Tryz.underlying4
  a4 := Tryz.isAgg4
  z4 := Tryz.sizeOf4
  v4 := Tryz.zeroValue4
  t23 := Tryz.underlying67
  a23 := Tryz.isAgg67
  z23 := Tryz.sizeOf67
  v23 := Tryz.zeroValue67
  t26 := Tryz.underlying3
  a26 := Tryz.isAgg3
  z26 := Tryz.sizeOf3
  v26 := Tryz.zeroValue3
  t27 := Tryz.underlying74
  a27 := Tryz.isAgg74
  z27 := Tryz.sizeOf74
  v27 := Tryz.zeroValue74
  t28 := Tryz.underlying100
  a28 := Tryz.isAgg100
  z28 := Tryz.sizeOf100
  v28 := Tryz.zeroValue100
  t33 := Tryz.underlying89
  a33 := Tryz.isAgg89
  z33 := Tryz.sizeOf89
  v33 := Tryz.zeroValue89 }
def Tryz.sortedA_ren : Go.Shelf.Ren := ⟨fun | 6 => 104 | 8 => 69 | 9 => 86 | 11 => 88 | 13 => 100 | 12 => 99 | 23 => 123 | 24 => 124 | 14 => 115 | 15 => 116 | 16 => 117 | 17 => 118 | 18 => 119 | 19 => 120 | 20 => 108 | 21 => 121 | 22 => 122 | 25 => 131 | 26 => 132 | 27 => 133 | 28 => 134 | 29 => 135 | 30 => 127 | 31 => 144 | n => n, fun | 26 => 3 | 28 => 100 | 24 => 22 | 0 => 0 | 3 => 3 | 37 => 103 | 48 => 119 | 50 => 48 | 4 => 4 | 40 => 134 | 39 => 133 | 45 => 108 | 5 => 5 | 9 => 9 | 51 => 142 | 55 => 146 | 57 => 153 | 58 => 154 | 33 => 89 | n => n, fun | n => n⟩
theorem Tryz.sortedA : Go.Proofs.SlLaysZI.n6 Tryz.prog Tryz.sortedA_ren := {
  mixed := by kernel_rfl
  f6 := ⟨Tryz.f104.name, by decide, Tryz.func104.trans (congrArg some (by kernel_rfl))⟩
  f8 := ⟨Tryz.f69.name, by decide, Tryz.func69.trans (congrArg some (by kernel_rfl))⟩
  f11 := ⟨Tryz.f88.name, by decide, Tryz.func88.trans (congrArg some (by kernel_rfl))⟩
  t0 := Tryz.underlying0
  a0 := Tryz.isAgg0
  z0 := Tryz.sizeOf0
  v0 := Tryz.zeroValue0
  t24 := Tryz.underlying22
  a24 := Tryz.isAgg22
  z24 := Tryz.sizeOf22
  v24 := Tryz.zeroValue22
  t26 := Tryz.underlying3
  a26 := Tryz.isAgg3
  z26 := Tryz.sizeOf3
  v26 := Tryz.zeroValue3
  t28 := Tryz.underlying100
  a28 := Tryz.isAgg100
  z28 := Tryz.sizeOf100
  v28 := Tryz.zeroValue100
  i26 := by kernel_rfl }
end Go.Proofs

namespace Go.Proofs.YtcfibfbenccimaaGreatDoor
open Go.RowKit Go.Maps Go.Sort Go.Shelf

section
variable {P : Program} {k e t : TypeId} {w w' : World} {b n : Nat} {z : Value} {f : Int → Value} {ks : Int → Bool}
/-- What sorted keys are. -/
theorem sorted_keys {D : DataW Value} {R : Value → Option (DataW Value × List MemPlace)} (hown : w.ownsMap P k R b n D) (hk : P.underlying k = some (.int .i64)) {cells : List Int} (hc : cells.Pairwise (· < ·)) (hm : ∀ x, has D (.int .i64 x) = decide (x ∈ cells)) {ss : List Int} (hp : ss.Perm (intKeys D)) :
    ss.mergeSort (fun x y => decide (x ≤ y)) = cells := by
  obtain ⟨es, hD, hpw, _⟩ := hown.entries (int_keyed hk)
  obtain ⟨es', hD', hko⟩ := hown.keysOf
  obtain rfl : es = es' := by rw [hD] at hD'; simpa using hD'
  subst hD
  have hq : cells.Perm (intKeys (.map es)) := perm_intKeys hpw (fun p hp => by obtain ⟨v, hv⟩ := hko p hp; obtain ⟨x, _, hx, _⟩ := Maps.keyOf_i64 hk hv; exact ⟨x, hx⟩) (hc.imp (fun h => by omega)) (fun x => by rw [hm]; simp)
  rw [show (ss.mergeSort fun x y => decide (x ≤ y)) = cells.mergeSort (fun x y => decide (x ≤ y)) from mergeSort_of_perm_i (hp.trans hq.symm)]
  exact List.mergeSort_of_pairwise (hc.imp (fun h => by simp; omega))
end

/-- As OnMap; the map has just the cells. -/
def OnMapK (w : World) (lo mb : Nat) (cells : List Int) (adj : Int → List Int) : Prop :=
  lo ≤ mb ∧ ∃ (n : Nat) (f : Int → Value), n ≤ 144 ∧ MapK Tryz.prog 3 w mb n (.slice none 0 0) f (fun x => decide (x ∈ cells)) ∧ ∀ x ∈ cells, RowAt w lo mb (f x) (adj x)
theorem OnMapK.on {w : World} {lo mb : Nat} {cells : List Int} {adj : Int → List Int} (h : OnMapK w lo mb cells adj) : OnMap w lo mb cells adj := by
  obtain ⟨h0, n, f, h1, h2, h3⟩ := h
  exact ⟨h0, n, f, h1, h2.map, h3⟩
theorem OnMapK.keep {w w' : World} {lo mb : Nat} {cells : List Int} {adj : Int → List Int} (h : OnMapK w lo mb cells adj) (hb : Below w.heap.size w w') : OnMapK w' lo mb cells adj := by
  obtain ⟨h0, n, f, h1, h2, h3⟩ := h
  exact ⟨h0, n, f, h1, h2.keep hb, fun x hx => (h3 x hx).keep hb⟩

theorem sortsInts (m : Nat) : AnyZI.SortsIn Tryz.prog Tryz.sortedA_ren Fence.wide m :=
  ⟨fun blk off cap ss W hH hblk hsz => callsIn_wide.2 (Tryz.slices_Sort_int blk off cap ss W hH hblk hsz),
   fun p cap W => callsIn_wide.2 (Tryz.slices_Sort_int_none p cap W)⟩

set_option maxRecDepth 100000 in
set_option maxHeartbeats 1000000 in
theorem cells_any (lo mb : Nat) (cells : List Int) (adj : Int → List Int) (w : World) (h : OnMapK w lo mb cells adj) (hc : cells.Pairwise (· < ·)) :
    Calls Tryz.prog 91 #[.map (some mb)] w fun e w' => ∃ A' n' c', e = .returned (.slice A' n' c') ∧ OwnI 3 w' w.heap.size A' n' c' cells ∧ Below w.heap.size w w' := by
  obtain ⟨_, nn, f, hn, ⟨D, hown, hD, _, hks⟩, _⟩ := h
  refine (callsIn_wide (n := 6)).1 ?_
  have hbl := hown.lt
  have hsz := hown.size_le
  have hmax : Maps.size D ≤ maxLen := by unfold maxLen; omega
  have hbytes : Maps.size D * 8 ≤ 140737488355328 := by omega
  have hseq : SeqGives Fence.wide 2 Tryz.prog 125 #[.pointer (some ⟨w.heap.size, 0, none⟩)] encZ (fun ss => ss.Perm (intKeys D)) (Maps.size D) (w.alloc (.cells #[.map (some mb)] 67)) :=
    AnyZI.keys_gives (ρ := Tryz.keysA_ren) { Tryz.keysA with } Fence.wide _ trivial rfl (by omega) w.heap.size mb nn D _ (by simp) (by simp) (by
      obtain ⟨es, clock, hb, Ft, hs, hD⟩ := hown
      exact ⟨es, clock, (Below.heap_alloc _ _ mb hbl).trans hb, Ft, hs, hD⟩)
  have cK : ∀ mb W, CallsIn Fence.wide 5 Tryz.prog 105 #[.map mb] W fun e w' => e = .returned (.func (.func 125) #[] #[.pointer (some ⟨W.heap.size, 0, none⟩)]) ∧ w' = W.alloc (.cells #[.map mb] 67) := fun mb W => AnyZI.keys_in Tryz.keysA Fence.wide 5 trivial rfl mb W
  have cS := AnyZI.sorted_in Tryz.sortedA Fence.wide 5 trivial trivial trivial trivial rfl (by omega) (sortsInts _) (enters_of Tryz.func86 (by kernel_rfl) rfl) 125 #[.pointer (some ⟨w.heap.size, 0, none⟩)] trivial (enters_of Tryz.func125 (by kernel_rfl) rfl) _ _ hmax hbytes _ hseq
  change CallsIn _ _ Tryz.prog 104 _ _ _ at cS
  have hfK : Fence.wide.fn 105 := trivial
  have hfS : Fence.wide.fn 104 := trivial
  refine callsIn_of_wp Tryz.func91 rfl trivial ?_ rfl
  simp only [Tryz.ntmps91, List.size_toArray, List.length_cons, List.length_nil, Nat.reduceAdd, Nat.reduceSub, Array.replicate_succ, Array.replicate_zero, List.push_toArray, List.append_toArray, List.nil_append, List.cons_append]
  gi_wp2_with (first
    | (gi_at_call 105; refine (cK _ _).mono ?_; rintro e w' ⟨rfl, rfl⟩)
    | (gi_at_call 104; refine cS.mono ?_; rintro e w' ⟨v, ss, rfl, hS, hrow, hnil, hb⟩))
  go_ret
  rw [sorted_keys hown Tryz.underlying3 hc hks hS] at hrow
  have hlen : ss.length = cells.length := by have := hrow.1; simpa using this.symm
  rw [hlen] at hrow
  have hB : Below w.heap.size w w' := ((Below.refl _ w).alloc (Nat.le_refl _) _).trans (hb.mono (by simp))
  rcases hrow.2 with ⟨rfl, hz⟩ | ⟨g, cap, cur, rfl, _⟩
  · exact ⟨none, 0, 0, rfl, by rw [hz] at hrow; exact ownsRow_base_a hrow (by simp), hB⟩
  · exact ⟨_, _, _, rfl, ownsRow_base_a hrow (by simp), hB⟩

end Go.Proofs.YtcfibfbenccimaaGreatDoor

namespace Go.Proofs.YtcfibfbenccimaaGreatDoor
open Go.RowKit

theorem take_key {l : List Int} {k : Nat} {x : Int} (h : l[k]? = some x) : (fun y : Int => if y = x then true else decide (y ∈ l.take k)) = fun y => decide (y ∈ l.take (k + 1)) := by
  funext y
  rw [List.take_add_one, h]
  by_cases e : y = x
  · subst e; rw [if_pos rfl]; simp
  · rw [if_neg e, Bool.eq_iff_iff, decide_eq_true_eq, decide_eq_true_eq, List.mem_append]; simp [e]
theorem take_none (l : List Int) : (fun _ : Int => false) = fun y => decide (y ∈ l.take 0) := by funext y; simp

set_option maxRecDepth 100000 in
set_option maxHeartbeats 2000000 in
theorem onwardOfK_any (W H : Int) (A : Option Addr) (n c : Nat) (xs : List Int) (a b : Int) (w : World) (ha : Rd w A n xs) (hg : goodB W H xs = true) (hl : leaperB a b = true) :
    Calls Tryz.prog 51 #[brd W H A n c, lpr a b] w fun e w' => ∃ mb, e = .returned (.map (some mb)) ∧ OnMapK w' w.heap.size mb (cellsL W H xs) (leapsL W H xs a b) ∧ Below w.heap.size w w' := by
  have HL := Lib.hid hl
  clear hl
  obtain ⟨hW, hH, _, _⟩ := goodB_iff.1 hg
  have HW := Lib.hid hW; have HN := Lib.hid (cells_le hW hH)
  have HG := Lib.hid hg
  obtain ⟨i0, hi, hz0, hz1, hz2⟩ := info_parts infoI
  have HI := Lib.hid hi; have HZ0 := Lib.hid hz0; have HZ1 := Lib.hid hz1; have HZ2 := Lib.hid hz2
  clear hW hH hg hi hz0 hz1 hz2
  obtain ⟨W2, hW2⟩ : ∃ W2, W2 = ((w.alloc (.cells #[.int .i64 W, .int .i64 H, .slice A n c] 30)).alloc (.cells #[.int .i64 a, .int .i64 b] 32)).alloc (.map #[] 0) := ⟨_, rfl⟩
  have a0 : W2.cell? ⟨w.heap.size, 0, none⟩ = some (.int .i64 W) := by rw [hW2]; go_simp
  have a1 : W2.cell? ⟨w.heap.size, 1, none⟩ = some (.int .i64 H) := by rw [hW2]; go_simp
  have a2 : W2.cell? ⟨w.heap.size, 2, none⟩ = some (.slice A n c) := by rw [hW2]; go_simp
  have l0 : W2.cell? ⟨w.heap.size + 1, 0, none⟩ = some (.int .i64 a) := by rw [hW2]; go_simp
  have l1 : W2.cell? ⟨w.heap.size + 1, 1, none⟩ = some (.int .i64 b) := by rw [hW2]; go_simp
  have hsz : w.heap.size + 3 ≤ W2.heap.size := by rw [hW2]; simp
  have B := Lib.hid (show Below w.heap.size w W2 by rw [hW2]; exact below_new (below_new (below_new (Below.refl _ _) _) _) _)
  have R := Lib.hid (ha.keep B.out)
  have ga : w.heap.size < W2.heap.size := by omega
  have gl : w.heap.size + 1 < W2.heap.size := by omega
  have hmp : MapK Tryz.prog 3 W2 (w.heap.size + 2) 0 (.slice none 0 0) (fun _ => .slice none 0 0) (fun y => decide (y ∈ (cellsL W H xs).take 0)) := by
    rw [hW2, ← take_none]
    have := MapK.made Tryz.prog 3 ((w.alloc (.cells #[.int .i64 W, .int .i64 H, .slice A n c] 30)).alloc (.cells #[.int .i64 a, .int .i64 b] 32)) (.slice none 0 0)
    simpa using this
  have MP := Lib.hid hmp
  clear hmp
  have hmm := @run_makeMap Tryz.prog
  go_enter Tryz.func51, Tryz.ntmps51
  go_wp2_with fail
  rw [← hW2]
  obtain ⟨mb, hmb⟩ : ∃ mb, mb = w.heap.size + 1 + 1 := ⟨_, rfl⟩
  rw [show w.heap.size + 2 = mb by omega] at MP
  rw [← hmb]
  have hmb1 : w.heap.size + 2 ≤ mb := by omega
  have hmb2 : mb < W2.heap.size := by omega
  clear hW2 hmm hmb
  refine (cellsThere_any W H A n c xs _ R.out HG.out).mono ?_
  rintro e ws ⟨A1, n1, c1, rfl, hst, hb⟩
  replace a0 := cell_keep a0 ga hb; replace a1 := cell_keep a1 ga hb; replace a2 := cell_keep a2 ga hb; replace l0 := cell_keep l0 gl hb; replace l1 := cell_keep l1 gl hb; replace ga := lt_keep ga hb; replace gl := lt_keep gl hb; replace R := Lib.hid (R.out.keep hb)
  have hB0 := B.out.size
  replace B := Lib.hid (below_next B.out hb)
  have hs1 := hb.size
  have ST := Lib.hid hst.rd
  have SL := Lib.hid hst.len
  have n8 : n1 ≤ 64 := by have := cellsTo_len (W := W) (H := H) (hs := xs) (W * H).toNat; have := hst.len; have := HN.out; unfold cellsL at *; omega
  have hA1 : Hid (∀ y, A1 = some y → mb < y.block) := Lib.hid (fun y hy => by
    rcases hst.form with ⟨h, _⟩ | ⟨g, h, h2, _⟩
    · rw [h] at hy; cases hy
    · rw [h] at hy; injection hy with hy; rw [← hy]; show mb < g; omega)
  have hmlt : mb < ws.heap.size := by omega
  have n9 := hst.rd.2.1
  replace MP := Lib.hid (MP.out.keep hb)
  clear hst hb
  go_wp2
  go_loopw [12] (fun i wr => ∃ (k : Nat) (f : Int → Value), k ≤ n1 ∧ i = .int .i64 k ∧ MapK Tryz.prog 3 wr mb k (.slice none 0 0) f (fun y => decide (y ∈ (cellsL W H xs).take k)) ∧ (∀ x ∈ (cellsL W H xs).take k, RowAt wr w.heap.size mb (f x) (leapsL W H xs a b x)) ∧ ws.grownBy wr (some mb)) (fun i _ => n1 - (intOf i).toNat)
  case atStart => exact ⟨0, _, by omega, rfl, MP.out, by simp, grown_refl _ _⟩
  case round =>
    obtain ⟨k, f, hk, rfl, hm, hrows, hgw⟩ := hrel
    have hBw : Below w.heap.size w wr := B.out.trans (below_of_grown hgw (by omega) (fun g h => by injection h with h; omega))
    have HM := Lib.hid hm; have HR := Lib.hid hrows
    have HGW := Lib.hid hgw
    have hsw := hgw.size
    clear hm hrows
    by_cases hlt : k < n1
    · obtain ⟨bb, oo, x, rfl, hg1, hx, x0⟩ := ST.out.at_ hlt
      have hbm := hA1.out _ rfl
      simp only at hbm
      have HX := Lib.hid hx
      have hin := cellsL_mem.1 (List.mem_of_getElem? hx)
      have HXQ := Lib.hid (hasB_iff.1 hin).1
      have HXR := Lib.hid (range_of HN.out hin)
      replace x0 := hgw.cell x0 (by simp; omega)
      have b0 := hgw.cell a0 (by simp; omega); have b1 := hgw.cell a1 (by simp; omega); have b2 := hgw.cell a2 (by simp; omega); have m0 := hgw.cell l0 (by simp; omega); have m1 := hgw.cell l1 (by simp; omega)
      have RR := Lib.hid (ha.keep hBw)
      have HBW := Lib.hid hBw
      clear hx hin hgw hBw
      go_wp2_with fail
      refine (leapCells_any W H A n c xs a b x _ RR.out HG.out HL.out HXQ.out).mono ?_
      rintro e wv ⟨A3, n3, c3, rfl, hl3, hb⟩
      have hn3 : n3 ≤ 64 := by have := leapsL_len64 (W := W) (H := H) (xs := xs) (a := a) (b := b) (q := x) HN.out; have := hl3.len; omega
      have HL3 := Lib.hid hl3
      replace HM := Lib.hid (HM.out.keep hb)
      replace HR := Lib.hid (fun y hy => (HR.out y hy).keep hb)
      replace HGW := Lib.hid (grown_next HGW.out (grown_of_below hb (some mb)))
      have hsv := hb.size
      clear hl3 hb
      go_wp2_with (at_mapUpdate; refine wpList_updateK rfl (.tmp 16) (.tmp 17) (.tmp 21) rfl Tryz.underlying3 Tryz.underlying67 rfl HM.out (by omega) x (.slice A3 n3 c3) rfl rfl (wf_small ⟨HXR.out.1, by have := HXR.out.2; omega⟩) ?_; intro w2 hm2 hg2)
      have HM2 := Lib.hid hm2; have HG2 := Lib.hid hg2
      clear hm2 hg2
      go_wp2
      go_roundw
      case rel =>
        refine ⟨k + 1, _, by omega, by go_num, by rw [← take_key HX.out]; exact HM2.out, fun y hy => ?_, grown_next HGW.out HG2.out⟩
        rw [List.take_add_one, HX.out] at hy
        rcases List.mem_append.1 hy with hy | hy
        · have hne : y ≠ x := by
            have hp := cellsL_pairwise W H xs
            have hlen : k < (cellsL W H xs).length := by have := SL.out; omega
            rw [← List.take_append_drop k (cellsL W H xs), List.pairwise_append] at hp
            have hxd : x ∈ (cellsL W H xs).drop k := by
              rw [drop_cons_of HX.out]; exact List.mem_cons_self
            have := hp.2.2 y hy x hxd
            omega
          rw [if_neg hne]
          exact (HR.out y hy).other HG2.out
        · simp at hy
          subst hy
          rw [if_pos rfl]
          have hrow : RowAt _ w.heap.size mb (.slice A3 n3 c3) (leapsL W H xs a b y) := ⟨A3, n3, c3, rfl, HL3.out.rd, hn3, fun z hz => by
            rcases HL3.out.form with ⟨h, _⟩ | ⟨g, h, h2, h3, _⟩
            · rw [h] at hz; cases hz
            · rw [h] at hz; injection hz with hz; rw [← hz]; exact ⟨by show w.heap.size ≤ g; omega, h3, by show g ≠ mb; omega⟩⟩
          exact hrow.other HG2.out
      case measure => simp [intOf]; omega
    · have e2 : (cellsL W H xs).take k = cellsL W H xs := List.take_of_length_le (by have := SL.out; omega)
      have HBW := Lib.hid hBw
      have hk64 : k ≤ 64 := by omega
      have HRR := Lib.hid (show OnMapK wr w.heap.size mb (cellsL W H xs) (leapsL W H xs a b) from ⟨by omega, k, f, by omega, by have h := HM.out; rw [e2] at h; exact h, by rw [← e2]; exact HR.out⟩)
      clear e2 hBw hgw
      go_wp2
      go_ret
      exact ⟨mb, rfl, HRR.out, HBW.out⟩


end Go.Proofs.YtcfibfbenccimaaGreatDoor
