/-
  Contracts: walks.
-/
import Derived.Test.YtnmmgalidkambaaGreatDoorB15
import Derived.Test.YtnmmgalidkambaaGreatDoorK1
import Derived.Test.YtnmmgalidkambaaGreatDoorZ1
namespace Go.Proofs.YtnmmgalidkambaaGreatDoor
open Go.RowKit

theorem goes_all {W H a b : Int} {hs : List Int} : ∀ (ps : List Int) (p : Option Int), goesB W H hs a b p ps = true → ∀ x ∈ ps, hasB W H hs x = true
  | [], _, _, x, h => by cases h
  | c :: t, p, h, x, hx => by
    simp only [goesB, Bool.and_eq_true] at h
    rcases List.mem_cons.1 hx with rfl | h1
    · exact h.1.1
    · exact goes_all t _ h.2 x h1
theorem path_has {W H a b : Int} {hs ps : List Int} (h : pathB W H hs a b ps = true) : ∀ x ∈ ps, hasB W H hs x = true := by
  simp only [pathB, Bool.and_eq_true] at h
  exact goes_all ps none h.2
theorem path_len {W H a b : Int} {hs ps : List Int} (h : pathB W H hs a b ps = true) : 1 ≤ ps.length ∧ ps.length ≤ 64 := by
  simp only [pathB, Bool.and_eq_true, decide_eq_true_eq] at h
  exact h.1
theorem path_64 {W H a b : Int} {hs ps : List Int} (hg : goodB W H hs = true) (h : pathB W H hs a b ps = true) : ∀ x ∈ ps, 0 ≤ x ∧ x < 64 := by
  intro x hx
  have h1 := (hasB_iff.1 (path_has h x hx)).1
  obtain ⟨hW, hH, _, _⟩ := goodB_iff.1 hg
  have := cells_le hW hH
  omega
def walkB (W H : Int) (hs : List Int) (a b : Int) (ps : List Int) : Bool := pathB W H hs a b ps && decide ps.Nodup
def tourB (W H : Int) (hs : List Int) (a b : Int) (ps : List Int) : Bool := walkB W H hs a b ps && decide (ps.length = (cellsL W H hs).length)
def closedB (W H : Int) (hs : List Int) (a b : Int) (ps : List Int) : Bool := decide (3 ≤ ps.length) && tourB W H hs a b ps && leapB W a b (ps.getD (ps.length - 1) 0) (ps.getD 0 0)
theorem two_gK {W H a b : Int} {xs : List Int} (h : twoV W H xs a b = true) : goodB W H xs = true := by simp only [twoV, Bool.and_eq_true] at h; exact h.1
theorem nodup_snoc {ps : List Int} {k : Nat} {x : Int} (hx : ps[k]? = some x) (h : (ps.take k).Nodup) (hn : (ps.take k).contains x = false) : (ps.take (k + 1)).Nodup := by
  rw [List.take_add_one, hx]
  simp only [List.contains_eq_mem, decide_eq_false_iff_not] at hn
  rw [List.nodup_append]
  refine ⟨h, by simp, fun y hy z hz e => ?_⟩
  have : z = x := by simpa using hz
  exact hn (this ▸ e ▸ hy)
theorem nodup_hit {ps : List Int} {k : Nat} {x : Int} (hx : ps[k]? = some x) (hn : (ps.take k).contains x = true) : ¬ ps.Nodup := by
  intro h
  have h2 : (ps.take (k + 1)).Nodup := h.sublist (List.take_sublist _ _)
  rw [List.take_add_one, hx, List.nodup_append] at h2
  simp only [List.contains_eq_mem, decide_eq_true_eq] at hn
  exact h2.2.2 x hn x (by simp) rfl
theorem nodup_map {ps : List Int} (h : ∀ x ∈ ps, 0 ≤ x ∧ x < 64) : (ps.map Int.toNat).Nodup ↔ ps.Nodup := by
  induction ps with
  | nil => simp
  | cons x t ih =>
    rw [List.map_cons, List.nodup_cons, List.nodup_cons, ih (fun y hy => h y (List.mem_cons_of_mem _ hy))]
    have : x.toNat ∈ t.map Int.toNat ↔ x ∈ t := by
      rw [List.mem_map]
      constructor
      · rintro ⟨y, hy, e⟩
        have h1 := h x List.mem_cons_self; have h2 := h y (List.mem_cons_of_mem _ hy)
        have : y = x := by omega
        exact this ▸ hy
      · intro hx; exact ⟨x, hx, rfl⟩
    rw [this]
/-- How many bits the set of a walk has. -/
theorem pop_walk {ps : List Int} (h : ∀ x ∈ ps, 0 ≤ x ∧ x < 64) : popN 64 (setBits (ps.map Int.toNat)) = ps.length ↔ ps.Nodup := by
  have := (popN_set _ (ps.map Int.toNat) rfl (fun c hc => by obtain ⟨y, hy, rfl⟩ := List.mem_map.1 hc; have := h y hy; omega)).2
  rw [List.length_map, nodup_map h] at this
  exact this
theorem set_lt {ps : List Int} (h : ∀ x ∈ ps, 0 ≤ x ∧ x < 64) : setBits (ps.map Int.toNat) < 18446744073709551616 := setBits_lt _ (fun c hc => by obtain ⟨y, hy, rfl⟩ := List.mem_map.1 hc; have := h y hy; omega)

theorem boTwoV_any (W H : Int) (A : Option Addr) (n c : Nat) (xs : List Int) (a b : Int) (w : World) (ha : Rd w A n xs) :
    Calls Tryz.prog 47 #[brd W H A n c, lpr a b] w fun e w' => e = .returned (.bool (twoV W H xs a b)) ∧ Below w.heap.size w w' := boTwo_any W H A n c xs a b w ha
end Go.Proofs.YtnmmgalidkambaaGreatDoor
