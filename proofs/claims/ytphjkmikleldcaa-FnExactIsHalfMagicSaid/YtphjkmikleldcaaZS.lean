/-
  Contracts: whether all numbers of a list are the same.
-/
import Derived.Test.YtphjkmikleldcaaMem
import Derived.Test.YtphjkmikleldcaaPure
import Derived.Test.YtphjkmikleldcaaShelf
import Derived.WalkKit
namespace Go.Proofs.Ytphjkmikleldcaa
open Go.RowKit

def sameL (L : List Int) : Bool := inAll (L.getD 0 0) (L.getD 0 0) L
theorem fold_bd : ∀ (t : List Int) (a : Int), (t.foldl min a ≤ a ∧ ∀ x ∈ t, t.foldl min a ≤ x) ∧ (a ≤ t.foldl max a ∧ ∀ x ∈ t, x ≤ t.foldl max a)
  | [], a => by simp
  | y :: t, a => by
    obtain ⟨⟨h1, h2⟩, h3, h4⟩ := fold_bd t (min a y)
    obtain ⟨⟨k1, k2⟩, k3, k4⟩ := fold_bd t (max a y)
    simp only [List.foldl_cons]
    refine ⟨⟨by omega, fun x hx => ?_⟩, by omega, fun x hx => ?_⟩
    · rcases List.mem_cons.1 hx with rfl | h
      · omega
      · exact h2 x h
    · rcases List.mem_cons.1 hx with rfl | h
      · omega
      · exact k4 x h
theorem fold_same : ∀ (t : List Int) (a : Int), (∀ x ∈ t, x = a) → t.foldl min a = a ∧ t.foldl max a = a
  | [], a, _ => ⟨rfl, rfl⟩
  | y :: t, a, h => by
    have hy := h y List.mem_cons_self
    subst hy
    simp only [List.foldl_cons, Int.min_self, Int.max_self]
    exact fold_same t y fun x hx => h x (List.mem_cons_of_mem _ hx)
theorem same_minmax {L : List Int} (h : L ≠ []) : (Go.Lib.minOf L == Go.Lib.maxOf L) = sameL L := by
  cases L with
  | nil => exact absurd rfl h
  | cons y t =>
    rw [Bool.eq_iff_iff, beq_iff_eq, sameL, inAll_iff, Go.Lib.minOf, Go.Lib.maxOf]
    simp only [List.headD_cons, List.getD_cons_zero]
    constructor
    · intro he x hx
      obtain ⟨⟨h1, h2⟩, h3, h4⟩ := fold_bd (y :: t) y
      have := h2 x hx; have := h4 x hx
      omega
    · intro hx
      obtain ⟨h1, h2⟩ := fold_same (y :: t) y (fun x h => by have := hx x h; omega)
      rw [h1, h2]

set_option maxHeartbeats 1000000 in
theorem areSame_any (lo g N c : Nat) (L : List Int) (w : World) (ho : OwnI 3 w lo (some ⟨g, 0, none⟩) N c L) (hN : 0 < N ∧ N ≤ 1000) :
    Calls Try.prog 82 #[.slice (some ⟨g, 0, none⟩) N c] w fun e w' => e = .returned (.bool (sameL L)) ∧ w' = w := by
  obtain ⟨h0, h1⟩ := hN
  have hl := ho.len
  have hc : ∀ j, j < L.length → w.cell? ⟨g, 0 + j, none⟩ = some (.int .i64 (L.getD j 0)) := fun j hj => by
    have hx : L[j]? = some L[j] := List.getElem?_eq_getElem hj
    rw [Nat.zero_add, List.getD_eq_getElem?_getD, hx]; exact ho.cell hx
  have hmin := Try.slices_Min_int g 0 N c L w h0 (by omega) (by omega) hc
  have hmax := Try.slices_Max_int g 0 N c L w h0 (by omega) (by omega) hc
  rw [List.take_of_length_le (by omega)] at hmin hmax
  have HS := Lib.hid (same_minmax (L := L) (by intro h; rw [h] at hl; simp at hl; omega))
  clear hc ho hl
  go_enter Try.func82, Try.ntmps82
  go_wp2_with fail
  refine hmin.mono ?_
  rintro e wv ⟨rfl, rfl⟩
  go_wp2_with fail
  refine hmax.mono ?_
  rintro e wv ⟨rfl, rfl⟩
  clear hmin hmax
  go_wp2
  go_ret
  exact ⟨ret_bool HS.out, rfl⟩

end Go.Proofs.Ytphjkmikleldcaa
