/-
  Contracts: slices.Compact at ints, in the words of rows that are owned.
-/
import Derived.Test.YtaliknhfcdmohaaO0
import Derived.Test.YtaliknhfcdmohaaU0
namespace Go.Proofs.Ytaliknhfcdmohaa
open Go.RowKit

theorem OwnI.cutI {E : TypeId} {w : World} {lo : Nat} {A : Option Addr} {n c k : Nat} {xs : List Int} (h : OwnI E w lo A n c xs) (hk : k ≤ n) : OwnI E w lo A k c (xs.take k) := by
  have hl := h.len
  refine ⟨by rw [List.length_map, List.length_take]; omega, ?_⟩
  rcases h.2 with ⟨hv, hn⟩ | ⟨g, cap, cur, hv, hb, hg, hnc, hm, hcs, htake⟩
  · injection hv with h1 h2 h3
    have : k = 0 := by omega
    subst this
    exact .inl ⟨by rw [h1, h3], rfl⟩
  · injection hv with h1 h2 h3
    refine .inr ⟨g, cap, cur, by rw [h1, h3], hb, hg, by omega, hm, hcs, ?_⟩
    rw [Nat.mul_one] at htake ⊢
    rw [List.map_take, ← htake, List.take_take, Nat.min_eq_left hk]
theorem comp_len (l : List Int) : (Lib.compact l).length ≤ l.length := by
  unfold Lib.compact Lib.compactUpTo
  rw [List.length_map]
  exact Nat.le_trans (List.length_filter_le _ _) (by simp)

theorem compactI_any (lo : Nat) (A : Option Addr) (n c : Nat) (xs : List Int) (w : World) (hown : OwnI 3 w lo A n c xs) (hn : n ≤ 1000000) (hlo : lo ≤ w.heap.size) :
    Calls Try.prog 96 #[.slice A n c] w fun e w' => ∃ n', e = .returned (.slice A n' c) ∧ OwnI 3 w' lo A n' c (Lib.compact xs) ∧ Below lo w w' := by
  have hl := hown.len
  by_cases h0 : n = 0
  · subst h0
    obtain rfl : xs = [] := List.eq_nil_of_length_eq_zero hl
    exact (Try.slices_Compact_int_empty A c w).mono fun e w' ⟨he, hw⟩ => ⟨0, he, by rw [hw]; exact hown, by rw [hw]; exact Below.refl _ _⟩
  · obtain ⟨g, rfl, hg1, hg2⟩ := hown.some_ (k := 0) (by omega)
    have hr := hown.2
    rcases hr with ⟨hv, _⟩ | ⟨g', cap, cur, hv, hb, hg, hnc, hm, hcs, htake⟩
    · injection hv with h1; cases h1
    · injection hv with h1 h2 h3
      injection h1 with h1
      injection h1 with h1
      subst h1 h3
      have hh : Go.Sort.Holds (Value.int .i64) w g 0 xs.toArray := holds_of_blockI hg (by rw [Nat.mul_one] at htake; rw [hl]; exact htake)
      have hcon := Try.slices_Compact_int g 0 c xs w hh (by omega) (by omega)
      rw [hl] at hcon
      refine hcon.mono ?_
      rintro e w' ⟨rfl, m, rfl⟩
      have hcl := comp_len xs
      have hlen : (Lib.compact xs ++ List.replicate (n - (Lib.compact xs).length) 0).length = xs.length := by rw [List.length_append, List.length_replicate]; omega
      have hgr := grownBy_sortedI (w := w) (g := g) (n := m) (os := #[]) (Lib.compact xs ++ List.replicate (n - (Lib.compact xs).length) 0).toArray
      have hown2 := ownsRow_sortedI (n := m) (os := #[]) (ss := xs) (ts := Lib.compact xs ++ List.replicate (n - (Lib.compact xs).length) 0) hlen hb hg (by rw [hl]; exact hnc) hm hcs
      rw [hl] at hown2
      have he : ∀ W : World, Sort.grow W #[] = W := fun W => by simp [Sort.grow]
      rw [he] at hgr hown2
      refine ⟨_, rfl, ?_, below_of_grown hgr hlo (fun g' h => by injection h with h; omega)⟩
      have h3 := OwnI.cutI (E := 3) (k := (Lib.compact xs).length) (show OwnI 3 _ lo (some ⟨g, 0, none⟩) n c _ from hown2) (by omega)
      rw [List.take_left'] at h3
      · exact h3
      · rfl

end Go.Proofs.Ytaliknhfcdmohaa
