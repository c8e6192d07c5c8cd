/-
  ForcedLeaps: the contracts as the law's walk wants them.
-/
import Derived.Test.YtihcbpbepedaiaaDoorE12
import Derived.Test.YtihcbpbepedaiaaDoorE6
namespace Go.Proofs.YtihcbpbepedaiaaDoor
open Go.RowKit

theorem forced_small (W H : Int) (xs : List Int) (a b : Int) : (forcedV W H xs a b).length ≤ 5000 ∧ ∀ p ∈ forcedV W H xs a b, p.length ≤ 64 := by
  unfold forcedV
  split
  · rename_i h
    obtain ⟨hW, hH, _, _⟩ := goodB_iff.1 (two_gK h)
    have hN := cells_le hW hH
    have h2 := forcedL_len W H xs a b hN (cellsL W H xs)
    have h3 : (cellsL W H xs).length ≤ (W * H).toNat := cellsTo_len _
    refine ⟨by omega, fun p hp => ?_⟩
    obtain ⟨c, _, hp⟩ := List.mem_flatMap.1 hp
    obtain ⟨d, _, rfl⟩ := List.mem_map.1 hp
    simp
  · exact ⟨by simp, fun p hp => by cases hp⟩
theorem impl_ForcedLeaps (W H : Int) (A : Option Addr) (n c : Nat) (xs : List Int) (a b : Int) (w : World) (ha : Rd w A n xs) (hT : Tab64 w ∧ 0 < w.heap.size) :
    Calls Tryd.prog 17 #[brd W H A n c, lpr a b] w fun e w' => ∃ A' n' c', e = .returned (.tuple #[.slice A' n' c', .bool (twoV W H xs a b)]) ∧ OwnSS w' w.heap.size w'.heap.size A' n' c' (forcedV W H xs a b) ∧ Below w.heap.size w w' := by
  refine (forcedLeaps_any W H A n c xs a b w ha hT.1 hT.2).mono ?_
  rintro e w' ⟨A', n', c', he, hp, hb⟩
  exact ⟨A', n', c', he, OwnSS.of hp, hb⟩
theorem spec_ForcedLeaps (W H : Int) (A : Option Addr) (n c : Nat) (xs : List Int) (a b : Int) (w : World) (ha : Rd w A n xs) :
    Calls Tryd.prog 16 #[brd W H A n c, lpr a b] w fun e w' => ∃ A' n' c', e = .returned (.tuple #[.slice A' n' c', .bool (twoV W H xs a b)]) ∧ OwnSS w' w.heap.size w'.heap.size A' n' c' (forcedV W H xs a b) ∧ Below w.heap.size w w' := by
  refine (forcedSpec_any W H A n c xs a b w ha).mono ?_
  rintro e w' ⟨A', n', c', he, hp, hb⟩
  exact ⟨A', n', c', he, OwnSS.of hp, hb⟩
end Go.Proofs.YtihcbpbepedaiaaDoor
