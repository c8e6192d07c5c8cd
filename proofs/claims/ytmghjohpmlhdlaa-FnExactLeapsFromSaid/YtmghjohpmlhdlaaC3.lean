/-
  Sizes of what is handed back: cells by leaps.
-/
import Derived.Test.YtmghjohpmlhdlaaS10
namespace Go.Proofs.Ytmghjohpmlhdlaa
open Go.RowKit

theorem len_LeapsFrom (W H : Int) (xs : List Int) (a b q : Int) : (leapsFromV W H xs a b q).length ≤ 1000000 := by
  unfold leapsFromV
  split
  · rename_i h
    simp only [okFrom, Bool.and_eq_true] at h
    obtain ⟨_, hW, hH, _, _, _⟩ := hasV_facts h.2
    have := leapsL_len64 (W := W) (H := H) (xs := xs) (a := a) (b := b) (q := q) (cells_le hW hH)
    omega
  · simp
theorem len_DegreesOf (W H : Int) (xs : List Int) (a b : Int) : (degreesV W H xs a b).length ≤ 1000000 := by
  unfold degreesV
  split
  · rename_i h
    simp only [okTwo, Bool.and_eq_true] at h
    obtain ⟨hW, hH, _, _⟩ := goodB_iff.1 h.2
    have := cellsL_len64 (xs := xs) (cells_le hW hH)
    simp only [degL, List.length_map]; omega
  · simp

end Go.Proofs.Ytmghjohpmlhdlaa
