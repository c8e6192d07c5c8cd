/-
  Contracts: the spot of a numbered cell.
-/
import Derived.Test.YtnmmgalidkambaaGreatDoorHelp
import Derived.Deep.RegionHeld3
namespace Go.Proofs.YtnmmgalidkambaaGreatDoor
open Go.RowKit

set_option maxHeartbeats 400000 in
theorem numbered_any (q W : Int) (w : World) (hW : 1 ≤ W ∧ W ≤ 12) (hq : 0 ≤ q ∧ q ≤ 144) :
    Calls Tryz.prog 101 #[.int .i64 q, .int .i64 W] w fun e w' => e = .returned (lpr (q % W) (q / W)) ∧ Below w.heap.size w w' := by
  obtain ⟨hW1, hW2⟩ := hW
  obtain ⟨hq1, hq2⟩ := hq
  go_enter Tryz.func101, Tryz.ntmps101
  go_wp2
  go_region
  all_goals go_wp2
  exact bodyPost_ret (v := lpr (q % W) (q / W)) (by simp [results, Tryz.results101, go_sem]) rfl ⟨rfl, (by repeat (first | exact Below.refl _ _ | refine Below.setCell ?_ (by simp) _ | refine Below.drew ?_ | refine below_drewN ?_ _ | refine below_new ?_ _))⟩

set_option maxHeartbeats 400000 in
theorem numbered_exact (q W : Int) (w : World) (hW : 1 ≤ W ∧ W ≤ 8) (hq : 0 ≤ q ∧ q ≤ 64) :
    Calls Tryz.prog 101 #[.int .i64 q, .int .i64 W] w fun e w' => e = .returned (lpr (q % W) (q / W)) ∧ ∃ m, w' = (w.alloc (.cells #[.int .i64 (q % W), .int .i64 (q / W)] 90)).drewN m := by
  obtain ⟨hW1, hW2⟩ := hW
  obtain ⟨hq1, hq2⟩ := hq
  go_enter Tryz.func101, Tryz.ntmps101
  go_wp2
  go_region
  all_goals go_wp2
  exact bodyPost_ret (v := lpr (q % W) (q / W)) (by simp [results, Tryz.results101, go_sem]) rfl ⟨rfl, 1, rfl⟩

end Go.Proofs.YtnmmgalidkambaaGreatDoor
