/-
  Contracts: spots added and taken away, the opposite one.
-/
import Derived.Test.YtnmmgalidkambaaGreatDoorB9
namespace Go.Proofs.YtnmmgalidkambaaGreatDoor
open Go.RowKit

set_option maxHeartbeats 400000 in
theorem plus_any (x y u v : Int) (w : World) (hx : -100 ≤ x ∧ x ≤ 100) (hy : -100 ≤ y ∧ y ≤ 100) (hu : -100 ≤ u ∧ u ≤ 100) (hv : -100 ≤ v ∧ v ≤ 100) :
    Calls Tryz.prog 91 #[lpr x y, lpr u v] w fun e w' => e = .returned (lpr (x + u) (y + v)) ∧ Below w.heap.size w w' := by
  obtain ⟨hx1, hx2⟩ := hx
  obtain ⟨hy1, hy2⟩ := hy
  obtain ⟨hu1, hu2⟩ := hu
  obtain ⟨hv1, hv2⟩ := hv
  have hw1 : IntKind.i64.wrap (x + u) = x + u := IntWalk.i64_in _ (by omega)
  have hw2 : IntKind.i64.wrap (y + v) = y + v := IntWalk.i64_in _ (by omega)
  go_enter Tryz.func91, Tryz.ntmps91
  go_wp2
  exact bodyPost_ret (v := lpr (x + u) (y + v)) (by simp [results, Tryz.results91, go_sem]) rfl ⟨rfl, (by repeat (first | exact Below.refl _ _ | refine Below.setCell ?_ (by simp) _ | refine below_new ?_ _ | refine Below.drew ?_))⟩

end Go.Proofs.YtnmmgalidkambaaGreatDoor
