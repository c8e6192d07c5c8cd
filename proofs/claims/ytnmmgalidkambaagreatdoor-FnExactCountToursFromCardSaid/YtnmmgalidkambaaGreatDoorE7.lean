/-
  What the row's condition (the table of math/bits lies as its initialiser laid it) gives the walks; the witness's world.
-/
import Derived.Test.YtnmmgalidkambaaGreatDoorE5
import Derived.Test.YtnmmgalidkambaaGreatDoorRow
import Derived.Lib.LaidTab
import Derived.LaidMore
import Derived.LaidSub
import Derived.OpenShut
import Derived.MakeChecks
namespace Go.Proofs.YtnmmgalidkambaaGreatDoor
open Go.ChangeShapes Go.WideShapes Go.ChangeAt Go.RowKit

abbrev laidTab {H : Type} : List (String × DataW H) := [("math/bits.deBruijn64tab", Rows.laid_math_bits_deBruijn64tab)]
theorem tab_name : Tryz.prog.globalNamed "math/bits.deBruijn64tab" = some 0 := by kernel_rfl
theorem tab_type : (Tryz.prog.globals[0]?).map (·.type) = some (Tryz.tz64_ren.t 54) := by kernel_rfl
theorem tab_under : Tryz.prog.underlying (Tryz.tz64_ren.t 54) = some (.array 64 (Tryz.tz64_ren.t 5)) := Tryz.tz64.t54
theorem tab_elem : Tryz.prog.underlying (Tryz.tz64_ren.t 5) = some (.int .u8) := Tryz.tz64.t5
theorem tab_cells : Tryz.prog.cellsOf (Tryz.tz64_ren.t 54) = 64 := by kernel_rfl
theorem tab_one : Tryz.prog.cellsOf (Tryz.tz64_ren.t 5) = 1 := by kernel_rfl
theorem tab_datum : (Rows.laid_math_bits_deBruijn64tab : DataW Unit) = Lib.tabData .u8 (Lib.deBruijn64tab.map fun n : Nat => (n : Int)) := by kernel_rfl
theorem tab_of_laid {W : World} (h : laidMetH Tryz.prog laidTab W) : Tab64 W ∧ 0 < W.heap.size := by
  rw [MakeChecks.laidMetH_plain _ _ _ (by kernel_rfl), laidTab, tab_datum] at h
  have hT := Lib.tabIs_of_head tab_name tab_type tab_under tab_elem tab_one tab_cells h
  have hc : Tab64 W := by
    intro j hj
    have := hT.cell tab_name j (by simpa using hj)
    rw [this]
    simp [List.getD_eq_getElem?_getD, List.getElem?_map, List.getElem?_eq_getElem hj]
  exact ⟨hc, World.block_lt_of_cell? _ _ (hc 0 (by decide))⟩
set_option maxRecDepth 100000 in
/-- The door's own heap meets the condition. -/
theorem door_met (os : Os) (args : Array Value) : laidMetH Tryz.prog laidTab ((World.doorLaid Tryz.prog 400 os).forCall (fun _ _ => 0) ⟨#[], args, []⟩).memory :=
  laidMetH_of_parts3 (fuel := 8) (laidMet_of_run' 8 (by kernel_rfl) (by kernel_rfl)) (by kernel_rfl) (by kernel_rfl)
end Go.Proofs.YtnmmgalidkambaaGreatDoor
