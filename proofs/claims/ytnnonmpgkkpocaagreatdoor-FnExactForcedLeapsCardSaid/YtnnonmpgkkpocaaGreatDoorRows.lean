/-
  NARROWER THAN 'FOR EVERY INPUT', by the rows' own cells (each row's printed sentence says how): FnExactCountToursFrom: laid · FnExactCountTours: laid · FnExactFirstTourFrom: laid · FnExactFirstTour: laid · FnExactCountClosedTours: laid · FnExactFirstClosedTour: laid · FnExactForcedLeaps: laid · FnExactFewestOnward: laid.
  DERIVED. THE GIVEN ROWS OF THIS SEAT. 8 by the template 'for every input the law returns true; each argument reads behind the call as it read before'; 0 by the template 'total and deterministic' (their statements: YtnnonmpgkkpocaaGreatDoorTotals.lean).
  GIVEN WITH THE SEED: the statements are not yours to turn. If you find one false, say at which input.
  Laid BY PROGRAM, IN A SANDBOX (cutbox-rows.mjs): the forced cells as the released guide's own fill.sh prints them over the translation fbea4670e100c3aa… (all of the seat's roots in one cut). By AI agents, Wed Nov 11 2026. No macro, syntax, notation, axiom, sorry.
-/
import Derived.Test.YtnnonmpgkkpocaaGreatDoorChecked
import GoSem.Claim
import GoSem.ClaimJoined
import GoSem.ClaimMapViews
import Derived.JoinedTies
import Derived.KernelRfl
namespace Go.Proofs.YtnnonmpgkkpocaaGreatDoor
/- THE CELL 'sum', in the pinned program and in every row, IS THE sha256 OF THE DUMP (.gsa) THAT YtnnonmpgkkpocaaGreatDoorProg.lean LOADS. Nothing in Lean hashes anything: it is a label: what it is worth is what the hold of that sum in a sandbox is worth. -/
noncomputable def Tryz.pinned : Pinned := { name := "ytnnonmpgkkpocaagreatdoor", sum := "fbea4670e100c3aadae0d8e319d2d810dea11916383a439e08c28ebf97c7e23c", checked := Tryz.checked }
namespace Rows
def none {H : Type} : Left H := { results := [], args := [] }

/- WHAT THE LISTED PACKAGE-LEVEL VARIABLES READ AS WHEN THE CALL BEGINS. Each datum BY PROGRAM (the guide's laid-datum.mjs) off the statement by which the dump's own 'gosem.cut.vars' lays the variable. In a bare row this is a premise. The card (YtnnonmpgkkpocaaGreatDoorCards.lean) ties it to the program's text. -/
def laid_math_bits_deBruijn64tab {H : Type} : DataW H := .agg [.lit (.int .u8 0), .lit (.int .u8 1), .lit (.int .u8 56), .lit (.int .u8 2), .lit (.int .u8 57), .lit (.int .u8 49), .lit (.int .u8 28), .lit (.int .u8 3), .lit (.int .u8 61), .lit (.int .u8 58), .lit (.int .u8 42), .lit (.int .u8 50), .lit (.int .u8 38), .lit (.int .u8 29), .lit (.int .u8 17), .lit (.int .u8 4), .lit (.int .u8 62), .lit (.int .u8 47), .lit (.int .u8 59), .lit (.int .u8 36), .lit (.int .u8 45), .lit (.int .u8 43), .lit (.int .u8 51), .lit (.int .u8 22), .lit (.int .u8 53), .lit (.int .u8 39), .lit (.int .u8 33), .lit (.int .u8 30), .lit (.int .u8 24), .lit (.int .u8 18), .lit (.int .u8 12), .lit (.int .u8 5), .lit (.int .u8 63), .lit (.int .u8 55), .lit (.int .u8 48), .lit (.int .u8 27), .lit (.int .u8 60), .lit (.int .u8 41), .lit (.int .u8 37), .lit (.int .u8 16), .lit (.int .u8 46), .lit (.int .u8 35), .lit (.int .u8 44), .lit (.int .u8 21), .lit (.int .u8 52), .lit (.int .u8 32), .lit (.int .u8 23), .lit (.int .u8 11), .lit (.int .u8 54), .lit (.int .u8 26), .lit (.int .u8 40), .lit (.int .u8 15), .lit (.int .u8 34), .lit (.int .u8 20), .lit (.int .u8 31), .lit (.int .u8 10), .lit (.int .u8 25), .lit (.int .u8 14), .lit (.int .u8 19), .lit (.int .u8 9), .lit (.int .u8 13), .lit (.int .u8 8), .lit (.int .u8 7), .lit (.int .u8 6)]

/-- 'laws.FnExactCountToursFrom': WHATEVER THE INPUT: true; the input reads as it did. -/
def fnExactCountToursFromSpec : ChangeSpec := { name := "fnExactCountToursFrom", fn := fun _ => fun
  | [d1, d2, d3] => { results := [.lit (.bool true)], args := [d1, d2, d3] }
  | _ => none }
def fnExactCountToursFromRow : OpenClaim := { program := "ytnnonmpgkkpocaagreatdoor", sum := "fbea4670e100c3aadae0d8e319d2d810dea11916383a439e08c28ebf97c7e23c", func := "loop.example/g01239/laws.FnExactCountToursFrom", spec := "fnExactCountToursFrom", unfollowed := true, recurses := true, named := ["math/bits.deBruijn64tab"], plainKeys := false, apart := false, laid := [("math/bits.deBruijn64tab", laid_math_bits_deBruijn64tab)] }
def FnExactCountToursFromSaid : Prop := fnExactCountToursFromRow.holds Tryz.pinned (OpenSpec.ofChange fnExactCountToursFromSpec)

/-- ITS FALSE NEIGHBOUR: 'it returns false'. Refute it at one input. -/
def fnExactCountToursFromWrong : ChangeSpec := { name := "fnExactCountToursFrom", fn := fun _ => fun
  | [d1, d2, d3] => { results := [.lit (.bool false)], args := [d1, d2, d3] }
  | _ => none }
def FnExactCountToursFromWrongFalsely : Prop := fnExactCountToursFromRow.holds Tryz.pinned (OpenSpec.ofChange fnExactCountToursFromWrong)

/-- 'laws.FnExactCountTours': WHATEVER THE INPUT: true; the input reads as it did. -/
def fnExactCountToursSpec : ChangeSpec := { name := "fnExactCountTours", fn := fun _ => fun
  | [d1, d2] => { results := [.lit (.bool true)], args := [d1, d2] }
  | _ => none }
def fnExactCountToursRow : OpenClaim := { program := "ytnnonmpgkkpocaagreatdoor", sum := "fbea4670e100c3aadae0d8e319d2d810dea11916383a439e08c28ebf97c7e23c", func := "loop.example/g01239/laws.FnExactCountTours", spec := "fnExactCountTours", unfollowed := true, recurses := true, named := ["math/bits.deBruijn64tab"], plainKeys := false, apart := false, laid := [("math/bits.deBruijn64tab", laid_math_bits_deBruijn64tab)] }
def FnExactCountToursSaid : Prop := fnExactCountToursRow.holds Tryz.pinned (OpenSpec.ofChange fnExactCountToursSpec)

/-- ITS FALSE NEIGHBOUR: 'it returns false'. Refute it at one input. -/
def fnExactCountToursWrong : ChangeSpec := { name := "fnExactCountTours", fn := fun _ => fun
  | [d1, d2] => { results := [.lit (.bool false)], args := [d1, d2] }
  | _ => none }
def FnExactCountToursWrongFalsely : Prop := fnExactCountToursRow.holds Tryz.pinned (OpenSpec.ofChange fnExactCountToursWrong)

/-- 'laws.FnExactFirstTourFrom': WHATEVER THE INPUT: true; the input reads as it did. -/
def fnExactFirstTourFromSpec : ChangeSpec := { name := "fnExactFirstTourFrom", fn := fun _ => fun
  | [d1, d2, d3] => { results := [.lit (.bool true)], args := [d1, d2, d3] }
  | _ => none }
def fnExactFirstTourFromRow : OpenClaim := { program := "ytnnonmpgkkpocaagreatdoor", sum := "fbea4670e100c3aadae0d8e319d2d810dea11916383a439e08c28ebf97c7e23c", func := "loop.example/g01239/laws.FnExactFirstTourFrom", spec := "fnExactFirstTourFrom", unfollowed := true, recurses := true, named := ["math/bits.deBruijn64tab"], plainKeys := false, apart := false, laid := [("math/bits.deBruijn64tab", laid_math_bits_deBruijn64tab)] }
def FnExactFirstTourFromSaid : Prop := fnExactFirstTourFromRow.holds Tryz.pinned (OpenSpec.ofChange fnExactFirstTourFromSpec)

/-- ITS FALSE NEIGHBOUR: 'it returns false'. Refute it at one input. -/
def fnExactFirstTourFromWrong : ChangeSpec := { name := "fnExactFirstTourFrom", fn := fun _ => fun
  | [d1, d2, d3] => { results := [.lit (.bool false)], args := [d1, d2, d3] }
  | _ => none }
def FnExactFirstTourFromWrongFalsely : Prop := fnExactFirstTourFromRow.holds Tryz.pinned (OpenSpec.ofChange fnExactFirstTourFromWrong)

/-- 'laws.FnExactFirstTour': WHATEVER THE INPUT: true; the input reads as it did. -/
def fnExactFirstTourSpec : ChangeSpec := { name := "fnExactFirstTour", fn := fun _ => fun
  | [d1, d2] => { results := [.lit (.bool true)], args := [d1, d2] }
  | _ => none }
def fnExactFirstTourRow : OpenClaim := { program := "ytnnonmpgkkpocaagreatdoor", sum := "fbea4670e100c3aadae0d8e319d2d810dea11916383a439e08c28ebf97c7e23c", func := "loop.example/g01239/laws.FnExactFirstTour", spec := "fnExactFirstTour", unfollowed := true, recurses := true, named := ["math/bits.deBruijn64tab"], plainKeys := false, apart := false, laid := [("math/bits.deBruijn64tab", laid_math_bits_deBruijn64tab)] }
def FnExactFirstTourSaid : Prop := fnExactFirstTourRow.holds Tryz.pinned (OpenSpec.ofChange fnExactFirstTourSpec)

/-- ITS FALSE NEIGHBOUR: 'it returns false'. Refute it at one input. -/
def fnExactFirstTourWrong : ChangeSpec := { name := "fnExactFirstTour", fn := fun _ => fun
  | [d1, d2] => { results := [.lit (.bool false)], args := [d1, d2] }
  | _ => none }
def FnExactFirstTourWrongFalsely : Prop := fnExactFirstTourRow.holds Tryz.pinned (OpenSpec.ofChange fnExactFirstTourWrong)

/-- 'laws.FnExactCountClosedTours': WHATEVER THE INPUT: true; the input reads as it did. -/
def fnExactCountClosedToursSpec : ChangeSpec := { name := "fnExactCountClosedTours", fn := fun _ => fun
  | [d1, d2] => { results := [.lit (.bool true)], args := [d1, d2] }
  | _ => none }
def fnExactCountClosedToursRow : OpenClaim := { program := "ytnnonmpgkkpocaagreatdoor", sum := "fbea4670e100c3aadae0d8e319d2d810dea11916383a439e08c28ebf97c7e23c", func := "loop.example/g01239/laws.FnExactCountClosedTours", spec := "fnExactCountClosedTours", unfollowed := true, recurses := true, named := ["math/bits.deBruijn64tab"], plainKeys := false, apart := false, laid := [("math/bits.deBruijn64tab", laid_math_bits_deBruijn64tab)] }
def FnExactCountClosedToursSaid : Prop := fnExactCountClosedToursRow.holds Tryz.pinned (OpenSpec.ofChange fnExactCountClosedToursSpec)

/-- ITS FALSE NEIGHBOUR: 'it returns false'. Refute it at one input. -/
def fnExactCountClosedToursWrong : ChangeSpec := { name := "fnExactCountClosedTours", fn := fun _ => fun
  | [d1, d2] => { results := [.lit (.bool false)], args := [d1, d2] }
  | _ => none }
def FnExactCountClosedToursWrongFalsely : Prop := fnExactCountClosedToursRow.holds Tryz.pinned (OpenSpec.ofChange fnExactCountClosedToursWrong)

/-- 'laws.FnExactFirstClosedTour': WHATEVER THE INPUT: true; the input reads as it did. -/
def fnExactFirstClosedTourSpec : ChangeSpec := { name := "fnExactFirstClosedTour", fn := fun _ => fun
  | [d1, d2] => { results := [.lit (.bool true)], args := [d1, d2] }
  | _ => none }
def fnExactFirstClosedTourRow : OpenClaim := { program := "ytnnonmpgkkpocaagreatdoor", sum := "fbea4670e100c3aadae0d8e319d2d810dea11916383a439e08c28ebf97c7e23c", func := "loop.example/g01239/laws.FnExactFirstClosedTour", spec := "fnExactFirstClosedTour", unfollowed := true, recurses := true, named := ["math/bits.deBruijn64tab"], plainKeys := false, apart := false, laid := [("math/bits.deBruijn64tab", laid_math_bits_deBruijn64tab)] }
def FnExactFirstClosedTourSaid : Prop := fnExactFirstClosedTourRow.holds Tryz.pinned (OpenSpec.ofChange fnExactFirstClosedTourSpec)

/-- ITS FALSE NEIGHBOUR: 'it returns false'. Refute it at one input. -/
def fnExactFirstClosedTourWrong : ChangeSpec := { name := "fnExactFirstClosedTour", fn := fun _ => fun
  | [d1, d2] => { results := [.lit (.bool false)], args := [d1, d2] }
  | _ => none }
def FnExactFirstClosedTourWrongFalsely : Prop := fnExactFirstClosedTourRow.holds Tryz.pinned (OpenSpec.ofChange fnExactFirstClosedTourWrong)

/-- 'laws.FnExactForcedLeaps': WHATEVER THE INPUT: true; the input reads as it did. -/
def fnExactForcedLeapsSpec : ChangeSpec := { name := "fnExactForcedLeaps", fn := fun _ => fun
  | [d1, d2] => { results := [.lit (.bool true)], args := [d1, d2] }
  | _ => none }
def fnExactForcedLeapsRow : OpenClaim := { program := "ytnnonmpgkkpocaagreatdoor", sum := "fbea4670e100c3aadae0d8e319d2d810dea11916383a439e08c28ebf97c7e23c", func := "loop.example/g01239/laws.FnExactForcedLeaps", spec := "fnExactForcedLeaps", unfollowed := true, recurses := true, named := ["math/bits.deBruijn64tab"], plainKeys := false, apart := false, laid := [("math/bits.deBruijn64tab", laid_math_bits_deBruijn64tab)] }
def FnExactForcedLeapsSaid : Prop := fnExactForcedLeapsRow.holds Tryz.pinned (OpenSpec.ofChange fnExactForcedLeapsSpec)

/-- ITS FALSE NEIGHBOUR: 'it returns false'. Refute it at one input. -/
def fnExactForcedLeapsWrong : ChangeSpec := { name := "fnExactForcedLeaps", fn := fun _ => fun
  | [d1, d2] => { results := [.lit (.bool false)], args := [d1, d2] }
  | _ => none }
def FnExactForcedLeapsWrongFalsely : Prop := fnExactForcedLeapsRow.holds Tryz.pinned (OpenSpec.ofChange fnExactForcedLeapsWrong)

/-- 'laws.FnExactFewestOnward': WHATEVER THE INPUT: true; the input reads as it did. -/
def fnExactFewestOnwardSpec : ChangeSpec := { name := "fnExactFewestOnward", fn := fun _ => fun
  | [d1, d2, d3] => { results := [.lit (.bool true)], args := [d1, d2, d3] }
  | _ => none }
def fnExactFewestOnwardRow : OpenClaim := { program := "ytnnonmpgkkpocaagreatdoor", sum := "fbea4670e100c3aadae0d8e319d2d810dea11916383a439e08c28ebf97c7e23c", func := "loop.example/g01239/laws.FnExactFewestOnward", spec := "fnExactFewestOnward", unfollowed := true, recurses := true, named := ["math/bits.deBruijn64tab"], plainKeys := false, apart := false, laid := [("math/bits.deBruijn64tab", laid_math_bits_deBruijn64tab)] }
def FnExactFewestOnwardSaid : Prop := fnExactFewestOnwardRow.holds Tryz.pinned (OpenSpec.ofChange fnExactFewestOnwardSpec)

/-- ITS FALSE NEIGHBOUR: 'it returns false'. Refute it at one input. -/
def fnExactFewestOnwardWrong : ChangeSpec := { name := "fnExactFewestOnward", fn := fun _ => fun
  | [d1, d2, d3] => { results := [.lit (.bool false)], args := [d1, d2, d3] }
  | _ => none }
def FnExactFewestOnwardWrongFalsely : Prop := fnExactFewestOnwardRow.holds Tryz.pinned (OpenSpec.ofChange fnExactFewestOnwardWrong)

/- THE SECOND FORM. 'bulk': how many values and letters a reading holds, each counted each time it is reached (what is shared counts as often as it is met; a slice's spare places count too). A statement '..UptoSaid' is the law's where the arguments, and the package variables that the reading takes, are together of bulk at most 1048576: NARROWER than '..Said'. Prove '..Said' where nothing that the law and all that it calls make is longer than what came in: it says more and counts as full. Else prove '..UptoSaid'. A law counts once. -/
mutual
def uptoBulk {H : Type} : DataW H → Nat
  | .lit (.string bytes) => bytes.length + 1
  | .lit _ => 1
  | .nil => 1
  | .ptr d => uptoBulk d + 1
  | .slice elems spare => uptoBulkAll elems + uptoBulkAll spare + 1
  | .agg parts => uptoBulkAll parts + 1
  | .iface _ d => uptoBulk d + 1
  | .map entries => uptoBulkEntries entries + 1
  | .held _ => 1
def uptoBulkAll {H : Type} : List (DataW H) → Nat
  | [] => 0
  | d :: r => uptoBulk d + uptoBulkAll r
def uptoBulkEntries {H : Type} : List (Lit × DataW H) → Nat
  | [] => 0
  | x :: r => uptoBulkEntry x + uptoBulkEntries r
def uptoBulkEntry {H : Type} : Lit × DataW H → Nat
  | (.string bytes, d) => bytes.length + uptoBulk d + 1
  | (_, d) => uptoBulk d + 1
 end
def uptoSmall : (H : Type) → List (DataW H) → Bool := fun _ ds => decide (uptoBulkAll ds ≤ 1048576)
def OpenSpec.upto (s : _root_.Go.ChangeSpec) : _root_.Go.OpenSpec := { _root_.Go.OpenSpec.ofChange s with cond := some uptoSmall }

/-- 'laws.FnExactCountToursFrom', WHERE WHAT IT READS IS OF BULK AT MOST 1048576: true; the input reads as it did. -/
def fnExactCountToursFromUptoRow : OpenClaim := { program := "ytnnonmpgkkpocaagreatdoor", sum := "fbea4670e100c3aadae0d8e319d2d810dea11916383a439e08c28ebf97c7e23c", func := "loop.example/g01239/laws.FnExactCountToursFrom", spec := "fnExactCountToursFrom", unfollowed := true, recurses := true, named := ["math/bits.deBruijn64tab"], plainKeys := false, apart := false, laid := [("math/bits.deBruijn64tab", laid_math_bits_deBruijn64tab)], narrowed := true }
def FnExactCountToursFromUptoSaid : Prop := fnExactCountToursFromUptoRow.holds Tryz.pinned (OpenSpec.upto fnExactCountToursFromSpec)

/-- 'laws.FnExactCountTours', WHERE WHAT IT READS IS OF BULK AT MOST 1048576: true; the input reads as it did. -/
def fnExactCountToursUptoRow : OpenClaim := { program := "ytnnonmpgkkpocaagreatdoor", sum := "fbea4670e100c3aadae0d8e319d2d810dea11916383a439e08c28ebf97c7e23c", func := "loop.example/g01239/laws.FnExactCountTours", spec := "fnExactCountTours", unfollowed := true, recurses := true, named := ["math/bits.deBruijn64tab"], plainKeys := false, apart := false, laid := [("math/bits.deBruijn64tab", laid_math_bits_deBruijn64tab)], narrowed := true }
def FnExactCountToursUptoSaid : Prop := fnExactCountToursUptoRow.holds Tryz.pinned (OpenSpec.upto fnExactCountToursSpec)

/-- 'laws.FnExactFirstTourFrom', WHERE WHAT IT READS IS OF BULK AT MOST 1048576: true; the input reads as it did. -/
def fnExactFirstTourFromUptoRow : OpenClaim := { program := "ytnnonmpgkkpocaagreatdoor", sum := "fbea4670e100c3aadae0d8e319d2d810dea11916383a439e08c28ebf97c7e23c", func := "loop.example/g01239/laws.FnExactFirstTourFrom", spec := "fnExactFirstTourFrom", unfollowed := true, recurses := true, named := ["math/bits.deBruijn64tab"], plainKeys := false, apart := false, laid := [("math/bits.deBruijn64tab", laid_math_bits_deBruijn64tab)], narrowed := true }
def FnExactFirstTourFromUptoSaid : Prop := fnExactFirstTourFromUptoRow.holds Tryz.pinned (OpenSpec.upto fnExactFirstTourFromSpec)

/-- 'laws.FnExactFirstTour', WHERE WHAT IT READS IS OF BULK AT MOST 1048576: true; the input reads as it did. -/
def fnExactFirstTourUptoRow : OpenClaim := { program := "ytnnonmpgkkpocaagreatdoor", sum := "fbea4670e100c3aadae0d8e319d2d810dea11916383a439e08c28ebf97c7e23c", func := "loop.example/g01239/laws.FnExactFirstTour", spec := "fnExactFirstTour", unfollowed := true, recurses := true, named := ["math/bits.deBruijn64tab"], plainKeys := false, apart := false, laid := [("math/bits.deBruijn64tab", laid_math_bits_deBruijn64tab)], narrowed := true }
def FnExactFirstTourUptoSaid : Prop := fnExactFirstTourUptoRow.holds Tryz.pinned (OpenSpec.upto fnExactFirstTourSpec)

/-- 'laws.FnExactCountClosedTours', WHERE WHAT IT READS IS OF BULK AT MOST 1048576: true; the input reads as it did. -/
def fnExactCountClosedToursUptoRow : OpenClaim := { program := "ytnnonmpgkkpocaagreatdoor", sum := "fbea4670e100c3aadae0d8e319d2d810dea11916383a439e08c28ebf97c7e23c", func := "loop.example/g01239/laws.FnExactCountClosedTours", spec := "fnExactCountClosedTours", unfollowed := true, recurses := true, named := ["math/bits.deBruijn64tab"], plainKeys := false, apart := false, laid := [("math/bits.deBruijn64tab", laid_math_bits_deBruijn64tab)], narrowed := true }
def FnExactCountClosedToursUptoSaid : Prop := fnExactCountClosedToursUptoRow.holds Tryz.pinned (OpenSpec.upto fnExactCountClosedToursSpec)

/-- 'laws.FnExactFirstClosedTour', WHERE WHAT IT READS IS OF BULK AT MOST 1048576: true; the input reads as it did. -/
def fnExactFirstClosedTourUptoRow : OpenClaim := { program := "ytnnonmpgkkpocaagreatdoor", sum := "fbea4670e100c3aadae0d8e319d2d810dea11916383a439e08c28ebf97c7e23c", func := "loop.example/g01239/laws.FnExactFirstClosedTour", spec := "fnExactFirstClosedTour", unfollowed := true, recurses := true, named := ["math/bits.deBruijn64tab"], plainKeys := false, apart := false, laid := [("math/bits.deBruijn64tab", laid_math_bits_deBruijn64tab)], narrowed := true }
def FnExactFirstClosedTourUptoSaid : Prop := fnExactFirstClosedTourUptoRow.holds Tryz.pinned (OpenSpec.upto fnExactFirstClosedTourSpec)

/-- 'laws.FnExactForcedLeaps', WHERE WHAT IT READS IS OF BULK AT MOST 1048576: true; the input reads as it did. -/
def fnExactForcedLeapsUptoRow : OpenClaim := { program := "ytnnonmpgkkpocaagreatdoor", sum := "fbea4670e100c3aadae0d8e319d2d810dea11916383a439e08c28ebf97c7e23c", func := "loop.example/g01239/laws.FnExactForcedLeaps", spec := "fnExactForcedLeaps", unfollowed := true, recurses := true, named := ["math/bits.deBruijn64tab"], plainKeys := false, apart := false, laid := [("math/bits.deBruijn64tab", laid_math_bits_deBruijn64tab)], narrowed := true }
def FnExactForcedLeapsUptoSaid : Prop := fnExactForcedLeapsUptoRow.holds Tryz.pinned (OpenSpec.upto fnExactForcedLeapsSpec)

/-- 'laws.FnExactFewestOnward', WHERE WHAT IT READS IS OF BULK AT MOST 1048576: true; the input reads as it did. -/
def fnExactFewestOnwardUptoRow : OpenClaim := { program := "ytnnonmpgkkpocaagreatdoor", sum := "fbea4670e100c3aadae0d8e319d2d810dea11916383a439e08c28ebf97c7e23c", func := "loop.example/g01239/laws.FnExactFewestOnward", spec := "fnExactFewestOnward", unfollowed := true, recurses := true, named := ["math/bits.deBruijn64tab"], plainKeys := false, apart := false, laid := [("math/bits.deBruijn64tab", laid_math_bits_deBruijn64tab)], narrowed := true }
def FnExactFewestOnwardUptoSaid : Prop := fnExactFewestOnwardUptoRow.holds Tryz.pinned (OpenSpec.upto fnExactFewestOnwardSpec)

end Rows
end Go.Proofs.YtnnonmpgkkpocaaGreatDoor
