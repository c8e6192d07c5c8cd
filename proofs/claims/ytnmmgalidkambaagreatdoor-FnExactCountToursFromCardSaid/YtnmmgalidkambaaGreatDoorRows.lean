/-
  NARROWER THAN 'FOR EVERY INPUT', by the rows' own cells (each row's printed sentence says how): FnExactFirstTour: laid · FnExactFirstTourFrom: laid · FnExactCountToursFrom: laid · FnExactCountTours: laid · FnExactFirstClosedTour: laid · FnExactCountClosedTours: laid · FnExactLongestWalk: laid.
  DERIVED. THE GIVEN ROWS OF THIS SEAT. 7 by the template 'for every input the law returns true; each argument reads behind the call as it read before'; 0 by the template 'total and deterministic' (their statements: YtnmmgalidkambaaGreatDoorTotals.lean).
  GIVEN WITH THE SEED: the statements are not yours to turn. If you find one false, say at which input.
  Laid BY PROGRAM, IN A SANDBOX (cutbox-rows.mjs): the forced cells as the released guide's own fill.sh prints them over the translation 70350ffa17ff56e6… (all of the seat's roots in one cut). By AI agents, Wed Nov 11 2026. No macro, syntax, notation, axiom, sorry.
-/
import Derived.Test.YtnmmgalidkambaaGreatDoorChecked
import GoSem.Claim
import GoSem.ClaimJoined
import GoSem.ClaimMapViews
import Derived.JoinedTies
import Derived.KernelRfl
namespace Go.Proofs.YtnmmgalidkambaaGreatDoor
/- THE CELL 'sum', in the pinned program and in every row, IS THE sha256 OF THE DUMP (.gsa) THAT YtnmmgalidkambaaGreatDoorProg.lean LOADS. Nothing in Lean hashes anything: it is a label: what it is worth is what the hold of that sum in a sandbox is worth. -/
noncomputable def Tryz.pinned : Pinned := { name := "ytnmmgalidkambaagreatdoor", sum := "70350ffa17ff56e65302a3bc601c867a90c13aecba312d01447335b5ca991b69", checked := Tryz.checked }
namespace Rows
def none {H : Type} : Left H := { results := [], args := [] }

/- WHAT THE LISTED PACKAGE-LEVEL VARIABLES READ AS WHEN THE CALL BEGINS. Each datum BY PROGRAM (the guide's laid-datum.mjs) off the statement by which the dump's own 'gosem.cut.vars' lays the variable. In a bare row this is a premise. The card (YtnmmgalidkambaaGreatDoorCards.lean) ties it to the program's text. -/
def laid_math_bits_deBruijn64tab {H : Type} : DataW H := .agg [.lit (.int .u8 0), .lit (.int .u8 1), .lit (.int .u8 56), .lit (.int .u8 2), .lit (.int .u8 57), .lit (.int .u8 49), .lit (.int .u8 28), .lit (.int .u8 3), .lit (.int .u8 61), .lit (.int .u8 58), .lit (.int .u8 42), .lit (.int .u8 50), .lit (.int .u8 38), .lit (.int .u8 29), .lit (.int .u8 17), .lit (.int .u8 4), .lit (.int .u8 62), .lit (.int .u8 47), .lit (.int .u8 59), .lit (.int .u8 36), .lit (.int .u8 45), .lit (.int .u8 43), .lit (.int .u8 51), .lit (.int .u8 22), .lit (.int .u8 53), .lit (.int .u8 39), .lit (.int .u8 33), .lit (.int .u8 30), .lit (.int .u8 24), .lit (.int .u8 18), .lit (.int .u8 12), .lit (.int .u8 5), .lit (.int .u8 63), .lit (.int .u8 55), .lit (.int .u8 48), .lit (.int .u8 27), .lit (.int .u8 60), .lit (.int .u8 41), .lit (.int .u8 37), .lit (.int .u8 16), .lit (.int .u8 46), .lit (.int .u8 35), .lit (.int .u8 44), .lit (.int .u8 21), .lit (.int .u8 52), .lit (.int .u8 32), .lit (.int .u8 23), .lit (.int .u8 11), .lit (.int .u8 54), .lit (.int .u8 26), .lit (.int .u8 40), .lit (.int .u8 15), .lit (.int .u8 34), .lit (.int .u8 20), .lit (.int .u8 31), .lit (.int .u8 10), .lit (.int .u8 25), .lit (.int .u8 14), .lit (.int .u8 19), .lit (.int .u8 9), .lit (.int .u8 13), .lit (.int .u8 8), .lit (.int .u8 7), .lit (.int .u8 6)]

/-- 'laws.FnExactFirstTour': WHATEVER THE INPUT: true; the input reads as it did. -/
def fnExactFirstTourSpec : ChangeSpec := { name := "fnExactFirstTour", fn := fun _ => fun
  | [d1, d2] => { results := [.lit (.bool true)], args := [d1, d2] }
  | _ => none }
def fnExactFirstTourRow : OpenClaim := { program := "ytnmmgalidkambaagreatdoor", sum := "70350ffa17ff56e65302a3bc601c867a90c13aecba312d01447335b5ca991b69", func := "loop.example/g01239/laws.FnExactFirstTour", spec := "fnExactFirstTour", unfollowed := true, recurses := true, named := ["math/bits.deBruijn64tab"], plainKeys := false, apart := false, laid := [("math/bits.deBruijn64tab", laid_math_bits_deBruijn64tab)] }
def FnExactFirstTourSaid : Prop := fnExactFirstTourRow.holds Tryz.pinned (OpenSpec.ofChange fnExactFirstTourSpec)

/-- ITS FALSE NEIGHBOUR: 'it returns false'. Refute it at one input. -/
def fnExactFirstTourWrong : ChangeSpec := { name := "fnExactFirstTour", fn := fun _ => fun
  | [d1, d2] => { results := [.lit (.bool false)], args := [d1, d2] }
  | _ => none }
def FnExactFirstTourWrongFalsely : Prop := fnExactFirstTourRow.holds Tryz.pinned (OpenSpec.ofChange fnExactFirstTourWrong)

/-- 'laws.FnExactFirstTourFrom': WHATEVER THE INPUT: true; the input reads as it did. -/
def fnExactFirstTourFromSpec : ChangeSpec := { name := "fnExactFirstTourFrom", fn := fun _ => fun
  | [d1, d2, d3] => { results := [.lit (.bool true)], args := [d1, d2, d3] }
  | _ => none }
def fnExactFirstTourFromRow : OpenClaim := { program := "ytnmmgalidkambaagreatdoor", sum := "70350ffa17ff56e65302a3bc601c867a90c13aecba312d01447335b5ca991b69", func := "loop.example/g01239/laws.FnExactFirstTourFrom", spec := "fnExactFirstTourFrom", unfollowed := true, recurses := true, named := ["math/bits.deBruijn64tab"], plainKeys := false, apart := false, laid := [("math/bits.deBruijn64tab", laid_math_bits_deBruijn64tab)] }
def FnExactFirstTourFromSaid : Prop := fnExactFirstTourFromRow.holds Tryz.pinned (OpenSpec.ofChange fnExactFirstTourFromSpec)

/-- ITS FALSE NEIGHBOUR: 'it returns false'. Refute it at one input. -/
def fnExactFirstTourFromWrong : ChangeSpec := { name := "fnExactFirstTourFrom", fn := fun _ => fun
  | [d1, d2, d3] => { results := [.lit (.bool false)], args := [d1, d2, d3] }
  | _ => none }
def FnExactFirstTourFromWrongFalsely : Prop := fnExactFirstTourFromRow.holds Tryz.pinned (OpenSpec.ofChange fnExactFirstTourFromWrong)

/-- 'laws.FnExactCountToursFrom': WHATEVER THE INPUT: true; the input reads as it did. -/
def fnExactCountToursFromSpec : ChangeSpec := { name := "fnExactCountToursFrom", fn := fun _ => fun
  | [d1, d2, d3] => { results := [.lit (.bool true)], args := [d1, d2, d3] }
  | _ => none }
def fnExactCountToursFromRow : OpenClaim := { program := "ytnmmgalidkambaagreatdoor", sum := "70350ffa17ff56e65302a3bc601c867a90c13aecba312d01447335b5ca991b69", func := "loop.example/g01239/laws.FnExactCountToursFrom", spec := "fnExactCountToursFrom", unfollowed := true, recurses := true, named := ["math/bits.deBruijn64tab"], plainKeys := false, apart := false, laid := [("math/bits.deBruijn64tab", laid_math_bits_deBruijn64tab)] }
def FnExactCountToursFromSaid : Prop := fnExactCountToursFromRow.holds Tryz.pinned (OpenSpec.ofChange fnExactCountToursFromSpec)

/-- ITS FALSE NEIGHBOUR: 'it returns false'. Refute it at one input. -/
def fnExactCountToursFromWrong : ChangeSpec := { name := "fnExactCountToursFrom", fn := fun _ => fun
  | [d1, d2, d3] => { results := [.lit (.bool false)], args := [d1, d2, d3] }
  | _ => none }
def FnExactCountToursFromWrongFalsely : Prop := fnExactCountToursFromRow.holds Tryz.pinned (OpenSpec.ofChange fnExactCountToursFromWrong)

/-- 'laws.FnExactCountTours': WHATEVER THE INPUT: true; the input reads as it did. -/
def fnExactCountToursSpec : ChangeSpec := { name := "fnExactCountTours", fn := fun _ => fun
  | [d1, d2] => { results := [.lit (.bool true)], args := [d1, d2] }
  | _ => none }
def fnExactCountToursRow : OpenClaim := { program := "ytnmmgalidkambaagreatdoor", sum := "70350ffa17ff56e65302a3bc601c867a90c13aecba312d01447335b5ca991b69", func := "loop.example/g01239/laws.FnExactCountTours", spec := "fnExactCountTours", unfollowed := true, recurses := true, named := ["math/bits.deBruijn64tab"], plainKeys := false, apart := false, laid := [("math/bits.deBruijn64tab", laid_math_bits_deBruijn64tab)] }
def FnExactCountToursSaid : Prop := fnExactCountToursRow.holds Tryz.pinned (OpenSpec.ofChange fnExactCountToursSpec)

/-- ITS FALSE NEIGHBOUR: 'it returns false'. Refute it at one input. -/
def fnExactCountToursWrong : ChangeSpec := { name := "fnExactCountTours", fn := fun _ => fun
  | [d1, d2] => { results := [.lit (.bool false)], args := [d1, d2] }
  | _ => none }
def FnExactCountToursWrongFalsely : Prop := fnExactCountToursRow.holds Tryz.pinned (OpenSpec.ofChange fnExactCountToursWrong)

/-- 'laws.FnExactFirstClosedTour': WHATEVER THE INPUT: true; the input reads as it did. -/
def fnExactFirstClosedTourSpec : ChangeSpec := { name := "fnExactFirstClosedTour", fn := fun _ => fun
  | [d1, d2] => { results := [.lit (.bool true)], args := [d1, d2] }
  | _ => none }
def fnExactFirstClosedTourRow : OpenClaim := { program := "ytnmmgalidkambaagreatdoor", sum := "70350ffa17ff56e65302a3bc601c867a90c13aecba312d01447335b5ca991b69", func := "loop.example/g01239/laws.FnExactFirstClosedTour", spec := "fnExactFirstClosedTour", unfollowed := true, recurses := true, named := ["math/bits.deBruijn64tab"], plainKeys := false, apart := false, laid := [("math/bits.deBruijn64tab", laid_math_bits_deBruijn64tab)] }
def FnExactFirstClosedTourSaid : Prop := fnExactFirstClosedTourRow.holds Tryz.pinned (OpenSpec.ofChange fnExactFirstClosedTourSpec)

/-- ITS FALSE NEIGHBOUR: 'it returns false'. Refute it at one input. -/
def fnExactFirstClosedTourWrong : ChangeSpec := { name := "fnExactFirstClosedTour", fn := fun _ => fun
  | [d1, d2] => { results := [.lit (.bool false)], args := [d1, d2] }
  | _ => none }
def FnExactFirstClosedTourWrongFalsely : Prop := fnExactFirstClosedTourRow.holds Tryz.pinned (OpenSpec.ofChange fnExactFirstClosedTourWrong)

/-- 'laws.FnExactCountClosedTours': WHATEVER THE INPUT: true; the input reads as it did. -/
def fnExactCountClosedToursSpec : ChangeSpec := { name := "fnExactCountClosedTours", fn := fun _ => fun
  | [d1, d2] => { results := [.lit (.bool true)], args := [d1, d2] }
  | _ => none }
def fnExactCountClosedToursRow : OpenClaim := { program := "ytnmmgalidkambaagreatdoor", sum := "70350ffa17ff56e65302a3bc601c867a90c13aecba312d01447335b5ca991b69", func := "loop.example/g01239/laws.FnExactCountClosedTours", spec := "fnExactCountClosedTours", unfollowed := true, recurses := true, named := ["math/bits.deBruijn64tab"], plainKeys := false, apart := false, laid := [("math/bits.deBruijn64tab", laid_math_bits_deBruijn64tab)] }
def FnExactCountClosedToursSaid : Prop := fnExactCountClosedToursRow.holds Tryz.pinned (OpenSpec.ofChange fnExactCountClosedToursSpec)

/-- ITS FALSE NEIGHBOUR: 'it returns false'. Refute it at one input. -/
def fnExactCountClosedToursWrong : ChangeSpec := { name := "fnExactCountClosedTours", fn := fun _ => fun
  | [d1, d2] => { results := [.lit (.bool false)], args := [d1, d2] }
  | _ => none }
def FnExactCountClosedToursWrongFalsely : Prop := fnExactCountClosedToursRow.holds Tryz.pinned (OpenSpec.ofChange fnExactCountClosedToursWrong)

/-- 'laws.FnExactLongestWalk': WHATEVER THE INPUT: true; the input reads as it did. -/
def fnExactLongestWalkSpec : ChangeSpec := { name := "fnExactLongestWalk", fn := fun _ => fun
  | [d1, d2] => { results := [.lit (.bool true)], args := [d1, d2] }
  | _ => none }
def fnExactLongestWalkRow : OpenClaim := { program := "ytnmmgalidkambaagreatdoor", sum := "70350ffa17ff56e65302a3bc601c867a90c13aecba312d01447335b5ca991b69", func := "loop.example/g01239/laws.FnExactLongestWalk", spec := "fnExactLongestWalk", unfollowed := true, recurses := true, named := ["math/bits.deBruijn64tab"], plainKeys := false, apart := false, laid := [("math/bits.deBruijn64tab", laid_math_bits_deBruijn64tab)] }
def FnExactLongestWalkSaid : Prop := fnExactLongestWalkRow.holds Tryz.pinned (OpenSpec.ofChange fnExactLongestWalkSpec)

/-- ITS FALSE NEIGHBOUR: 'it returns false'. Refute it at one input. -/
def fnExactLongestWalkWrong : ChangeSpec := { name := "fnExactLongestWalk", fn := fun _ => fun
  | [d1, d2] => { results := [.lit (.bool false)], args := [d1, d2] }
  | _ => none }
def FnExactLongestWalkWrongFalsely : Prop := fnExactLongestWalkRow.holds Tryz.pinned (OpenSpec.ofChange fnExactLongestWalkWrong)

/- THE SECOND FORM. 'bulk': how many values and letters a reading holds, each counted each time it is reached (what is shared counts as often as it is met; a slice's spare places count too). A statement '..UptoSaid' is the law's where the arguments, and the package variables that the reading takes, are together of bulk at most 1048576: NARROWER than '..Said'. Prove '..Said' where nothing that the law and all that it calls make is longer than what came in: it says more and counts as full. Else prove '..UptoSaid'. A law counts once. -/
mutual
def uptoBulk {H : Type} : DataW H → Nat
  | .lit (.string bytes) => bytes.length + 1
  | .lit _ => 1
  | .nil => 1
  | .ptr d => uptoBulk d + 1
  | .slice elems spare => uptoBulkAll elems + uptoBulkAll spare + 1
  | .agg parts => uptoBulkAll parts + 1
  | .iface _ d => uptoBulk d + 1
  | .map entries => uptoBulkEntries entries + 1
  | .held _ => 1
def uptoBulkAll {H : Type} : List (DataW H) → Nat
  | [] => 0
  | d :: r => uptoBulk d + uptoBulkAll r
def uptoBulkEntries {H : Type} : List (Lit × DataW H) → Nat
  | [] => 0
  | x :: r => uptoBulkEntry x + uptoBulkEntries r
def uptoBulkEntry {H : Type} : Lit × DataW H → Nat
  | (.string bytes, d) => bytes.length + uptoBulk d + 1
  | (_, d) => uptoBulk d + 1
 end
def uptoSmall : (H : Type) → List (DataW H) → Bool := fun _ ds => decide (uptoBulkAll ds ≤ 1048576)
def OpenSpec.upto (s : _root_.Go.ChangeSpec) : _root_.Go.OpenSpec := { _root_.Go.OpenSpec.ofChange s with cond := some uptoSmall }

/-- 'laws.FnExactFirstTour', WHERE WHAT IT READS IS OF BULK AT MOST 1048576: true; the input reads as it did. -/
def fnExactFirstTourUptoRow : OpenClaim := { program := "ytnmmgalidkambaagreatdoor", sum := "70350ffa17ff56e65302a3bc601c867a90c13aecba312d01447335b5ca991b69", func := "loop.example/g01239/laws.FnExactFirstTour", spec := "fnExactFirstTour", unfollowed := true, recurses := true, named := ["math/bits.deBruijn64tab"], plainKeys := false, apart := false, laid := [("math/bits.deBruijn64tab", laid_math_bits_deBruijn64tab)], narrowed := true }
def FnExactFirstTourUptoSaid : Prop := fnExactFirstTourUptoRow.holds Tryz.pinned (OpenSpec.upto fnExactFirstTourSpec)

/-- 'laws.FnExactFirstTourFrom', WHERE WHAT IT READS IS OF BULK AT MOST 1048576: true; the input reads as it did. -/
def fnExactFirstTourFromUptoRow : OpenClaim := { program := "ytnmmgalidkambaagreatdoor", sum := "70350ffa17ff56e65302a3bc601c867a90c13aecba312d01447335b5ca991b69", func := "loop.example/g01239/laws.FnExactFirstTourFrom", spec := "fnExactFirstTourFrom", unfollowed := true, recurses := true, named := ["math/bits.deBruijn64tab"], plainKeys := false, apart := false, laid := [("math/bits.deBruijn64tab", laid_math_bits_deBruijn64tab)], narrowed := true }
def FnExactFirstTourFromUptoSaid : Prop := fnExactFirstTourFromUptoRow.holds Tryz.pinned (OpenSpec.upto fnExactFirstTourFromSpec)

/-- 'laws.FnExactCountToursFrom', WHERE WHAT IT READS IS OF BULK AT MOST 1048576: true; the input reads as it did. -/
def fnExactCountToursFromUptoRow : OpenClaim := { program := "ytnmmgalidkambaagreatdoor", sum := "70350ffa17ff56e65302a3bc601c867a90c13aecba312d01447335b5ca991b69", func := "loop.example/g01239/laws.FnExactCountToursFrom", spec := "fnExactCountToursFrom", unfollowed := true, recurses := true, named := ["math/bits.deBruijn64tab"], plainKeys := false, apart := false, laid := [("math/bits.deBruijn64tab", laid_math_bits_deBruijn64tab)], narrowed := true }
def FnExactCountToursFromUptoSaid : Prop := fnExactCountToursFromUptoRow.holds Tryz.pinned (OpenSpec.upto fnExactCountToursFromSpec)

/-- 'laws.FnExactCountTours', WHERE WHAT IT READS IS OF BULK AT MOST 1048576: true; the input reads as it did. -/
def fnExactCountToursUptoRow : OpenClaim := { program := "ytnmmgalidkambaagreatdoor", sum := "70350ffa17ff56e65302a3bc601c867a90c13aecba312d01447335b5ca991b69", func := "loop.example/g01239/laws.FnExactCountTours", spec := "fnExactCountTours", unfollowed := true, recurses := true, named := ["math/bits.deBruijn64tab"], plainKeys := false, apart := false, laid := [("math/bits.deBruijn64tab", laid_math_bits_deBruijn64tab)], narrowed := true }
def FnExactCountToursUptoSaid : Prop := fnExactCountToursUptoRow.holds Tryz.pinned (OpenSpec.upto fnExactCountToursSpec)

/-- 'laws.FnExactFirstClosedTour', WHERE WHAT IT READS IS OF BULK AT MOST 1048576: true; the input reads as it did. -/
def fnExactFirstClosedTourUptoRow : OpenClaim := { program := "ytnmmgalidkambaagreatdoor", sum := "70350ffa17ff56e65302a3bc601c867a90c13aecba312d01447335b5ca991b69", func := "loop.example/g01239/laws.FnExactFirstClosedTour", spec := "fnExactFirstClosedTour", unfollowed := true, recurses := true, named := ["math/bits.deBruijn64tab"], plainKeys := false, apart := false, laid := [("math/bits.deBruijn64tab", laid_math_bits_deBruijn64tab)], narrowed := true }
def FnExactFirstClosedTourUptoSaid : Prop := fnExactFirstClosedTourUptoRow.holds Tryz.pinned (OpenSpec.upto fnExactFirstClosedTourSpec)

/-- 'laws.FnExactCountClosedTours', WHERE WHAT IT READS IS OF BULK AT MOST 1048576: true; the input reads as it did. -/
def fnExactCountClosedToursUptoRow : OpenClaim := { program := "ytnmmgalidkambaagreatdoor", sum := "70350ffa17ff56e65302a3bc601c867a90c13aecba312d01447335b5ca991b69", func := "loop.example/g01239/laws.FnExactCountClosedTours", spec := "fnExactCountClosedTours", unfollowed := true, recurses := true, named := ["math/bits.deBruijn64tab"], plainKeys := false, apart := false, laid := [("math/bits.deBruijn64tab", laid_math_bits_deBruijn64tab)], narrowed := true }
def FnExactCountClosedToursUptoSaid : Prop := fnExactCountClosedToursUptoRow.holds Tryz.pinned (OpenSpec.upto fnExactCountClosedToursSpec)

/-- 'laws.FnExactLongestWalk', WHERE WHAT IT READS IS OF BULK AT MOST 1048576: true; the input reads as it did. -/
def fnExactLongestWalkUptoRow : OpenClaim := { program := "ytnmmgalidkambaagreatdoor", sum := "70350ffa17ff56e65302a3bc601c867a90c13aecba312d01447335b5ca991b69", func := "loop.example/g01239/laws.FnExactLongestWalk", spec := "fnExactLongestWalk", unfollowed := true, recurses := true, named := ["math/bits.deBruijn64tab"], plainKeys := false, apart := false, laid := [("math/bits.deBruijn64tab", laid_math_bits_deBruijn64tab)], narrowed := true }
def FnExactLongestWalkUptoSaid : Prop := fnExactLongestWalkUptoRow.holds Tryz.pinned (OpenSpec.upto fnExactLongestWalkSpec)

end Rows
end Go.Proofs.YtnmmgalidkambaaGreatDoor
