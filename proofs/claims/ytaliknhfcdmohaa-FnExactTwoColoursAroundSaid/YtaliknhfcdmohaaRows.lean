/-
  No cell of these rows narrows 'for every input' (looked for: loops, veiled, ifaces, maps, wideKeys, modest, calm, conditions, laid).
  DERIVED. THE GIVEN ROWS OF THIS SEAT. 14 by the template 'for every input the law returns true; each argument reads behind the call as it read before'; 0 by the template 'total and deterministic' (their statements: YtaliknhfcdmohaaTotals.lean).
  GIVEN WITH THE SEED: the statements are not yours to turn. If you find one false, say at which input.
  Laid BY PROGRAM, IN A SANDBOX (cutbox-rows.mjs): the forced cells as the released guide's own fill.sh prints them over the translation 5497957f7023a6b3… (all of the seat's roots in one cut). By AI agents, Wed Nov 11 2026. No macro, syntax, notation, axiom, sorry.
-/
import Derived.Test.YtaliknhfcdmohaaChecked
import GoSem.Claim
import GoSem.ClaimJoined
import GoSem.ClaimMapViews
import Derived.JoinedTies
import Derived.KernelRfl
namespace Go.Proofs.Ytaliknhfcdmohaa
/- THE CELL 'sum', in the pinned program and in every row, IS THE sha256 OF THE DUMP (.gsa) THAT YtaliknhfcdmohaaProg.lean LOADS. Nothing in Lean hashes anything: it is a label: what it is worth is what the hold of that sum in a sandbox is worth. -/
noncomputable def Try.pinned : Pinned := { name := "ytaliknhfcdmohaa", sum := "5497957f7023a6b3ea486814afc8cd921ed3e1e8b40177dc24077d9621dc3e09", checked := Try.checked }
namespace Rows
def none {H : Type} : Left H := { results := [], args := [] }

/-- 'laws.FnExactIsAround': WHATEVER THE INPUT: true; the input reads as it did. -/
def fnExactIsAroundSpec : ChangeSpec := { name := "fnExactIsAround", fn := fun _ => fun
  | [d] => { results := [.lit (.bool true)], args := [d] }
  | _ => none }
def fnExactIsAroundRow : OpenClaim := { program := "ytaliknhfcdmohaa", sum := "5497957f7023a6b3ea486814afc8cd921ed3e1e8b40177dc24077d9621dc3e09", func := "loop.example/g01239/laws.FnExactIsAround", spec := "fnExactIsAround", apart := false }
def FnExactIsAroundSaid : Prop := fnExactIsAroundRow.holds Try.pinned (OpenSpec.ofChange fnExactIsAroundSpec)

/-- ITS FALSE NEIGHBOUR: 'it returns false'. Refute it at one input. -/
def fnExactIsAroundWrong : ChangeSpec := { name := "fnExactIsAround", fn := fun _ => fun
  | [d] => { results := [.lit (.bool false)], args := [d] }
  | _ => none }
def FnExactIsAroundWrongFalsely : Prop := fnExactIsAroundRow.holds Try.pinned (OpenSpec.ofChange fnExactIsAroundWrong)

/-- 'laws.FnExactStepAround': WHATEVER THE INPUT: true; the input reads as it did. -/
def fnExactStepAroundSpec : ChangeSpec := { name := "fnExactStepAround", fn := fun _ => fun
  | [d1, d2, d3, d4] => { results := [.lit (.bool true)], args := [d1, d2, d3, d4] }
  | _ => none }
def fnExactStepAroundRow : OpenClaim := { program := "ytaliknhfcdmohaa", sum := "5497957f7023a6b3ea486814afc8cd921ed3e1e8b40177dc24077d9621dc3e09", func := "loop.example/g01239/laws.FnExactStepAround", spec := "fnExactStepAround", unfollowed := true, recurses := true, apart := false }
def FnExactStepAroundSaid : Prop := fnExactStepAroundRow.holds Try.pinned (OpenSpec.ofChange fnExactStepAroundSpec)

/-- ITS FALSE NEIGHBOUR: 'it returns false'. Refute it at one input. -/
def fnExactStepAroundWrong : ChangeSpec := { name := "fnExactStepAround", fn := fun _ => fun
  | [d1, d2, d3, d4] => { results := [.lit (.bool false)], args := [d1, d2, d3, d4] }
  | _ => none }
def FnExactStepAroundWrongFalsely : Prop := fnExactStepAroundRow.holds Try.pinned (OpenSpec.ofChange fnExactStepAroundWrong)

/-- 'laws.FnExactLeapsAround': WHATEVER THE INPUT: true; the input reads as it did. -/
def fnExactLeapsAroundSpec : ChangeSpec := { name := "fnExactLeapsAround", fn := fun _ => fun
  | [d1, d2, d3] => { results := [.lit (.bool true)], args := [d1, d2, d3] }
  | _ => none }
def fnExactLeapsAroundRow : OpenClaim := { program := "ytaliknhfcdmohaa", sum := "5497957f7023a6b3ea486814afc8cd921ed3e1e8b40177dc24077d9621dc3e09", func := "loop.example/g01239/laws.FnExactLeapsAround", spec := "fnExactLeapsAround", unfollowed := true, recurses := true, apart := false }
def FnExactLeapsAroundSaid : Prop := fnExactLeapsAroundRow.holds Try.pinned (OpenSpec.ofChange fnExactLeapsAroundSpec)

/-- ITS FALSE NEIGHBOUR: 'it returns false'. Refute it at one input. -/
def fnExactLeapsAroundWrong : ChangeSpec := { name := "fnExactLeapsAround", fn := fun _ => fun
  | [d1, d2, d3] => { results := [.lit (.bool false)], args := [d1, d2, d3] }
  | _ => none }
def FnExactLeapsAroundWrongFalsely : Prop := fnExactLeapsAroundRow.holds Try.pinned (OpenSpec.ofChange fnExactLeapsAroundWrong)

/-- 'laws.FnExactCountLeapsAround': WHATEVER THE INPUT: true; the input reads as it did. -/
def fnExactCountLeapsAroundSpec : ChangeSpec := { name := "fnExactCountLeapsAround", fn := fun _ => fun
  | [d1, d2] => { results := [.lit (.bool true)], args := [d1, d2] }
  | _ => none }
def fnExactCountLeapsAroundRow : OpenClaim := { program := "ytaliknhfcdmohaa", sum := "5497957f7023a6b3ea486814afc8cd921ed3e1e8b40177dc24077d9621dc3e09", func := "loop.example/g01239/laws.FnExactCountLeapsAround", spec := "fnExactCountLeapsAround", unfollowed := true, recurses := true, apart := false }
def FnExactCountLeapsAroundSaid : Prop := fnExactCountLeapsAroundRow.holds Try.pinned (OpenSpec.ofChange fnExactCountLeapsAroundSpec)

/-- ITS FALSE NEIGHBOUR: 'it returns false'. Refute it at one input. -/
def fnExactCountLeapsAroundWrong : ChangeSpec := { name := "fnExactCountLeapsAround", fn := fun _ => fun
  | [d1, d2] => { results := [.lit (.bool false)], args := [d1, d2] }
  | _ => none }
def FnExactCountLeapsAroundWrongFalsely : Prop := fnExactCountLeapsAroundRow.holds Try.pinned (OpenSpec.ofChange fnExactCountLeapsAroundWrong)

/-- 'laws.FnExactSameDegree': WHATEVER THE INPUT: true; the input reads as it did. -/
def fnExactSameDegreeSpec : ChangeSpec := { name := "fnExactSameDegree", fn := fun _ => fun
  | [d1, d2] => { results := [.lit (.bool true)], args := [d1, d2] }
  | _ => none }
def fnExactSameDegreeRow : OpenClaim := { program := "ytaliknhfcdmohaa", sum := "5497957f7023a6b3ea486814afc8cd921ed3e1e8b40177dc24077d9621dc3e09", func := "loop.example/g01239/laws.FnExactSameDegree", spec := "fnExactSameDegree", unfollowed := true, recurses := true, apart := false }
def FnExactSameDegreeSaid : Prop := fnExactSameDegreeRow.holds Try.pinned (OpenSpec.ofChange fnExactSameDegreeSpec)

/-- ITS FALSE NEIGHBOUR: 'it returns false'. Refute it at one input. -/
def fnExactSameDegreeWrong : ChangeSpec := { name := "fnExactSameDegree", fn := fun _ => fun
  | [d1, d2] => { results := [.lit (.bool false)], args := [d1, d2] }
  | _ => none }
def FnExactSameDegreeWrongFalsely : Prop := fnExactSameDegreeRow.holds Try.pinned (OpenSpec.ofChange fnExactSameDegreeWrong)

/-- 'laws.FnExactDistanceAround': WHATEVER THE INPUT: true; the input reads as it did. -/
def fnExactDistanceAroundSpec : ChangeSpec := { name := "fnExactDistanceAround", fn := fun _ => fun
  | [d1, d2, d3, d4] => { results := [.lit (.bool true)], args := [d1, d2, d3, d4] }
  | _ => none }
def fnExactDistanceAroundRow : OpenClaim := { program := "ytaliknhfcdmohaa", sum := "5497957f7023a6b3ea486814afc8cd921ed3e1e8b40177dc24077d9621dc3e09", func := "loop.example/g01239/laws.FnExactDistanceAround", spec := "fnExactDistanceAround", unfollowed := true, recurses := true, apart := false }
def FnExactDistanceAroundSaid : Prop := fnExactDistanceAroundRow.holds Try.pinned (OpenSpec.ofChange fnExactDistanceAroundSpec)

/-- ITS FALSE NEIGHBOUR: 'it returns false'. Refute it at one input. -/
def fnExactDistanceAroundWrong : ChangeSpec := { name := "fnExactDistanceAround", fn := fun _ => fun
  | [d1, d2, d3, d4] => { results := [.lit (.bool false)], args := [d1, d2, d3, d4] }
  | _ => none }
def FnExactDistanceAroundWrongFalsely : Prop := fnExactDistanceAroundRow.holds Try.pinned (OpenSpec.ofChange fnExactDistanceAroundWrong)

/-- 'laws.FnExactCountByAround': WHATEVER THE INPUT: true; the input reads as it did. -/
def fnExactCountByAroundSpec : ChangeSpec := { name := "fnExactCountByAround", fn := fun _ => fun
  | [d1, d2, d3] => { results := [.lit (.bool true)], args := [d1, d2, d3] }
  | _ => none }
def fnExactCountByAroundRow : OpenClaim := { program := "ytaliknhfcdmohaa", sum := "5497957f7023a6b3ea486814afc8cd921ed3e1e8b40177dc24077d9621dc3e09", func := "loop.example/g01239/laws.FnExactCountByAround", spec := "fnExactCountByAround", unfollowed := true, recurses := true, apart := false }
def FnExactCountByAroundSaid : Prop := fnExactCountByAroundRow.holds Try.pinned (OpenSpec.ofChange fnExactCountByAroundSpec)

/-- ITS FALSE NEIGHBOUR: 'it returns false'. Refute it at one input. -/
def fnExactCountByAroundWrong : ChangeSpec := { name := "fnExactCountByAround", fn := fun _ => fun
  | [d1, d2, d3] => { results := [.lit (.bool false)], args := [d1, d2, d3] }
  | _ => none }
def FnExactCountByAroundWrongFalsely : Prop := fnExactCountByAroundRow.holds Try.pinned (OpenSpec.ofChange fnExactCountByAroundWrong)

/-- 'laws.FnExactCountParts': WHATEVER THE INPUT: true; the input reads as it did. -/
def fnExactCountPartsSpec : ChangeSpec := { name := "fnExactCountParts", fn := fun _ => fun
  | [d1, d2] => { results := [.lit (.bool true)], args := [d1, d2] }
  | _ => none }
def fnExactCountPartsRow : OpenClaim := { program := "ytaliknhfcdmohaa", sum := "5497957f7023a6b3ea486814afc8cd921ed3e1e8b40177dc24077d9621dc3e09", func := "loop.example/g01239/laws.FnExactCountParts", spec := "fnExactCountParts", unfollowed := true, recurses := true, apart := false }
def FnExactCountPartsSaid : Prop := fnExactCountPartsRow.holds Try.pinned (OpenSpec.ofChange fnExactCountPartsSpec)

/-- ITS FALSE NEIGHBOUR: 'it returns false'. Refute it at one input. -/
def fnExactCountPartsWrong : ChangeSpec := { name := "fnExactCountParts", fn := fun _ => fun
  | [d1, d2] => { results := [.lit (.bool false)], args := [d1, d2] }
  | _ => none }
def FnExactCountPartsWrongFalsely : Prop := fnExactCountPartsRow.holds Try.pinned (OpenSpec.ofChange fnExactCountPartsWrong)

/-- 'laws.FnExactOrbitLength': WHATEVER THE INPUT: true; the input reads as it did. -/
def fnExactOrbitLengthSpec : ChangeSpec := { name := "fnExactOrbitLength", fn := fun _ => fun
  | [d1, d2, d3] => { results := [.lit (.bool true)], args := [d1, d2, d3] }
  | _ => none }
def fnExactOrbitLengthRow : OpenClaim := { program := "ytaliknhfcdmohaa", sum := "5497957f7023a6b3ea486814afc8cd921ed3e1e8b40177dc24077d9621dc3e09", func := "loop.example/g01239/laws.FnExactOrbitLength", spec := "fnExactOrbitLength", unfollowed := true, recurses := true, apart := false }
def FnExactOrbitLengthSaid : Prop := fnExactOrbitLengthRow.holds Try.pinned (OpenSpec.ofChange fnExactOrbitLengthSpec)

/-- ITS FALSE NEIGHBOUR: 'it returns false'. Refute it at one input. -/
def fnExactOrbitLengthWrong : ChangeSpec := { name := "fnExactOrbitLength", fn := fun _ => fun
  | [d1, d2, d3] => { results := [.lit (.bool false)], args := [d1, d2, d3] }
  | _ => none }
def FnExactOrbitLengthWrongFalsely : Prop := fnExactOrbitLengthRow.holds Try.pinned (OpenSpec.ofChange fnExactOrbitLengthWrong)

/-- 'laws.FnExactCountOrbits': WHATEVER THE INPUT: true; the input reads as it did. -/
def fnExactCountOrbitsSpec : ChangeSpec := { name := "fnExactCountOrbits", fn := fun _ => fun
  | [d1, d2, d3] => { results := [.lit (.bool true)], args := [d1, d2, d3] }
  | _ => none }
def fnExactCountOrbitsRow : OpenClaim := { program := "ytaliknhfcdmohaa", sum := "5497957f7023a6b3ea486814afc8cd921ed3e1e8b40177dc24077d9621dc3e09", func := "loop.example/g01239/laws.FnExactCountOrbits", spec := "fnExactCountOrbits", unfollowed := true, recurses := true, apart := false }
def FnExactCountOrbitsSaid : Prop := fnExactCountOrbitsRow.holds Try.pinned (OpenSpec.ofChange fnExactCountOrbitsSpec)

/-- ITS FALSE NEIGHBOUR: 'it returns false'. Refute it at one input. -/
def fnExactCountOrbitsWrong : ChangeSpec := { name := "fnExactCountOrbits", fn := fun _ => fun
  | [d1, d2, d3] => { results := [.lit (.bool false)], args := [d1, d2, d3] }
  | _ => none }
def FnExactCountOrbitsWrongFalsely : Prop := fnExactCountOrbitsRow.holds Try.pinned (OpenSpec.ofChange fnExactCountOrbitsWrong)

/-- 'laws.FnExactTwoSteps': WHATEVER THE INPUT: true; the input reads as it did. -/
def fnExactTwoStepsSpec : ChangeSpec := { name := "fnExactTwoSteps", fn := fun _ => fun
  | [d1, d2, d3, d4, d5] => { results := [.lit (.bool true)], args := [d1, d2, d3, d4, d5] }
  | _ => none }
def fnExactTwoStepsRow : OpenClaim := { program := "ytaliknhfcdmohaa", sum := "5497957f7023a6b3ea486814afc8cd921ed3e1e8b40177dc24077d9621dc3e09", func := "loop.example/g01239/laws.FnExactTwoSteps", spec := "fnExactTwoSteps", unfollowed := true, recurses := true, apart := false }
def FnExactTwoStepsSaid : Prop := fnExactTwoStepsRow.holds Try.pinned (OpenSpec.ofChange fnExactTwoStepsSpec)

/-- ITS FALSE NEIGHBOUR: 'it returns false'. Refute it at one input. -/
def fnExactTwoStepsWrong : ChangeSpec := { name := "fnExactTwoSteps", fn := fun _ => fun
  | [d1, d2, d3, d4, d5] => { results := [.lit (.bool false)], args := [d1, d2, d3, d4, d5] }
  | _ => none }
def FnExactTwoStepsWrongFalsely : Prop := fnExactTwoStepsRow.holds Try.pinned (OpenSpec.ofChange fnExactTwoStepsWrong)

/-- 'laws.FnExactVisitsAll': WHATEVER THE INPUT: true; the input reads as it did. -/
def fnExactVisitsAllSpec : ChangeSpec := { name := "fnExactVisitsAll", fn := fun _ => fun
  | [d1, d2, d3, d4, d5] => { results := [.lit (.bool true)], args := [d1, d2, d3, d4, d5] }
  | _ => none }
def fnExactVisitsAllRow : OpenClaim := { program := "ytaliknhfcdmohaa", sum := "5497957f7023a6b3ea486814afc8cd921ed3e1e8b40177dc24077d9621dc3e09", func := "loop.example/g01239/laws.FnExactVisitsAll", spec := "fnExactVisitsAll", unfollowed := true, recurses := true, apart := false }
def FnExactVisitsAllSaid : Prop := fnExactVisitsAllRow.holds Try.pinned (OpenSpec.ofChange fnExactVisitsAllSpec)

/-- ITS FALSE NEIGHBOUR: 'it returns false'. Refute it at one input. -/
def fnExactVisitsAllWrong : ChangeSpec := { name := "fnExactVisitsAll", fn := fun _ => fun
  | [d1, d2, d3, d4, d5] => { results := [.lit (.bool false)], args := [d1, d2, d3, d4, d5] }
  | _ => none }
def FnExactVisitsAllWrongFalsely : Prop := fnExactVisitsAllRow.holds Try.pinned (OpenSpec.ofChange fnExactVisitsAllWrong)

/-- 'laws.FnExactFirstTwoSteps': WHATEVER THE INPUT: true; the input reads as it did. -/
def fnExactFirstTwoStepsSpec : ChangeSpec := { name := "fnExactFirstTwoSteps", fn := fun _ => fun
  | [d1, d2] => { results := [.lit (.bool true)], args := [d1, d2] }
  | _ => none }
def fnExactFirstTwoStepsRow : OpenClaim := { program := "ytaliknhfcdmohaa", sum := "5497957f7023a6b3ea486814afc8cd921ed3e1e8b40177dc24077d9621dc3e09", func := "loop.example/g01239/laws.FnExactFirstTwoSteps", spec := "fnExactFirstTwoSteps", unfollowed := true, recurses := true, apart := false }
def FnExactFirstTwoStepsSaid : Prop := fnExactFirstTwoStepsRow.holds Try.pinned (OpenSpec.ofChange fnExactFirstTwoStepsSpec)

/-- ITS FALSE NEIGHBOUR: 'it returns false'. Refute it at one input. -/
def fnExactFirstTwoStepsWrong : ChangeSpec := { name := "fnExactFirstTwoSteps", fn := fun _ => fun
  | [d1, d2] => { results := [.lit (.bool false)], args := [d1, d2] }
  | _ => none }
def FnExactFirstTwoStepsWrongFalsely : Prop := fnExactFirstTwoStepsRow.holds Try.pinned (OpenSpec.ofChange fnExactFirstTwoStepsWrong)

/-- 'laws.FnExactTwoColoursAround': WHATEVER THE INPUT: true; the input reads as it did. -/
def fnExactTwoColoursAroundSpec : ChangeSpec := { name := "fnExactTwoColoursAround", fn := fun _ => fun
  | [d1, d2] => { results := [.lit (.bool true)], args := [d1, d2] }
  | _ => none }
def fnExactTwoColoursAroundRow : OpenClaim := { program := "ytaliknhfcdmohaa", sum := "5497957f7023a6b3ea486814afc8cd921ed3e1e8b40177dc24077d9621dc3e09", func := "loop.example/g01239/laws.FnExactTwoColoursAround", spec := "fnExactTwoColoursAround", unfollowed := true, recurses := true, apart := false }
def FnExactTwoColoursAroundSaid : Prop := fnExactTwoColoursAroundRow.holds Try.pinned (OpenSpec.ofChange fnExactTwoColoursAroundSpec)

/-- ITS FALSE NEIGHBOUR: 'it returns false'. Refute it at one input. -/
def fnExactTwoColoursAroundWrong : ChangeSpec := { name := "fnExactTwoColoursAround", fn := fun _ => fun
  | [d1, d2] => { results := [.lit (.bool false)], args := [d1, d2] }
  | _ => none }
def FnExactTwoColoursAroundWrongFalsely : Prop := fnExactTwoColoursAroundRow.holds Try.pinned (OpenSpec.ofChange fnExactTwoColoursAroundWrong)

/- THE SECOND FORM. 'bulk': how many values and letters a reading holds, each counted each time it is reached (what is shared counts as often as it is met; a slice's spare places count too). A statement '..UptoSaid' is the law's where the arguments, and the package variables that the reading takes, are together of bulk at most 1048576: NARROWER than '..Said'. Prove '..Said' where nothing that the law and all that it calls make is longer than what came in: it says more and counts as full. Else prove '..UptoSaid'. A law counts once. -/
mutual
def uptoBulk {H : Type} : DataW H → Nat
  | .lit (.string bytes) => bytes.length + 1
  | .lit _ => 1
  | .nil => 1
  | .ptr d => uptoBulk d + 1
  | .slice elems spare => uptoBulkAll elems + uptoBulkAll spare + 1
  | .agg parts => uptoBulkAll parts + 1
  | .iface _ d => uptoBulk d + 1
  | .map entries => uptoBulkEntries entries + 1
  | .held _ => 1
def uptoBulkAll {H : Type} : List (DataW H) → Nat
  | [] => 0
  | d :: r => uptoBulk d + uptoBulkAll r
def uptoBulkEntries {H : Type} : List (Lit × DataW H) → Nat
  | [] => 0
  | x :: r => uptoBulkEntry x + uptoBulkEntries r
def uptoBulkEntry {H : Type} : Lit × DataW H → Nat
  | (.string bytes, d) => bytes.length + uptoBulk d + 1
  | (_, d) => uptoBulk d + 1
 end
def uptoSmall : (H : Type) → List (DataW H) → Bool := fun _ ds => decide (uptoBulkAll ds ≤ 1048576)
def OpenSpec.upto (s : _root_.Go.ChangeSpec) : _root_.Go.OpenSpec := { _root_.Go.OpenSpec.ofChange s with cond := some uptoSmall }

/-- 'laws.FnExactIsAround', WHERE WHAT IT READS IS OF BULK AT MOST 1048576: true; the input reads as it did. -/
def fnExactIsAroundUptoRow : OpenClaim := { program := "ytaliknhfcdmohaa", sum := "5497957f7023a6b3ea486814afc8cd921ed3e1e8b40177dc24077d9621dc3e09", func := "loop.example/g01239/laws.FnExactIsAround", spec := "fnExactIsAround", apart := false, narrowed := true }
def FnExactIsAroundUptoSaid : Prop := fnExactIsAroundUptoRow.holds Try.pinned (OpenSpec.upto fnExactIsAroundSpec)

/-- 'laws.FnExactStepAround', WHERE WHAT IT READS IS OF BULK AT MOST 1048576: true; the input reads as it did. -/
def fnExactStepAroundUptoRow : OpenClaim := { program := "ytaliknhfcdmohaa", sum := "5497957f7023a6b3ea486814afc8cd921ed3e1e8b40177dc24077d9621dc3e09", func := "loop.example/g01239/laws.FnExactStepAround", spec := "fnExactStepAround", unfollowed := true, recurses := true, apart := false, narrowed := true }
def FnExactStepAroundUptoSaid : Prop := fnExactStepAroundUptoRow.holds Try.pinned (OpenSpec.upto fnExactStepAroundSpec)

/-- 'laws.FnExactLeapsAround', WHERE WHAT IT READS IS OF BULK AT MOST 1048576: true; the input reads as it did. -/
def fnExactLeapsAroundUptoRow : OpenClaim := { program := "ytaliknhfcdmohaa", sum := "5497957f7023a6b3ea486814afc8cd921ed3e1e8b40177dc24077d9621dc3e09", func := "loop.example/g01239/laws.FnExactLeapsAround", spec := "fnExactLeapsAround", unfollowed := true, recurses := true, apart := false, narrowed := true }
def FnExactLeapsAroundUptoSaid : Prop := fnExactLeapsAroundUptoRow.holds Try.pinned (OpenSpec.upto fnExactLeapsAroundSpec)

/-- 'laws.FnExactCountLeapsAround', WHERE WHAT IT READS IS OF BULK AT MOST 1048576: true; the input reads as it did. -/
def fnExactCountLeapsAroundUptoRow : OpenClaim := { program := "ytaliknhfcdmohaa", sum := "5497957f7023a6b3ea486814afc8cd921ed3e1e8b40177dc24077d9621dc3e09", func := "loop.example/g01239/laws.FnExactCountLeapsAround", spec := "fnExactCountLeapsAround", unfollowed := true, recurses := true, apart := false, narrowed := true }
def FnExactCountLeapsAroundUptoSaid : Prop := fnExactCountLeapsAroundUptoRow.holds Try.pinned (OpenSpec.upto fnExactCountLeapsAroundSpec)

/-- 'laws.FnExactSameDegree', WHERE WHAT IT READS IS OF BULK AT MOST 1048576: true; the input reads as it did. -/
def fnExactSameDegreeUptoRow : OpenClaim := { program := "ytaliknhfcdmohaa", sum := "5497957f7023a6b3ea486814afc8cd921ed3e1e8b40177dc24077d9621dc3e09", func := "loop.example/g01239/laws.FnExactSameDegree", spec := "fnExactSameDegree", unfollowed := true, recurses := true, apart := false, narrowed := true }
def FnExactSameDegreeUptoSaid : Prop := fnExactSameDegreeUptoRow.holds Try.pinned (OpenSpec.upto fnExactSameDegreeSpec)

/-- 'laws.FnExactDistanceAround', WHERE WHAT IT READS IS OF BULK AT MOST 1048576: true; the input reads as it did. -/
def fnExactDistanceAroundUptoRow : OpenClaim := { program := "ytaliknhfcdmohaa", sum := "5497957f7023a6b3ea486814afc8cd921ed3e1e8b40177dc24077d9621dc3e09", func := "loop.example/g01239/laws.FnExactDistanceAround", spec := "fnExactDistanceAround", unfollowed := true, recurses := true, apart := false, narrowed := true }
def FnExactDistanceAroundUptoSaid : Prop := fnExactDistanceAroundUptoRow.holds Try.pinned (OpenSpec.upto fnExactDistanceAroundSpec)

/-- 'laws.FnExactCountByAround', WHERE WHAT IT READS IS OF BULK AT MOST 1048576: true; the input reads as it did. -/
def fnExactCountByAroundUptoRow : OpenClaim := { program := "ytaliknhfcdmohaa", sum := "5497957f7023a6b3ea486814afc8cd921ed3e1e8b40177dc24077d9621dc3e09", func := "loop.example/g01239/laws.FnExactCountByAround", spec := "fnExactCountByAround", unfollowed := true, recurses := true, apart := false, narrowed := true }
def FnExactCountByAroundUptoSaid : Prop := fnExactCountByAroundUptoRow.holds Try.pinned (OpenSpec.upto fnExactCountByAroundSpec)

/-- 'laws.FnExactCountParts', WHERE WHAT IT READS IS OF BULK AT MOST 1048576: true; the input reads as it did. -/
def fnExactCountPartsUptoRow : OpenClaim := { program := "ytaliknhfcdmohaa", sum := "5497957f7023a6b3ea486814afc8cd921ed3e1e8b40177dc24077d9621dc3e09", func := "loop.example/g01239/laws.FnExactCountParts", spec := "fnExactCountParts", unfollowed := true, recurses := true, apart := false, narrowed := true }
def FnExactCountPartsUptoSaid : Prop := fnExactCountPartsUptoRow.holds Try.pinned (OpenSpec.upto fnExactCountPartsSpec)

/-- 'laws.FnExactOrbitLength', WHERE WHAT IT READS IS OF BULK AT MOST 1048576: true; the input reads as it did. -/
def fnExactOrbitLengthUptoRow : OpenClaim := { program := "ytaliknhfcdmohaa", sum := "5497957f7023a6b3ea486814afc8cd921ed3e1e8b40177dc24077d9621dc3e09", func := "loop.example/g01239/laws.FnExactOrbitLength", spec := "fnExactOrbitLength", unfollowed := true, recurses := true, apart := false, narrowed := true }
def FnExactOrbitLengthUptoSaid : Prop := fnExactOrbitLengthUptoRow.holds Try.pinned (OpenSpec.upto fnExactOrbitLengthSpec)

/-- 'laws.FnExactCountOrbits', WHERE WHAT IT READS IS OF BULK AT MOST 1048576: true; the input reads as it did. -/
def fnExactCountOrbitsUptoRow : OpenClaim := { program := "ytaliknhfcdmohaa", sum := "5497957f7023a6b3ea486814afc8cd921ed3e1e8b40177dc24077d9621dc3e09", func := "loop.example/g01239/laws.FnExactCountOrbits", spec := "fnExactCountOrbits", unfollowed := true, recurses := true, apart := false, narrowed := true }
def FnExactCountOrbitsUptoSaid : Prop := fnExactCountOrbitsUptoRow.holds Try.pinned (OpenSpec.upto fnExactCountOrbitsSpec)

/-- 'laws.FnExactTwoSteps', WHERE WHAT IT READS IS OF BULK AT MOST 1048576: true; the input reads as it did. -/
def fnExactTwoStepsUptoRow : OpenClaim := { program := "ytaliknhfcdmohaa", sum := "5497957f7023a6b3ea486814afc8cd921ed3e1e8b40177dc24077d9621dc3e09", func := "loop.example/g01239/laws.FnExactTwoSteps", spec := "fnExactTwoSteps", unfollowed := true, recurses := true, apart := false, narrowed := true }
def FnExactTwoStepsUptoSaid : Prop := fnExactTwoStepsUptoRow.holds Try.pinned (OpenSpec.upto fnExactTwoStepsSpec)

/-- 'laws.FnExactVisitsAll', WHERE WHAT IT READS IS OF BULK AT MOST 1048576: true; the input reads as it did. -/
def fnExactVisitsAllUptoRow : OpenClaim := { program := "ytaliknhfcdmohaa", sum := "5497957f7023a6b3ea486814afc8cd921ed3e1e8b40177dc24077d9621dc3e09", func := "loop.example/g01239/laws.FnExactVisitsAll", spec := "fnExactVisitsAll", unfollowed := true, recurses := true, apart := false, narrowed := true }
def FnExactVisitsAllUptoSaid : Prop := fnExactVisitsAllUptoRow.holds Try.pinned (OpenSpec.upto fnExactVisitsAllSpec)

/-- 'laws.FnExactFirstTwoSteps', WHERE WHAT IT READS IS OF BULK AT MOST 1048576: true; the input reads as it did. -/
def fnExactFirstTwoStepsUptoRow : OpenClaim := { program := "ytaliknhfcdmohaa", sum := "5497957f7023a6b3ea486814afc8cd921ed3e1e8b40177dc24077d9621dc3e09", func := "loop.example/g01239/laws.FnExactFirstTwoSteps", spec := "fnExactFirstTwoSteps", unfollowed := true, recurses := true, apart := false, narrowed := true }
def FnExactFirstTwoStepsUptoSaid : Prop := fnExactFirstTwoStepsUptoRow.holds Try.pinned (OpenSpec.upto fnExactFirstTwoStepsSpec)

/-- 'laws.FnExactTwoColoursAround', WHERE WHAT IT READS IS OF BULK AT MOST 1048576: true; the input reads as it did. -/
def fnExactTwoColoursAroundUptoRow : OpenClaim := { program := "ytaliknhfcdmohaa", sum := "5497957f7023a6b3ea486814afc8cd921ed3e1e8b40177dc24077d9621dc3e09", func := "loop.example/g01239/laws.FnExactTwoColoursAround", spec := "fnExactTwoColoursAround", unfollowed := true, recurses := true, apart := false, narrowed := true }
def FnExactTwoColoursAroundUptoSaid : Prop := fnExactTwoColoursAroundUptoRow.holds Try.pinned (OpenSpec.upto fnExactTwoColoursAroundSpec)

end Rows
end Go.Proofs.Ytaliknhfcdmohaa
