/-
  No cell of these rows narrows 'for every input' (looked for: loops, veiled, ifaces, maps, wideKeys, modest, calm, conditions, laid).
  DERIVED. THE GIVEN ROWS OF THIS SEAT. 20 by the template 'for every input the law returns true; each argument reads behind the call as it read before'; 0 by the template 'total and deterministic' (their statements: YtkbgdfibningoaaTotals.lean).
  GIVEN WITH THE SEED: the statements are not yours to turn. If you find one false, say at which input.
  Laid BY PROGRAM, IN A SANDBOX (cutbox-rows.mjs): the forced cells as the released guide's own fill.sh prints them over the translation fc90b6b05f73cc3a… (all of the seat's roots in one cut). By AI agents, Wed Nov 11 2026. No macro, syntax, notation, axiom, sorry.
-/
import Derived.Test.YtkbgdfibningoaaChecked
import GoSem.Claim
import GoSem.ClaimJoined
import GoSem.ClaimMapViews
import Derived.JoinedTies
import Derived.KernelRfl
namespace Go.Proofs.Ytkbgdfibningoaa
/- THE CELL 'sum', in the pinned program and in every row, IS THE sha256 OF THE DUMP (.gsa) THAT YtkbgdfibningoaaProg.lean LOADS. Nothing in Lean hashes anything: it is a label: what it is worth is what the hold of that sum in a sandbox is worth. -/
noncomputable def Try.pinned : Pinned := { name := "ytkbgdfibningoaa", sum := "fc90b6b05f73cc3aac6da432e32e463da04da27eede8822bfba4a9fef01c2adc", checked := Try.checked }
namespace Rows
def none {H : Type} : Left H := { results := [], args := [] }

/-- 'laws.FnExactIsLeaper': WHATEVER THE INPUT: true; the input reads as it did. -/
def fnExactIsLeaperSpec : ChangeSpec := { name := "fnExactIsLeaper", fn := fun _ => fun
  | [d] => { results := [.lit (.bool true)], args := [d] }
  | _ => none }
def fnExactIsLeaperRow : OpenClaim := { program := "ytkbgdfibningoaa", sum := "fc90b6b05f73cc3aac6da432e32e463da04da27eede8822bfba4a9fef01c2adc", func := "loop.example/g01239/laws.FnExactIsLeaper", spec := "fnExactIsLeaper", apart := false }
def FnExactIsLeaperSaid : Prop := fnExactIsLeaperRow.holds Try.pinned (OpenSpec.ofChange fnExactIsLeaperSpec)

/-- ITS FALSE NEIGHBOUR: 'it returns false'. Refute it at one input. -/
def fnExactIsLeaperWrong : ChangeSpec := { name := "fnExactIsLeaper", fn := fun _ => fun
  | [d] => { results := [.lit (.bool false)], args := [d] }
  | _ => none }
def FnExactIsLeaperWrongFalsely : Prop := fnExactIsLeaperRow.holds Try.pinned (OpenSpec.ofChange fnExactIsLeaperWrong)

/-- 'laws.FnExactIsBoard': WHATEVER THE INPUT: true; the input reads as it did. -/
def fnExactIsBoardSpec : ChangeSpec := { name := "fnExactIsBoard", fn := fun _ => fun
  | [d] => { results := [.lit (.bool true)], args := [d] }
  | _ => none }
def fnExactIsBoardRow : OpenClaim := { program := "ytkbgdfibningoaa", sum := "fc90b6b05f73cc3aac6da432e32e463da04da27eede8822bfba4a9fef01c2adc", func := "loop.example/g01239/laws.FnExactIsBoard", spec := "fnExactIsBoard", apart := false }
def FnExactIsBoardSaid : Prop := fnExactIsBoardRow.holds Try.pinned (OpenSpec.ofChange fnExactIsBoardSpec)

/-- ITS FALSE NEIGHBOUR: 'it returns false'. Refute it at one input. -/
def fnExactIsBoardWrong : ChangeSpec := { name := "fnExactIsBoard", fn := fun _ => fun
  | [d] => { results := [.lit (.bool false)], args := [d] }
  | _ => none }
def FnExactIsBoardWrongFalsely : Prop := fnExactIsBoardRow.holds Try.pinned (OpenSpec.ofChange fnExactIsBoardWrong)

/-- 'laws.FnExactPlainBoard': WHATEVER THE INPUT: true; the input reads as it did. -/
def fnExactPlainBoardSpec : ChangeSpec := { name := "fnExactPlainBoard", fn := fun _ => fun
  | [d1, d2] => { results := [.lit (.bool true)], args := [d1, d2] }
  | _ => none }
def fnExactPlainBoardRow : OpenClaim := { program := "ytkbgdfibningoaa", sum := "fc90b6b05f73cc3aac6da432e32e463da04da27eede8822bfba4a9fef01c2adc", func := "loop.example/g01239/laws.FnExactPlainBoard", spec := "fnExactPlainBoard", apart := false }
def FnExactPlainBoardSaid : Prop := fnExactPlainBoardRow.holds Try.pinned (OpenSpec.ofChange fnExactPlainBoardSpec)

/-- ITS FALSE NEIGHBOUR: 'it returns false'. Refute it at one input. -/
def fnExactPlainBoardWrong : ChangeSpec := { name := "fnExactPlainBoard", fn := fun _ => fun
  | [d1, d2] => { results := [.lit (.bool false)], args := [d1, d2] }
  | _ => none }
def FnExactPlainBoardWrongFalsely : Prop := fnExactPlainBoardRow.holds Try.pinned (OpenSpec.ofChange fnExactPlainBoardWrong)

/-- 'laws.FnExactCellsOf': WHATEVER THE INPUT: true; the input reads as it did. -/
def fnExactCellsOfSpec : ChangeSpec := { name := "fnExactCellsOf", fn := fun _ => fun
  | [d] => { results := [.lit (.bool true)], args := [d] }
  | _ => none }
def fnExactCellsOfRow : OpenClaim := { program := "ytkbgdfibningoaa", sum := "fc90b6b05f73cc3aac6da432e32e463da04da27eede8822bfba4a9fef01c2adc", func := "loop.example/g01239/laws.FnExactCellsOf", spec := "fnExactCellsOf", apart := false }
def FnExactCellsOfSaid : Prop := fnExactCellsOfRow.holds Try.pinned (OpenSpec.ofChange fnExactCellsOfSpec)

/-- ITS FALSE NEIGHBOUR: 'it returns false'. Refute it at one input. -/
def fnExactCellsOfWrong : ChangeSpec := { name := "fnExactCellsOf", fn := fun _ => fun
  | [d] => { results := [.lit (.bool false)], args := [d] }
  | _ => none }
def FnExactCellsOfWrongFalsely : Prop := fnExactCellsOfRow.holds Try.pinned (OpenSpec.ofChange fnExactCellsOfWrong)

/-- 'laws.FnExactCountCells': WHATEVER THE INPUT: true; the input reads as it did. -/
def fnExactCountCellsSpec : ChangeSpec := { name := "fnExactCountCells", fn := fun _ => fun
  | [d] => { results := [.lit (.bool true)], args := [d] }
  | _ => none }
def fnExactCountCellsRow : OpenClaim := { program := "ytkbgdfibningoaa", sum := "fc90b6b05f73cc3aac6da432e32e463da04da27eede8822bfba4a9fef01c2adc", func := "loop.example/g01239/laws.FnExactCountCells", spec := "fnExactCountCells", apart := false }
def FnExactCountCellsSaid : Prop := fnExactCountCellsRow.holds Try.pinned (OpenSpec.ofChange fnExactCountCellsSpec)

/-- ITS FALSE NEIGHBOUR: 'it returns false'. Refute it at one input. -/
def fnExactCountCellsWrong : ChangeSpec := { name := "fnExactCountCells", fn := fun _ => fun
  | [d] => { results := [.lit (.bool false)], args := [d] }
  | _ => none }
def FnExactCountCellsWrongFalsely : Prop := fnExactCountCellsRow.holds Try.pinned (OpenSpec.ofChange fnExactCountCellsWrong)

/-- 'laws.FnExactHasCell': WHATEVER THE INPUT: true; the input reads as it did. -/
def fnExactHasCellSpec : ChangeSpec := { name := "fnExactHasCell", fn := fun _ => fun
  | [d1, d2] => { results := [.lit (.bool true)], args := [d1, d2] }
  | _ => none }
def fnExactHasCellRow : OpenClaim := { program := "ytkbgdfibningoaa", sum := "fc90b6b05f73cc3aac6da432e32e463da04da27eede8822bfba4a9fef01c2adc", func := "loop.example/g01239/laws.FnExactHasCell", spec := "fnExactHasCell", apart := false }
def FnExactHasCellSaid : Prop := fnExactHasCellRow.holds Try.pinned (OpenSpec.ofChange fnExactHasCellSpec)

/-- ITS FALSE NEIGHBOUR: 'it returns false'. Refute it at one input. -/
def fnExactHasCellWrong : ChangeSpec := { name := "fnExactHasCell", fn := fun _ => fun
  | [d1, d2] => { results := [.lit (.bool false)], args := [d1, d2] }
  | _ => none }
def FnExactHasCellWrongFalsely : Prop := fnExactHasCellRow.holds Try.pinned (OpenSpec.ofChange fnExactHasCellWrong)

/-- 'laws.FnExactNameOf': WHATEVER THE INPUT: true; the input reads as it did. -/
def fnExactNameOfSpec : ChangeSpec := { name := "fnExactNameOf", fn := fun _ => fun
  | [d1, d2] => { results := [.lit (.bool true)], args := [d1, d2] }
  | _ => none }
def fnExactNameOfRow : OpenClaim := { program := "ytkbgdfibningoaa", sum := "fc90b6b05f73cc3aac6da432e32e463da04da27eede8822bfba4a9fef01c2adc", func := "loop.example/g01239/laws.FnExactNameOf", spec := "fnExactNameOf", recurses := true, apart := false }
def FnExactNameOfSaid : Prop := fnExactNameOfRow.holds Try.pinned (OpenSpec.ofChange fnExactNameOfSpec)

/-- ITS FALSE NEIGHBOUR: 'it returns false'. Refute it at one input. -/
def fnExactNameOfWrong : ChangeSpec := { name := "fnExactNameOf", fn := fun _ => fun
  | [d1, d2] => { results := [.lit (.bool false)], args := [d1, d2] }
  | _ => none }
def FnExactNameOfWrongFalsely : Prop := fnExactNameOfRow.holds Try.pinned (OpenSpec.ofChange fnExactNameOfWrong)

/-- 'laws.FnExactCellOfName': WHATEVER THE INPUT: true; the input reads as it did. -/
def fnExactCellOfNameSpec : ChangeSpec := { name := "fnExactCellOfName", fn := fun _ => fun
  | [d1, d2] => { results := [.lit (.bool true)], args := [d1, d2] }
  | _ => none }
def fnExactCellOfNameRow : OpenClaim := { program := "ytkbgdfibningoaa", sum := "fc90b6b05f73cc3aac6da432e32e463da04da27eede8822bfba4a9fef01c2adc", func := "loop.example/g01239/laws.FnExactCellOfName", spec := "fnExactCellOfName", recurses := true, apart := false }
def FnExactCellOfNameSaid : Prop := fnExactCellOfNameRow.holds Try.pinned (OpenSpec.ofChange fnExactCellOfNameSpec)

/-- ITS FALSE NEIGHBOUR: 'it returns false'. Refute it at one input. -/
def fnExactCellOfNameWrong : ChangeSpec := { name := "fnExactCellOfName", fn := fun _ => fun
  | [d1, d2] => { results := [.lit (.bool false)], args := [d1, d2] }
  | _ => none }
def FnExactCellOfNameWrongFalsely : Prop := fnExactCellOfNameRow.holds Try.pinned (OpenSpec.ofChange fnExactCellOfNameWrong)

/-- 'laws.FnExactStepsOf': WHATEVER THE INPUT: true; the input reads as it did. -/
def fnExactStepsOfSpec : ChangeSpec := { name := "fnExactStepsOf", fn := fun _ => fun
  | [d] => { results := [.lit (.bool true)], args := [d] }
  | _ => none }
def fnExactStepsOfRow : OpenClaim := { program := "ytkbgdfibningoaa", sum := "fc90b6b05f73cc3aac6da432e32e463da04da27eede8822bfba4a9fef01c2adc", func := "loop.example/g01239/laws.FnExactStepsOf", spec := "fnExactStepsOf", unfollowed := true, recurses := true, apart := false }
def FnExactStepsOfSaid : Prop := fnExactStepsOfRow.holds Try.pinned (OpenSpec.ofChange fnExactStepsOfSpec)

/-- ITS FALSE NEIGHBOUR: 'it returns false'. Refute it at one input. -/
def fnExactStepsOfWrong : ChangeSpec := { name := "fnExactStepsOf", fn := fun _ => fun
  | [d] => { results := [.lit (.bool false)], args := [d] }
  | _ => none }
def FnExactStepsOfWrongFalsely : Prop := fnExactStepsOfRow.holds Try.pinned (OpenSpec.ofChange fnExactStepsOfWrong)

/-- 'laws.FnExactLeapsFrom': WHATEVER THE INPUT: true; the input reads as it did. -/
def fnExactLeapsFromSpec : ChangeSpec := { name := "fnExactLeapsFrom", fn := fun _ => fun
  | [d1, d2, d3] => { results := [.lit (.bool true)], args := [d1, d2, d3] }
  | _ => none }
def fnExactLeapsFromRow : OpenClaim := { program := "ytkbgdfibningoaa", sum := "fc90b6b05f73cc3aac6da432e32e463da04da27eede8822bfba4a9fef01c2adc", func := "loop.example/g01239/laws.FnExactLeapsFrom", spec := "fnExactLeapsFrom", unfollowed := true, recurses := true, apart := false }
def FnExactLeapsFromSaid : Prop := fnExactLeapsFromRow.holds Try.pinned (OpenSpec.ofChange fnExactLeapsFromSpec)

/-- ITS FALSE NEIGHBOUR: 'it returns false'. Refute it at one input. -/
def fnExactLeapsFromWrong : ChangeSpec := { name := "fnExactLeapsFrom", fn := fun _ => fun
  | [d1, d2, d3] => { results := [.lit (.bool false)], args := [d1, d2, d3] }
  | _ => none }
def FnExactLeapsFromWrongFalsely : Prop := fnExactLeapsFromRow.holds Try.pinned (OpenSpec.ofChange fnExactLeapsFromWrong)

/-- 'laws.FnExactIsLeap': WHATEVER THE INPUT: true; the input reads as it did. -/
def fnExactIsLeapSpec : ChangeSpec := { name := "fnExactIsLeap", fn := fun _ => fun
  | [d1, d2, d3, d4] => { results := [.lit (.bool true)], args := [d1, d2, d3, d4] }
  | _ => none }
def fnExactIsLeapRow : OpenClaim := { program := "ytkbgdfibningoaa", sum := "fc90b6b05f73cc3aac6da432e32e463da04da27eede8822bfba4a9fef01c2adc", func := "loop.example/g01239/laws.FnExactIsLeap", spec := "fnExactIsLeap", apart := false }
def FnExactIsLeapSaid : Prop := fnExactIsLeapRow.holds Try.pinned (OpenSpec.ofChange fnExactIsLeapSpec)

/-- ITS FALSE NEIGHBOUR: 'it returns false'. Refute it at one input. -/
def fnExactIsLeapWrong : ChangeSpec := { name := "fnExactIsLeap", fn := fun _ => fun
  | [d1, d2, d3, d4] => { results := [.lit (.bool false)], args := [d1, d2, d3, d4] }
  | _ => none }
def FnExactIsLeapWrongFalsely : Prop := fnExactIsLeapRow.holds Try.pinned (OpenSpec.ofChange fnExactIsLeapWrong)

/-- 'laws.FnExactCountLeaps': WHATEVER THE INPUT: true; the input reads as it did. -/
def fnExactCountLeapsSpec : ChangeSpec := { name := "fnExactCountLeaps", fn := fun _ => fun
  | [d1, d2] => { results := [.lit (.bool true)], args := [d1, d2] }
  | _ => none }
def fnExactCountLeapsRow : OpenClaim := { program := "ytkbgdfibningoaa", sum := "fc90b6b05f73cc3aac6da432e32e463da04da27eede8822bfba4a9fef01c2adc", func := "loop.example/g01239/laws.FnExactCountLeaps", spec := "fnExactCountLeaps", unfollowed := true, recurses := true, apart := false }
def FnExactCountLeapsSaid : Prop := fnExactCountLeapsRow.holds Try.pinned (OpenSpec.ofChange fnExactCountLeapsSpec)

/-- ITS FALSE NEIGHBOUR: 'it returns false'. Refute it at one input. -/
def fnExactCountLeapsWrong : ChangeSpec := { name := "fnExactCountLeaps", fn := fun _ => fun
  | [d1, d2] => { results := [.lit (.bool false)], args := [d1, d2] }
  | _ => none }
def FnExactCountLeapsWrongFalsely : Prop := fnExactCountLeapsRow.holds Try.pinned (OpenSpec.ofChange fnExactCountLeapsWrong)

/-- 'laws.FnExactCountPlainLeaps': WHATEVER THE INPUT: true; the input reads as it did. -/
def fnExactCountPlainLeapsSpec : ChangeSpec := { name := "fnExactCountPlainLeaps", fn := fun _ => fun
  | [d1, d2, d3] => { results := [.lit (.bool true)], args := [d1, d2, d3] }
  | _ => none }
def fnExactCountPlainLeapsRow : OpenClaim := { program := "ytkbgdfibningoaa", sum := "fc90b6b05f73cc3aac6da432e32e463da04da27eede8822bfba4a9fef01c2adc", func := "loop.example/g01239/laws.FnExactCountPlainLeaps", spec := "fnExactCountPlainLeaps", apart := false }
def FnExactCountPlainLeapsSaid : Prop := fnExactCountPlainLeapsRow.holds Try.pinned (OpenSpec.ofChange fnExactCountPlainLeapsSpec)

/-- ITS FALSE NEIGHBOUR: 'it returns false'. Refute it at one input. -/
def fnExactCountPlainLeapsWrong : ChangeSpec := { name := "fnExactCountPlainLeaps", fn := fun _ => fun
  | [d1, d2, d3] => { results := [.lit (.bool false)], args := [d1, d2, d3] }
  | _ => none }
def FnExactCountPlainLeapsWrongFalsely : Prop := fnExactCountPlainLeapsRow.holds Try.pinned (OpenSpec.ofChange fnExactCountPlainLeapsWrong)

/-- 'laws.FnExactDegreesOf': WHATEVER THE INPUT: true; the input reads as it did. -/
def fnExactDegreesOfSpec : ChangeSpec := { name := "fnExactDegreesOf", fn := fun _ => fun
  | [d1, d2] => { results := [.lit (.bool true)], args := [d1, d2] }
  | _ => none }
def fnExactDegreesOfRow : OpenClaim := { program := "ytkbgdfibningoaa", sum := "fc90b6b05f73cc3aac6da432e32e463da04da27eede8822bfba4a9fef01c2adc", func := "loop.example/g01239/laws.FnExactDegreesOf", spec := "fnExactDegreesOf", unfollowed := true, recurses := true, apart := false }
def FnExactDegreesOfSaid : Prop := fnExactDegreesOfRow.holds Try.pinned (OpenSpec.ofChange fnExactDegreesOfSpec)

/-- ITS FALSE NEIGHBOUR: 'it returns false'. Refute it at one input. -/
def fnExactDegreesOfWrong : ChangeSpec := { name := "fnExactDegreesOf", fn := fun _ => fun
  | [d1, d2] => { results := [.lit (.bool false)], args := [d1, d2] }
  | _ => none }
def FnExactDegreesOfWrongFalsely : Prop := fnExactDegreesOfRow.holds Try.pinned (OpenSpec.ofChange fnExactDegreesOfWrong)

/-- 'laws.FnExactTurnBoard': WHATEVER THE INPUT: true; the input reads as it did. -/
def fnExactTurnBoardSpec : ChangeSpec := { name := "fnExactTurnBoard", fn := fun _ => fun
  | [d] => { results := [.lit (.bool true)], args := [d] }
  | _ => none }
def fnExactTurnBoardRow : OpenClaim := { program := "ytkbgdfibningoaa", sum := "fc90b6b05f73cc3aac6da432e32e463da04da27eede8822bfba4a9fef01c2adc", func := "loop.example/g01239/laws.FnExactTurnBoard", spec := "fnExactTurnBoard", unfollowed := true, recurses := true, apart := false }
def FnExactTurnBoardSaid : Prop := fnExactTurnBoardRow.holds Try.pinned (OpenSpec.ofChange fnExactTurnBoardSpec)

/-- ITS FALSE NEIGHBOUR: 'it returns false'. Refute it at one input. -/
def fnExactTurnBoardWrong : ChangeSpec := { name := "fnExactTurnBoard", fn := fun _ => fun
  | [d] => { results := [.lit (.bool false)], args := [d] }
  | _ => none }
def FnExactTurnBoardWrongFalsely : Prop := fnExactTurnBoardRow.holds Try.pinned (OpenSpec.ofChange fnExactTurnBoardWrong)

/-- 'laws.FnExactTurnCell': WHATEVER THE INPUT: true; the input reads as it did. -/
def fnExactTurnCellSpec : ChangeSpec := { name := "fnExactTurnCell", fn := fun _ => fun
  | [d1, d2] => { results := [.lit (.bool true)], args := [d1, d2] }
  | _ => none }
def fnExactTurnCellRow : OpenClaim := { program := "ytkbgdfibningoaa", sum := "fc90b6b05f73cc3aac6da432e32e463da04da27eede8822bfba4a9fef01c2adc", func := "loop.example/g01239/laws.FnExactTurnCell", spec := "fnExactTurnCell", apart := false }
def FnExactTurnCellSaid : Prop := fnExactTurnCellRow.holds Try.pinned (OpenSpec.ofChange fnExactTurnCellSpec)

/-- ITS FALSE NEIGHBOUR: 'it returns false'. Refute it at one input. -/
def fnExactTurnCellWrong : ChangeSpec := { name := "fnExactTurnCell", fn := fun _ => fun
  | [d1, d2] => { results := [.lit (.bool false)], args := [d1, d2] }
  | _ => none }
def FnExactTurnCellWrongFalsely : Prop := fnExactTurnCellRow.holds Try.pinned (OpenSpec.ofChange fnExactTurnCellWrong)

/-- 'laws.FnExactMirrorBoard': WHATEVER THE INPUT: true; the input reads as it did. -/
def fnExactMirrorBoardSpec : ChangeSpec := { name := "fnExactMirrorBoard", fn := fun _ => fun
  | [d] => { results := [.lit (.bool true)], args := [d] }
  | _ => none }
def fnExactMirrorBoardRow : OpenClaim := { program := "ytkbgdfibningoaa", sum := "fc90b6b05f73cc3aac6da432e32e463da04da27eede8822bfba4a9fef01c2adc", func := "loop.example/g01239/laws.FnExactMirrorBoard", spec := "fnExactMirrorBoard", unfollowed := true, recurses := true, apart := false }
def FnExactMirrorBoardSaid : Prop := fnExactMirrorBoardRow.holds Try.pinned (OpenSpec.ofChange fnExactMirrorBoardSpec)

/-- ITS FALSE NEIGHBOUR: 'it returns false'. Refute it at one input. -/
def fnExactMirrorBoardWrong : ChangeSpec := { name := "fnExactMirrorBoard", fn := fun _ => fun
  | [d] => { results := [.lit (.bool false)], args := [d] }
  | _ => none }
def FnExactMirrorBoardWrongFalsely : Prop := fnExactMirrorBoardRow.holds Try.pinned (OpenSpec.ofChange fnExactMirrorBoardWrong)

/-- 'laws.FnExactMirrorCell': WHATEVER THE INPUT: true; the input reads as it did. -/
def fnExactMirrorCellSpec : ChangeSpec := { name := "fnExactMirrorCell", fn := fun _ => fun
  | [d1, d2] => { results := [.lit (.bool true)], args := [d1, d2] }
  | _ => none }
def fnExactMirrorCellRow : OpenClaim := { program := "ytkbgdfibningoaa", sum := "fc90b6b05f73cc3aac6da432e32e463da04da27eede8822bfba4a9fef01c2adc", func := "loop.example/g01239/laws.FnExactMirrorCell", spec := "fnExactMirrorCell", apart := false }
def FnExactMirrorCellSaid : Prop := fnExactMirrorCellRow.holds Try.pinned (OpenSpec.ofChange fnExactMirrorCellSpec)

/-- ITS FALSE NEIGHBOUR: 'it returns false'. Refute it at one input. -/
def fnExactMirrorCellWrong : ChangeSpec := { name := "fnExactMirrorCell", fn := fun _ => fun
  | [d1, d2] => { results := [.lit (.bool false)], args := [d1, d2] }
  | _ => none }
def FnExactMirrorCellWrongFalsely : Prop := fnExactMirrorCellRow.holds Try.pinned (OpenSpec.ofChange fnExactMirrorCellWrong)

/-- 'laws.FnExactIsPath': WHATEVER THE INPUT: true; the input reads as it did. -/
def fnExactIsPathSpec : ChangeSpec := { name := "fnExactIsPath", fn := fun _ => fun
  | [d1, d2, d3] => { results := [.lit (.bool true)], args := [d1, d2, d3] }
  | _ => none }
def fnExactIsPathRow : OpenClaim := { program := "ytkbgdfibningoaa", sum := "fc90b6b05f73cc3aac6da432e32e463da04da27eede8822bfba4a9fef01c2adc", func := "loop.example/g01239/laws.FnExactIsPath", spec := "fnExactIsPath", apart := false }
def FnExactIsPathSaid : Prop := fnExactIsPathRow.holds Try.pinned (OpenSpec.ofChange fnExactIsPathSpec)

/-- ITS FALSE NEIGHBOUR: 'it returns false'. Refute it at one input. -/
def fnExactIsPathWrong : ChangeSpec := { name := "fnExactIsPath", fn := fun _ => fun
  | [d1, d2, d3] => { results := [.lit (.bool false)], args := [d1, d2, d3] }
  | _ => none }
def FnExactIsPathWrongFalsely : Prop := fnExactIsPathRow.holds Try.pinned (OpenSpec.ofChange fnExactIsPathWrong)

/-- 'laws.FnExactPathText': WHATEVER THE INPUT: true; the input reads as it did. -/
def fnExactPathTextSpec : ChangeSpec := { name := "fnExactPathText", fn := fun _ => fun
  | [d1, d2] => { results := [.lit (.bool true)], args := [d1, d2] }
  | _ => none }
def fnExactPathTextRow : OpenClaim := { program := "ytkbgdfibningoaa", sum := "fc90b6b05f73cc3aac6da432e32e463da04da27eede8822bfba4a9fef01c2adc", func := "loop.example/g01239/laws.FnExactPathText", spec := "fnExactPathText", inPlace := ["internal/abi.NoEscape", "internal/bytealg.MakeNoZero"], recurses := true, apart := false }
def FnExactPathTextSaid : Prop := fnExactPathTextRow.holds Try.pinned (OpenSpec.ofChange fnExactPathTextSpec)

/-- ITS FALSE NEIGHBOUR: 'it returns false'. Refute it at one input. -/
def fnExactPathTextWrong : ChangeSpec := { name := "fnExactPathText", fn := fun _ => fun
  | [d1, d2] => { results := [.lit (.bool false)], args := [d1, d2] }
  | _ => none }
def FnExactPathTextWrongFalsely : Prop := fnExactPathTextRow.holds Try.pinned (OpenSpec.ofChange fnExactPathTextWrong)

/- THE SECOND FORM. 'bulk': how many values and letters a reading holds, each counted each time it is reached (what is shared counts as often as it is met; a slice's spare places count too). A statement '..UptoSaid' is the law's where the arguments, and the package variables that the reading takes, are together of bulk at most 1048576: NARROWER than '..Said'. Prove '..Said' where nothing that the law and all that it calls make is longer than what came in: it says more and counts as full. Else prove '..UptoSaid'. A law counts once. -/
mutual
def uptoBulk {H : Type} : DataW H → Nat
  | .lit (.string bytes) => bytes.length + 1
  | .lit _ => 1
  | .nil => 1
  | .ptr d => uptoBulk d + 1
  | .slice elems spare => uptoBulkAll elems + uptoBulkAll spare + 1
  | .agg parts => uptoBulkAll parts + 1
  | .iface _ d => uptoBulk d + 1
  | .map entries => uptoBulkEntries entries + 1
  | .held _ => 1
def uptoBulkAll {H : Type} : List (DataW H) → Nat
  | [] => 0
  | d :: r => uptoBulk d + uptoBulkAll r
def uptoBulkEntries {H : Type} : List (Lit × DataW H) → Nat
  | [] => 0
  | x :: r => uptoBulkEntry x + uptoBulkEntries r
def uptoBulkEntry {H : Type} : Lit × DataW H → Nat
  | (.string bytes, d) => bytes.length + uptoBulk d + 1
  | (_, d) => uptoBulk d + 1
 end
def uptoSmall : (H : Type) → List (DataW H) → Bool := fun _ ds => decide (uptoBulkAll ds ≤ 1048576)
def OpenSpec.upto (s : _root_.Go.ChangeSpec) : _root_.Go.OpenSpec := { _root_.Go.OpenSpec.ofChange s with cond := some uptoSmall }

/-- 'laws.FnExactIsLeaper', WHERE WHAT IT READS IS OF BULK AT MOST 1048576: true; the input reads as it did. -/
def fnExactIsLeaperUptoRow : OpenClaim := { program := "ytkbgdfibningoaa", sum := "fc90b6b05f73cc3aac6da432e32e463da04da27eede8822bfba4a9fef01c2adc", func := "loop.example/g01239/laws.FnExactIsLeaper", spec := "fnExactIsLeaper", apart := false, narrowed := true }
def FnExactIsLeaperUptoSaid : Prop := fnExactIsLeaperUptoRow.holds Try.pinned (OpenSpec.upto fnExactIsLeaperSpec)

/-- 'laws.FnExactIsBoard', WHERE WHAT IT READS IS OF BULK AT MOST 1048576: true; the input reads as it did. -/
def fnExactIsBoardUptoRow : OpenClaim := { program := "ytkbgdfibningoaa", sum := "fc90b6b05f73cc3aac6da432e32e463da04da27eede8822bfba4a9fef01c2adc", func := "loop.example/g01239/laws.FnExactIsBoard", spec := "fnExactIsBoard", apart := false, narrowed := true }
def FnExactIsBoardUptoSaid : Prop := fnExactIsBoardUptoRow.holds Try.pinned (OpenSpec.upto fnExactIsBoardSpec)

/-- 'laws.FnExactPlainBoard', WHERE WHAT IT READS IS OF BULK AT MOST 1048576: true; the input reads as it did. -/
def fnExactPlainBoardUptoRow : OpenClaim := { program := "ytkbgdfibningoaa", sum := "fc90b6b05f73cc3aac6da432e32e463da04da27eede8822bfba4a9fef01c2adc", func := "loop.example/g01239/laws.FnExactPlainBoard", spec := "fnExactPlainBoard", apart := false, narrowed := true }
def FnExactPlainBoardUptoSaid : Prop := fnExactPlainBoardUptoRow.holds Try.pinned (OpenSpec.upto fnExactPlainBoardSpec)

/-- 'laws.FnExactCellsOf', WHERE WHAT IT READS IS OF BULK AT MOST 1048576: true; the input reads as it did. -/
def fnExactCellsOfUptoRow : OpenClaim := { program := "ytkbgdfibningoaa", sum := "fc90b6b05f73cc3aac6da432e32e463da04da27eede8822bfba4a9fef01c2adc", func := "loop.example/g01239/laws.FnExactCellsOf", spec := "fnExactCellsOf", apart := false, narrowed := true }
def FnExactCellsOfUptoSaid : Prop := fnExactCellsOfUptoRow.holds Try.pinned (OpenSpec.upto fnExactCellsOfSpec)

/-- 'laws.FnExactCountCells', WHERE WHAT IT READS IS OF BULK AT MOST 1048576: true; the input reads as it did. -/
def fnExactCountCellsUptoRow : OpenClaim := { program := "ytkbgdfibningoaa", sum := "fc90b6b05f73cc3aac6da432e32e463da04da27eede8822bfba4a9fef01c2adc", func := "loop.example/g01239/laws.FnExactCountCells", spec := "fnExactCountCells", apart := false, narrowed := true }
def FnExactCountCellsUptoSaid : Prop := fnExactCountCellsUptoRow.holds Try.pinned (OpenSpec.upto fnExactCountCellsSpec)

/-- 'laws.FnExactHasCell', WHERE WHAT IT READS IS OF BULK AT MOST 1048576: true; the input reads as it did. -/
def fnExactHasCellUptoRow : OpenClaim := { program := "ytkbgdfibningoaa", sum := "fc90b6b05f73cc3aac6da432e32e463da04da27eede8822bfba4a9fef01c2adc", func := "loop.example/g01239/laws.FnExactHasCell", spec := "fnExactHasCell", apart := false, narrowed := true }
def FnExactHasCellUptoSaid : Prop := fnExactHasCellUptoRow.holds Try.pinned (OpenSpec.upto fnExactHasCellSpec)

/-- 'laws.FnExactNameOf', WHERE WHAT IT READS IS OF BULK AT MOST 1048576: true; the input reads as it did. -/
def fnExactNameOfUptoRow : OpenClaim := { program := "ytkbgdfibningoaa", sum := "fc90b6b05f73cc3aac6da432e32e463da04da27eede8822bfba4a9fef01c2adc", func := "loop.example/g01239/laws.FnExactNameOf", spec := "fnExactNameOf", recurses := true, apart := false, narrowed := true }
def FnExactNameOfUptoSaid : Prop := fnExactNameOfUptoRow.holds Try.pinned (OpenSpec.upto fnExactNameOfSpec)

/-- 'laws.FnExactCellOfName', WHERE WHAT IT READS IS OF BULK AT MOST 1048576: true; the input reads as it did. -/
def fnExactCellOfNameUptoRow : OpenClaim := { program := "ytkbgdfibningoaa", sum := "fc90b6b05f73cc3aac6da432e32e463da04da27eede8822bfba4a9fef01c2adc", func := "loop.example/g01239/laws.FnExactCellOfName", spec := "fnExactCellOfName", recurses := true, apart := false, narrowed := true }
def FnExactCellOfNameUptoSaid : Prop := fnExactCellOfNameUptoRow.holds Try.pinned (OpenSpec.upto fnExactCellOfNameSpec)

/-- 'laws.FnExactStepsOf', WHERE WHAT IT READS IS OF BULK AT MOST 1048576: true; the input reads as it did. -/
def fnExactStepsOfUptoRow : OpenClaim := { program := "ytkbgdfibningoaa", sum := "fc90b6b05f73cc3aac6da432e32e463da04da27eede8822bfba4a9fef01c2adc", func := "loop.example/g01239/laws.FnExactStepsOf", spec := "fnExactStepsOf", unfollowed := true, recurses := true, apart := false, narrowed := true }
def FnExactStepsOfUptoSaid : Prop := fnExactStepsOfUptoRow.holds Try.pinned (OpenSpec.upto fnExactStepsOfSpec)

/-- 'laws.FnExactLeapsFrom', WHERE WHAT IT READS IS OF BULK AT MOST 1048576: true; the input reads as it did. -/
def fnExactLeapsFromUptoRow : OpenClaim := { program := "ytkbgdfibningoaa", sum := "fc90b6b05f73cc3aac6da432e32e463da04da27eede8822bfba4a9fef01c2adc", func := "loop.example/g01239/laws.FnExactLeapsFrom", spec := "fnExactLeapsFrom", unfollowed := true, recurses := true, apart := false, narrowed := true }
def FnExactLeapsFromUptoSaid : Prop := fnExactLeapsFromUptoRow.holds Try.pinned (OpenSpec.upto fnExactLeapsFromSpec)

/-- 'laws.FnExactIsLeap', WHERE WHAT IT READS IS OF BULK AT MOST 1048576: true; the input reads as it did. -/
def fnExactIsLeapUptoRow : OpenClaim := { program := "ytkbgdfibningoaa", sum := "fc90b6b05f73cc3aac6da432e32e463da04da27eede8822bfba4a9fef01c2adc", func := "loop.example/g01239/laws.FnExactIsLeap", spec := "fnExactIsLeap", apart := false, narrowed := true }
def FnExactIsLeapUptoSaid : Prop := fnExactIsLeapUptoRow.holds Try.pinned (OpenSpec.upto fnExactIsLeapSpec)

/-- 'laws.FnExactCountLeaps', WHERE WHAT IT READS IS OF BULK AT MOST 1048576: true; the input reads as it did. -/
def fnExactCountLeapsUptoRow : OpenClaim := { program := "ytkbgdfibningoaa", sum := "fc90b6b05f73cc3aac6da432e32e463da04da27eede8822bfba4a9fef01c2adc", func := "loop.example/g01239/laws.FnExactCountLeaps", spec := "fnExactCountLeaps", unfollowed := true, recurses := true, apart := false, narrowed := true }
def FnExactCountLeapsUptoSaid : Prop := fnExactCountLeapsUptoRow.holds Try.pinned (OpenSpec.upto fnExactCountLeapsSpec)

/-- 'laws.FnExactCountPlainLeaps', WHERE WHAT IT READS IS OF BULK AT MOST 1048576: true; the input reads as it did. -/
def fnExactCountPlainLeapsUptoRow : OpenClaim := { program := "ytkbgdfibningoaa", sum := "fc90b6b05f73cc3aac6da432e32e463da04da27eede8822bfba4a9fef01c2adc", func := "loop.example/g01239/laws.FnExactCountPlainLeaps", spec := "fnExactCountPlainLeaps", apart := false, narrowed := true }
def FnExactCountPlainLeapsUptoSaid : Prop := fnExactCountPlainLeapsUptoRow.holds Try.pinned (OpenSpec.upto fnExactCountPlainLeapsSpec)

/-- 'laws.FnExactDegreesOf', WHERE WHAT IT READS IS OF BULK AT MOST 1048576: true; the input reads as it did. -/
def fnExactDegreesOfUptoRow : OpenClaim := { program := "ytkbgdfibningoaa", sum := "fc90b6b05f73cc3aac6da432e32e463da04da27eede8822bfba4a9fef01c2adc", func := "loop.example/g01239/laws.FnExactDegreesOf", spec := "fnExactDegreesOf", unfollowed := true, recurses := true, apart := false, narrowed := true }
def FnExactDegreesOfUptoSaid : Prop := fnExactDegreesOfUptoRow.holds Try.pinned (OpenSpec.upto fnExactDegreesOfSpec)

/-- 'laws.FnExactTurnBoard', WHERE WHAT IT READS IS OF BULK AT MOST 1048576: true; the input reads as it did. -/
def fnExactTurnBoardUptoRow : OpenClaim := { program := "ytkbgdfibningoaa", sum := "fc90b6b05f73cc3aac6da432e32e463da04da27eede8822bfba4a9fef01c2adc", func := "loop.example/g01239/laws.FnExactTurnBoard", spec := "fnExactTurnBoard", unfollowed := true, recurses := true, apart := false, narrowed := true }
def FnExactTurnBoardUptoSaid : Prop := fnExactTurnBoardUptoRow.holds Try.pinned (OpenSpec.upto fnExactTurnBoardSpec)

/-- 'laws.FnExactTurnCell', WHERE WHAT IT READS IS OF BULK AT MOST 1048576: true; the input reads as it did. -/
def fnExactTurnCellUptoRow : OpenClaim := { program := "ytkbgdfibningoaa", sum := "fc90b6b05f73cc3aac6da432e32e463da04da27eede8822bfba4a9fef01c2adc", func := "loop.example/g01239/laws.FnExactTurnCell", spec := "fnExactTurnCell", apart := false, narrowed := true }
def FnExactTurnCellUptoSaid : Prop := fnExactTurnCellUptoRow.holds Try.pinned (OpenSpec.upto fnExactTurnCellSpec)

/-- 'laws.FnExactMirrorBoard', WHERE WHAT IT READS IS OF BULK AT MOST 1048576: true; the input reads as it did. -/
def fnExactMirrorBoardUptoRow : OpenClaim := { program := "ytkbgdfibningoaa", sum := "fc90b6b05f73cc3aac6da432e32e463da04da27eede8822bfba4a9fef01c2adc", func := "loop.example/g01239/laws.FnExactMirrorBoard", spec := "fnExactMirrorBoard", unfollowed := true, recurses := true, apart := false, narrowed := true }
def FnExactMirrorBoardUptoSaid : Prop := fnExactMirrorBoardUptoRow.holds Try.pinned (OpenSpec.upto fnExactMirrorBoardSpec)

/-- 'laws.FnExactMirrorCell', WHERE WHAT IT READS IS OF BULK AT MOST 1048576: true; the input reads as it did. -/
def fnExactMirrorCellUptoRow : OpenClaim := { program := "ytkbgdfibningoaa", sum := "fc90b6b05f73cc3aac6da432e32e463da04da27eede8822bfba4a9fef01c2adc", func := "loop.example/g01239/laws.FnExactMirrorCell", spec := "fnExactMirrorCell", apart := false, narrowed := true }
def FnExactMirrorCellUptoSaid : Prop := fnExactMirrorCellUptoRow.holds Try.pinned (OpenSpec.upto fnExactMirrorCellSpec)

/-- 'laws.FnExactIsPath', WHERE WHAT IT READS IS OF BULK AT MOST 1048576: true; the input reads as it did. -/
def fnExactIsPathUptoRow : OpenClaim := { program := "ytkbgdfibningoaa", sum := "fc90b6b05f73cc3aac6da432e32e463da04da27eede8822bfba4a9fef01c2adc", func := "loop.example/g01239/laws.FnExactIsPath", spec := "fnExactIsPath", apart := false, narrowed := true }
def FnExactIsPathUptoSaid : Prop := fnExactIsPathUptoRow.holds Try.pinned (OpenSpec.upto fnExactIsPathSpec)

/-- 'laws.FnExactPathText', WHERE WHAT IT READS IS OF BULK AT MOST 1048576: true; the input reads as it did. -/
def fnExactPathTextUptoRow : OpenClaim := { program := "ytkbgdfibningoaa", sum := "fc90b6b05f73cc3aac6da432e32e463da04da27eede8822bfba4a9fef01c2adc", func := "loop.example/g01239/laws.FnExactPathText", spec := "fnExactPathText", inPlace := ["internal/abi.NoEscape", "internal/bytealg.MakeNoZero"], recurses := true, apart := false, narrowed := true }
def FnExactPathTextUptoSaid : Prop := fnExactPathTextUptoRow.holds Try.pinned (OpenSpec.upto fnExactPathTextSpec)

end Rows
end Go.Proofs.Ytkbgdfibningoaa
