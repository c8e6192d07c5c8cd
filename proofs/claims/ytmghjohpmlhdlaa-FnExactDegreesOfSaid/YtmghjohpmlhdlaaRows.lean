/-
  No cell of these rows narrows 'for every input' (looked for: loops, veiled, ifaces, maps, wideKeys, modest, calm, conditions, laid).
  DERIVED. THE GIVEN ROWS OF THIS SEAT. 14 by the template 'for every input the law returns true; each argument reads behind the call as it read before'; 0 by the template 'total and deterministic' (their statements: YtmghjohpmlhdlaaTotals.lean).
  GIVEN WITH THE SEED: the statements are not yours to turn. If you find one false, say at which input.
  Laid BY PROGRAM, IN A SANDBOX (cutbox-rows.mjs): the forced cells as the released guide's own fill.sh prints them over the translation 00352c3df433cf38… (all of the seat's roots in one cut). By AI agents, Wed Nov 11 2026. No macro, syntax, notation, axiom, sorry.
-/
import Derived.Test.YtmghjohpmlhdlaaChecked
import GoSem.Claim
import GoSem.ClaimJoined
import GoSem.ClaimMapViews
import Derived.JoinedTies
import Derived.KernelRfl
namespace Go.Proofs.Ytmghjohpmlhdlaa
/- THE CELL 'sum', in the pinned program and in every row, IS THE sha256 OF THE DUMP (.gsa) THAT YtmghjohpmlhdlaaProg.lean LOADS. Nothing in Lean hashes anything: it is a label: what it is worth is what the hold of that sum in a sandbox is worth. -/
noncomputable def Try.pinned : Pinned := { name := "ytmghjohpmlhdlaa", sum := "00352c3df433cf389dfd6945a06bfb9dabe04017523a6cc35ccc85b0c13b5176", checked := Try.checked }
namespace Rows
def none {H : Type} : Left H := { results := [], args := [] }

/-- 'laws.FnExactNameOf': WHATEVER THE INPUT: true; the input reads as it did. -/
def fnExactNameOfSpec : ChangeSpec := { name := "fnExactNameOf", fn := fun _ => fun
  | [d1, d2] => { results := [.lit (.bool true)], args := [d1, d2] }
  | _ => none }
def fnExactNameOfRow : OpenClaim := { program := "ytmghjohpmlhdlaa", sum := "00352c3df433cf389dfd6945a06bfb9dabe04017523a6cc35ccc85b0c13b5176", func := "loop.example/g01239/laws.FnExactNameOf", spec := "fnExactNameOf", recurses := true, apart := false }
def FnExactNameOfSaid : Prop := fnExactNameOfRow.holds Try.pinned (OpenSpec.ofChange fnExactNameOfSpec)

/-- ITS FALSE NEIGHBOUR: 'it returns false'. Refute it at one input. -/
def fnExactNameOfWrong : ChangeSpec := { name := "fnExactNameOf", fn := fun _ => fun
  | [d1, d2] => { results := [.lit (.bool false)], args := [d1, d2] }
  | _ => none }
def FnExactNameOfWrongFalsely : Prop := fnExactNameOfRow.holds Try.pinned (OpenSpec.ofChange fnExactNameOfWrong)

/-- 'laws.FnExactIsLeap': WHATEVER THE INPUT: true; the input reads as it did. -/
def fnExactIsLeapSpec : ChangeSpec := { name := "fnExactIsLeap", fn := fun _ => fun
  | [d1, d2, d3, d4] => { results := [.lit (.bool true)], args := [d1, d2, d3, d4] }
  | _ => none }
def fnExactIsLeapRow : OpenClaim := { program := "ytmghjohpmlhdlaa", sum := "00352c3df433cf389dfd6945a06bfb9dabe04017523a6cc35ccc85b0c13b5176", func := "loop.example/g01239/laws.FnExactIsLeap", spec := "fnExactIsLeap", apart := false }
def FnExactIsLeapSaid : Prop := fnExactIsLeapRow.holds Try.pinned (OpenSpec.ofChange fnExactIsLeapSpec)

/-- ITS FALSE NEIGHBOUR: 'it returns false'. Refute it at one input. -/
def fnExactIsLeapWrong : ChangeSpec := { name := "fnExactIsLeap", fn := fun _ => fun
  | [d1, d2, d3, d4] => { results := [.lit (.bool false)], args := [d1, d2, d3, d4] }
  | _ => none }
def FnExactIsLeapWrongFalsely : Prop := fnExactIsLeapRow.holds Try.pinned (OpenSpec.ofChange fnExactIsLeapWrong)

/-- 'laws.FnExactIsPath': WHATEVER THE INPUT: true; the input reads as it did. -/
def fnExactIsPathSpec : ChangeSpec := { name := "fnExactIsPath", fn := fun _ => fun
  | [d1, d2, d3] => { results := [.lit (.bool true)], args := [d1, d2, d3] }
  | _ => none }
def fnExactIsPathRow : OpenClaim := { program := "ytmghjohpmlhdlaa", sum := "00352c3df433cf389dfd6945a06bfb9dabe04017523a6cc35ccc85b0c13b5176", func := "loop.example/g01239/laws.FnExactIsPath", spec := "fnExactIsPath", apart := false }
def FnExactIsPathSaid : Prop := fnExactIsPathRow.holds Try.pinned (OpenSpec.ofChange fnExactIsPathSpec)

/-- ITS FALSE NEIGHBOUR: 'it returns false'. Refute it at one input. -/
def fnExactIsPathWrong : ChangeSpec := { name := "fnExactIsPath", fn := fun _ => fun
  | [d1, d2, d3] => { results := [.lit (.bool false)], args := [d1, d2, d3] }
  | _ => none }
def FnExactIsPathWrongFalsely : Prop := fnExactIsPathRow.holds Try.pinned (OpenSpec.ofChange fnExactIsPathWrong)

/-- 'laws.FnExactTurnCell': WHATEVER THE INPUT: true; the input reads as it did. -/
def fnExactTurnCellSpec : ChangeSpec := { name := "fnExactTurnCell", fn := fun _ => fun
  | [d1, d2] => { results := [.lit (.bool true)], args := [d1, d2] }
  | _ => none }
def fnExactTurnCellRow : OpenClaim := { program := "ytmghjohpmlhdlaa", sum := "00352c3df433cf389dfd6945a06bfb9dabe04017523a6cc35ccc85b0c13b5176", func := "loop.example/g01239/laws.FnExactTurnCell", spec := "fnExactTurnCell", apart := false }
def FnExactTurnCellSaid : Prop := fnExactTurnCellRow.holds Try.pinned (OpenSpec.ofChange fnExactTurnCellSpec)

/-- ITS FALSE NEIGHBOUR: 'it returns false'. Refute it at one input. -/
def fnExactTurnCellWrong : ChangeSpec := { name := "fnExactTurnCell", fn := fun _ => fun
  | [d1, d2] => { results := [.lit (.bool false)], args := [d1, d2] }
  | _ => none }
def FnExactTurnCellWrongFalsely : Prop := fnExactTurnCellRow.holds Try.pinned (OpenSpec.ofChange fnExactTurnCellWrong)

/-- 'laws.FnExactMirrorCell': WHATEVER THE INPUT: true; the input reads as it did. -/
def fnExactMirrorCellSpec : ChangeSpec := { name := "fnExactMirrorCell", fn := fun _ => fun
  | [d1, d2] => { results := [.lit (.bool true)], args := [d1, d2] }
  | _ => none }
def fnExactMirrorCellRow : OpenClaim := { program := "ytmghjohpmlhdlaa", sum := "00352c3df433cf389dfd6945a06bfb9dabe04017523a6cc35ccc85b0c13b5176", func := "loop.example/g01239/laws.FnExactMirrorCell", spec := "fnExactMirrorCell", apart := false }
def FnExactMirrorCellSaid : Prop := fnExactMirrorCellRow.holds Try.pinned (OpenSpec.ofChange fnExactMirrorCellSpec)

/-- ITS FALSE NEIGHBOUR: 'it returns false'. Refute it at one input. -/
def fnExactMirrorCellWrong : ChangeSpec := { name := "fnExactMirrorCell", fn := fun _ => fun
  | [d1, d2] => { results := [.lit (.bool false)], args := [d1, d2] }
  | _ => none }
def FnExactMirrorCellWrongFalsely : Prop := fnExactMirrorCellRow.holds Try.pinned (OpenSpec.ofChange fnExactMirrorCellWrong)

/-- 'laws.FnExactTurnBoard': WHATEVER THE INPUT: true; the input reads as it did. -/
def fnExactTurnBoardSpec : ChangeSpec := { name := "fnExactTurnBoard", fn := fun _ => fun
  | [d] => { results := [.lit (.bool true)], args := [d] }
  | _ => none }
def fnExactTurnBoardRow : OpenClaim := { program := "ytmghjohpmlhdlaa", sum := "00352c3df433cf389dfd6945a06bfb9dabe04017523a6cc35ccc85b0c13b5176", func := "loop.example/g01239/laws.FnExactTurnBoard", spec := "fnExactTurnBoard", unfollowed := true, recurses := true, apart := false }
def FnExactTurnBoardSaid : Prop := fnExactTurnBoardRow.holds Try.pinned (OpenSpec.ofChange fnExactTurnBoardSpec)

/-- ITS FALSE NEIGHBOUR: 'it returns false'. Refute it at one input. -/
def fnExactTurnBoardWrong : ChangeSpec := { name := "fnExactTurnBoard", fn := fun _ => fun
  | [d] => { results := [.lit (.bool false)], args := [d] }
  | _ => none }
def FnExactTurnBoardWrongFalsely : Prop := fnExactTurnBoardRow.holds Try.pinned (OpenSpec.ofChange fnExactTurnBoardWrong)

/-- 'laws.FnExactMirrorBoard': WHATEVER THE INPUT: true; the input reads as it did. -/
def fnExactMirrorBoardSpec : ChangeSpec := { name := "fnExactMirrorBoard", fn := fun _ => fun
  | [d] => { results := [.lit (.bool true)], args := [d] }
  | _ => none }
def fnExactMirrorBoardRow : OpenClaim := { program := "ytmghjohpmlhdlaa", sum := "00352c3df433cf389dfd6945a06bfb9dabe04017523a6cc35ccc85b0c13b5176", func := "loop.example/g01239/laws.FnExactMirrorBoard", spec := "fnExactMirrorBoard", unfollowed := true, recurses := true, apart := false }
def FnExactMirrorBoardSaid : Prop := fnExactMirrorBoardRow.holds Try.pinned (OpenSpec.ofChange fnExactMirrorBoardSpec)

/-- ITS FALSE NEIGHBOUR: 'it returns false'. Refute it at one input. -/
def fnExactMirrorBoardWrong : ChangeSpec := { name := "fnExactMirrorBoard", fn := fun _ => fun
  | [d] => { results := [.lit (.bool false)], args := [d] }
  | _ => none }
def FnExactMirrorBoardWrongFalsely : Prop := fnExactMirrorBoardRow.holds Try.pinned (OpenSpec.ofChange fnExactMirrorBoardWrong)

/-- 'laws.FnExactLeapsFrom': WHATEVER THE INPUT: true; the input reads as it did. -/
def fnExactLeapsFromSpec : ChangeSpec := { name := "fnExactLeapsFrom", fn := fun _ => fun
  | [d1, d2, d3] => { results := [.lit (.bool true)], args := [d1, d2, d3] }
  | _ => none }
def fnExactLeapsFromRow : OpenClaim := { program := "ytmghjohpmlhdlaa", sum := "00352c3df433cf389dfd6945a06bfb9dabe04017523a6cc35ccc85b0c13b5176", func := "loop.example/g01239/laws.FnExactLeapsFrom", spec := "fnExactLeapsFrom", unfollowed := true, recurses := true, apart := false }
def FnExactLeapsFromSaid : Prop := fnExactLeapsFromRow.holds Try.pinned (OpenSpec.ofChange fnExactLeapsFromSpec)

/-- ITS FALSE NEIGHBOUR: 'it returns false'. Refute it at one input. -/
def fnExactLeapsFromWrong : ChangeSpec := { name := "fnExactLeapsFrom", fn := fun _ => fun
  | [d1, d2, d3] => { results := [.lit (.bool false)], args := [d1, d2, d3] }
  | _ => none }
def FnExactLeapsFromWrongFalsely : Prop := fnExactLeapsFromRow.holds Try.pinned (OpenSpec.ofChange fnExactLeapsFromWrong)

/-- 'laws.FnExactDegreesOf': WHATEVER THE INPUT: true; the input reads as it did. -/
def fnExactDegreesOfSpec : ChangeSpec := { name := "fnExactDegreesOf", fn := fun _ => fun
  | [d1, d2] => { results := [.lit (.bool true)], args := [d1, d2] }
  | _ => none }
def fnExactDegreesOfRow : OpenClaim := { program := "ytmghjohpmlhdlaa", sum := "00352c3df433cf389dfd6945a06bfb9dabe04017523a6cc35ccc85b0c13b5176", func := "loop.example/g01239/laws.FnExactDegreesOf", spec := "fnExactDegreesOf", unfollowed := true, recurses := true, apart := false }
def FnExactDegreesOfSaid : Prop := fnExactDegreesOfRow.holds Try.pinned (OpenSpec.ofChange fnExactDegreesOfSpec)

/-- ITS FALSE NEIGHBOUR: 'it returns false'. Refute it at one input. -/
def fnExactDegreesOfWrong : ChangeSpec := { name := "fnExactDegreesOf", fn := fun _ => fun
  | [d1, d2] => { results := [.lit (.bool false)], args := [d1, d2] }
  | _ => none }
def FnExactDegreesOfWrongFalsely : Prop := fnExactDegreesOfRow.holds Try.pinned (OpenSpec.ofChange fnExactDegreesOfWrong)

/-- 'laws.FnExactIsWalk': WHATEVER THE INPUT: true; the input reads as it did. -/
def fnExactIsWalkSpec : ChangeSpec := { name := "fnExactIsWalk", fn := fun _ => fun
  | [d1, d2, d3] => { results := [.lit (.bool true)], args := [d1, d2, d3] }
  | _ => none }
def fnExactIsWalkRow : OpenClaim := { program := "ytmghjohpmlhdlaa", sum := "00352c3df433cf389dfd6945a06bfb9dabe04017523a6cc35ccc85b0c13b5176", func := "loop.example/g01239/laws.FnExactIsWalk", spec := "fnExactIsWalk", unfollowed := true, recurses := true, apart := false }
def FnExactIsWalkSaid : Prop := fnExactIsWalkRow.holds Try.pinned (OpenSpec.ofChange fnExactIsWalkSpec)

/-- ITS FALSE NEIGHBOUR: 'it returns false'. Refute it at one input. -/
def fnExactIsWalkWrong : ChangeSpec := { name := "fnExactIsWalk", fn := fun _ => fun
  | [d1, d2, d3] => { results := [.lit (.bool false)], args := [d1, d2, d3] }
  | _ => none }
def FnExactIsWalkWrongFalsely : Prop := fnExactIsWalkRow.holds Try.pinned (OpenSpec.ofChange fnExactIsWalkWrong)

/-- 'laws.FnExactIsTour': WHATEVER THE INPUT: true; the input reads as it did. -/
def fnExactIsTourSpec : ChangeSpec := { name := "fnExactIsTour", fn := fun _ => fun
  | [d1, d2, d3] => { results := [.lit (.bool true)], args := [d1, d2, d3] }
  | _ => none }
def fnExactIsTourRow : OpenClaim := { program := "ytmghjohpmlhdlaa", sum := "00352c3df433cf389dfd6945a06bfb9dabe04017523a6cc35ccc85b0c13b5176", func := "loop.example/g01239/laws.FnExactIsTour", spec := "fnExactIsTour", unfollowed := true, recurses := true, apart := false }
def FnExactIsTourSaid : Prop := fnExactIsTourRow.holds Try.pinned (OpenSpec.ofChange fnExactIsTourSpec)

/-- ITS FALSE NEIGHBOUR: 'it returns false'. Refute it at one input. -/
def fnExactIsTourWrong : ChangeSpec := { name := "fnExactIsTour", fn := fun _ => fun
  | [d1, d2, d3] => { results := [.lit (.bool false)], args := [d1, d2, d3] }
  | _ => none }
def FnExactIsTourWrongFalsely : Prop := fnExactIsTourRow.holds Try.pinned (OpenSpec.ofChange fnExactIsTourWrong)

/-- 'laws.FnExactNumbersOfWalk': WHATEVER THE INPUT: true; the input reads as it did. -/
def fnExactNumbersOfWalkSpec : ChangeSpec := { name := "fnExactNumbersOfWalk", fn := fun _ => fun
  | [d1, d2, d3] => { results := [.lit (.bool true)], args := [d1, d2, d3] }
  | _ => none }
def fnExactNumbersOfWalkRow : OpenClaim := { program := "ytmghjohpmlhdlaa", sum := "00352c3df433cf389dfd6945a06bfb9dabe04017523a6cc35ccc85b0c13b5176", func := "loop.example/g01239/laws.FnExactNumbersOfWalk", spec := "fnExactNumbersOfWalk", unfollowed := true, recurses := true, apart := false }
def FnExactNumbersOfWalkSaid : Prop := fnExactNumbersOfWalkRow.holds Try.pinned (OpenSpec.ofChange fnExactNumbersOfWalkSpec)

/-- ITS FALSE NEIGHBOUR: 'it returns false'. Refute it at one input. -/
def fnExactNumbersOfWalkWrong : ChangeSpec := { name := "fnExactNumbersOfWalk", fn := fun _ => fun
  | [d1, d2, d3] => { results := [.lit (.bool false)], args := [d1, d2, d3] }
  | _ => none }
def FnExactNumbersOfWalkWrongFalsely : Prop := fnExactNumbersOfWalkRow.holds Try.pinned (OpenSpec.ofChange fnExactNumbersOfWalkWrong)

/-- 'laws.FnExactWalkOfNumbers': WHATEVER THE INPUT: true; the input reads as it did. -/
def fnExactWalkOfNumbersSpec : ChangeSpec := { name := "fnExactWalkOfNumbers", fn := fun _ => fun
  | [d1, d2, d3] => { results := [.lit (.bool true)], args := [d1, d2, d3] }
  | _ => none }
def fnExactWalkOfNumbersRow : OpenClaim := { program := "ytmghjohpmlhdlaa", sum := "00352c3df433cf389dfd6945a06bfb9dabe04017523a6cc35ccc85b0c13b5176", func := "loop.example/g01239/laws.FnExactWalkOfNumbers", spec := "fnExactWalkOfNumbers", unfollowed := true, recurses := true, apart := false }
def FnExactWalkOfNumbersSaid : Prop := fnExactWalkOfNumbersRow.holds Try.pinned (OpenSpec.ofChange fnExactWalkOfNumbersSpec)

/-- ITS FALSE NEIGHBOUR: 'it returns false'. Refute it at one input. -/
def fnExactWalkOfNumbersWrong : ChangeSpec := { name := "fnExactWalkOfNumbers", fn := fun _ => fun
  | [d1, d2, d3] => { results := [.lit (.bool false)], args := [d1, d2, d3] }
  | _ => none }
def FnExactWalkOfNumbersWrongFalsely : Prop := fnExactWalkOfNumbersRow.holds Try.pinned (OpenSpec.ofChange fnExactWalkOfNumbersWrong)

/-- 'laws.FnExactColoursForbid': WHATEVER THE INPUT: true; the input reads as it did. -/
def fnExactColoursForbidSpec : ChangeSpec := { name := "fnExactColoursForbid", fn := fun _ => fun
  | [d1, d2] => { results := [.lit (.bool true)], args := [d1, d2] }
  | _ => none }
def fnExactColoursForbidRow : OpenClaim := { program := "ytmghjohpmlhdlaa", sum := "00352c3df433cf389dfd6945a06bfb9dabe04017523a6cc35ccc85b0c13b5176", func := "loop.example/g01239/laws.FnExactColoursForbid", spec := "fnExactColoursForbid", unfollowed := true, recurses := true, apart := false }
def FnExactColoursForbidSaid : Prop := fnExactColoursForbidRow.holds Try.pinned (OpenSpec.ofChange fnExactColoursForbidSpec)

/-- ITS FALSE NEIGHBOUR: 'it returns false'. Refute it at one input. -/
def fnExactColoursForbidWrong : ChangeSpec := { name := "fnExactColoursForbid", fn := fun _ => fun
  | [d1, d2] => { results := [.lit (.bool false)], args := [d1, d2] }
  | _ => none }
def FnExactColoursForbidWrongFalsely : Prop := fnExactColoursForbidRow.holds Try.pinned (OpenSpec.ofChange fnExactColoursForbidWrong)

/- THE SECOND FORM. 'bulk': how many values and letters a reading holds, each counted each time it is reached (what is shared counts as often as it is met; a slice's spare places count too). A statement '..UptoSaid' is the law's where the arguments, and the package variables that the reading takes, are together of bulk at most 1048576: NARROWER than '..Said'. Prove '..Said' where nothing that the law and all that it calls make is longer than what came in: it says more and counts as full. Else prove '..UptoSaid'. A law counts once. -/
mutual
def uptoBulk {H : Type} : DataW H → Nat
  | .lit (.string bytes) => bytes.length + 1
  | .lit _ => 1
  | .nil => 1
  | .ptr d => uptoBulk d + 1
  | .slice elems spare => uptoBulkAll elems + uptoBulkAll spare + 1
  | .agg parts => uptoBulkAll parts + 1
  | .iface _ d => uptoBulk d + 1
  | .map entries => uptoBulkEntries entries + 1
  | .held _ => 1
def uptoBulkAll {H : Type} : List (DataW H) → Nat
  | [] => 0
  | d :: r => uptoBulk d + uptoBulkAll r
def uptoBulkEntries {H : Type} : List (Lit × DataW H) → Nat
  | [] => 0
  | x :: r => uptoBulkEntry x + uptoBulkEntries r
def uptoBulkEntry {H : Type} : Lit × DataW H → Nat
  | (.string bytes, d) => bytes.length + uptoBulk d + 1
  | (_, d) => uptoBulk d + 1
 end
def uptoSmall : (H : Type) → List (DataW H) → Bool := fun _ ds => decide (uptoBulkAll ds ≤ 1048576)
def OpenSpec.upto (s : _root_.Go.ChangeSpec) : _root_.Go.OpenSpec := { _root_.Go.OpenSpec.ofChange s with cond := some uptoSmall }

/-- 'laws.FnExactNameOf', WHERE WHAT IT READS IS OF BULK AT MOST 1048576: true; the input reads as it did. -/
def fnExactNameOfUptoRow : OpenClaim := { program := "ytmghjohpmlhdlaa", sum := "00352c3df433cf389dfd6945a06bfb9dabe04017523a6cc35ccc85b0c13b5176", func := "loop.example/g01239/laws.FnExactNameOf", spec := "fnExactNameOf", recurses := true, apart := false, narrowed := true }
def FnExactNameOfUptoSaid : Prop := fnExactNameOfUptoRow.holds Try.pinned (OpenSpec.upto fnExactNameOfSpec)

/-- 'laws.FnExactIsLeap', WHERE WHAT IT READS IS OF BULK AT MOST 1048576: true; the input reads as it did. -/
def fnExactIsLeapUptoRow : OpenClaim := { program := "ytmghjohpmlhdlaa", sum := "00352c3df433cf389dfd6945a06bfb9dabe04017523a6cc35ccc85b0c13b5176", func := "loop.example/g01239/laws.FnExactIsLeap", spec := "fnExactIsLeap", apart := false, narrowed := true }
def FnExactIsLeapUptoSaid : Prop := fnExactIsLeapUptoRow.holds Try.pinned (OpenSpec.upto fnExactIsLeapSpec)

/-- 'laws.FnExactIsPath', WHERE WHAT IT READS IS OF BULK AT MOST 1048576: true; the input reads as it did. -/
def fnExactIsPathUptoRow : OpenClaim := { program := "ytmghjohpmlhdlaa", sum := "00352c3df433cf389dfd6945a06bfb9dabe04017523a6cc35ccc85b0c13b5176", func := "loop.example/g01239/laws.FnExactIsPath", spec := "fnExactIsPath", apart := false, narrowed := true }
def FnExactIsPathUptoSaid : Prop := fnExactIsPathUptoRow.holds Try.pinned (OpenSpec.upto fnExactIsPathSpec)

/-- 'laws.FnExactTurnCell', WHERE WHAT IT READS IS OF BULK AT MOST 1048576: true; the input reads as it did. -/
def fnExactTurnCellUptoRow : OpenClaim := { program := "ytmghjohpmlhdlaa", sum := "00352c3df433cf389dfd6945a06bfb9dabe04017523a6cc35ccc85b0c13b5176", func := "loop.example/g01239/laws.FnExactTurnCell", spec := "fnExactTurnCell", apart := false, narrowed := true }
def FnExactTurnCellUptoSaid : Prop := fnExactTurnCellUptoRow.holds Try.pinned (OpenSpec.upto fnExactTurnCellSpec)

/-- 'laws.FnExactMirrorCell', WHERE WHAT IT READS IS OF BULK AT MOST 1048576: true; the input reads as it did. -/
def fnExactMirrorCellUptoRow : OpenClaim := { program := "ytmghjohpmlhdlaa", sum := "00352c3df433cf389dfd6945a06bfb9dabe04017523a6cc35ccc85b0c13b5176", func := "loop.example/g01239/laws.FnExactMirrorCell", spec := "fnExactMirrorCell", apart := false, narrowed := true }
def FnExactMirrorCellUptoSaid : Prop := fnExactMirrorCellUptoRow.holds Try.pinned (OpenSpec.upto fnExactMirrorCellSpec)

/-- 'laws.FnExactTurnBoard', WHERE WHAT IT READS IS OF BULK AT MOST 1048576: true; the input reads as it did. -/
def fnExactTurnBoardUptoRow : OpenClaim := { program := "ytmghjohpmlhdlaa", sum := "00352c3df433cf389dfd6945a06bfb9dabe04017523a6cc35ccc85b0c13b5176", func := "loop.example/g01239/laws.FnExactTurnBoard", spec := "fnExactTurnBoard", unfollowed := true, recurses := true, apart := false, narrowed := true }
def FnExactTurnBoardUptoSaid : Prop := fnExactTurnBoardUptoRow.holds Try.pinned (OpenSpec.upto fnExactTurnBoardSpec)

/-- 'laws.FnExactMirrorBoard', WHERE WHAT IT READS IS OF BULK AT MOST 1048576: true; the input reads as it did. -/
def fnExactMirrorBoardUptoRow : OpenClaim := { program := "ytmghjohpmlhdlaa", sum := "00352c3df433cf389dfd6945a06bfb9dabe04017523a6cc35ccc85b0c13b5176", func := "loop.example/g01239/laws.FnExactMirrorBoard", spec := "fnExactMirrorBoard", unfollowed := true, recurses := true, apart := false, narrowed := true }
def FnExactMirrorBoardUptoSaid : Prop := fnExactMirrorBoardUptoRow.holds Try.pinned (OpenSpec.upto fnExactMirrorBoardSpec)

/-- 'laws.FnExactLeapsFrom', WHERE WHAT IT READS IS OF BULK AT MOST 1048576: true; the input reads as it did. -/
def fnExactLeapsFromUptoRow : OpenClaim := { program := "ytmghjohpmlhdlaa", sum := "00352c3df433cf389dfd6945a06bfb9dabe04017523a6cc35ccc85b0c13b5176", func := "loop.example/g01239/laws.FnExactLeapsFrom", spec := "fnExactLeapsFrom", unfollowed := true, recurses := true, apart := false, narrowed := true }
def FnExactLeapsFromUptoSaid : Prop := fnExactLeapsFromUptoRow.holds Try.pinned (OpenSpec.upto fnExactLeapsFromSpec)

/-- 'laws.FnExactDegreesOf', WHERE WHAT IT READS IS OF BULK AT MOST 1048576: true; the input reads as it did. -/
def fnExactDegreesOfUptoRow : OpenClaim := { program := "ytmghjohpmlhdlaa", sum := "00352c3df433cf389dfd6945a06bfb9dabe04017523a6cc35ccc85b0c13b5176", func := "loop.example/g01239/laws.FnExactDegreesOf", spec := "fnExactDegreesOf", unfollowed := true, recurses := true, apart := false, narrowed := true }
def FnExactDegreesOfUptoSaid : Prop := fnExactDegreesOfUptoRow.holds Try.pinned (OpenSpec.upto fnExactDegreesOfSpec)

/-- 'laws.FnExactIsWalk', WHERE WHAT IT READS IS OF BULK AT MOST 1048576: true; the input reads as it did. -/
def fnExactIsWalkUptoRow : OpenClaim := { program := "ytmghjohpmlhdlaa", sum := "00352c3df433cf389dfd6945a06bfb9dabe04017523a6cc35ccc85b0c13b5176", func := "loop.example/g01239/laws.FnExactIsWalk", spec := "fnExactIsWalk", unfollowed := true, recurses := true, apart := false, narrowed := true }
def FnExactIsWalkUptoSaid : Prop := fnExactIsWalkUptoRow.holds Try.pinned (OpenSpec.upto fnExactIsWalkSpec)

/-- 'laws.FnExactIsTour', WHERE WHAT IT READS IS OF BULK AT MOST 1048576: true; the input reads as it did. -/
def fnExactIsTourUptoRow : OpenClaim := { program := "ytmghjohpmlhdlaa", sum := "00352c3df433cf389dfd6945a06bfb9dabe04017523a6cc35ccc85b0c13b5176", func := "loop.example/g01239/laws.FnExactIsTour", spec := "fnExactIsTour", unfollowed := true, recurses := true, apart := false, narrowed := true }
def FnExactIsTourUptoSaid : Prop := fnExactIsTourUptoRow.holds Try.pinned (OpenSpec.upto fnExactIsTourSpec)

/-- 'laws.FnExactNumbersOfWalk', WHERE WHAT IT READS IS OF BULK AT MOST 1048576: true; the input reads as it did. -/
def fnExactNumbersOfWalkUptoRow : OpenClaim := { program := "ytmghjohpmlhdlaa", sum := "00352c3df433cf389dfd6945a06bfb9dabe04017523a6cc35ccc85b0c13b5176", func := "loop.example/g01239/laws.FnExactNumbersOfWalk", spec := "fnExactNumbersOfWalk", unfollowed := true, recurses := true, apart := false, narrowed := true }
def FnExactNumbersOfWalkUptoSaid : Prop := fnExactNumbersOfWalkUptoRow.holds Try.pinned (OpenSpec.upto fnExactNumbersOfWalkSpec)

/-- 'laws.FnExactWalkOfNumbers', WHERE WHAT IT READS IS OF BULK AT MOST 1048576: true; the input reads as it did. -/
def fnExactWalkOfNumbersUptoRow : OpenClaim := { program := "ytmghjohpmlhdlaa", sum := "00352c3df433cf389dfd6945a06bfb9dabe04017523a6cc35ccc85b0c13b5176", func := "loop.example/g01239/laws.FnExactWalkOfNumbers", spec := "fnExactWalkOfNumbers", unfollowed := true, recurses := true, apart := false, narrowed := true }
def FnExactWalkOfNumbersUptoSaid : Prop := fnExactWalkOfNumbersUptoRow.holds Try.pinned (OpenSpec.upto fnExactWalkOfNumbersSpec)

/-- 'laws.FnExactColoursForbid', WHERE WHAT IT READS IS OF BULK AT MOST 1048576: true; the input reads as it did. -/
def fnExactColoursForbidUptoRow : OpenClaim := { program := "ytmghjohpmlhdlaa", sum := "00352c3df433cf389dfd6945a06bfb9dabe04017523a6cc35ccc85b0c13b5176", func := "loop.example/g01239/laws.FnExactColoursForbid", spec := "fnExactColoursForbid", unfollowed := true, recurses := true, apart := false, narrowed := true }
def FnExactColoursForbidUptoSaid : Prop := fnExactColoursForbidUptoRow.holds Try.pinned (OpenSpec.upto fnExactColoursForbidSpec)

end Rows
end Go.Proofs.Ytmghjohpmlhdlaa
