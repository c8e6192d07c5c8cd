/-
  No cell of these rows narrows 'for every input' (looked for: loops, veiled, ifaces, maps, wideKeys, modest, calm, conditions, laid).
  DERIVED. THE GIVEN ROWS OF THIS SEAT. 8 by the template 'for every input the law returns true; each argument reads behind the call as it read before'; 0 by the template 'total and deterministic' (their statements: YtmecomcokmffbaaTotals.lean).
  GIVEN WITH THE SEED: the statements are not yours to turn. If you find one false, say at which input.
  Laid BY PROGRAM, IN A SANDBOX (cutbox-rows.mjs): the forced cells as the released guide's own fill.sh prints them over the translation 3df18098e991bf26… (all of the seat's roots in one cut). By AI agents, Wed Nov 11 2026. No macro, syntax, notation, axiom, sorry.
-/
import Derived.Test.YtmecomcokmffbaaChecked
import GoSem.Claim
import GoSem.ClaimJoined
import GoSem.ClaimMapViews
import Derived.JoinedTies
import Derived.KernelRfl
namespace Go.Proofs.Ytmecomcokmffbaa
/- THE CELL 'sum', in the pinned program and in every row, IS THE sha256 OF THE DUMP (.gsa) THAT YtmecomcokmffbaaProg.lean LOADS. Nothing in Lean hashes anything: it is a label: what it is worth is what the hold of that sum in a sandbox is worth. -/
noncomputable def Try.pinned : Pinned := { name := "ytmecomcokmffbaa", sum := "3df18098e991bf265582c906aa02a8ab518fc40b758ad1ca26f415b921614fd9", checked := Try.checked }
namespace Rows
def none {H : Type} : Left H := { results := [], args := [] }

/-- 'laws.FnExactDoLeapsCross': WHATEVER THE INPUT: true; the input reads as it did. -/
def fnExactDoLeapsCrossSpec : ChangeSpec := { name := "fnExactDoLeapsCross", fn := fun _ => fun
  | [d1, d2, d3, d4] => { results := [.lit (.bool true)], args := [d1, d2, d3, d4] }
  | _ => none }
def fnExactDoLeapsCrossRow : OpenClaim := { program := "ytmecomcokmffbaa", sum := "3df18098e991bf265582c906aa02a8ab518fc40b758ad1ca26f415b921614fd9", func := "loop.example/g01239/laws.FnExactDoLeapsCross", spec := "fnExactDoLeapsCross", unfollowed := true, recurses := true, apart := false }
def FnExactDoLeapsCrossSaid : Prop := fnExactDoLeapsCrossRow.holds Try.pinned (OpenSpec.ofChange fnExactDoLeapsCrossSpec)

/-- ITS FALSE NEIGHBOUR: 'it returns false'. Refute it at one input. -/
def fnExactDoLeapsCrossWrong : ChangeSpec := { name := "fnExactDoLeapsCross", fn := fun _ => fun
  | [d1, d2, d3, d4] => { results := [.lit (.bool false)], args := [d1, d2, d3, d4] }
  | _ => none }
def FnExactDoLeapsCrossWrongFalsely : Prop := fnExactDoLeapsCrossRow.holds Try.pinned (OpenSpec.ofChange fnExactDoLeapsCrossWrong)

/-- 'laws.FnExactCountCrossings': WHATEVER THE INPUT: true; the input reads as it did. -/
def fnExactCountCrossingsSpec : ChangeSpec := { name := "fnExactCountCrossings", fn := fun _ => fun
  | [d1, d2, d3] => { results := [.lit (.bool true)], args := [d1, d2, d3] }
  | _ => none }
def fnExactCountCrossingsRow : OpenClaim := { program := "ytmecomcokmffbaa", sum := "3df18098e991bf265582c906aa02a8ab518fc40b758ad1ca26f415b921614fd9", func := "loop.example/g01239/laws.FnExactCountCrossings", spec := "fnExactCountCrossings", unfollowed := true, recurses := true, apart := false }
def FnExactCountCrossingsSaid : Prop := fnExactCountCrossingsRow.holds Try.pinned (OpenSpec.ofChange fnExactCountCrossingsSpec)

/-- ITS FALSE NEIGHBOUR: 'it returns false'. Refute it at one input. -/
def fnExactCountCrossingsWrong : ChangeSpec := { name := "fnExactCountCrossings", fn := fun _ => fun
  | [d1, d2, d3] => { results := [.lit (.bool false)], args := [d1, d2, d3] }
  | _ => none }
def FnExactCountCrossingsWrongFalsely : Prop := fnExactCountCrossingsRow.holds Try.pinned (OpenSpec.ofChange fnExactCountCrossingsWrong)

/-- 'laws.FnExactIsUncrossed': WHATEVER THE INPUT: true; the input reads as it did. -/
def fnExactIsUncrossedSpec : ChangeSpec := { name := "fnExactIsUncrossed", fn := fun _ => fun
  | [d1, d2, d3] => { results := [.lit (.bool true)], args := [d1, d2, d3] }
  | _ => none }
def fnExactIsUncrossedRow : OpenClaim := { program := "ytmecomcokmffbaa", sum := "3df18098e991bf265582c906aa02a8ab518fc40b758ad1ca26f415b921614fd9", func := "loop.example/g01239/laws.FnExactIsUncrossed", spec := "fnExactIsUncrossed", unfollowed := true, recurses := true, apart := false }
def FnExactIsUncrossedSaid : Prop := fnExactIsUncrossedRow.holds Try.pinned (OpenSpec.ofChange fnExactIsUncrossedSpec)

/-- ITS FALSE NEIGHBOUR: 'it returns false'. Refute it at one input. -/
def fnExactIsUncrossedWrong : ChangeSpec := { name := "fnExactIsUncrossed", fn := fun _ => fun
  | [d1, d2, d3] => { results := [.lit (.bool false)], args := [d1, d2, d3] }
  | _ => none }
def FnExactIsUncrossedWrongFalsely : Prop := fnExactIsUncrossedRow.holds Try.pinned (OpenSpec.ofChange fnExactIsUncrossedWrong)

/-- 'laws.FnExactBackPath': WHATEVER THE INPUT: true; the input reads as it did. -/
def fnExactBackPathSpec : ChangeSpec := { name := "fnExactBackPath", fn := fun _ => fun
  | [d1, d2, d3] => { results := [.lit (.bool true)], args := [d1, d2, d3] }
  | _ => none }
def fnExactBackPathRow : OpenClaim := { program := "ytmecomcokmffbaa", sum := "3df18098e991bf265582c906aa02a8ab518fc40b758ad1ca26f415b921614fd9", func := "loop.example/g01239/laws.FnExactBackPath", spec := "fnExactBackPath", unfollowed := true, recurses := true, apart := false }
def FnExactBackPathSaid : Prop := fnExactBackPathRow.holds Try.pinned (OpenSpec.ofChange fnExactBackPathSpec)

/-- ITS FALSE NEIGHBOUR: 'it returns false'. Refute it at one input. -/
def fnExactBackPathWrong : ChangeSpec := { name := "fnExactBackPath", fn := fun _ => fun
  | [d1, d2, d3] => { results := [.lit (.bool false)], args := [d1, d2, d3] }
  | _ => none }
def FnExactBackPathWrongFalsely : Prop := fnExactBackPathRow.holds Try.pinned (OpenSpec.ofChange fnExactBackPathWrong)

/-- 'laws.FnExactTurnsOfPath': WHATEVER THE INPUT: true; the input reads as it did. -/
def fnExactTurnsOfPathSpec : ChangeSpec := { name := "fnExactTurnsOfPath", fn := fun _ => fun
  | [d1, d2, d3] => { results := [.lit (.bool true)], args := [d1, d2, d3] }
  | _ => none }
def fnExactTurnsOfPathRow : OpenClaim := { program := "ytmecomcokmffbaa", sum := "3df18098e991bf265582c906aa02a8ab518fc40b758ad1ca26f415b921614fd9", func := "loop.example/g01239/laws.FnExactTurnsOfPath", spec := "fnExactTurnsOfPath", unfollowed := true, recurses := true, apart := false }
def FnExactTurnsOfPathSaid : Prop := fnExactTurnsOfPathRow.holds Try.pinned (OpenSpec.ofChange fnExactTurnsOfPathSpec)

/-- ITS FALSE NEIGHBOUR: 'it returns false'. Refute it at one input. -/
def fnExactTurnsOfPathWrong : ChangeSpec := { name := "fnExactTurnsOfPath", fn := fun _ => fun
  | [d1, d2, d3] => { results := [.lit (.bool false)], args := [d1, d2, d3] }
  | _ => none }
def FnExactTurnsOfPathWrongFalsely : Prop := fnExactTurnsOfPathRow.holds Try.pinned (OpenSpec.ofChange fnExactTurnsOfPathWrong)

/-- 'laws.FnExactIsRing': WHATEVER THE INPUT: true; the input reads as it did. -/
def fnExactIsRingSpec : ChangeSpec := { name := "fnExactIsRing", fn := fun _ => fun
  | [d1, d2, d3] => { results := [.lit (.bool true)], args := [d1, d2, d3] }
  | _ => none }
def fnExactIsRingRow : OpenClaim := { program := "ytmecomcokmffbaa", sum := "3df18098e991bf265582c906aa02a8ab518fc40b758ad1ca26f415b921614fd9", func := "loop.example/g01239/laws.FnExactIsRing", spec := "fnExactIsRing", unfollowed := true, recurses := true, apart := false }
def FnExactIsRingSaid : Prop := fnExactIsRingRow.holds Try.pinned (OpenSpec.ofChange fnExactIsRingSpec)

/-- ITS FALSE NEIGHBOUR: 'it returns false'. Refute it at one input. -/
def fnExactIsRingWrong : ChangeSpec := { name := "fnExactIsRing", fn := fun _ => fun
  | [d1, d2, d3] => { results := [.lit (.bool false)], args := [d1, d2, d3] }
  | _ => none }
def FnExactIsRingWrongFalsely : Prop := fnExactIsRingRow.holds Try.pinned (OpenSpec.ofChange fnExactIsRingWrong)

/-- 'laws.FnExactTwiceArea': WHATEVER THE INPUT: true; the input reads as it did. -/
def fnExactTwiceAreaSpec : ChangeSpec := { name := "fnExactTwiceArea", fn := fun _ => fun
  | [d1, d2, d3] => { results := [.lit (.bool true)], args := [d1, d2, d3] }
  | _ => none }
def fnExactTwiceAreaRow : OpenClaim := { program := "ytmecomcokmffbaa", sum := "3df18098e991bf265582c906aa02a8ab518fc40b758ad1ca26f415b921614fd9", func := "loop.example/g01239/laws.FnExactTwiceArea", spec := "fnExactTwiceArea", unfollowed := true, recurses := true, apart := false }
def FnExactTwiceAreaSaid : Prop := fnExactTwiceAreaRow.holds Try.pinned (OpenSpec.ofChange fnExactTwiceAreaSpec)

/-- ITS FALSE NEIGHBOUR: 'it returns false'. Refute it at one input. -/
def fnExactTwiceAreaWrong : ChangeSpec := { name := "fnExactTwiceArea", fn := fun _ => fun
  | [d1, d2, d3] => { results := [.lit (.bool false)], args := [d1, d2, d3] }
  | _ => none }
def FnExactTwiceAreaWrongFalsely : Prop := fnExactTwiceAreaRow.holds Try.pinned (OpenSpec.ofChange fnExactTwiceAreaWrong)

/-- 'laws.FnExactInsideRing': WHATEVER THE INPUT: true; the input reads as it did. -/
def fnExactInsideRingSpec : ChangeSpec := { name := "fnExactInsideRing", fn := fun _ => fun
  | [d1, d2, d3] => { results := [.lit (.bool true)], args := [d1, d2, d3] }
  | _ => none }
def fnExactInsideRingRow : OpenClaim := { program := "ytmecomcokmffbaa", sum := "3df18098e991bf265582c906aa02a8ab518fc40b758ad1ca26f415b921614fd9", func := "loop.example/g01239/laws.FnExactInsideRing", spec := "fnExactInsideRing", unfollowed := true, recurses := true, apart := false }
def FnExactInsideRingSaid : Prop := fnExactInsideRingRow.holds Try.pinned (OpenSpec.ofChange fnExactInsideRingSpec)

/-- ITS FALSE NEIGHBOUR: 'it returns false'. Refute it at one input. -/
def fnExactInsideRingWrong : ChangeSpec := { name := "fnExactInsideRing", fn := fun _ => fun
  | [d1, d2, d3] => { results := [.lit (.bool false)], args := [d1, d2, d3] }
  | _ => none }
def FnExactInsideRingWrongFalsely : Prop := fnExactInsideRingRow.holds Try.pinned (OpenSpec.ofChange fnExactInsideRingWrong)

/- THE SECOND FORM. 'bulk': how many values and letters a reading holds, each counted each time it is reached (what is shared counts as often as it is met; a slice's spare places count too). A statement '..UptoSaid' is the law's where the arguments, and the package variables that the reading takes, are together of bulk at most 1048576: NARROWER than '..Said'. Prove '..Said' where nothing that the law and all that it calls make is longer than what came in: it says more and counts as full. Else prove '..UptoSaid'. A law counts once. -/
mutual
def uptoBulk {H : Type} : DataW H → Nat
  | .lit (.string bytes) => bytes.length + 1
  | .lit _ => 1
  | .nil => 1
  | .ptr d => uptoBulk d + 1
  | .slice elems spare => uptoBulkAll elems + uptoBulkAll spare + 1
  | .agg parts => uptoBulkAll parts + 1
  | .iface _ d => uptoBulk d + 1
  | .map entries => uptoBulkEntries entries + 1
  | .held _ => 1
def uptoBulkAll {H : Type} : List (DataW H) → Nat
  | [] => 0
  | d :: r => uptoBulk d + uptoBulkAll r
def uptoBulkEntries {H : Type} : List (Lit × DataW H) → Nat
  | [] => 0
  | x :: r => uptoBulkEntry x + uptoBulkEntries r
def uptoBulkEntry {H : Type} : Lit × DataW H → Nat
  | (.string bytes, d) => bytes.length + uptoBulk d + 1
  | (_, d) => uptoBulk d + 1
 end
def uptoSmall : (H : Type) → List (DataW H) → Bool := fun _ ds => decide (uptoBulkAll ds ≤ 1048576)
def OpenSpec.upto (s : _root_.Go.ChangeSpec) : _root_.Go.OpenSpec := { _root_.Go.OpenSpec.ofChange s with cond := some uptoSmall }

/-- 'laws.FnExactDoLeapsCross', WHERE WHAT IT READS IS OF BULK AT MOST 1048576: true; the input reads as it did. -/
def fnExactDoLeapsCrossUptoRow : OpenClaim := { program := "ytmecomcokmffbaa", sum := "3df18098e991bf265582c906aa02a8ab518fc40b758ad1ca26f415b921614fd9", func := "loop.example/g01239/laws.FnExactDoLeapsCross", spec := "fnExactDoLeapsCross", unfollowed := true, recurses := true, apart := false, narrowed := true }
def FnExactDoLeapsCrossUptoSaid : Prop := fnExactDoLeapsCrossUptoRow.holds Try.pinned (OpenSpec.upto fnExactDoLeapsCrossSpec)

/-- 'laws.FnExactCountCrossings', WHERE WHAT IT READS IS OF BULK AT MOST 1048576: true; the input reads as it did. -/
def fnExactCountCrossingsUptoRow : OpenClaim := { program := "ytmecomcokmffbaa", sum := "3df18098e991bf265582c906aa02a8ab518fc40b758ad1ca26f415b921614fd9", func := "loop.example/g01239/laws.FnExactCountCrossings", spec := "fnExactCountCrossings", unfollowed := true, recurses := true, apart := false, narrowed := true }
def FnExactCountCrossingsUptoSaid : Prop := fnExactCountCrossingsUptoRow.holds Try.pinned (OpenSpec.upto fnExactCountCrossingsSpec)

/-- 'laws.FnExactIsUncrossed', WHERE WHAT IT READS IS OF BULK AT MOST 1048576: true; the input reads as it did. -/
def fnExactIsUncrossedUptoRow : OpenClaim := { program := "ytmecomcokmffbaa", sum := "3df18098e991bf265582c906aa02a8ab518fc40b758ad1ca26f415b921614fd9", func := "loop.example/g01239/laws.FnExactIsUncrossed", spec := "fnExactIsUncrossed", unfollowed := true, recurses := true, apart := false, narrowed := true }
def FnExactIsUncrossedUptoSaid : Prop := fnExactIsUncrossedUptoRow.holds Try.pinned (OpenSpec.upto fnExactIsUncrossedSpec)

/-- 'laws.FnExactBackPath', WHERE WHAT IT READS IS OF BULK AT MOST 1048576: true; the input reads as it did. -/
def fnExactBackPathUptoRow : OpenClaim := { program := "ytmecomcokmffbaa", sum := "3df18098e991bf265582c906aa02a8ab518fc40b758ad1ca26f415b921614fd9", func := "loop.example/g01239/laws.FnExactBackPath", spec := "fnExactBackPath", unfollowed := true, recurses := true, apart := false, narrowed := true }
def FnExactBackPathUptoSaid : Prop := fnExactBackPathUptoRow.holds Try.pinned (OpenSpec.upto fnExactBackPathSpec)

/-- 'laws.FnExactTurnsOfPath', WHERE WHAT IT READS IS OF BULK AT MOST 1048576: true; the input reads as it did. -/
def fnExactTurnsOfPathUptoRow : OpenClaim := { program := "ytmecomcokmffbaa", sum := "3df18098e991bf265582c906aa02a8ab518fc40b758ad1ca26f415b921614fd9", func := "loop.example/g01239/laws.FnExactTurnsOfPath", spec := "fnExactTurnsOfPath", unfollowed := true, recurses := true, apart := false, narrowed := true }
def FnExactTurnsOfPathUptoSaid : Prop := fnExactTurnsOfPathUptoRow.holds Try.pinned (OpenSpec.upto fnExactTurnsOfPathSpec)

/-- 'laws.FnExactIsRing', WHERE WHAT IT READS IS OF BULK AT MOST 1048576: true; the input reads as it did. -/
def fnExactIsRingUptoRow : OpenClaim := { program := "ytmecomcokmffbaa", sum := "3df18098e991bf265582c906aa02a8ab518fc40b758ad1ca26f415b921614fd9", func := "loop.example/g01239/laws.FnExactIsRing", spec := "fnExactIsRing", unfollowed := true, recurses := true, apart := false, narrowed := true }
def FnExactIsRingUptoSaid : Prop := fnExactIsRingUptoRow.holds Try.pinned (OpenSpec.upto fnExactIsRingSpec)

/-- 'laws.FnExactTwiceArea', WHERE WHAT IT READS IS OF BULK AT MOST 1048576: true; the input reads as it did. -/
def fnExactTwiceAreaUptoRow : OpenClaim := { program := "ytmecomcokmffbaa", sum := "3df18098e991bf265582c906aa02a8ab518fc40b758ad1ca26f415b921614fd9", func := "loop.example/g01239/laws.FnExactTwiceArea", spec := "fnExactTwiceArea", unfollowed := true, recurses := true, apart := false, narrowed := true }
def FnExactTwiceAreaUptoSaid : Prop := fnExactTwiceAreaUptoRow.holds Try.pinned (OpenSpec.upto fnExactTwiceAreaSpec)

/-- 'laws.FnExactInsideRing', WHERE WHAT IT READS IS OF BULK AT MOST 1048576: true; the input reads as it did. -/
def fnExactInsideRingUptoRow : OpenClaim := { program := "ytmecomcokmffbaa", sum := "3df18098e991bf265582c906aa02a8ab518fc40b758ad1ca26f415b921614fd9", func := "loop.example/g01239/laws.FnExactInsideRing", spec := "fnExactInsideRing", unfollowed := true, recurses := true, apart := false, narrowed := true }
def FnExactInsideRingUptoSaid : Prop := fnExactInsideRingUptoRow.holds Try.pinned (OpenSpec.upto fnExactInsideRingSpec)

end Rows
end Go.Proofs.Ytmecomcokmffbaa
