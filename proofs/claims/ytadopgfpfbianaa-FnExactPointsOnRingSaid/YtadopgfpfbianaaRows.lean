/-
  No cell of these rows narrows 'for every input' (looked for: loops, veiled, ifaces, maps, wideKeys, modest, calm, conditions, laid).
  DERIVED. THE GIVEN ROWS OF THIS SEAT. 11 by the template 'for every input the law returns true; each argument reads behind the call as it read before'; 0 by the template 'total and deterministic' (their statements: YtadopgfpfbianaaTotals.lean).
  GIVEN WITH THE SEED: the statements are not yours to turn. If you find one false, say at which input.
  Laid BY PROGRAM, IN A SANDBOX (cutbox-rows.mjs): the forced cells as the released guide's own fill.sh prints them over the translation a3a363147379b04d… (all of the seat's roots in one cut). By AI agents, Wed Nov 11 2026. No macro, syntax, notation, axiom, sorry.
-/
import Derived.Test.YtadopgfpfbianaaChecked
import GoSem.Claim
import GoSem.ClaimJoined
import GoSem.ClaimMapViews
import Derived.JoinedTies
import Derived.KernelRfl
namespace Go.Proofs.Ytadopgfpfbianaa
/- THE CELL 'sum', in the pinned program and in every row, IS THE sha256 OF THE DUMP (.gsa) THAT YtadopgfpfbianaaProg.lean LOADS. Nothing in Lean hashes anything: it is a label: what it is worth is what the hold of that sum in a sandbox is worth. -/
noncomputable def Try.pinned : Pinned := { name := "ytadopgfpfbianaa", sum := "a3a363147379b04d630ab79a2af74fe2fffcc0f3cc0cf1e274295da20b034691", checked := Try.checked }
namespace Rows
def none {H : Type} : Left H := { results := [], args := [] }

/-- 'laws.FnExactFirstDesk': WHATEVER THE INPUT: true; the input reads as it did. -/
def fnExactFirstDeskSpec : ChangeSpec := { name := "fnExactFirstDesk", fn := fun _ => fun
  | [] => { results := [.lit (.bool true)], args := [] }
  | _ => none }
def fnExactFirstDeskRow : OpenClaim := { program := "ytadopgfpfbianaa", sum := "a3a363147379b04d630ab79a2af74fe2fffcc0f3cc0cf1e274295da20b034691", func := "loop.example/g01239/laws.FnExactFirstDesk", spec := "fnExactFirstDesk", apart := false }
def FnExactFirstDeskSaid : Prop := fnExactFirstDeskRow.holds Try.pinned (OpenSpec.ofChange fnExactFirstDeskSpec)

/-- ITS FALSE NEIGHBOUR: 'it returns false'. Refute it at one input. -/
def fnExactFirstDeskWrong : ChangeSpec := { name := "fnExactFirstDesk", fn := fun _ => fun
  | [] => { results := [.lit (.bool false)], args := [] }
  | _ => none }
def FnExactFirstDeskWrongFalsely : Prop := fnExactFirstDeskRow.holds Try.pinned (OpenSpec.ofChange fnExactFirstDeskWrong)

/-- 'laws.FnExactIsDesk': WHATEVER THE INPUT: true; the input reads as it did. -/
def fnExactIsDeskSpec : ChangeSpec := { name := "fnExactIsDesk", fn := fun _ => fun
  | [d] => { results := [.lit (.bool true)], args := [d] }
  | _ => none }
def fnExactIsDeskRow : OpenClaim := { program := "ytadopgfpfbianaa", sum := "a3a363147379b04d630ab79a2af74fe2fffcc0f3cc0cf1e274295da20b034691", func := "loop.example/g01239/laws.FnExactIsDesk", spec := "fnExactIsDesk", unfollowed := true, recurses := true, apart := false }
def FnExactIsDeskSaid : Prop := fnExactIsDeskRow.holds Try.pinned (OpenSpec.ofChange fnExactIsDeskSpec)

/-- ITS FALSE NEIGHBOUR: 'it returns false'. Refute it at one input. -/
def fnExactIsDeskWrong : ChangeSpec := { name := "fnExactIsDesk", fn := fun _ => fun
  | [d] => { results := [.lit (.bool false)], args := [d] }
  | _ => none }
def FnExactIsDeskWrongFalsely : Prop := fnExactIsDeskRow.holds Try.pinned (OpenSpec.ofChange fnExactIsDeskWrong)

/-- 'laws.FnExactCellOfName': WHATEVER THE INPUT: true; the input reads as it did. -/
def fnExactCellOfNameSpec : ChangeSpec := { name := "fnExactCellOfName", fn := fun _ => fun
  | [d1, d2] => { results := [.lit (.bool true)], args := [d1, d2] }
  | _ => none }
def fnExactCellOfNameRow : OpenClaim := { program := "ytadopgfpfbianaa", sum := "a3a363147379b04d630ab79a2af74fe2fffcc0f3cc0cf1e274295da20b034691", func := "loop.example/g01239/laws.FnExactCellOfName", spec := "fnExactCellOfName", recurses := true, apart := false }
def FnExactCellOfNameSaid : Prop := fnExactCellOfNameRow.holds Try.pinned (OpenSpec.ofChange fnExactCellOfNameSpec)

/-- ITS FALSE NEIGHBOUR: 'it returns false'. Refute it at one input. -/
def fnExactCellOfNameWrong : ChangeSpec := { name := "fnExactCellOfName", fn := fun _ => fun
  | [d1, d2] => { results := [.lit (.bool false)], args := [d1, d2] }
  | _ => none }
def FnExactCellOfNameWrongFalsely : Prop := fnExactCellOfNameRow.holds Try.pinned (OpenSpec.ofChange fnExactCellOfNameWrong)

/-- 'laws.FnExactCountLeaps': WHATEVER THE INPUT: true; the input reads as it did. -/
def fnExactCountLeapsSpec : ChangeSpec := { name := "fnExactCountLeaps", fn := fun _ => fun
  | [d1, d2] => { results := [.lit (.bool true)], args := [d1, d2] }
  | _ => none }
def fnExactCountLeapsRow : OpenClaim := { program := "ytadopgfpfbianaa", sum := "a3a363147379b04d630ab79a2af74fe2fffcc0f3cc0cf1e274295da20b034691", func := "loop.example/g01239/laws.FnExactCountLeaps", spec := "fnExactCountLeaps", unfollowed := true, recurses := true, apart := false }
def FnExactCountLeapsSaid : Prop := fnExactCountLeapsRow.holds Try.pinned (OpenSpec.ofChange fnExactCountLeapsSpec)

/-- ITS FALSE NEIGHBOUR: 'it returns false'. Refute it at one input. -/
def fnExactCountLeapsWrong : ChangeSpec := { name := "fnExactCountLeaps", fn := fun _ => fun
  | [d1, d2] => { results := [.lit (.bool false)], args := [d1, d2] }
  | _ => none }
def FnExactCountLeapsWrongFalsely : Prop := fnExactCountLeapsRow.holds Try.pinned (OpenSpec.ofChange fnExactCountLeapsWrong)

/-- 'laws.FnExactPathText': WHATEVER THE INPUT: true; the input reads as it did. -/
def fnExactPathTextSpec : ChangeSpec := { name := "fnExactPathText", fn := fun _ => fun
  | [d1, d2] => { results := [.lit (.bool true)], args := [d1, d2] }
  | _ => none }
def fnExactPathTextRow : OpenClaim := { program := "ytadopgfpfbianaa", sum := "a3a363147379b04d630ab79a2af74fe2fffcc0f3cc0cf1e274295da20b034691", func := "loop.example/g01239/laws.FnExactPathText", spec := "fnExactPathText", inPlace := ["internal/abi.NoEscape", "internal/bytealg.MakeNoZero"], recurses := true, apart := false }
def FnExactPathTextSaid : Prop := fnExactPathTextRow.holds Try.pinned (OpenSpec.ofChange fnExactPathTextSpec)

/-- ITS FALSE NEIGHBOUR: 'it returns false'. Refute it at one input. -/
def fnExactPathTextWrong : ChangeSpec := { name := "fnExactPathText", fn := fun _ => fun
  | [d1, d2] => { results := [.lit (.bool false)], args := [d1, d2] }
  | _ => none }
def FnExactPathTextWrongFalsely : Prop := fnExactPathTextRow.holds Try.pinned (OpenSpec.ofChange fnExactPathTextWrong)

/-- 'laws.FnExactIsClosedTour': WHATEVER THE INPUT: true; the input reads as it did. -/
def fnExactIsClosedTourSpec : ChangeSpec := { name := "fnExactIsClosedTour", fn := fun _ => fun
  | [d1, d2, d3] => { results := [.lit (.bool true)], args := [d1, d2, d3] }
  | _ => none }
def fnExactIsClosedTourRow : OpenClaim := { program := "ytadopgfpfbianaa", sum := "a3a363147379b04d630ab79a2af74fe2fffcc0f3cc0cf1e274295da20b034691", func := "loop.example/g01239/laws.FnExactIsClosedTour", spec := "fnExactIsClosedTour", unfollowed := true, recurses := true, apart := false }
def FnExactIsClosedTourSaid : Prop := fnExactIsClosedTourRow.holds Try.pinned (OpenSpec.ofChange fnExactIsClosedTourSpec)

/-- ITS FALSE NEIGHBOUR: 'it returns false'. Refute it at one input. -/
def fnExactIsClosedTourWrong : ChangeSpec := { name := "fnExactIsClosedTour", fn := fun _ => fun
  | [d1, d2, d3] => { results := [.lit (.bool false)], args := [d1, d2, d3] }
  | _ => none }
def FnExactIsClosedTourWrongFalsely : Prop := fnExactIsClosedTourRow.holds Try.pinned (OpenSpec.ofChange fnExactIsClosedTourWrong)

/-- 'laws.FnExactSpinTour': WHATEVER THE INPUT: true; the input reads as it did. -/
def fnExactSpinTourSpec : ChangeSpec := { name := "fnExactSpinTour", fn := fun _ => fun
  | [d1, d2, d3, d4] => { results := [.lit (.bool true)], args := [d1, d2, d3, d4] }
  | _ => none }
def fnExactSpinTourRow : OpenClaim := { program := "ytadopgfpfbianaa", sum := "a3a363147379b04d630ab79a2af74fe2fffcc0f3cc0cf1e274295da20b034691", func := "loop.example/g01239/laws.FnExactSpinTour", spec := "fnExactSpinTour", unfollowed := true, recurses := true, apart := false }
def FnExactSpinTourSaid : Prop := fnExactSpinTourRow.holds Try.pinned (OpenSpec.ofChange fnExactSpinTourSpec)

/-- ITS FALSE NEIGHBOUR: 'it returns false'. Refute it at one input. -/
def fnExactSpinTourWrong : ChangeSpec := { name := "fnExactSpinTour", fn := fun _ => fun
  | [d1, d2, d3, d4] => { results := [.lit (.bool false)], args := [d1, d2, d3, d4] }
  | _ => none }
def FnExactSpinTourWrongFalsely : Prop := fnExactSpinTourRow.holds Try.pinned (OpenSpec.ofChange fnExactSpinTourWrong)

/-- 'laws.FnExactPlaceWalk': WHATEVER THE INPUT: true; the input reads as it did. -/
def fnExactPlaceWalkSpec : ChangeSpec := { name := "fnExactPlaceWalk", fn := fun _ => fun
  | [d1, d2, d3, d4, d5, d6] => { results := [.lit (.bool true)], args := [d1, d2, d3, d4, d5, d6] }
  | _ => none }
def fnExactPlaceWalkRow : OpenClaim := { program := "ytadopgfpfbianaa", sum := "a3a363147379b04d630ab79a2af74fe2fffcc0f3cc0cf1e274295da20b034691", func := "loop.example/g01239/laws.FnExactPlaceWalk", spec := "fnExactPlaceWalk", unfollowed := true, recurses := true, apart := false }
def FnExactPlaceWalkSaid : Prop := fnExactPlaceWalkRow.holds Try.pinned (OpenSpec.ofChange fnExactPlaceWalkSpec)

/-- ITS FALSE NEIGHBOUR: 'it returns false'. Refute it at one input. -/
def fnExactPlaceWalkWrong : ChangeSpec := { name := "fnExactPlaceWalk", fn := fun _ => fun
  | [d1, d2, d3, d4, d5, d6] => { results := [.lit (.bool false)], args := [d1, d2, d3, d4, d5, d6] }
  | _ => none }
def FnExactPlaceWalkWrongFalsely : Prop := fnExactPlaceWalkRow.holds Try.pinned (OpenSpec.ofChange fnExactPlaceWalkWrong)

/-- 'laws.FnExactWalkOfSteps': WHATEVER THE INPUT: true; the input reads as it did. -/
def fnExactWalkOfStepsSpec : ChangeSpec := { name := "fnExactWalkOfSteps", fn := fun _ => fun
  | [d1, d2, d3, d4] => { results := [.lit (.bool true)], args := [d1, d2, d3, d4] }
  | _ => none }
def fnExactWalkOfStepsRow : OpenClaim := { program := "ytadopgfpfbianaa", sum := "a3a363147379b04d630ab79a2af74fe2fffcc0f3cc0cf1e274295da20b034691", func := "loop.example/g01239/laws.FnExactWalkOfSteps", spec := "fnExactWalkOfSteps", unfollowed := true, recurses := true, apart := false }
def FnExactWalkOfStepsSaid : Prop := fnExactWalkOfStepsRow.holds Try.pinned (OpenSpec.ofChange fnExactWalkOfStepsSpec)

/-- ITS FALSE NEIGHBOUR: 'it returns false'. Refute it at one input. -/
def fnExactWalkOfStepsWrong : ChangeSpec := { name := "fnExactWalkOfSteps", fn := fun _ => fun
  | [d1, d2, d3, d4] => { results := [.lit (.bool false)], args := [d1, d2, d3, d4] }
  | _ => none }
def FnExactWalkOfStepsWrongFalsely : Prop := fnExactWalkOfStepsRow.holds Try.pinned (OpenSpec.ofChange fnExactWalkOfStepsWrong)

/-- 'laws.FnExactPointsOnRing': WHATEVER THE INPUT: true; the input reads as it did. -/
def fnExactPointsOnRingSpec : ChangeSpec := { name := "fnExactPointsOnRing", fn := fun _ => fun
  | [d1, d2, d3] => { results := [.lit (.bool true)], args := [d1, d2, d3] }
  | _ => none }
def fnExactPointsOnRingRow : OpenClaim := { program := "ytadopgfpfbianaa", sum := "a3a363147379b04d630ab79a2af74fe2fffcc0f3cc0cf1e274295da20b034691", func := "loop.example/g01239/laws.FnExactPointsOnRing", spec := "fnExactPointsOnRing", unfollowed := true, recurses := true, apart := false }
def FnExactPointsOnRingSaid : Prop := fnExactPointsOnRingRow.holds Try.pinned (OpenSpec.ofChange fnExactPointsOnRingSpec)

/-- ITS FALSE NEIGHBOUR: 'it returns false'. Refute it at one input. -/
def fnExactPointsOnRingWrong : ChangeSpec := { name := "fnExactPointsOnRing", fn := fun _ => fun
  | [d1, d2, d3] => { results := [.lit (.bool false)], args := [d1, d2, d3] }
  | _ => none }
def FnExactPointsOnRingWrongFalsely : Prop := fnExactPointsOnRingRow.holds Try.pinned (OpenSpec.ofChange fnExactPointsOnRingWrong)

/-- 'laws.FnExactPointsInside': WHATEVER THE INPUT: true; the input reads as it did. -/
def fnExactPointsInsideSpec : ChangeSpec := { name := "fnExactPointsInside", fn := fun _ => fun
  | [d1, d2, d3] => { results := [.lit (.bool true)], args := [d1, d2, d3] }
  | _ => none }
def fnExactPointsInsideRow : OpenClaim := { program := "ytadopgfpfbianaa", sum := "a3a363147379b04d630ab79a2af74fe2fffcc0f3cc0cf1e274295da20b034691", func := "loop.example/g01239/laws.FnExactPointsInside", spec := "fnExactPointsInside", unfollowed := true, recurses := true, apart := false }
def FnExactPointsInsideSaid : Prop := fnExactPointsInsideRow.holds Try.pinned (OpenSpec.ofChange fnExactPointsInsideSpec)

/-- ITS FALSE NEIGHBOUR: 'it returns false'. Refute it at one input. -/
def fnExactPointsInsideWrong : ChangeSpec := { name := "fnExactPointsInside", fn := fun _ => fun
  | [d1, d2, d3] => { results := [.lit (.bool false)], args := [d1, d2, d3] }
  | _ => none }
def FnExactPointsInsideWrongFalsely : Prop := fnExactPointsInsideRow.holds Try.pinned (OpenSpec.ofChange fnExactPointsInsideWrong)

/- THE SECOND FORM. 'bulk': how many values and letters a reading holds, each counted each time it is reached (what is shared counts as often as it is met; a slice's spare places count too). A statement '..UptoSaid' is the law's where the arguments, and the package variables that the reading takes, are together of bulk at most 1048576: NARROWER than '..Said'. Prove '..Said' where nothing that the law and all that it calls make is longer than what came in: it says more and counts as full. Else prove '..UptoSaid'. A law counts once. -/
mutual
def uptoBulk {H : Type} : DataW H → Nat
  | .lit (.string bytes) => bytes.length + 1
  | .lit _ => 1
  | .nil => 1
  | .ptr d => uptoBulk d + 1
  | .slice elems spare => uptoBulkAll elems + uptoBulkAll spare + 1
  | .agg parts => uptoBulkAll parts + 1
  | .iface _ d => uptoBulk d + 1
  | .map entries => uptoBulkEntries entries + 1
  | .held _ => 1
def uptoBulkAll {H : Type} : List (DataW H) → Nat
  | [] => 0
  | d :: r => uptoBulk d + uptoBulkAll r
def uptoBulkEntries {H : Type} : List (Lit × DataW H) → Nat
  | [] => 0
  | x :: r => uptoBulkEntry x + uptoBulkEntries r
def uptoBulkEntry {H : Type} : Lit × DataW H → Nat
  | (.string bytes, d) => bytes.length + uptoBulk d + 1
  | (_, d) => uptoBulk d + 1
 end
def uptoSmall : (H : Type) → List (DataW H) → Bool := fun _ ds => decide (uptoBulkAll ds ≤ 1048576)
def OpenSpec.upto (s : _root_.Go.ChangeSpec) : _root_.Go.OpenSpec := { _root_.Go.OpenSpec.ofChange s with cond := some uptoSmall }

/-- 'laws.FnExactFirstDesk', WHERE WHAT IT READS IS OF BULK AT MOST 1048576: true; the input reads as it did. -/
def fnExactFirstDeskUptoRow : OpenClaim := { program := "ytadopgfpfbianaa", sum := "a3a363147379b04d630ab79a2af74fe2fffcc0f3cc0cf1e274295da20b034691", func := "loop.example/g01239/laws.FnExactFirstDesk", spec := "fnExactFirstDesk", apart := false, narrowed := true }
def FnExactFirstDeskUptoSaid : Prop := fnExactFirstDeskUptoRow.holds Try.pinned (OpenSpec.upto fnExactFirstDeskSpec)

/-- 'laws.FnExactIsDesk', WHERE WHAT IT READS IS OF BULK AT MOST 1048576: true; the input reads as it did. -/
def fnExactIsDeskUptoRow : OpenClaim := { program := "ytadopgfpfbianaa", sum := "a3a363147379b04d630ab79a2af74fe2fffcc0f3cc0cf1e274295da20b034691", func := "loop.example/g01239/laws.FnExactIsDesk", spec := "fnExactIsDesk", unfollowed := true, recurses := true, apart := false, narrowed := true }
def FnExactIsDeskUptoSaid : Prop := fnExactIsDeskUptoRow.holds Try.pinned (OpenSpec.upto fnExactIsDeskSpec)

/-- 'laws.FnExactCellOfName', WHERE WHAT IT READS IS OF BULK AT MOST 1048576: true; the input reads as it did. -/
def fnExactCellOfNameUptoRow : OpenClaim := { program := "ytadopgfpfbianaa", sum := "a3a363147379b04d630ab79a2af74fe2fffcc0f3cc0cf1e274295da20b034691", func := "loop.example/g01239/laws.FnExactCellOfName", spec := "fnExactCellOfName", recurses := true, apart := false, narrowed := true }
def FnExactCellOfNameUptoSaid : Prop := fnExactCellOfNameUptoRow.holds Try.pinned (OpenSpec.upto fnExactCellOfNameSpec)

/-- 'laws.FnExactCountLeaps', WHERE WHAT IT READS IS OF BULK AT MOST 1048576: true; the input reads as it did. -/
def fnExactCountLeapsUptoRow : OpenClaim := { program := "ytadopgfpfbianaa", sum := "a3a363147379b04d630ab79a2af74fe2fffcc0f3cc0cf1e274295da20b034691", func := "loop.example/g01239/laws.FnExactCountLeaps", spec := "fnExactCountLeaps", unfollowed := true, recurses := true, apart := false, narrowed := true }
def FnExactCountLeapsUptoSaid : Prop := fnExactCountLeapsUptoRow.holds Try.pinned (OpenSpec.upto fnExactCountLeapsSpec)

/-- 'laws.FnExactPathText', WHERE WHAT IT READS IS OF BULK AT MOST 1048576: true; the input reads as it did. -/
def fnExactPathTextUptoRow : OpenClaim := { program := "ytadopgfpfbianaa", sum := "a3a363147379b04d630ab79a2af74fe2fffcc0f3cc0cf1e274295da20b034691", func := "loop.example/g01239/laws.FnExactPathText", spec := "fnExactPathText", inPlace := ["internal/abi.NoEscape", "internal/bytealg.MakeNoZero"], recurses := true, apart := false, narrowed := true }
def FnExactPathTextUptoSaid : Prop := fnExactPathTextUptoRow.holds Try.pinned (OpenSpec.upto fnExactPathTextSpec)

/-- 'laws.FnExactIsClosedTour', WHERE WHAT IT READS IS OF BULK AT MOST 1048576: true; the input reads as it did. -/
def fnExactIsClosedTourUptoRow : OpenClaim := { program := "ytadopgfpfbianaa", sum := "a3a363147379b04d630ab79a2af74fe2fffcc0f3cc0cf1e274295da20b034691", func := "loop.example/g01239/laws.FnExactIsClosedTour", spec := "fnExactIsClosedTour", unfollowed := true, recurses := true, apart := false, narrowed := true }
def FnExactIsClosedTourUptoSaid : Prop := fnExactIsClosedTourUptoRow.holds Try.pinned (OpenSpec.upto fnExactIsClosedTourSpec)

/-- 'laws.FnExactSpinTour', WHERE WHAT IT READS IS OF BULK AT MOST 1048576: true; the input reads as it did. -/
def fnExactSpinTourUptoRow : OpenClaim := { program := "ytadopgfpfbianaa", sum := "a3a363147379b04d630ab79a2af74fe2fffcc0f3cc0cf1e274295da20b034691", func := "loop.example/g01239/laws.FnExactSpinTour", spec := "fnExactSpinTour", unfollowed := true, recurses := true, apart := false, narrowed := true }
def FnExactSpinTourUptoSaid : Prop := fnExactSpinTourUptoRow.holds Try.pinned (OpenSpec.upto fnExactSpinTourSpec)

/-- 'laws.FnExactPlaceWalk', WHERE WHAT IT READS IS OF BULK AT MOST 1048576: true; the input reads as it did. -/
def fnExactPlaceWalkUptoRow : OpenClaim := { program := "ytadopgfpfbianaa", sum := "a3a363147379b04d630ab79a2af74fe2fffcc0f3cc0cf1e274295da20b034691", func := "loop.example/g01239/laws.FnExactPlaceWalk", spec := "fnExactPlaceWalk", unfollowed := true, recurses := true, apart := false, narrowed := true }
def FnExactPlaceWalkUptoSaid : Prop := fnExactPlaceWalkUptoRow.holds Try.pinned (OpenSpec.upto fnExactPlaceWalkSpec)

/-- 'laws.FnExactWalkOfSteps', WHERE WHAT IT READS IS OF BULK AT MOST 1048576: true; the input reads as it did. -/
def fnExactWalkOfStepsUptoRow : OpenClaim := { program := "ytadopgfpfbianaa", sum := "a3a363147379b04d630ab79a2af74fe2fffcc0f3cc0cf1e274295da20b034691", func := "loop.example/g01239/laws.FnExactWalkOfSteps", spec := "fnExactWalkOfSteps", unfollowed := true, recurses := true, apart := false, narrowed := true }
def FnExactWalkOfStepsUptoSaid : Prop := fnExactWalkOfStepsUptoRow.holds Try.pinned (OpenSpec.upto fnExactWalkOfStepsSpec)

/-- 'laws.FnExactPointsOnRing', WHERE WHAT IT READS IS OF BULK AT MOST 1048576: true; the input reads as it did. -/
def fnExactPointsOnRingUptoRow : OpenClaim := { program := "ytadopgfpfbianaa", sum := "a3a363147379b04d630ab79a2af74fe2fffcc0f3cc0cf1e274295da20b034691", func := "loop.example/g01239/laws.FnExactPointsOnRing", spec := "fnExactPointsOnRing", unfollowed := true, recurses := true, apart := false, narrowed := true }
def FnExactPointsOnRingUptoSaid : Prop := fnExactPointsOnRingUptoRow.holds Try.pinned (OpenSpec.upto fnExactPointsOnRingSpec)

/-- 'laws.FnExactPointsInside', WHERE WHAT IT READS IS OF BULK AT MOST 1048576: true; the input reads as it did. -/
def fnExactPointsInsideUptoRow : OpenClaim := { program := "ytadopgfpfbianaa", sum := "a3a363147379b04d630ab79a2af74fe2fffcc0f3cc0cf1e274295da20b034691", func := "loop.example/g01239/laws.FnExactPointsInside", spec := "fnExactPointsInside", unfollowed := true, recurses := true, apart := false, narrowed := true }
def FnExactPointsInsideUptoSaid : Prop := fnExactPointsInsideUptoRow.holds Try.pinned (OpenSpec.upto fnExactPointsInsideSpec)

end Rows
end Go.Proofs.Ytadopgfpfbianaa
