/-
  No cell of these rows narrows 'for every input' (looked for: loops, veiled, ifaces, maps, wideKeys, modest, calm, conditions, laid).
  DERIVED. THE GIVEN ROWS OF THIS SEAT. 7 by the template 'for every input the law returns true; each argument reads behind the call as it read before'; 0 by the template 'total and deterministic' (their statements: YtihcbpbepedaiaaTotals.lean).
  GIVEN WITH THE SEED: the statements are not yours to turn. If you find one false, say at which input.
  Laid BY PROGRAM, IN A SANDBOX (cutbox-rows.mjs): the forced cells as the released guide's own fill.sh prints them over the translation af7e335072e4368b… (all of the seat's roots in one cut). By AI agents, Wed Nov 11 2026. No macro, syntax, notation, axiom, sorry.
-/
import Derived.Test.YtihcbpbepedaiaaChecked
import GoSem.Claim
import GoSem.ClaimJoined
import GoSem.ClaimMapViews
import Derived.JoinedTies
import Derived.KernelRfl
namespace Go.Proofs.Ytihcbpbepedaiaa
/- THE CELL 'sum', in the pinned program and in every row, IS THE sha256 OF THE DUMP (.gsa) THAT YtihcbpbepedaiaaProg.lean LOADS. Nothing in Lean hashes anything: it is a label: what it is worth is what the hold of that sum in a sandbox is worth. -/
noncomputable def Try.pinned : Pinned := { name := "ytihcbpbepedaiaa", sum := "af7e335072e4368bc25c601907036ef4ccf7fa47d3af30b0392b9885de599276", checked := Try.checked }
namespace Rows
def none {H : Type} : Left H := { results := [], args := [] }

/-- 'laws.FnExactIsWalk': WHATEVER THE INPUT: true; the input reads as it did. -/
def fnExactIsWalkSpec : ChangeSpec := { name := "fnExactIsWalk", fn := fun _ => fun
  | [d1, d2, d3] => { results := [.lit (.bool true)], args := [d1, d2, d3] }
  | _ => none }
def fnExactIsWalkRow : OpenClaim := { program := "ytihcbpbepedaiaa", sum := "af7e335072e4368bc25c601907036ef4ccf7fa47d3af30b0392b9885de599276", func := "loop.example/g01239/laws.FnExactIsWalk", spec := "fnExactIsWalk", apart := false }
def FnExactIsWalkSaid : Prop := fnExactIsWalkRow.holds Try.pinned (OpenSpec.ofChange fnExactIsWalkSpec)

/-- ITS FALSE NEIGHBOUR: 'it returns false'. Refute it at one input. -/
def fnExactIsWalkWrong : ChangeSpec := { name := "fnExactIsWalk", fn := fun _ => fun
  | [d1, d2, d3] => { results := [.lit (.bool false)], args := [d1, d2, d3] }
  | _ => none }
def FnExactIsWalkWrongFalsely : Prop := fnExactIsWalkRow.holds Try.pinned (OpenSpec.ofChange fnExactIsWalkWrong)

/-- 'laws.FnExactIsTour': WHATEVER THE INPUT: true; the input reads as it did. -/
def fnExactIsTourSpec : ChangeSpec := { name := "fnExactIsTour", fn := fun _ => fun
  | [d1, d2, d3] => { results := [.lit (.bool true)], args := [d1, d2, d3] }
  | _ => none }
def fnExactIsTourRow : OpenClaim := { program := "ytihcbpbepedaiaa", sum := "af7e335072e4368bc25c601907036ef4ccf7fa47d3af30b0392b9885de599276", func := "loop.example/g01239/laws.FnExactIsTour", spec := "fnExactIsTour", apart := false }
def FnExactIsTourSaid : Prop := fnExactIsTourRow.holds Try.pinned (OpenSpec.ofChange fnExactIsTourSpec)

/-- ITS FALSE NEIGHBOUR: 'it returns false'. Refute it at one input. -/
def fnExactIsTourWrong : ChangeSpec := { name := "fnExactIsTour", fn := fun _ => fun
  | [d1, d2, d3] => { results := [.lit (.bool false)], args := [d1, d2, d3] }
  | _ => none }
def FnExactIsTourWrongFalsely : Prop := fnExactIsTourRow.holds Try.pinned (OpenSpec.ofChange fnExactIsTourWrong)

/-- 'laws.FnExactIsClosedTour': WHATEVER THE INPUT: true; the input reads as it did. -/
def fnExactIsClosedTourSpec : ChangeSpec := { name := "fnExactIsClosedTour", fn := fun _ => fun
  | [d1, d2, d3] => { results := [.lit (.bool true)], args := [d1, d2, d3] }
  | _ => none }
def fnExactIsClosedTourRow : OpenClaim := { program := "ytihcbpbepedaiaa", sum := "af7e335072e4368bc25c601907036ef4ccf7fa47d3af30b0392b9885de599276", func := "loop.example/g01239/laws.FnExactIsClosedTour", spec := "fnExactIsClosedTour", apart := false }
def FnExactIsClosedTourSaid : Prop := fnExactIsClosedTourRow.holds Try.pinned (OpenSpec.ofChange fnExactIsClosedTourSpec)

/-- ITS FALSE NEIGHBOUR: 'it returns false'. Refute it at one input. -/
def fnExactIsClosedTourWrong : ChangeSpec := { name := "fnExactIsClosedTour", fn := fun _ => fun
  | [d1, d2, d3] => { results := [.lit (.bool false)], args := [d1, d2, d3] }
  | _ => none }
def FnExactIsClosedTourWrongFalsely : Prop := fnExactIsClosedTourRow.holds Try.pinned (OpenSpec.ofChange fnExactIsClosedTourWrong)

/-- 'laws.FnExactNumbersOfWalk': WHATEVER THE INPUT: true; the input reads as it did. -/
def fnExactNumbersOfWalkSpec : ChangeSpec := { name := "fnExactNumbersOfWalk", fn := fun _ => fun
  | [d1, d2, d3] => { results := [.lit (.bool true)], args := [d1, d2, d3] }
  | _ => none }
def fnExactNumbersOfWalkRow : OpenClaim := { program := "ytihcbpbepedaiaa", sum := "af7e335072e4368bc25c601907036ef4ccf7fa47d3af30b0392b9885de599276", func := "loop.example/g01239/laws.FnExactNumbersOfWalk", spec := "fnExactNumbersOfWalk", apart := false }
def FnExactNumbersOfWalkSaid : Prop := fnExactNumbersOfWalkRow.holds Try.pinned (OpenSpec.ofChange fnExactNumbersOfWalkSpec)

/-- ITS FALSE NEIGHBOUR: 'it returns false'. Refute it at one input. -/
def fnExactNumbersOfWalkWrong : ChangeSpec := { name := "fnExactNumbersOfWalk", fn := fun _ => fun
  | [d1, d2, d3] => { results := [.lit (.bool false)], args := [d1, d2, d3] }
  | _ => none }
def FnExactNumbersOfWalkWrongFalsely : Prop := fnExactNumbersOfWalkRow.holds Try.pinned (OpenSpec.ofChange fnExactNumbersOfWalkWrong)

/-- 'laws.FnExactWalkOfNumbers': WHATEVER THE INPUT: true; the input reads as it did. -/
def fnExactWalkOfNumbersSpec : ChangeSpec := { name := "fnExactWalkOfNumbers", fn := fun _ => fun
  | [d1, d2, d3] => { results := [.lit (.bool true)], args := [d1, d2, d3] }
  | _ => none }
def fnExactWalkOfNumbersRow : OpenClaim := { program := "ytihcbpbepedaiaa", sum := "af7e335072e4368bc25c601907036ef4ccf7fa47d3af30b0392b9885de599276", func := "loop.example/g01239/laws.FnExactWalkOfNumbers", spec := "fnExactWalkOfNumbers", apart := false }
def FnExactWalkOfNumbersSaid : Prop := fnExactWalkOfNumbersRow.holds Try.pinned (OpenSpec.ofChange fnExactWalkOfNumbersSpec)

/-- ITS FALSE NEIGHBOUR: 'it returns false'. Refute it at one input. -/
def fnExactWalkOfNumbersWrong : ChangeSpec := { name := "fnExactWalkOfNumbers", fn := fun _ => fun
  | [d1, d2, d3] => { results := [.lit (.bool false)], args := [d1, d2, d3] }
  | _ => none }
def FnExactWalkOfNumbersWrongFalsely : Prop := fnExactWalkOfNumbersRow.holds Try.pinned (OpenSpec.ofChange fnExactWalkOfNumbersWrong)

/-- 'laws.FnExactSpinTour': WHATEVER THE INPUT: true; the input reads as it did. -/
def fnExactSpinTourSpec : ChangeSpec := { name := "fnExactSpinTour", fn := fun _ => fun
  | [d1, d2, d3, d4] => { results := [.lit (.bool true)], args := [d1, d2, d3, d4] }
  | _ => none }
def fnExactSpinTourRow : OpenClaim := { program := "ytihcbpbepedaiaa", sum := "af7e335072e4368bc25c601907036ef4ccf7fa47d3af30b0392b9885de599276", func := "loop.example/g01239/laws.FnExactSpinTour", spec := "fnExactSpinTour", apart := false }
def FnExactSpinTourSaid : Prop := fnExactSpinTourRow.holds Try.pinned (OpenSpec.ofChange fnExactSpinTourSpec)

/-- ITS FALSE NEIGHBOUR: 'it returns false'. Refute it at one input. -/
def fnExactSpinTourWrong : ChangeSpec := { name := "fnExactSpinTour", fn := fun _ => fun
  | [d1, d2, d3, d4] => { results := [.lit (.bool false)], args := [d1, d2, d3, d4] }
  | _ => none }
def FnExactSpinTourWrongFalsely : Prop := fnExactSpinTourRow.holds Try.pinned (OpenSpec.ofChange fnExactSpinTourWrong)

/-- 'laws.FnExactColoursForbid': WHATEVER THE INPUT: true; the input reads as it did. -/
def fnExactColoursForbidSpec : ChangeSpec := { name := "fnExactColoursForbid", fn := fun _ => fun
  | [d1, d2] => { results := [.lit (.bool true)], args := [d1, d2] }
  | _ => none }
def fnExactColoursForbidRow : OpenClaim := { program := "ytihcbpbepedaiaa", sum := "af7e335072e4368bc25c601907036ef4ccf7fa47d3af30b0392b9885de599276", func := "loop.example/g01239/laws.FnExactColoursForbid", spec := "fnExactColoursForbid", apart := false }
def FnExactColoursForbidSaid : Prop := fnExactColoursForbidRow.holds Try.pinned (OpenSpec.ofChange fnExactColoursForbidSpec)

/-- ITS FALSE NEIGHBOUR: 'it returns false'. Refute it at one input. -/
def fnExactColoursForbidWrong : ChangeSpec := { name := "fnExactColoursForbid", fn := fun _ => fun
  | [d1, d2] => { results := [.lit (.bool false)], args := [d1, d2] }
  | _ => none }
def FnExactColoursForbidWrongFalsely : Prop := fnExactColoursForbidRow.holds Try.pinned (OpenSpec.ofChange fnExactColoursForbidWrong)

/- THE SECOND FORM. 'bulk': how many values and letters a reading holds, each counted each time it is reached (what is shared counts as often as it is met; a slice's spare places count too). A statement '..UptoSaid' is the law's where the arguments, and the package variables that the reading takes, are together of bulk at most 1048576: NARROWER than '..Said'. Prove '..Said' where nothing that the law and all that it calls make is longer than what came in: it says more and counts as full. Else prove '..UptoSaid'. A law counts once. -/
mutual
def uptoBulk {H : Type} : DataW H → Nat
  | .lit (.string bytes) => bytes.length + 1
  | .lit _ => 1
  | .nil => 1
  | .ptr d => uptoBulk d + 1
  | .slice elems spare => uptoBulkAll elems + uptoBulkAll spare + 1
  | .agg parts => uptoBulkAll parts + 1
  | .iface _ d => uptoBulk d + 1
  | .map entries => uptoBulkEntries entries + 1
  | .held _ => 1
def uptoBulkAll {H : Type} : List (DataW H) → Nat
  | [] => 0
  | d :: r => uptoBulk d + uptoBulkAll r
def uptoBulkEntries {H : Type} : List (Lit × DataW H) → Nat
  | [] => 0
  | x :: r => uptoBulkEntry x + uptoBulkEntries r
def uptoBulkEntry {H : Type} : Lit × DataW H → Nat
  | (.string bytes, d) => bytes.length + uptoBulk d + 1
  | (_, d) => uptoBulk d + 1
 end
def uptoSmall : (H : Type) → List (DataW H) → Bool := fun _ ds => decide (uptoBulkAll ds ≤ 1048576)
def OpenSpec.upto (s : _root_.Go.ChangeSpec) : _root_.Go.OpenSpec := { _root_.Go.OpenSpec.ofChange s with cond := some uptoSmall }

/-- 'laws.FnExactIsWalk', WHERE WHAT IT READS IS OF BULK AT MOST 1048576: true; the input reads as it did. -/
def fnExactIsWalkUptoRow : OpenClaim := { program := "ytihcbpbepedaiaa", sum := "af7e335072e4368bc25c601907036ef4ccf7fa47d3af30b0392b9885de599276", func := "loop.example/g01239/laws.FnExactIsWalk", spec := "fnExactIsWalk", apart := false, narrowed := true }
def FnExactIsWalkUptoSaid : Prop := fnExactIsWalkUptoRow.holds Try.pinned (OpenSpec.upto fnExactIsWalkSpec)

/-- 'laws.FnExactIsTour', WHERE WHAT IT READS IS OF BULK AT MOST 1048576: true; the input reads as it did. -/
def fnExactIsTourUptoRow : OpenClaim := { program := "ytihcbpbepedaiaa", sum := "af7e335072e4368bc25c601907036ef4ccf7fa47d3af30b0392b9885de599276", func := "loop.example/g01239/laws.FnExactIsTour", spec := "fnExactIsTour", apart := false, narrowed := true }
def FnExactIsTourUptoSaid : Prop := fnExactIsTourUptoRow.holds Try.pinned (OpenSpec.upto fnExactIsTourSpec)

/-- 'laws.FnExactIsClosedTour', WHERE WHAT IT READS IS OF BULK AT MOST 1048576: true; the input reads as it did. -/
def fnExactIsClosedTourUptoRow : OpenClaim := { program := "ytihcbpbepedaiaa", sum := "af7e335072e4368bc25c601907036ef4ccf7fa47d3af30b0392b9885de599276", func := "loop.example/g01239/laws.FnExactIsClosedTour", spec := "fnExactIsClosedTour", apart := false, narrowed := true }
def FnExactIsClosedTourUptoSaid : Prop := fnExactIsClosedTourUptoRow.holds Try.pinned (OpenSpec.upto fnExactIsClosedTourSpec)

/-- 'laws.FnExactNumbersOfWalk', WHERE WHAT IT READS IS OF BULK AT MOST 1048576: true; the input reads as it did. -/
def fnExactNumbersOfWalkUptoRow : OpenClaim := { program := "ytihcbpbepedaiaa", sum := "af7e335072e4368bc25c601907036ef4ccf7fa47d3af30b0392b9885de599276", func := "loop.example/g01239/laws.FnExactNumbersOfWalk", spec := "fnExactNumbersOfWalk", apart := false, narrowed := true }
def FnExactNumbersOfWalkUptoSaid : Prop := fnExactNumbersOfWalkUptoRow.holds Try.pinned (OpenSpec.upto fnExactNumbersOfWalkSpec)

/-- 'laws.FnExactWalkOfNumbers', WHERE WHAT IT READS IS OF BULK AT MOST 1048576: true; the input reads as it did. -/
def fnExactWalkOfNumbersUptoRow : OpenClaim := { program := "ytihcbpbepedaiaa", sum := "af7e335072e4368bc25c601907036ef4ccf7fa47d3af30b0392b9885de599276", func := "loop.example/g01239/laws.FnExactWalkOfNumbers", spec := "fnExactWalkOfNumbers", apart := false, narrowed := true }
def FnExactWalkOfNumbersUptoSaid : Prop := fnExactWalkOfNumbersUptoRow.holds Try.pinned (OpenSpec.upto fnExactWalkOfNumbersSpec)

/-- 'laws.FnExactSpinTour', WHERE WHAT IT READS IS OF BULK AT MOST 1048576: true; the input reads as it did. -/
def fnExactSpinTourUptoRow : OpenClaim := { program := "ytihcbpbepedaiaa", sum := "af7e335072e4368bc25c601907036ef4ccf7fa47d3af30b0392b9885de599276", func := "loop.example/g01239/laws.FnExactSpinTour", spec := "fnExactSpinTour", apart := false, narrowed := true }
def FnExactSpinTourUptoSaid : Prop := fnExactSpinTourUptoRow.holds Try.pinned (OpenSpec.upto fnExactSpinTourSpec)

/-- 'laws.FnExactColoursForbid', WHERE WHAT IT READS IS OF BULK AT MOST 1048576: true; the input reads as it did. -/
def fnExactColoursForbidUptoRow : OpenClaim := { program := "ytihcbpbepedaiaa", sum := "af7e335072e4368bc25c601907036ef4ccf7fa47d3af30b0392b9885de599276", func := "loop.example/g01239/laws.FnExactColoursForbid", spec := "fnExactColoursForbid", apart := false, narrowed := true }
def FnExactColoursForbidUptoSaid : Prop := fnExactColoursForbidUptoRow.holds Try.pinned (OpenSpec.upto fnExactColoursForbidSpec)

end Rows
end Go.Proofs.Ytihcbpbepedaiaa
