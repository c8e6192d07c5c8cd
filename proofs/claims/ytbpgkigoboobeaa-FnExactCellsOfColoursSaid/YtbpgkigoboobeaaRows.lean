/-
  No cell of these rows narrows 'for every input' (looked for: loops, veiled, ifaces, maps, wideKeys, modest, calm, conditions, laid).
  DERIVED. THE GIVEN ROWS OF THIS SEAT. 5 by the template 'for every input the law returns true; each argument reads behind the call as it read before'; 0 by the template 'total and deterministic' (their statements: YtbpgkigoboobeaaTotals.lean).
  GIVEN WITH THE SEED: the statements are not yours to turn. If you find one false, say at which input.
  Laid BY PROGRAM, IN A SANDBOX (cutbox-rows.mjs): the forced cells as the released guide's own fill.sh prints them over the translation 819e024ad162ba39… (all of the seat's roots in one cut). By AI agents, Wed Nov 11 2026. No macro, syntax, notation, axiom, sorry.
-/
import Derived.Test.YtbpgkigoboobeaaChecked
import GoSem.Claim
import GoSem.ClaimJoined
import GoSem.ClaimMapViews
import Derived.JoinedTies
import Derived.KernelRfl
namespace Go.Proofs.Ytbpgkigoboobeaa
/- THE CELL 'sum', in the pinned program and in every row, IS THE sha256 OF THE DUMP (.gsa) THAT YtbpgkigoboobeaaProg.lean LOADS. Nothing in Lean hashes anything: it is a label: what it is worth is what the hold of that sum in a sandbox is worth. -/
noncomputable def Try.pinned : Pinned := { name := "ytbpgkigoboobeaa", sum := "819e024ad162ba39ffbbc8a4638e2f8e9c774d6d69acdf9efc9e90bab4428a28", checked := Try.checked }
namespace Rows
def none {H : Type} : Left H := { results := [], args := [] }

/-- 'laws.FnExactCellsOfColours': WHATEVER THE INPUT: true; the input reads as it did. -/
def fnExactCellsOfColoursSpec : ChangeSpec := { name := "fnExactCellsOfColours", fn := fun _ => fun
  | [d1, d2] => { results := [.lit (.bool true)], args := [d1, d2] }
  | _ => none }
def fnExactCellsOfColoursRow : OpenClaim := { program := "ytbpgkigoboobeaa", sum := "819e024ad162ba39ffbbc8a4638e2f8e9c774d6d69acdf9efc9e90bab4428a28", func := "loop.example/g01239/laws.FnExactCellsOfColours", spec := "fnExactCellsOfColours", apart := false }
def FnExactCellsOfColoursSaid : Prop := fnExactCellsOfColoursRow.holds Try.pinned (OpenSpec.ofChange fnExactCellsOfColoursSpec)

/-- ITS FALSE NEIGHBOUR: 'it returns false'. Refute it at one input. -/
def fnExactCellsOfColoursWrong : ChangeSpec := { name := "fnExactCellsOfColours", fn := fun _ => fun
  | [d1, d2] => { results := [.lit (.bool false)], args := [d1, d2] }
  | _ => none }
def FnExactCellsOfColoursWrongFalsely : Prop := fnExactCellsOfColoursRow.holds Try.pinned (OpenSpec.ofChange fnExactCellsOfColoursWrong)

/-- 'laws.FnExactCommonStep': WHATEVER THE INPUT: true; the input reads as it did. -/
def fnExactCommonStepSpec : ChangeSpec := { name := "fnExactCommonStep", fn := fun _ => fun
  | [d] => { results := [.lit (.bool true)], args := [d] }
  | _ => none }
def fnExactCommonStepRow : OpenClaim := { program := "ytbpgkigoboobeaa", sum := "819e024ad162ba39ffbbc8a4638e2f8e9c774d6d69acdf9efc9e90bab4428a28", func := "loop.example/g01239/laws.FnExactCommonStep", spec := "fnExactCommonStep", apart := false }
def FnExactCommonStepSaid : Prop := fnExactCommonStepRow.holds Try.pinned (OpenSpec.ofChange fnExactCommonStepSpec)

/-- ITS FALSE NEIGHBOUR: 'it returns false'. Refute it at one input. -/
def fnExactCommonStepWrong : ChangeSpec := { name := "fnExactCommonStep", fn := fun _ => fun
  | [d] => { results := [.lit (.bool false)], args := [d] }
  | _ => none }
def FnExactCommonStepWrongFalsely : Prop := fnExactCommonStepRow.holds Try.pinned (OpenSpec.ofChange fnExactCommonStepWrong)

/-- 'laws.FnExactReachesAll': WHATEVER THE INPUT: true; the input reads as it did. -/
def fnExactReachesAllSpec : ChangeSpec := { name := "fnExactReachesAll", fn := fun _ => fun
  | [d] => { results := [.lit (.bool true)], args := [d] }
  | _ => none }
def fnExactReachesAllRow : OpenClaim := { program := "ytbpgkigoboobeaa", sum := "819e024ad162ba39ffbbc8a4638e2f8e9c774d6d69acdf9efc9e90bab4428a28", func := "loop.example/g01239/laws.FnExactReachesAll", spec := "fnExactReachesAll", apart := false }
def FnExactReachesAllSaid : Prop := fnExactReachesAllRow.holds Try.pinned (OpenSpec.ofChange fnExactReachesAllSpec)

/-- ITS FALSE NEIGHBOUR: 'it returns false'. Refute it at one input. -/
def fnExactReachesAllWrong : ChangeSpec := { name := "fnExactReachesAll", fn := fun _ => fun
  | [d] => { results := [.lit (.bool false)], args := [d] }
  | _ => none }
def FnExactReachesAllWrongFalsely : Prop := fnExactReachesAllRow.holds Try.pinned (OpenSpec.ofChange fnExactReachesAllWrong)

/-- 'laws.FnExactCanReachFar': WHATEVER THE INPUT: true; the input reads as it did. -/
def fnExactCanReachFarSpec : ChangeSpec := { name := "fnExactCanReachFar", fn := fun _ => fun
  | [d1, d2, d3] => { results := [.lit (.bool true)], args := [d1, d2, d3] }
  | _ => none }
def fnExactCanReachFarRow : OpenClaim := { program := "ytbpgkigoboobeaa", sum := "819e024ad162ba39ffbbc8a4638e2f8e9c774d6d69acdf9efc9e90bab4428a28", func := "loop.example/g01239/laws.FnExactCanReachFar", spec := "fnExactCanReachFar", apart := false }
def FnExactCanReachFarSaid : Prop := fnExactCanReachFarRow.holds Try.pinned (OpenSpec.ofChange fnExactCanReachFarSpec)

/-- ITS FALSE NEIGHBOUR: 'it returns false'. Refute it at one input. -/
def fnExactCanReachFarWrong : ChangeSpec := { name := "fnExactCanReachFar", fn := fun _ => fun
  | [d1, d2, d3] => { results := [.lit (.bool false)], args := [d1, d2, d3] }
  | _ => none }
def FnExactCanReachFarWrongFalsely : Prop := fnExactCanReachFarRow.holds Try.pinned (OpenSpec.ofChange fnExactCanReachFarWrong)

/-- 'laws.FnExactBalanceOf': WHATEVER THE INPUT: true; the input reads as it did. -/
def fnExactBalanceOfSpec : ChangeSpec := { name := "fnExactBalanceOf", fn := fun _ => fun
  | [d] => { results := [.lit (.bool true)], args := [d] }
  | _ => none }
def fnExactBalanceOfRow : OpenClaim := { program := "ytbpgkigoboobeaa", sum := "819e024ad162ba39ffbbc8a4638e2f8e9c774d6d69acdf9efc9e90bab4428a28", func := "loop.example/g01239/laws.FnExactBalanceOf", spec := "fnExactBalanceOf", apart := false }
def FnExactBalanceOfSaid : Prop := fnExactBalanceOfRow.holds Try.pinned (OpenSpec.ofChange fnExactBalanceOfSpec)

/-- ITS FALSE NEIGHBOUR: 'it returns false'. Refute it at one input. -/
def fnExactBalanceOfWrong : ChangeSpec := { name := "fnExactBalanceOf", fn := fun _ => fun
  | [d] => { results := [.lit (.bool false)], args := [d] }
  | _ => none }
def FnExactBalanceOfWrongFalsely : Prop := fnExactBalanceOfRow.holds Try.pinned (OpenSpec.ofChange fnExactBalanceOfWrong)

/- THE SECOND FORM. 'bulk': how many values and letters a reading holds, each counted each time it is reached (what is shared counts as often as it is met; a slice's spare places count too). A statement '..UptoSaid' is the law's where the arguments, and the package variables that the reading takes, are together of bulk at most 1048576: NARROWER than '..Said'. Prove '..Said' where nothing that the law and all that it calls make is longer than what came in: it says more and counts as full. Else prove '..UptoSaid'. A law counts once. -/
mutual
def uptoBulk {H : Type} : DataW H → Nat
  | .lit (.string bytes) => bytes.length + 1
  | .lit _ => 1
  | .nil => 1
  | .ptr d => uptoBulk d + 1
  | .slice elems spare => uptoBulkAll elems + uptoBulkAll spare + 1
  | .agg parts => uptoBulkAll parts + 1
  | .iface _ d => uptoBulk d + 1
  | .map entries => uptoBulkEntries entries + 1
  | .held _ => 1
def uptoBulkAll {H : Type} : List (DataW H) → Nat
  | [] => 0
  | d :: r => uptoBulk d + uptoBulkAll r
def uptoBulkEntries {H : Type} : List (Lit × DataW H) → Nat
  | [] => 0
  | x :: r => uptoBulkEntry x + uptoBulkEntries r
def uptoBulkEntry {H : Type} : Lit × DataW H → Nat
  | (.string bytes, d) => bytes.length + uptoBulk d + 1
  | (_, d) => uptoBulk d + 1
 end
def uptoSmall : (H : Type) → List (DataW H) → Bool := fun _ ds => decide (uptoBulkAll ds ≤ 1048576)
def OpenSpec.upto (s : _root_.Go.ChangeSpec) : _root_.Go.OpenSpec := { _root_.Go.OpenSpec.ofChange s with cond := some uptoSmall }

/-- 'laws.FnExactCellsOfColours', WHERE WHAT IT READS IS OF BULK AT MOST 1048576: true; the input reads as it did. -/
def fnExactCellsOfColoursUptoRow : OpenClaim := { program := "ytbpgkigoboobeaa", sum := "819e024ad162ba39ffbbc8a4638e2f8e9c774d6d69acdf9efc9e90bab4428a28", func := "loop.example/g01239/laws.FnExactCellsOfColours", spec := "fnExactCellsOfColours", apart := false, narrowed := true }
def FnExactCellsOfColoursUptoSaid : Prop := fnExactCellsOfColoursUptoRow.holds Try.pinned (OpenSpec.upto fnExactCellsOfColoursSpec)

/-- 'laws.FnExactCommonStep', WHERE WHAT IT READS IS OF BULK AT MOST 1048576: true; the input reads as it did. -/
def fnExactCommonStepUptoRow : OpenClaim := { program := "ytbpgkigoboobeaa", sum := "819e024ad162ba39ffbbc8a4638e2f8e9c774d6d69acdf9efc9e90bab4428a28", func := "loop.example/g01239/laws.FnExactCommonStep", spec := "fnExactCommonStep", apart := false, narrowed := true }
def FnExactCommonStepUptoSaid : Prop := fnExactCommonStepUptoRow.holds Try.pinned (OpenSpec.upto fnExactCommonStepSpec)

/-- 'laws.FnExactReachesAll', WHERE WHAT IT READS IS OF BULK AT MOST 1048576: true; the input reads as it did. -/
def fnExactReachesAllUptoRow : OpenClaim := { program := "ytbpgkigoboobeaa", sum := "819e024ad162ba39ffbbc8a4638e2f8e9c774d6d69acdf9efc9e90bab4428a28", func := "loop.example/g01239/laws.FnExactReachesAll", spec := "fnExactReachesAll", apart := false, narrowed := true }
def FnExactReachesAllUptoSaid : Prop := fnExactReachesAllUptoRow.holds Try.pinned (OpenSpec.upto fnExactReachesAllSpec)

/-- 'laws.FnExactCanReachFar', WHERE WHAT IT READS IS OF BULK AT MOST 1048576: true; the input reads as it did. -/
def fnExactCanReachFarUptoRow : OpenClaim := { program := "ytbpgkigoboobeaa", sum := "819e024ad162ba39ffbbc8a4638e2f8e9c774d6d69acdf9efc9e90bab4428a28", func := "loop.example/g01239/laws.FnExactCanReachFar", spec := "fnExactCanReachFar", apart := false, narrowed := true }
def FnExactCanReachFarUptoSaid : Prop := fnExactCanReachFarUptoRow.holds Try.pinned (OpenSpec.upto fnExactCanReachFarSpec)

/-- 'laws.FnExactBalanceOf', WHERE WHAT IT READS IS OF BULK AT MOST 1048576: true; the input reads as it did. -/
def fnExactBalanceOfUptoRow : OpenClaim := { program := "ytbpgkigoboobeaa", sum := "819e024ad162ba39ffbbc8a4638e2f8e9c774d6d69acdf9efc9e90bab4428a28", func := "loop.example/g01239/laws.FnExactBalanceOf", spec := "fnExactBalanceOf", apart := false, narrowed := true }
def FnExactBalanceOfUptoSaid : Prop := fnExactBalanceOfUptoRow.holds Try.pinned (OpenSpec.upto fnExactBalanceOfSpec)

end Rows
end Go.Proofs.Ytbpgkigoboobeaa
