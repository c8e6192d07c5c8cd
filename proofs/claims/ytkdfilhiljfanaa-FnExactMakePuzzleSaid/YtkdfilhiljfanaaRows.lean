/-
  No cell of these rows narrows 'for every input' (looked for: loops, veiled, ifaces, maps, wideKeys, modest, calm, conditions, laid).
  DERIVED. THE GIVEN ROWS OF THIS SEAT. 8 by the template 'for every input the law returns true; each argument reads behind the call as it read before'; 0 by the template 'total and deterministic' (their statements: YtkdfilhiljfanaaTotals.lean).
  GIVEN WITH THE SEED: the statements are not yours to turn. If you find one false, say at which input.
  Laid BY PROGRAM, IN A SANDBOX (cutbox-rows.mjs): the forced cells as the released guide's own fill.sh prints them over the translation ff65fc1a8bbe0951… (all of the seat's roots in one cut). By AI agents, Wed Nov 11 2026. No macro, syntax, notation, axiom, sorry.
-/
import Derived.Test.YtkdfilhiljfanaaChecked
import GoSem.Claim
import GoSem.ClaimJoined
import GoSem.ClaimMapViews
import Derived.JoinedTies
import Derived.KernelRfl
namespace Go.Proofs.Ytkdfilhiljfanaa
/- THE CELL 'sum', in the pinned program and in every row, IS THE sha256 OF THE DUMP (.gsa) THAT YtkdfilhiljfanaaProg.lean LOADS. Nothing in Lean hashes anything: it is a label: what it is worth is what the hold of that sum in a sandbox is worth. -/
noncomputable def Try.pinned : Pinned := { name := "ytkdfilhiljfanaa", sum := "ff65fc1a8bbe0951f2f621bdb8e524958b17d16393d227f489a18a313830382a", checked := Try.checked }
namespace Rows
def none {H : Type} : Left H := { results := [], args := [] }

/-- 'laws.FnExactIsPuzzle': WHATEVER THE INPUT: true; the input reads as it did. -/
def fnExactIsPuzzleSpec : ChangeSpec := { name := "fnExactIsPuzzle", fn := fun _ => fun
  | [d] => { results := [.lit (.bool true)], args := [d] }
  | _ => none }
def fnExactIsPuzzleRow : OpenClaim := { program := "ytkdfilhiljfanaa", sum := "ff65fc1a8bbe0951f2f621bdb8e524958b17d16393d227f489a18a313830382a", func := "loop.example/g01239/laws.FnExactIsPuzzle", spec := "fnExactIsPuzzle", unfollowed := true, recurses := true, apart := false }
def FnExactIsPuzzleSaid : Prop := fnExactIsPuzzleRow.holds Try.pinned (OpenSpec.ofChange fnExactIsPuzzleSpec)

/-- ITS FALSE NEIGHBOUR: 'it returns false'. Refute it at one input. -/
def fnExactIsPuzzleWrong : ChangeSpec := { name := "fnExactIsPuzzle", fn := fun _ => fun
  | [d] => { results := [.lit (.bool false)], args := [d] }
  | _ => none }
def FnExactIsPuzzleWrongFalsely : Prop := fnExactIsPuzzleRow.holds Try.pinned (OpenSpec.ofChange fnExactIsPuzzleWrong)

/-- 'laws.FnExactGapsOf': WHATEVER THE INPUT: true; the input reads as it did. -/
def fnExactGapsOfSpec : ChangeSpec := { name := "fnExactGapsOf", fn := fun _ => fun
  | [d] => { results := [.lit (.bool true)], args := [d] }
  | _ => none }
def fnExactGapsOfRow : OpenClaim := { program := "ytkdfilhiljfanaa", sum := "ff65fc1a8bbe0951f2f621bdb8e524958b17d16393d227f489a18a313830382a", func := "loop.example/g01239/laws.FnExactGapsOf", spec := "fnExactGapsOf", unfollowed := true, recurses := true, apart := false }
def FnExactGapsOfSaid : Prop := fnExactGapsOfRow.holds Try.pinned (OpenSpec.ofChange fnExactGapsOfSpec)

/-- ITS FALSE NEIGHBOUR: 'it returns false'. Refute it at one input. -/
def fnExactGapsOfWrong : ChangeSpec := { name := "fnExactGapsOf", fn := fun _ => fun
  | [d] => { results := [.lit (.bool false)], args := [d] }
  | _ => none }
def FnExactGapsOfWrongFalsely : Prop := fnExactGapsOfRow.holds Try.pinned (OpenSpec.ofChange fnExactGapsOfWrong)

/-- 'laws.FnExactIsSolution': WHATEVER THE INPUT: true; the input reads as it did. -/
def fnExactIsSolutionSpec : ChangeSpec := { name := "fnExactIsSolution", fn := fun _ => fun
  | [d1, d2] => { results := [.lit (.bool true)], args := [d1, d2] }
  | _ => none }
def fnExactIsSolutionRow : OpenClaim := { program := "ytkdfilhiljfanaa", sum := "ff65fc1a8bbe0951f2f621bdb8e524958b17d16393d227f489a18a313830382a", func := "loop.example/g01239/laws.FnExactIsSolution", spec := "fnExactIsSolution", unfollowed := true, recurses := true, apart := false }
def FnExactIsSolutionSaid : Prop := fnExactIsSolutionRow.holds Try.pinned (OpenSpec.ofChange fnExactIsSolutionSpec)

/-- ITS FALSE NEIGHBOUR: 'it returns false'. Refute it at one input. -/
def fnExactIsSolutionWrong : ChangeSpec := { name := "fnExactIsSolution", fn := fun _ => fun
  | [d1, d2] => { results := [.lit (.bool false)], args := [d1, d2] }
  | _ => none }
def FnExactIsSolutionWrongFalsely : Prop := fnExactIsSolutionRow.holds Try.pinned (OpenSpec.ofChange fnExactIsSolutionWrong)

/-- 'laws.FnExactShowNumber': WHATEVER THE INPUT: true; the input reads as it did. -/
def fnExactShowNumberSpec : ChangeSpec := { name := "fnExactShowNumber", fn := fun _ => fun
  | [d1, d2, d3] => { results := [.lit (.bool true)], args := [d1, d2, d3] }
  | _ => none }
def fnExactShowNumberRow : OpenClaim := { program := "ytkdfilhiljfanaa", sum := "ff65fc1a8bbe0951f2f621bdb8e524958b17d16393d227f489a18a313830382a", func := "loop.example/g01239/laws.FnExactShowNumber", spec := "fnExactShowNumber", unfollowed := true, recurses := true, apart := false }
def FnExactShowNumberSaid : Prop := fnExactShowNumberRow.holds Try.pinned (OpenSpec.ofChange fnExactShowNumberSpec)

/-- ITS FALSE NEIGHBOUR: 'it returns false'. Refute it at one input. -/
def fnExactShowNumberWrong : ChangeSpec := { name := "fnExactShowNumber", fn := fun _ => fun
  | [d1, d2, d3] => { results := [.lit (.bool false)], args := [d1, d2, d3] }
  | _ => none }
def FnExactShowNumberWrongFalsely : Prop := fnExactShowNumberRow.holds Try.pinned (OpenSpec.ofChange fnExactShowNumberWrong)

/-- 'laws.FnExactHideNumber': WHATEVER THE INPUT: true; the input reads as it did. -/
def fnExactHideNumberSpec : ChangeSpec := { name := "fnExactHideNumber", fn := fun _ => fun
  | [d1, d2] => { results := [.lit (.bool true)], args := [d1, d2] }
  | _ => none }
def fnExactHideNumberRow : OpenClaim := { program := "ytkdfilhiljfanaa", sum := "ff65fc1a8bbe0951f2f621bdb8e524958b17d16393d227f489a18a313830382a", func := "loop.example/g01239/laws.FnExactHideNumber", spec := "fnExactHideNumber", unfollowed := true, recurses := true, apart := false }
def FnExactHideNumberSaid : Prop := fnExactHideNumberRow.holds Try.pinned (OpenSpec.ofChange fnExactHideNumberSpec)

/-- ITS FALSE NEIGHBOUR: 'it returns false'. Refute it at one input. -/
def fnExactHideNumberWrong : ChangeSpec := { name := "fnExactHideNumber", fn := fun _ => fun
  | [d1, d2] => { results := [.lit (.bool false)], args := [d1, d2] }
  | _ => none }
def FnExactHideNumberWrongFalsely : Prop := fnExactHideNumberRow.holds Try.pinned (OpenSpec.ofChange fnExactHideNumberWrong)

/-- 'laws.FnExactBackPuzzle': WHATEVER THE INPUT: true; the input reads as it did. -/
def fnExactBackPuzzleSpec : ChangeSpec := { name := "fnExactBackPuzzle", fn := fun _ => fun
  | [d] => { results := [.lit (.bool true)], args := [d] }
  | _ => none }
def fnExactBackPuzzleRow : OpenClaim := { program := "ytkdfilhiljfanaa", sum := "ff65fc1a8bbe0951f2f621bdb8e524958b17d16393d227f489a18a313830382a", func := "loop.example/g01239/laws.FnExactBackPuzzle", spec := "fnExactBackPuzzle", unfollowed := true, recurses := true, apart := false }
def FnExactBackPuzzleSaid : Prop := fnExactBackPuzzleRow.holds Try.pinned (OpenSpec.ofChange fnExactBackPuzzleSpec)

/-- ITS FALSE NEIGHBOUR: 'it returns false'. Refute it at one input. -/
def fnExactBackPuzzleWrong : ChangeSpec := { name := "fnExactBackPuzzle", fn := fun _ => fun
  | [d] => { results := [.lit (.bool false)], args := [d] }
  | _ => none }
def FnExactBackPuzzleWrongFalsely : Prop := fnExactBackPuzzleRow.holds Try.pinned (OpenSpec.ofChange fnExactBackPuzzleWrong)

/-- 'laws.FnExactMirrorPuzzle': WHATEVER THE INPUT: true; the input reads as it did. -/
def fnExactMirrorPuzzleSpec : ChangeSpec := { name := "fnExactMirrorPuzzle", fn := fun _ => fun
  | [d] => { results := [.lit (.bool true)], args := [d] }
  | _ => none }
def fnExactMirrorPuzzleRow : OpenClaim := { program := "ytkdfilhiljfanaa", sum := "ff65fc1a8bbe0951f2f621bdb8e524958b17d16393d227f489a18a313830382a", func := "loop.example/g01239/laws.FnExactMirrorPuzzle", spec := "fnExactMirrorPuzzle", unfollowed := true, recurses := true, apart := false }
def FnExactMirrorPuzzleSaid : Prop := fnExactMirrorPuzzleRow.holds Try.pinned (OpenSpec.ofChange fnExactMirrorPuzzleSpec)

/-- ITS FALSE NEIGHBOUR: 'it returns false'. Refute it at one input. -/
def fnExactMirrorPuzzleWrong : ChangeSpec := { name := "fnExactMirrorPuzzle", fn := fun _ => fun
  | [d] => { results := [.lit (.bool false)], args := [d] }
  | _ => none }
def FnExactMirrorPuzzleWrongFalsely : Prop := fnExactMirrorPuzzleRow.holds Try.pinned (OpenSpec.ofChange fnExactMirrorPuzzleWrong)

/-- 'laws.FnExactMakePuzzle': WHATEVER THE INPUT: true; the input reads as it did. -/
def fnExactMakePuzzleSpec : ChangeSpec := { name := "fnExactMakePuzzle", fn := fun _ => fun
  | [d1, d2, d3, d4] => { results := [.lit (.bool true)], args := [d1, d2, d3, d4] }
  | _ => none }
def fnExactMakePuzzleRow : OpenClaim := { program := "ytkdfilhiljfanaa", sum := "ff65fc1a8bbe0951f2f621bdb8e524958b17d16393d227f489a18a313830382a", func := "loop.example/g01239/laws.FnExactMakePuzzle", spec := "fnExactMakePuzzle", unfollowed := true, recurses := true, apart := false }
def FnExactMakePuzzleSaid : Prop := fnExactMakePuzzleRow.holds Try.pinned (OpenSpec.ofChange fnExactMakePuzzleSpec)

/-- ITS FALSE NEIGHBOUR: 'it returns false'. Refute it at one input. -/
def fnExactMakePuzzleWrong : ChangeSpec := { name := "fnExactMakePuzzle", fn := fun _ => fun
  | [d1, d2, d3, d4] => { results := [.lit (.bool false)], args := [d1, d2, d3, d4] }
  | _ => none }
def FnExactMakePuzzleWrongFalsely : Prop := fnExactMakePuzzleRow.holds Try.pinned (OpenSpec.ofChange fnExactMakePuzzleWrong)

/- THE SECOND FORM. 'bulk': how many values and letters a reading holds, each counted each time it is reached (what is shared counts as often as it is met; a slice's spare places count too). A statement '..UptoSaid' is the law's where the arguments, and the package variables that the reading takes, are together of bulk at most 1048576: NARROWER than '..Said'. Prove '..Said' where nothing that the law and all that it calls make is longer than what came in: it says more and counts as full. Else prove '..UptoSaid'. A law counts once. -/
mutual
def uptoBulk {H : Type} : DataW H → Nat
  | .lit (.string bytes) => bytes.length + 1
  | .lit _ => 1
  | .nil => 1
  | .ptr d => uptoBulk d + 1
  | .slice elems spare => uptoBulkAll elems + uptoBulkAll spare + 1
  | .agg parts => uptoBulkAll parts + 1
  | .iface _ d => uptoBulk d + 1
  | .map entries => uptoBulkEntries entries + 1
  | .held _ => 1
def uptoBulkAll {H : Type} : List (DataW H) → Nat
  | [] => 0
  | d :: r => uptoBulk d + uptoBulkAll r
def uptoBulkEntries {H : Type} : List (Lit × DataW H) → Nat
  | [] => 0
  | x :: r => uptoBulkEntry x + uptoBulkEntries r
def uptoBulkEntry {H : Type} : Lit × DataW H → Nat
  | (.string bytes, d) => bytes.length + uptoBulk d + 1
  | (_, d) => uptoBulk d + 1
 end
def uptoSmall : (H : Type) → List (DataW H) → Bool := fun _ ds => decide (uptoBulkAll ds ≤ 1048576)
def OpenSpec.upto (s : _root_.Go.ChangeSpec) : _root_.Go.OpenSpec := { _root_.Go.OpenSpec.ofChange s with cond := some uptoSmall }

/-- 'laws.FnExactIsPuzzle', WHERE WHAT IT READS IS OF BULK AT MOST 1048576: true; the input reads as it did. -/
def fnExactIsPuzzleUptoRow : OpenClaim := { program := "ytkdfilhiljfanaa", sum := "ff65fc1a8bbe0951f2f621bdb8e524958b17d16393d227f489a18a313830382a", func := "loop.example/g01239/laws.FnExactIsPuzzle", spec := "fnExactIsPuzzle", unfollowed := true, recurses := true, apart := false, narrowed := true }
def FnExactIsPuzzleUptoSaid : Prop := fnExactIsPuzzleUptoRow.holds Try.pinned (OpenSpec.upto fnExactIsPuzzleSpec)

/-- 'laws.FnExactGapsOf', WHERE WHAT IT READS IS OF BULK AT MOST 1048576: true; the input reads as it did. -/
def fnExactGapsOfUptoRow : OpenClaim := { program := "ytkdfilhiljfanaa", sum := "ff65fc1a8bbe0951f2f621bdb8e524958b17d16393d227f489a18a313830382a", func := "loop.example/g01239/laws.FnExactGapsOf", spec := "fnExactGapsOf", unfollowed := true, recurses := true, apart := false, narrowed := true }
def FnExactGapsOfUptoSaid : Prop := fnExactGapsOfUptoRow.holds Try.pinned (OpenSpec.upto fnExactGapsOfSpec)

/-- 'laws.FnExactIsSolution', WHERE WHAT IT READS IS OF BULK AT MOST 1048576: true; the input reads as it did. -/
def fnExactIsSolutionUptoRow : OpenClaim := { program := "ytkdfilhiljfanaa", sum := "ff65fc1a8bbe0951f2f621bdb8e524958b17d16393d227f489a18a313830382a", func := "loop.example/g01239/laws.FnExactIsSolution", spec := "fnExactIsSolution", unfollowed := true, recurses := true, apart := false, narrowed := true }
def FnExactIsSolutionUptoSaid : Prop := fnExactIsSolutionUptoRow.holds Try.pinned (OpenSpec.upto fnExactIsSolutionSpec)

/-- 'laws.FnExactShowNumber', WHERE WHAT IT READS IS OF BULK AT MOST 1048576: true; the input reads as it did. -/
def fnExactShowNumberUptoRow : OpenClaim := { program := "ytkdfilhiljfanaa", sum := "ff65fc1a8bbe0951f2f621bdb8e524958b17d16393d227f489a18a313830382a", func := "loop.example/g01239/laws.FnExactShowNumber", spec := "fnExactShowNumber", unfollowed := true, recurses := true, apart := false, narrowed := true }
def FnExactShowNumberUptoSaid : Prop := fnExactShowNumberUptoRow.holds Try.pinned (OpenSpec.upto fnExactShowNumberSpec)

/-- 'laws.FnExactHideNumber', WHERE WHAT IT READS IS OF BULK AT MOST 1048576: true; the input reads as it did. -/
def fnExactHideNumberUptoRow : OpenClaim := { program := "ytkdfilhiljfanaa", sum := "ff65fc1a8bbe0951f2f621bdb8e524958b17d16393d227f489a18a313830382a", func := "loop.example/g01239/laws.FnExactHideNumber", spec := "fnExactHideNumber", unfollowed := true, recurses := true, apart := false, narrowed := true }
def FnExactHideNumberUptoSaid : Prop := fnExactHideNumberUptoRow.holds Try.pinned (OpenSpec.upto fnExactHideNumberSpec)

/-- 'laws.FnExactBackPuzzle', WHERE WHAT IT READS IS OF BULK AT MOST 1048576: true; the input reads as it did. -/
def fnExactBackPuzzleUptoRow : OpenClaim := { program := "ytkdfilhiljfanaa", sum := "ff65fc1a8bbe0951f2f621bdb8e524958b17d16393d227f489a18a313830382a", func := "loop.example/g01239/laws.FnExactBackPuzzle", spec := "fnExactBackPuzzle", unfollowed := true, recurses := true, apart := false, narrowed := true }
def FnExactBackPuzzleUptoSaid : Prop := fnExactBackPuzzleUptoRow.holds Try.pinned (OpenSpec.upto fnExactBackPuzzleSpec)

/-- 'laws.FnExactMirrorPuzzle', WHERE WHAT IT READS IS OF BULK AT MOST 1048576: true; the input reads as it did. -/
def fnExactMirrorPuzzleUptoRow : OpenClaim := { program := "ytkdfilhiljfanaa", sum := "ff65fc1a8bbe0951f2f621bdb8e524958b17d16393d227f489a18a313830382a", func := "loop.example/g01239/laws.FnExactMirrorPuzzle", spec := "fnExactMirrorPuzzle", unfollowed := true, recurses := true, apart := false, narrowed := true }
def FnExactMirrorPuzzleUptoSaid : Prop := fnExactMirrorPuzzleUptoRow.holds Try.pinned (OpenSpec.upto fnExactMirrorPuzzleSpec)

/-- 'laws.FnExactMakePuzzle', WHERE WHAT IT READS IS OF BULK AT MOST 1048576: true; the input reads as it did. -/
def fnExactMakePuzzleUptoRow : OpenClaim := { program := "ytkdfilhiljfanaa", sum := "ff65fc1a8bbe0951f2f621bdb8e524958b17d16393d227f489a18a313830382a", func := "loop.example/g01239/laws.FnExactMakePuzzle", spec := "fnExactMakePuzzle", unfollowed := true, recurses := true, apart := false, narrowed := true }
def FnExactMakePuzzleUptoSaid : Prop := fnExactMakePuzzleUptoRow.holds Try.pinned (OpenSpec.upto fnExactMakePuzzleSpec)

end Rows
end Go.Proofs.Ytkdfilhiljfanaa
