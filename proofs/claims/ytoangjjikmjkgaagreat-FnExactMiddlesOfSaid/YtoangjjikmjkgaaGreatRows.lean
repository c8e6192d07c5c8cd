/-
  No cell of these rows narrows 'for every input' (looked for: loops, veiled, ifaces, maps, wideKeys, modest, calm, conditions, laid).
  DERIVED. THE GIVEN ROWS OF THIS SEAT. 4 by the template 'for every input the law returns true; each argument reads behind the call as it read before'; 0 by the template 'total and deterministic' (their statements: YtoangjjikmjkgaaGreatTotals.lean).
  GIVEN WITH THE SEED: the statements are not yours to turn. If you find one false, say at which input.
  Laid BY PROGRAM, IN A SANDBOX (cutbox-rows.mjs): the forced cells as the released guide's own fill.sh prints them over the translation ad7f5ab49289864f… (all of the seat's roots in one cut). By AI agents, Wed Nov 11 2026. No macro, syntax, notation, axiom, sorry.
-/
import Derived.Test.YtoangjjikmjkgaaGreatChecked
import GoSem.Claim
import GoSem.ClaimJoined
import GoSem.ClaimMapViews
import Derived.JoinedTies
import Derived.KernelRfl
namespace Go.Proofs.YtoangjjikmjkgaaGreat
/- THE CELL 'sum', in the pinned program and in every row, IS THE sha256 OF THE DUMP (.gsa) THAT YtoangjjikmjkgaaGreatProg.lean LOADS. Nothing in Lean hashes anything: it is a label: what it is worth is what the hold of that sum in a sandbox is worth. -/
noncomputable def Tryz.pinned : Pinned := { name := "ytoangjjikmjkgaagreat", sum := "ad7f5ab49289864fc5a3fc48741e38e19a8bbef57a53934704fd0855b78e8348", checked := Tryz.checked }
namespace Rows
def none {H : Type} : Left H := { results := [], args := [] }

/-- 'laws.FnExactIsWhole': WHATEVER THE INPUT: true; the input reads as it did. -/
def fnExactIsWholeSpec : ChangeSpec := { name := "fnExactIsWhole", fn := fun _ => fun
  | [d1, d2] => { results := [.lit (.bool true)], args := [d1, d2] }
  | _ => none }
def fnExactIsWholeRow : OpenClaim := { program := "ytoangjjikmjkgaagreat", sum := "ad7f5ab49289864fc5a3fc48741e38e19a8bbef57a53934704fd0855b78e8348", func := "loop.example/g01239/laws.FnExactIsWhole", spec := "fnExactIsWhole", unfollowed := true, recurses := true, apart := false }
def FnExactIsWholeSaid : Prop := fnExactIsWholeRow.holds Tryz.pinned (OpenSpec.ofChange fnExactIsWholeSpec)

/-- ITS FALSE NEIGHBOUR: 'it returns false'. Refute it at one input. -/
def fnExactIsWholeWrong : ChangeSpec := { name := "fnExactIsWhole", fn := fun _ => fun
  | [d1, d2] => { results := [.lit (.bool false)], args := [d1, d2] }
  | _ => none }
def FnExactIsWholeWrongFalsely : Prop := fnExactIsWholeRow.holds Tryz.pinned (OpenSpec.ofChange fnExactIsWholeWrong)

/-- 'laws.FnExactWidthOf': WHATEVER THE INPUT: true; the input reads as it did. -/
def fnExactWidthOfSpec : ChangeSpec := { name := "fnExactWidthOf", fn := fun _ => fun
  | [d1, d2] => { results := [.lit (.bool true)], args := [d1, d2] }
  | _ => none }
def fnExactWidthOfRow : OpenClaim := { program := "ytoangjjikmjkgaagreat", sum := "ad7f5ab49289864fc5a3fc48741e38e19a8bbef57a53934704fd0855b78e8348", func := "loop.example/g01239/laws.FnExactWidthOf", spec := "fnExactWidthOf", unfollowed := true, recurses := true, apart := false }
def FnExactWidthOfSaid : Prop := fnExactWidthOfRow.holds Tryz.pinned (OpenSpec.ofChange fnExactWidthOfSpec)

/-- ITS FALSE NEIGHBOUR: 'it returns false'. Refute it at one input. -/
def fnExactWidthOfWrong : ChangeSpec := { name := "fnExactWidthOf", fn := fun _ => fun
  | [d1, d2] => { results := [.lit (.bool false)], args := [d1, d2] }
  | _ => none }
def FnExactWidthOfWrongFalsely : Prop := fnExactWidthOfRow.holds Tryz.pinned (OpenSpec.ofChange fnExactWidthOfWrong)

/-- 'laws.FnExactPartsOfBoard': WHATEVER THE INPUT: true; the input reads as it did. -/
def fnExactPartsOfBoardSpec : ChangeSpec := { name := "fnExactPartsOfBoard", fn := fun _ => fun
  | [d1, d2] => { results := [.lit (.bool true)], args := [d1, d2] }
  | _ => none }
def fnExactPartsOfBoardRow : OpenClaim := { program := "ytoangjjikmjkgaagreat", sum := "ad7f5ab49289864fc5a3fc48741e38e19a8bbef57a53934704fd0855b78e8348", func := "loop.example/g01239/laws.FnExactPartsOfBoard", spec := "fnExactPartsOfBoard", unfollowed := true, recurses := true, apart := false }
def FnExactPartsOfBoardSaid : Prop := fnExactPartsOfBoardRow.holds Tryz.pinned (OpenSpec.ofChange fnExactPartsOfBoardSpec)

/-- ITS FALSE NEIGHBOUR: 'it returns false'. Refute it at one input. -/
def fnExactPartsOfBoardWrong : ChangeSpec := { name := "fnExactPartsOfBoard", fn := fun _ => fun
  | [d1, d2] => { results := [.lit (.bool false)], args := [d1, d2] }
  | _ => none }
def FnExactPartsOfBoardWrongFalsely : Prop := fnExactPartsOfBoardRow.holds Tryz.pinned (OpenSpec.ofChange fnExactPartsOfBoardWrong)

/-- 'laws.FnExactMiddlesOf': WHATEVER THE INPUT: true; the input reads as it did. -/
def fnExactMiddlesOfSpec : ChangeSpec := { name := "fnExactMiddlesOf", fn := fun _ => fun
  | [d1, d2] => { results := [.lit (.bool true)], args := [d1, d2] }
  | _ => none }
def fnExactMiddlesOfRow : OpenClaim := { program := "ytoangjjikmjkgaagreat", sum := "ad7f5ab49289864fc5a3fc48741e38e19a8bbef57a53934704fd0855b78e8348", func := "loop.example/g01239/laws.FnExactMiddlesOf", spec := "fnExactMiddlesOf", unfollowed := true, recurses := true, apart := false }
def FnExactMiddlesOfSaid : Prop := fnExactMiddlesOfRow.holds Tryz.pinned (OpenSpec.ofChange fnExactMiddlesOfSpec)

/-- ITS FALSE NEIGHBOUR: 'it returns false'. Refute it at one input. -/
def fnExactMiddlesOfWrong : ChangeSpec := { name := "fnExactMiddlesOf", fn := fun _ => fun
  | [d1, d2] => { results := [.lit (.bool false)], args := [d1, d2] }
  | _ => none }
def FnExactMiddlesOfWrongFalsely : Prop := fnExactMiddlesOfRow.holds Tryz.pinned (OpenSpec.ofChange fnExactMiddlesOfWrong)

/- THE SECOND FORM. 'bulk': how many values and letters a reading holds, each counted each time it is reached (what is shared counts as often as it is met; a slice's spare places count too). A statement '..UptoSaid' is the law's where the arguments, and the package variables that the reading takes, are together of bulk at most 1048576: NARROWER than '..Said'. Prove '..Said' where nothing that the law and all that it calls make is longer than what came in: it says more and counts as full. Else prove '..UptoSaid'. A law counts once. -/
mutual
def uptoBulk {H : Type} : DataW H → Nat
  | .lit (.string bytes) => bytes.length + 1
  | .lit _ => 1
  | .nil => 1
  | .ptr d => uptoBulk d + 1
  | .slice elems spare => uptoBulkAll elems + uptoBulkAll spare + 1
  | .agg parts => uptoBulkAll parts + 1
  | .iface _ d => uptoBulk d + 1
  | .map entries => uptoBulkEntries entries + 1
  | .held _ => 1
def uptoBulkAll {H : Type} : List (DataW H) → Nat
  | [] => 0
  | d :: r => uptoBulk d + uptoBulkAll r
def uptoBulkEntries {H : Type} : List (Lit × DataW H) → Nat
  | [] => 0
  | x :: r => uptoBulkEntry x + uptoBulkEntries r
def uptoBulkEntry {H : Type} : Lit × DataW H → Nat
  | (.string bytes, d) => bytes.length + uptoBulk d + 1
  | (_, d) => uptoBulk d + 1
 end
def uptoSmall : (H : Type) → List (DataW H) → Bool := fun _ ds => decide (uptoBulkAll ds ≤ 1048576)
def OpenSpec.upto (s : _root_.Go.ChangeSpec) : _root_.Go.OpenSpec := { _root_.Go.OpenSpec.ofChange s with cond := some uptoSmall }

/-- 'laws.FnExactIsWhole', WHERE WHAT IT READS IS OF BULK AT MOST 1048576: true; the input reads as it did. -/
def fnExactIsWholeUptoRow : OpenClaim := { program := "ytoangjjikmjkgaagreat", sum := "ad7f5ab49289864fc5a3fc48741e38e19a8bbef57a53934704fd0855b78e8348", func := "loop.example/g01239/laws.FnExactIsWhole", spec := "fnExactIsWhole", unfollowed := true, recurses := true, apart := false, narrowed := true }
def FnExactIsWholeUptoSaid : Prop := fnExactIsWholeUptoRow.holds Tryz.pinned (OpenSpec.upto fnExactIsWholeSpec)

/-- 'laws.FnExactWidthOf', WHERE WHAT IT READS IS OF BULK AT MOST 1048576: true; the input reads as it did. -/
def fnExactWidthOfUptoRow : OpenClaim := { program := "ytoangjjikmjkgaagreat", sum := "ad7f5ab49289864fc5a3fc48741e38e19a8bbef57a53934704fd0855b78e8348", func := "loop.example/g01239/laws.FnExactWidthOf", spec := "fnExactWidthOf", unfollowed := true, recurses := true, apart := false, narrowed := true }
def FnExactWidthOfUptoSaid : Prop := fnExactWidthOfUptoRow.holds Tryz.pinned (OpenSpec.upto fnExactWidthOfSpec)

/-- 'laws.FnExactPartsOfBoard', WHERE WHAT IT READS IS OF BULK AT MOST 1048576: true; the input reads as it did. -/
def fnExactPartsOfBoardUptoRow : OpenClaim := { program := "ytoangjjikmjkgaagreat", sum := "ad7f5ab49289864fc5a3fc48741e38e19a8bbef57a53934704fd0855b78e8348", func := "loop.example/g01239/laws.FnExactPartsOfBoard", spec := "fnExactPartsOfBoard", unfollowed := true, recurses := true, apart := false, narrowed := true }
def FnExactPartsOfBoardUptoSaid : Prop := fnExactPartsOfBoardUptoRow.holds Tryz.pinned (OpenSpec.upto fnExactPartsOfBoardSpec)

/-- 'laws.FnExactMiddlesOf', WHERE WHAT IT READS IS OF BULK AT MOST 1048576: true; the input reads as it did. -/
def fnExactMiddlesOfUptoRow : OpenClaim := { program := "ytoangjjikmjkgaagreat", sum := "ad7f5ab49289864fc5a3fc48741e38e19a8bbef57a53934704fd0855b78e8348", func := "loop.example/g01239/laws.FnExactMiddlesOf", spec := "fnExactMiddlesOf", unfollowed := true, recurses := true, apart := false, narrowed := true }
def FnExactMiddlesOfUptoSaid : Prop := fnExactMiddlesOfUptoRow.holds Tryz.pinned (OpenSpec.upto fnExactMiddlesOfSpec)

end Rows
end Go.Proofs.YtoangjjikmjkgaaGreat
