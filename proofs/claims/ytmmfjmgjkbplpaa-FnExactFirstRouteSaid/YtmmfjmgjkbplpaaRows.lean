/-
  No cell of these rows narrows 'for every input' (looked for: loops, veiled, ifaces, maps, wideKeys, modest, calm, conditions, laid).
  DERIVED. THE GIVEN ROWS OF THIS SEAT. 3 by the template 'for every input the law returns true; each argument reads behind the call as it read before'; 0 by the template 'total and deterministic' (their statements: YtmmfjmgjkbplpaaTotals.lean).
  GIVEN WITH THE SEED: the statements are not yours to turn. If you find one false, say at which input.
  Laid BY PROGRAM, IN A SANDBOX (cutbox-rows.mjs): the forced cells as the released guide's own fill.sh prints them over the translation f2363349fcd280d7… (all of the seat's roots in one cut). By AI agents, Wed Nov 11 2026. No macro, syntax, notation, axiom, sorry.
-/
import Derived.Test.YtmmfjmgjkbplpaaChecked
import GoSem.Claim
import GoSem.ClaimJoined
import GoSem.ClaimMapViews
import Derived.JoinedTies
import Derived.KernelRfl
namespace Go.Proofs.Ytmmfjmgjkbplpaa
/- THE CELL 'sum', in the pinned program and in every row, IS THE sha256 OF THE DUMP (.gsa) THAT YtmmfjmgjkbplpaaProg.lean LOADS. Nothing in Lean hashes anything: it is a label: what it is worth is what the hold of that sum in a sandbox is worth. -/
noncomputable def Try.pinned : Pinned := { name := "ytmmfjmgjkbplpaa", sum := "f2363349fcd280d7b337f90f949625d061515dac673e837466714f32042e690a", checked := Try.checked }
namespace Rows
def none {H : Type} : Left H := { results := [], args := [] }

/-- 'laws.FnExactCountPaths': WHATEVER THE INPUT: true; the input reads as it did. -/
def fnExactCountPathsSpec : ChangeSpec := { name := "fnExactCountPaths", fn := fun _ => fun
  | [d1, d2, d3, d4, d5] => { results := [.lit (.bool true)], args := [d1, d2, d3, d4, d5] }
  | _ => none }
def fnExactCountPathsRow : OpenClaim := { program := "ytmmfjmgjkbplpaa", sum := "f2363349fcd280d7b337f90f949625d061515dac673e837466714f32042e690a", func := "loop.example/g01239/laws.FnExactCountPaths", spec := "fnExactCountPaths", unfollowed := true, recurses := true, apart := false }
def FnExactCountPathsSaid : Prop := fnExactCountPathsRow.holds Try.pinned (OpenSpec.ofChange fnExactCountPathsSpec)

/-- ITS FALSE NEIGHBOUR: 'it returns false'. Refute it at one input. -/
def fnExactCountPathsWrong : ChangeSpec := { name := "fnExactCountPaths", fn := fun _ => fun
  | [d1, d2, d3, d4, d5] => { results := [.lit (.bool false)], args := [d1, d2, d3, d4, d5] }
  | _ => none }
def FnExactCountPathsWrongFalsely : Prop := fnExactCountPathsRow.holds Try.pinned (OpenSpec.ofChange fnExactCountPathsWrong)

/-- 'laws.FnExactFirstRoute': WHATEVER THE INPUT: true; the input reads as it did. -/
def fnExactFirstRouteSpec : ChangeSpec := { name := "fnExactFirstRoute", fn := fun _ => fun
  | [d1, d2, d3, d4] => { results := [.lit (.bool true)], args := [d1, d2, d3, d4] }
  | _ => none }
def fnExactFirstRouteRow : OpenClaim := { program := "ytmmfjmgjkbplpaa", sum := "f2363349fcd280d7b337f90f949625d061515dac673e837466714f32042e690a", func := "loop.example/g01239/laws.FnExactFirstRoute", spec := "fnExactFirstRoute", unfollowed := true, recurses := true, apart := false }
def FnExactFirstRouteSaid : Prop := fnExactFirstRouteRow.holds Try.pinned (OpenSpec.ofChange fnExactFirstRouteSpec)

/-- ITS FALSE NEIGHBOUR: 'it returns false'. Refute it at one input. -/
def fnExactFirstRouteWrong : ChangeSpec := { name := "fnExactFirstRoute", fn := fun _ => fun
  | [d1, d2, d3, d4] => { results := [.lit (.bool false)], args := [d1, d2, d3, d4] }
  | _ => none }
def FnExactFirstRouteWrongFalsely : Prop := fnExactFirstRouteRow.holds Try.pinned (OpenSpec.ofChange fnExactFirstRouteWrong)

/-- 'laws.FnExactCountRoutes': WHATEVER THE INPUT: true; the input reads as it did. -/
def fnExactCountRoutesSpec : ChangeSpec := { name := "fnExactCountRoutes", fn := fun _ => fun
  | [d1, d2, d3, d4] => { results := [.lit (.bool true)], args := [d1, d2, d3, d4] }
  | _ => none }
def fnExactCountRoutesRow : OpenClaim := { program := "ytmmfjmgjkbplpaa", sum := "f2363349fcd280d7b337f90f949625d061515dac673e837466714f32042e690a", func := "loop.example/g01239/laws.FnExactCountRoutes", spec := "fnExactCountRoutes", unfollowed := true, recurses := true, apart := false }
def FnExactCountRoutesSaid : Prop := fnExactCountRoutesRow.holds Try.pinned (OpenSpec.ofChange fnExactCountRoutesSpec)

/-- ITS FALSE NEIGHBOUR: 'it returns false'. Refute it at one input. -/
def fnExactCountRoutesWrong : ChangeSpec := { name := "fnExactCountRoutes", fn := fun _ => fun
  | [d1, d2, d3, d4] => { results := [.lit (.bool false)], args := [d1, d2, d3, d4] }
  | _ => none }
def FnExactCountRoutesWrongFalsely : Prop := fnExactCountRoutesRow.holds Try.pinned (OpenSpec.ofChange fnExactCountRoutesWrong)

/- THE SECOND FORM. 'bulk': how many values and letters a reading holds, each counted each time it is reached (what is shared counts as often as it is met; a slice's spare places count too). A statement '..UptoSaid' is the law's where the arguments, and the package variables that the reading takes, are together of bulk at most 1048576: NARROWER than '..Said'. Prove '..Said' where nothing that the law and all that it calls make is longer than what came in: it says more and counts as full. Else prove '..UptoSaid'. A law counts once. -/
mutual
def uptoBulk {H : Type} : DataW H → Nat
  | .lit (.string bytes) => bytes.length + 1
  | .lit _ => 1
  | .nil => 1
  | .ptr d => uptoBulk d + 1
  | .slice elems spare => uptoBulkAll elems + uptoBulkAll spare + 1
  | .agg parts => uptoBulkAll parts + 1
  | .iface _ d => uptoBulk d + 1
  | .map entries => uptoBulkEntries entries + 1
  | .held _ => 1
def uptoBulkAll {H : Type} : List (DataW H) → Nat
  | [] => 0
  | d :: r => uptoBulk d + uptoBulkAll r
def uptoBulkEntries {H : Type} : List (Lit × DataW H) → Nat
  | [] => 0
  | x :: r => uptoBulkEntry x + uptoBulkEntries r
def uptoBulkEntry {H : Type} : Lit × DataW H → Nat
  | (.string bytes, d) => bytes.length + uptoBulk d + 1
  | (_, d) => uptoBulk d + 1
 end
def uptoSmall : (H : Type) → List (DataW H) → Bool := fun _ ds => decide (uptoBulkAll ds ≤ 1048576)
def OpenSpec.upto (s : _root_.Go.ChangeSpec) : _root_.Go.OpenSpec := { _root_.Go.OpenSpec.ofChange s with cond := some uptoSmall }

/-- 'laws.FnExactCountPaths', WHERE WHAT IT READS IS OF BULK AT MOST 1048576: true; the input reads as it did. -/
def fnExactCountPathsUptoRow : OpenClaim := { program := "ytmmfjmgjkbplpaa", sum := "f2363349fcd280d7b337f90f949625d061515dac673e837466714f32042e690a", func := "loop.example/g01239/laws.FnExactCountPaths", spec := "fnExactCountPaths", unfollowed := true, recurses := true, apart := false, narrowed := true }
def FnExactCountPathsUptoSaid : Prop := fnExactCountPathsUptoRow.holds Try.pinned (OpenSpec.upto fnExactCountPathsSpec)

/-- 'laws.FnExactFirstRoute', WHERE WHAT IT READS IS OF BULK AT MOST 1048576: true; the input reads as it did. -/
def fnExactFirstRouteUptoRow : OpenClaim := { program := "ytmmfjmgjkbplpaa", sum := "f2363349fcd280d7b337f90f949625d061515dac673e837466714f32042e690a", func := "loop.example/g01239/laws.FnExactFirstRoute", spec := "fnExactFirstRoute", unfollowed := true, recurses := true, apart := false, narrowed := true }
def FnExactFirstRouteUptoSaid : Prop := fnExactFirstRouteUptoRow.holds Try.pinned (OpenSpec.upto fnExactFirstRouteSpec)

/-- 'laws.FnExactCountRoutes', WHERE WHAT IT READS IS OF BULK AT MOST 1048576: true; the input reads as it did. -/
def fnExactCountRoutesUptoRow : OpenClaim := { program := "ytmmfjmgjkbplpaa", sum := "f2363349fcd280d7b337f90f949625d061515dac673e837466714f32042e690a", func := "loop.example/g01239/laws.FnExactCountRoutes", spec := "fnExactCountRoutes", unfollowed := true, recurses := true, apart := false, narrowed := true }
def FnExactCountRoutesUptoSaid : Prop := fnExactCountRoutesUptoRow.holds Try.pinned (OpenSpec.upto fnExactCountRoutesSpec)

end Rows
end Go.Proofs.Ytmmfjmgjkbplpaa
