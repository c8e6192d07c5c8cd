/-
  No cell of these rows narrows 'for every input' (looked for: loops, veiled, ifaces, maps, wideKeys, modest, calm, conditions, laid).
  DERIVED. THE GIVEN ROWS OF THIS SEAT. 7 by the template 'for every input the law returns true; each argument reads behind the call as it read before'; 0 by the template 'total and deterministic' (their statements: YtoangjjikmjkgaaTotals.lean).
  GIVEN WITH THE SEED: the statements are not yours to turn. If you find one false, say at which input.
  Laid BY PROGRAM, IN A SANDBOX (cutbox-rows.mjs): the forced cells as the released guide's own fill.sh prints them over the translation a6c697bd14ed5283… (all of the seat's roots in one cut). By AI agents, Wed Nov 11 2026. No macro, syntax, notation, axiom, sorry.
-/
import Derived.Test.YtoangjjikmjkgaaChecked
import GoSem.Claim
import GoSem.ClaimJoined
import GoSem.ClaimMapViews
import Derived.JoinedTies
import Derived.KernelRfl
namespace Go.Proofs.Ytoangjjikmjkgaa
/- THE CELL 'sum', in the pinned program and in every row, IS THE sha256 OF THE DUMP (.gsa) THAT YtoangjjikmjkgaaProg.lean LOADS. Nothing in Lean hashes anything: it is a label: what it is worth is what the hold of that sum in a sandbox is worth. -/
noncomputable def Try.pinned : Pinned := { name := "ytoangjjikmjkgaa", sum := "a6c697bd14ed5283383b09b23caedfaebab5a46b4b5c63c747e9bae9e234871d", checked := Try.checked }
namespace Rows
def none {H : Type} : Left H := { results := [], args := [] }

/-- 'laws.FnExactDistanceBetween': WHATEVER THE INPUT: true; the input reads as it did. -/
def fnExactDistanceBetweenSpec : ChangeSpec := { name := "fnExactDistanceBetween", fn := fun _ => fun
  | [d1, d2, d3, d4] => { results := [.lit (.bool true)], args := [d1, d2, d3, d4] }
  | _ => none }
def fnExactDistanceBetweenRow : OpenClaim := { program := "ytoangjjikmjkgaa", sum := "a6c697bd14ed5283383b09b23caedfaebab5a46b4b5c63c747e9bae9e234871d", func := "loop.example/g01239/laws.FnExactDistanceBetween", spec := "fnExactDistanceBetween", unfollowed := true, recurses := true, apart := false }
def FnExactDistanceBetweenSaid : Prop := fnExactDistanceBetweenRow.holds Try.pinned (OpenSpec.ofChange fnExactDistanceBetweenSpec)

/-- ITS FALSE NEIGHBOUR: 'it returns false'. Refute it at one input. -/
def fnExactDistanceBetweenWrong : ChangeSpec := { name := "fnExactDistanceBetween", fn := fun _ => fun
  | [d1, d2, d3, d4] => { results := [.lit (.bool false)], args := [d1, d2, d3, d4] }
  | _ => none }
def FnExactDistanceBetweenWrongFalsely : Prop := fnExactDistanceBetweenRow.holds Try.pinned (OpenSpec.ofChange fnExactDistanceBetweenWrong)

/-- 'laws.FnExactDistancesFrom': WHATEVER THE INPUT: true; the input reads as it did. -/
def fnExactDistancesFromSpec : ChangeSpec := { name := "fnExactDistancesFrom", fn := fun _ => fun
  | [d1, d2, d3] => { results := [.lit (.bool true)], args := [d1, d2, d3] }
  | _ => none }
def fnExactDistancesFromRow : OpenClaim := { program := "ytoangjjikmjkgaa", sum := "a6c697bd14ed5283383b09b23caedfaebab5a46b4b5c63c747e9bae9e234871d", func := "loop.example/g01239/laws.FnExactDistancesFrom", spec := "fnExactDistancesFrom", unfollowed := true, recurses := true, apart := false }
def FnExactDistancesFromSaid : Prop := fnExactDistancesFromRow.holds Try.pinned (OpenSpec.ofChange fnExactDistancesFromSpec)

/-- ITS FALSE NEIGHBOUR: 'it returns false'. Refute it at one input. -/
def fnExactDistancesFromWrong : ChangeSpec := { name := "fnExactDistancesFrom", fn := fun _ => fun
  | [d1, d2, d3] => { results := [.lit (.bool false)], args := [d1, d2, d3] }
  | _ => none }
def FnExactDistancesFromWrongFalsely : Prop := fnExactDistancesFromRow.holds Try.pinned (OpenSpec.ofChange fnExactDistancesFromWrong)

/-- 'laws.FnExactCellsWithin': WHATEVER THE INPUT: true; the input reads as it did. -/
def fnExactCellsWithinSpec : ChangeSpec := { name := "fnExactCellsWithin", fn := fun _ => fun
  | [d1, d2, d3, d4] => { results := [.lit (.bool true)], args := [d1, d2, d3, d4] }
  | _ => none }
def fnExactCellsWithinRow : OpenClaim := { program := "ytoangjjikmjkgaa", sum := "a6c697bd14ed5283383b09b23caedfaebab5a46b4b5c63c747e9bae9e234871d", func := "loop.example/g01239/laws.FnExactCellsWithin", spec := "fnExactCellsWithin", unfollowed := true, recurses := true, apart := false }
def FnExactCellsWithinSaid : Prop := fnExactCellsWithinRow.holds Try.pinned (OpenSpec.ofChange fnExactCellsWithinSpec)

/-- ITS FALSE NEIGHBOUR: 'it returns false'. Refute it at one input. -/
def fnExactCellsWithinWrong : ChangeSpec := { name := "fnExactCellsWithin", fn := fun _ => fun
  | [d1, d2, d3, d4] => { results := [.lit (.bool false)], args := [d1, d2, d3, d4] }
  | _ => none }
def FnExactCellsWithinWrongFalsely : Prop := fnExactCellsWithinRow.holds Try.pinned (OpenSpec.ofChange fnExactCellsWithinWrong)

/-- 'laws.FnExactIsRoute': WHATEVER THE INPUT: true; the input reads as it did. -/
def fnExactIsRouteSpec : ChangeSpec := { name := "fnExactIsRoute", fn := fun _ => fun
  | [d1, d2, d3] => { results := [.lit (.bool true)], args := [d1, d2, d3] }
  | _ => none }
def fnExactIsRouteRow : OpenClaim := { program := "ytoangjjikmjkgaa", sum := "a6c697bd14ed5283383b09b23caedfaebab5a46b4b5c63c747e9bae9e234871d", func := "loop.example/g01239/laws.FnExactIsRoute", spec := "fnExactIsRoute", unfollowed := true, recurses := true, apart := false }
def FnExactIsRouteSaid : Prop := fnExactIsRouteRow.holds Try.pinned (OpenSpec.ofChange fnExactIsRouteSpec)

/-- ITS FALSE NEIGHBOUR: 'it returns false'. Refute it at one input. -/
def fnExactIsRouteWrong : ChangeSpec := { name := "fnExactIsRoute", fn := fun _ => fun
  | [d1, d2, d3] => { results := [.lit (.bool false)], args := [d1, d2, d3] }
  | _ => none }
def FnExactIsRouteWrongFalsely : Prop := fnExactIsRouteRow.holds Try.pinned (OpenSpec.ofChange fnExactIsRouteWrong)

/-- 'laws.FnExactFarthestFrom': WHATEVER THE INPUT: true; the input reads as it did. -/
def fnExactFarthestFromSpec : ChangeSpec := { name := "fnExactFarthestFrom", fn := fun _ => fun
  | [d1, d2, d3] => { results := [.lit (.bool true)], args := [d1, d2, d3] }
  | _ => none }
def fnExactFarthestFromRow : OpenClaim := { program := "ytoangjjikmjkgaa", sum := "a6c697bd14ed5283383b09b23caedfaebab5a46b4b5c63c747e9bae9e234871d", func := "loop.example/g01239/laws.FnExactFarthestFrom", spec := "fnExactFarthestFrom", unfollowed := true, recurses := true, apart := false }
def FnExactFarthestFromSaid : Prop := fnExactFarthestFromRow.holds Try.pinned (OpenSpec.ofChange fnExactFarthestFromSpec)

/-- ITS FALSE NEIGHBOUR: 'it returns false'. Refute it at one input. -/
def fnExactFarthestFromWrong : ChangeSpec := { name := "fnExactFarthestFrom", fn := fun _ => fun
  | [d1, d2, d3] => { results := [.lit (.bool false)], args := [d1, d2, d3] }
  | _ => none }
def FnExactFarthestFromWrongFalsely : Prop := fnExactFarthestFromRow.holds Try.pinned (OpenSpec.ofChange fnExactFarthestFromWrong)

/-- 'laws.FnExactCountByDistance': WHATEVER THE INPUT: true; the input reads as it did. -/
def fnExactCountByDistanceSpec : ChangeSpec := { name := "fnExactCountByDistance", fn := fun _ => fun
  | [d1, d2, d3] => { results := [.lit (.bool true)], args := [d1, d2, d3] }
  | _ => none }
def fnExactCountByDistanceRow : OpenClaim := { program := "ytoangjjikmjkgaa", sum := "a6c697bd14ed5283383b09b23caedfaebab5a46b4b5c63c747e9bae9e234871d", func := "loop.example/g01239/laws.FnExactCountByDistance", spec := "fnExactCountByDistance", unfollowed := true, recurses := true, apart := false }
def FnExactCountByDistanceSaid : Prop := fnExactCountByDistanceRow.holds Try.pinned (OpenSpec.ofChange fnExactCountByDistanceSpec)

/-- ITS FALSE NEIGHBOUR: 'it returns false'. Refute it at one input. -/
def fnExactCountByDistanceWrong : ChangeSpec := { name := "fnExactCountByDistance", fn := fun _ => fun
  | [d1, d2, d3] => { results := [.lit (.bool false)], args := [d1, d2, d3] }
  | _ => none }
def FnExactCountByDistanceWrongFalsely : Prop := fnExactCountByDistanceRow.holds Try.pinned (OpenSpec.ofChange fnExactCountByDistanceWrong)

/-- 'laws.FnExactCellsOnRoutes': WHATEVER THE INPUT: true; the input reads as it did. -/
def fnExactCellsOnRoutesSpec : ChangeSpec := { name := "fnExactCellsOnRoutes", fn := fun _ => fun
  | [d1, d2, d3, d4] => { results := [.lit (.bool true)], args := [d1, d2, d3, d4] }
  | _ => none }
def fnExactCellsOnRoutesRow : OpenClaim := { program := "ytoangjjikmjkgaa", sum := "a6c697bd14ed5283383b09b23caedfaebab5a46b4b5c63c747e9bae9e234871d", func := "loop.example/g01239/laws.FnExactCellsOnRoutes", spec := "fnExactCellsOnRoutes", unfollowed := true, recurses := true, apart := false }
def FnExactCellsOnRoutesSaid : Prop := fnExactCellsOnRoutesRow.holds Try.pinned (OpenSpec.ofChange fnExactCellsOnRoutesSpec)

/-- ITS FALSE NEIGHBOUR: 'it returns false'. Refute it at one input. -/
def fnExactCellsOnRoutesWrong : ChangeSpec := { name := "fnExactCellsOnRoutes", fn := fun _ => fun
  | [d1, d2, d3, d4] => { results := [.lit (.bool false)], args := [d1, d2, d3, d4] }
  | _ => none }
def FnExactCellsOnRoutesWrongFalsely : Prop := fnExactCellsOnRoutesRow.holds Try.pinned (OpenSpec.ofChange fnExactCellsOnRoutesWrong)

/- THE SECOND FORM. 'bulk': how many values and letters a reading holds, each counted each time it is reached (what is shared counts as often as it is met; a slice's spare places count too). A statement '..UptoSaid' is the law's where the arguments, and the package variables that the reading takes, are together of bulk at most 1048576: NARROWER than '..Said'. Prove '..Said' where nothing that the law and all that it calls make is longer than what came in: it says more and counts as full. Else prove '..UptoSaid'. A law counts once. -/
mutual
def uptoBulk {H : Type} : DataW H → Nat
  | .lit (.string bytes) => bytes.length + 1
  | .lit _ => 1
  | .nil => 1
  | .ptr d => uptoBulk d + 1
  | .slice elems spare => uptoBulkAll elems + uptoBulkAll spare + 1
  | .agg parts => uptoBulkAll parts + 1
  | .iface _ d => uptoBulk d + 1
  | .map entries => uptoBulkEntries entries + 1
  | .held _ => 1
def uptoBulkAll {H : Type} : List (DataW H) → Nat
  | [] => 0
  | d :: r => uptoBulk d + uptoBulkAll r
def uptoBulkEntries {H : Type} : List (Lit × DataW H) → Nat
  | [] => 0
  | x :: r => uptoBulkEntry x + uptoBulkEntries r
def uptoBulkEntry {H : Type} : Lit × DataW H → Nat
  | (.string bytes, d) => bytes.length + uptoBulk d + 1
  | (_, d) => uptoBulk d + 1
 end
def uptoSmall : (H : Type) → List (DataW H) → Bool := fun _ ds => decide (uptoBulkAll ds ≤ 1048576)
def OpenSpec.upto (s : _root_.Go.ChangeSpec) : _root_.Go.OpenSpec := { _root_.Go.OpenSpec.ofChange s with cond := some uptoSmall }

/-- 'laws.FnExactDistanceBetween', WHERE WHAT IT READS IS OF BULK AT MOST 1048576: true; the input reads as it did. -/
def fnExactDistanceBetweenUptoRow : OpenClaim := { program := "ytoangjjikmjkgaa", sum := "a6c697bd14ed5283383b09b23caedfaebab5a46b4b5c63c747e9bae9e234871d", func := "loop.example/g01239/laws.FnExactDistanceBetween", spec := "fnExactDistanceBetween", unfollowed := true, recurses := true, apart := false, narrowed := true }
def FnExactDistanceBetweenUptoSaid : Prop := fnExactDistanceBetweenUptoRow.holds Try.pinned (OpenSpec.upto fnExactDistanceBetweenSpec)

/-- 'laws.FnExactDistancesFrom', WHERE WHAT IT READS IS OF BULK AT MOST 1048576: true; the input reads as it did. -/
def fnExactDistancesFromUptoRow : OpenClaim := { program := "ytoangjjikmjkgaa", sum := "a6c697bd14ed5283383b09b23caedfaebab5a46b4b5c63c747e9bae9e234871d", func := "loop.example/g01239/laws.FnExactDistancesFrom", spec := "fnExactDistancesFrom", unfollowed := true, recurses := true, apart := false, narrowed := true }
def FnExactDistancesFromUptoSaid : Prop := fnExactDistancesFromUptoRow.holds Try.pinned (OpenSpec.upto fnExactDistancesFromSpec)

/-- 'laws.FnExactCellsWithin', WHERE WHAT IT READS IS OF BULK AT MOST 1048576: true; the input reads as it did. -/
def fnExactCellsWithinUptoRow : OpenClaim := { program := "ytoangjjikmjkgaa", sum := "a6c697bd14ed5283383b09b23caedfaebab5a46b4b5c63c747e9bae9e234871d", func := "loop.example/g01239/laws.FnExactCellsWithin", spec := "fnExactCellsWithin", unfollowed := true, recurses := true, apart := false, narrowed := true }
def FnExactCellsWithinUptoSaid : Prop := fnExactCellsWithinUptoRow.holds Try.pinned (OpenSpec.upto fnExactCellsWithinSpec)

/-- 'laws.FnExactIsRoute', WHERE WHAT IT READS IS OF BULK AT MOST 1048576: true; the input reads as it did. -/
def fnExactIsRouteUptoRow : OpenClaim := { program := "ytoangjjikmjkgaa", sum := "a6c697bd14ed5283383b09b23caedfaebab5a46b4b5c63c747e9bae9e234871d", func := "loop.example/g01239/laws.FnExactIsRoute", spec := "fnExactIsRoute", unfollowed := true, recurses := true, apart := false, narrowed := true }
def FnExactIsRouteUptoSaid : Prop := fnExactIsRouteUptoRow.holds Try.pinned (OpenSpec.upto fnExactIsRouteSpec)

/-- 'laws.FnExactFarthestFrom', WHERE WHAT IT READS IS OF BULK AT MOST 1048576: true; the input reads as it did. -/
def fnExactFarthestFromUptoRow : OpenClaim := { program := "ytoangjjikmjkgaa", sum := "a6c697bd14ed5283383b09b23caedfaebab5a46b4b5c63c747e9bae9e234871d", func := "loop.example/g01239/laws.FnExactFarthestFrom", spec := "fnExactFarthestFrom", unfollowed := true, recurses := true, apart := false, narrowed := true }
def FnExactFarthestFromUptoSaid : Prop := fnExactFarthestFromUptoRow.holds Try.pinned (OpenSpec.upto fnExactFarthestFromSpec)

/-- 'laws.FnExactCountByDistance', WHERE WHAT IT READS IS OF BULK AT MOST 1048576: true; the input reads as it did. -/
def fnExactCountByDistanceUptoRow : OpenClaim := { program := "ytoangjjikmjkgaa", sum := "a6c697bd14ed5283383b09b23caedfaebab5a46b4b5c63c747e9bae9e234871d", func := "loop.example/g01239/laws.FnExactCountByDistance", spec := "fnExactCountByDistance", unfollowed := true, recurses := true, apart := false, narrowed := true }
def FnExactCountByDistanceUptoSaid : Prop := fnExactCountByDistanceUptoRow.holds Try.pinned (OpenSpec.upto fnExactCountByDistanceSpec)

/-- 'laws.FnExactCellsOnRoutes', WHERE WHAT IT READS IS OF BULK AT MOST 1048576: true; the input reads as it did. -/
def fnExactCellsOnRoutesUptoRow : OpenClaim := { program := "ytoangjjikmjkgaa", sum := "a6c697bd14ed5283383b09b23caedfaebab5a46b4b5c63c747e9bae9e234871d", func := "loop.example/g01239/laws.FnExactCellsOnRoutes", spec := "fnExactCellsOnRoutes", unfollowed := true, recurses := true, apart := false, narrowed := true }
def FnExactCellsOnRoutesUptoSaid : Prop := fnExactCellsOnRoutesUptoRow.holds Try.pinned (OpenSpec.upto fnExactCellsOnRoutesSpec)

end Rows
end Go.Proofs.Ytoangjjikmjkgaa
