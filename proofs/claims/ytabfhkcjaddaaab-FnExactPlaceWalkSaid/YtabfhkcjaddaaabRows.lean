/-
  No cell of these rows narrows 'for every input' (looked for: loops, veiled, ifaces, maps, wideKeys, modest, calm, conditions, laid).
  DERIVED. THE GIVEN ROWS OF THIS SEAT. 7 by the template 'for every input the law returns true; each argument reads behind the call as it read before'; 0 by the template 'total and deterministic' (their statements: YtabfhkcjaddaaabTotals.lean).
  GIVEN WITH THE SEED: the statements are not yours to turn. If you find one false, say at which input.
  Laid BY PROGRAM, IN A SANDBOX (cutbox-rows.mjs): the forced cells as the released guide's own fill.sh prints them over the translation 6032df1c33fb068b… (all of the seat's roots in one cut). By AI agents, Wed Nov 11 2026. No macro, syntax, notation, axiom, sorry.
-/
import Derived.Test.YtabfhkcjaddaaabChecked
import GoSem.Claim
import GoSem.ClaimJoined
import GoSem.ClaimMapViews
import Derived.JoinedTies
import Derived.KernelRfl
namespace Go.Proofs.Ytabfhkcjaddaaab
/- THE CELL 'sum', in the pinned program and in every row, IS THE sha256 OF THE DUMP (.gsa) THAT YtabfhkcjaddaaabProg.lean LOADS. Nothing in Lean hashes anything: it is a label: what it is worth is what the hold of that sum in a sandbox is worth. -/
noncomputable def Try.pinned : Pinned := { name := "ytabfhkcjaddaaab", sum := "6032df1c33fb068b8cab7cb90ce1746d7c34ae286ae038522ab672a8bbd0c929", checked := Try.checked }
namespace Rows
def none {H : Type} : Left H := { results := [], args := [] }

/-- 'laws.FnExactPlaceWalk': WHATEVER THE INPUT: true; the input reads as it did. -/
def fnExactPlaceWalkSpec : ChangeSpec := { name := "fnExactPlaceWalk", fn := fun _ => fun
  | [d1, d2, d3, d4, d5, d6] => { results := [.lit (.bool true)], args := [d1, d2, d3, d4, d5, d6] }
  | _ => none }
def fnExactPlaceWalkRow : OpenClaim := { program := "ytabfhkcjaddaaab", sum := "6032df1c33fb068b8cab7cb90ce1746d7c34ae286ae038522ab672a8bbd0c929", func := "loop.example/g01239/laws.FnExactPlaceWalk", spec := "fnExactPlaceWalk", unfollowed := true, recurses := true, apart := false }
def FnExactPlaceWalkSaid : Prop := fnExactPlaceWalkRow.holds Try.pinned (OpenSpec.ofChange fnExactPlaceWalkSpec)

/-- ITS FALSE NEIGHBOUR: 'it returns false'. Refute it at one input. -/
def fnExactPlaceWalkWrong : ChangeSpec := { name := "fnExactPlaceWalk", fn := fun _ => fun
  | [d1, d2, d3, d4, d5, d6] => { results := [.lit (.bool false)], args := [d1, d2, d3, d4, d5, d6] }
  | _ => none }
def FnExactPlaceWalkWrongFalsely : Prop := fnExactPlaceWalkRow.holds Try.pinned (OpenSpec.ofChange fnExactPlaceWalkWrong)

/-- 'laws.FnExactRowSumsOf': WHATEVER THE INPUT: true; the input reads as it did. -/
def fnExactRowSumsOfSpec : ChangeSpec := { name := "fnExactRowSumsOf", fn := fun _ => fun
  | [d1, d2, d3] => { results := [.lit (.bool true)], args := [d1, d2, d3] }
  | _ => none }
def fnExactRowSumsOfRow : OpenClaim := { program := "ytabfhkcjaddaaab", sum := "6032df1c33fb068b8cab7cb90ce1746d7c34ae286ae038522ab672a8bbd0c929", func := "loop.example/g01239/laws.FnExactRowSumsOf", spec := "fnExactRowSumsOf", unfollowed := true, recurses := true, apart := false }
def FnExactRowSumsOfSaid : Prop := fnExactRowSumsOfRow.holds Try.pinned (OpenSpec.ofChange fnExactRowSumsOfSpec)

/-- ITS FALSE NEIGHBOUR: 'it returns false'. Refute it at one input. -/
def fnExactRowSumsOfWrong : ChangeSpec := { name := "fnExactRowSumsOf", fn := fun _ => fun
  | [d1, d2, d3] => { results := [.lit (.bool false)], args := [d1, d2, d3] }
  | _ => none }
def FnExactRowSumsOfWrongFalsely : Prop := fnExactRowSumsOfRow.holds Try.pinned (OpenSpec.ofChange fnExactRowSumsOfWrong)

/-- 'laws.FnExactColumnSumsOf': WHATEVER THE INPUT: true; the input reads as it did. -/
def fnExactColumnSumsOfSpec : ChangeSpec := { name := "fnExactColumnSumsOf", fn := fun _ => fun
  | [d1, d2, d3] => { results := [.lit (.bool true)], args := [d1, d2, d3] }
  | _ => none }
def fnExactColumnSumsOfRow : OpenClaim := { program := "ytabfhkcjaddaaab", sum := "6032df1c33fb068b8cab7cb90ce1746d7c34ae286ae038522ab672a8bbd0c929", func := "loop.example/g01239/laws.FnExactColumnSumsOf", spec := "fnExactColumnSumsOf", unfollowed := true, recurses := true, apart := false }
def FnExactColumnSumsOfSaid : Prop := fnExactColumnSumsOfRow.holds Try.pinned (OpenSpec.ofChange fnExactColumnSumsOfSpec)

/-- ITS FALSE NEIGHBOUR: 'it returns false'. Refute it at one input. -/
def fnExactColumnSumsOfWrong : ChangeSpec := { name := "fnExactColumnSumsOf", fn := fun _ => fun
  | [d1, d2, d3] => { results := [.lit (.bool false)], args := [d1, d2, d3] }
  | _ => none }
def FnExactColumnSumsOfWrongFalsely : Prop := fnExactColumnSumsOfRow.holds Try.pinned (OpenSpec.ofChange fnExactColumnSumsOfWrong)

/-- 'laws.FnExactIsHalfMagic': WHATEVER THE INPUT: true; the input reads as it did. -/
def fnExactIsHalfMagicSpec : ChangeSpec := { name := "fnExactIsHalfMagic", fn := fun _ => fun
  | [d1, d2, d3] => { results := [.lit (.bool true)], args := [d1, d2, d3] }
  | _ => none }
def fnExactIsHalfMagicRow : OpenClaim := { program := "ytabfhkcjaddaaab", sum := "6032df1c33fb068b8cab7cb90ce1746d7c34ae286ae038522ab672a8bbd0c929", func := "loop.example/g01239/laws.FnExactIsHalfMagic", spec := "fnExactIsHalfMagic", unfollowed := true, recurses := true, apart := false }
def FnExactIsHalfMagicSaid : Prop := fnExactIsHalfMagicRow.holds Try.pinned (OpenSpec.ofChange fnExactIsHalfMagicSpec)

/-- ITS FALSE NEIGHBOUR: 'it returns false'. Refute it at one input. -/
def fnExactIsHalfMagicWrong : ChangeSpec := { name := "fnExactIsHalfMagic", fn := fun _ => fun
  | [d1, d2, d3] => { results := [.lit (.bool false)], args := [d1, d2, d3] }
  | _ => none }
def FnExactIsHalfMagicWrongFalsely : Prop := fnExactIsHalfMagicRow.holds Try.pinned (OpenSpec.ofChange fnExactIsHalfMagicWrong)

/-- 'laws.FnExactOppositePairs': WHATEVER THE INPUT: true; the input reads as it did. -/
def fnExactOppositePairsSpec : ChangeSpec := { name := "fnExactOppositePairs", fn := fun _ => fun
  | [d1, d2, d3] => { results := [.lit (.bool true)], args := [d1, d2, d3] }
  | _ => none }
def fnExactOppositePairsRow : OpenClaim := { program := "ytabfhkcjaddaaab", sum := "6032df1c33fb068b8cab7cb90ce1746d7c34ae286ae038522ab672a8bbd0c929", func := "loop.example/g01239/laws.FnExactOppositePairs", spec := "fnExactOppositePairs", unfollowed := true, recurses := true, apart := false }
def FnExactOppositePairsSaid : Prop := fnExactOppositePairsRow.holds Try.pinned (OpenSpec.ofChange fnExactOppositePairsSpec)

/-- ITS FALSE NEIGHBOUR: 'it returns false'. Refute it at one input. -/
def fnExactOppositePairsWrong : ChangeSpec := { name := "fnExactOppositePairs", fn := fun _ => fun
  | [d1, d2, d3] => { results := [.lit (.bool false)], args := [d1, d2, d3] }
  | _ => none }
def FnExactOppositePairsWrongFalsely : Prop := fnExactOppositePairsRow.holds Try.pinned (OpenSpec.ofChange fnExactOppositePairsWrong)

/-- 'laws.FnExactStepsOfWalk': WHATEVER THE INPUT: true; the input reads as it did. -/
def fnExactStepsOfWalkSpec : ChangeSpec := { name := "fnExactStepsOfWalk", fn := fun _ => fun
  | [d1, d2, d3] => { results := [.lit (.bool true)], args := [d1, d2, d3] }
  | _ => none }
def fnExactStepsOfWalkRow : OpenClaim := { program := "ytabfhkcjaddaaab", sum := "6032df1c33fb068b8cab7cb90ce1746d7c34ae286ae038522ab672a8bbd0c929", func := "loop.example/g01239/laws.FnExactStepsOfWalk", spec := "fnExactStepsOfWalk", unfollowed := true, recurses := true, apart := false }
def FnExactStepsOfWalkSaid : Prop := fnExactStepsOfWalkRow.holds Try.pinned (OpenSpec.ofChange fnExactStepsOfWalkSpec)

/-- ITS FALSE NEIGHBOUR: 'it returns false'. Refute it at one input. -/
def fnExactStepsOfWalkWrong : ChangeSpec := { name := "fnExactStepsOfWalk", fn := fun _ => fun
  | [d1, d2, d3] => { results := [.lit (.bool false)], args := [d1, d2, d3] }
  | _ => none }
def FnExactStepsOfWalkWrongFalsely : Prop := fnExactStepsOfWalkRow.holds Try.pinned (OpenSpec.ofChange fnExactStepsOfWalkWrong)

/-- 'laws.FnExactWalkOfSteps': WHATEVER THE INPUT: true; the input reads as it did. -/
def fnExactWalkOfStepsSpec : ChangeSpec := { name := "fnExactWalkOfSteps", fn := fun _ => fun
  | [d1, d2, d3, d4] => { results := [.lit (.bool true)], args := [d1, d2, d3, d4] }
  | _ => none }
def fnExactWalkOfStepsRow : OpenClaim := { program := "ytabfhkcjaddaaab", sum := "6032df1c33fb068b8cab7cb90ce1746d7c34ae286ae038522ab672a8bbd0c929", func := "loop.example/g01239/laws.FnExactWalkOfSteps", spec := "fnExactWalkOfSteps", unfollowed := true, recurses := true, apart := false }
def FnExactWalkOfStepsSaid : Prop := fnExactWalkOfStepsRow.holds Try.pinned (OpenSpec.ofChange fnExactWalkOfStepsSpec)

/-- ITS FALSE NEIGHBOUR: 'it returns false'. Refute it at one input. -/
def fnExactWalkOfStepsWrong : ChangeSpec := { name := "fnExactWalkOfSteps", fn := fun _ => fun
  | [d1, d2, d3, d4] => { results := [.lit (.bool false)], args := [d1, d2, d3, d4] }
  | _ => none }
def FnExactWalkOfStepsWrongFalsely : Prop := fnExactWalkOfStepsRow.holds Try.pinned (OpenSpec.ofChange fnExactWalkOfStepsWrong)

/- THE SECOND FORM. 'bulk': how many values and letters a reading holds, each counted each time it is reached (what is shared counts as often as it is met; a slice's spare places count too). A statement '..UptoSaid' is the law's where the arguments, and the package variables that the reading takes, are together of bulk at most 1048576: NARROWER than '..Said'. Prove '..Said' where nothing that the law and all that it calls make is longer than what came in: it says more and counts as full. Else prove '..UptoSaid'. A law counts once. -/
mutual
def uptoBulk {H : Type} : DataW H → Nat
  | .lit (.string bytes) => bytes.length + 1
  | .lit _ => 1
  | .nil => 1
  | .ptr d => uptoBulk d + 1
  | .slice elems spare => uptoBulkAll elems + uptoBulkAll spare + 1
  | .agg parts => uptoBulkAll parts + 1
  | .iface _ d => uptoBulk d + 1
  | .map entries => uptoBulkEntries entries + 1
  | .held _ => 1
def uptoBulkAll {H : Type} : List (DataW H) → Nat
  | [] => 0
  | d :: r => uptoBulk d + uptoBulkAll r
def uptoBulkEntries {H : Type} : List (Lit × DataW H) → Nat
  | [] => 0
  | x :: r => uptoBulkEntry x + uptoBulkEntries r
def uptoBulkEntry {H : Type} : Lit × DataW H → Nat
  | (.string bytes, d) => bytes.length + uptoBulk d + 1
  | (_, d) => uptoBulk d + 1
 end
def uptoSmall : (H : Type) → List (DataW H) → Bool := fun _ ds => decide (uptoBulkAll ds ≤ 1048576)
def OpenSpec.upto (s : _root_.Go.ChangeSpec) : _root_.Go.OpenSpec := { _root_.Go.OpenSpec.ofChange s with cond := some uptoSmall }

/-- 'laws.FnExactPlaceWalk', WHERE WHAT IT READS IS OF BULK AT MOST 1048576: true; the input reads as it did. -/
def fnExactPlaceWalkUptoRow : OpenClaim := { program := "ytabfhkcjaddaaab", sum := "6032df1c33fb068b8cab7cb90ce1746d7c34ae286ae038522ab672a8bbd0c929", func := "loop.example/g01239/laws.FnExactPlaceWalk", spec := "fnExactPlaceWalk", unfollowed := true, recurses := true, apart := false, narrowed := true }
def FnExactPlaceWalkUptoSaid : Prop := fnExactPlaceWalkUptoRow.holds Try.pinned (OpenSpec.upto fnExactPlaceWalkSpec)

/-- 'laws.FnExactRowSumsOf', WHERE WHAT IT READS IS OF BULK AT MOST 1048576: true; the input reads as it did. -/
def fnExactRowSumsOfUptoRow : OpenClaim := { program := "ytabfhkcjaddaaab", sum := "6032df1c33fb068b8cab7cb90ce1746d7c34ae286ae038522ab672a8bbd0c929", func := "loop.example/g01239/laws.FnExactRowSumsOf", spec := "fnExactRowSumsOf", unfollowed := true, recurses := true, apart := false, narrowed := true }
def FnExactRowSumsOfUptoSaid : Prop := fnExactRowSumsOfUptoRow.holds Try.pinned (OpenSpec.upto fnExactRowSumsOfSpec)

/-- 'laws.FnExactColumnSumsOf', WHERE WHAT IT READS IS OF BULK AT MOST 1048576: true; the input reads as it did. -/
def fnExactColumnSumsOfUptoRow : OpenClaim := { program := "ytabfhkcjaddaaab", sum := "6032df1c33fb068b8cab7cb90ce1746d7c34ae286ae038522ab672a8bbd0c929", func := "loop.example/g01239/laws.FnExactColumnSumsOf", spec := "fnExactColumnSumsOf", unfollowed := true, recurses := true, apart := false, narrowed := true }
def FnExactColumnSumsOfUptoSaid : Prop := fnExactColumnSumsOfUptoRow.holds Try.pinned (OpenSpec.upto fnExactColumnSumsOfSpec)

/-- 'laws.FnExactIsHalfMagic', WHERE WHAT IT READS IS OF BULK AT MOST 1048576: true; the input reads as it did. -/
def fnExactIsHalfMagicUptoRow : OpenClaim := { program := "ytabfhkcjaddaaab", sum := "6032df1c33fb068b8cab7cb90ce1746d7c34ae286ae038522ab672a8bbd0c929", func := "loop.example/g01239/laws.FnExactIsHalfMagic", spec := "fnExactIsHalfMagic", unfollowed := true, recurses := true, apart := false, narrowed := true }
def FnExactIsHalfMagicUptoSaid : Prop := fnExactIsHalfMagicUptoRow.holds Try.pinned (OpenSpec.upto fnExactIsHalfMagicSpec)

/-- 'laws.FnExactOppositePairs', WHERE WHAT IT READS IS OF BULK AT MOST 1048576: true; the input reads as it did. -/
def fnExactOppositePairsUptoRow : OpenClaim := { program := "ytabfhkcjaddaaab", sum := "6032df1c33fb068b8cab7cb90ce1746d7c34ae286ae038522ab672a8bbd0c929", func := "loop.example/g01239/laws.FnExactOppositePairs", spec := "fnExactOppositePairs", unfollowed := true, recurses := true, apart := false, narrowed := true }
def FnExactOppositePairsUptoSaid : Prop := fnExactOppositePairsUptoRow.holds Try.pinned (OpenSpec.upto fnExactOppositePairsSpec)

/-- 'laws.FnExactStepsOfWalk', WHERE WHAT IT READS IS OF BULK AT MOST 1048576: true; the input reads as it did. -/
def fnExactStepsOfWalkUptoRow : OpenClaim := { program := "ytabfhkcjaddaaab", sum := "6032df1c33fb068b8cab7cb90ce1746d7c34ae286ae038522ab672a8bbd0c929", func := "loop.example/g01239/laws.FnExactStepsOfWalk", spec := "fnExactStepsOfWalk", unfollowed := true, recurses := true, apart := false, narrowed := true }
def FnExactStepsOfWalkUptoSaid : Prop := fnExactStepsOfWalkUptoRow.holds Try.pinned (OpenSpec.upto fnExactStepsOfWalkSpec)

/-- 'laws.FnExactWalkOfSteps', WHERE WHAT IT READS IS OF BULK AT MOST 1048576: true; the input reads as it did. -/
def fnExactWalkOfStepsUptoRow : OpenClaim := { program := "ytabfhkcjaddaaab", sum := "6032df1c33fb068b8cab7cb90ce1746d7c34ae286ae038522ab672a8bbd0c929", func := "loop.example/g01239/laws.FnExactWalkOfSteps", spec := "fnExactWalkOfSteps", unfollowed := true, recurses := true, apart := false, narrowed := true }
def FnExactWalkOfStepsUptoSaid : Prop := fnExactWalkOfStepsUptoRow.holds Try.pinned (OpenSpec.upto fnExactWalkOfStepsSpec)

end Rows
end Go.Proofs.Ytabfhkcjaddaaab
