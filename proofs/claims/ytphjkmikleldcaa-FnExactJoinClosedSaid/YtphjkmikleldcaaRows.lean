/-
  No cell of these rows narrows 'for every input' (looked for: loops, veiled, ifaces, maps, wideKeys, modest, calm, conditions, laid).
  DERIVED. THE GIVEN ROWS OF THIS SEAT. 13 by the template 'for every input the law returns true; each argument reads behind the call as it read before'; 0 by the template 'total and deterministic' (their statements: YtphjkmikleldcaaTotals.lean).
  GIVEN WITH THE SEED: the statements are not yours to turn. If you find one false, say at which input.
  Laid BY PROGRAM, IN A SANDBOX (cutbox-rows.mjs): the forced cells as the released guide's own fill.sh prints them over the translation 2f135018133e72e2… (all of the seat's roots in one cut). By AI agents, Wed Nov 11 2026. No macro, syntax, notation, axiom, sorry.
-/
import Derived.Test.YtphjkmikleldcaaChecked
import GoSem.Claim
import GoSem.ClaimJoined
import GoSem.ClaimMapViews
import Derived.JoinedTies
import Derived.KernelRfl
namespace Go.Proofs.Ytphjkmikleldcaa
/- THE CELL 'sum', in the pinned program and in every row, IS THE sha256 OF THE DUMP (.gsa) THAT YtphjkmikleldcaaProg.lean LOADS. Nothing in Lean hashes anything: it is a label: what it is worth is what the hold of that sum in a sandbox is worth. -/
noncomputable def Try.pinned : Pinned := { name := "ytphjkmikleldcaa", sum := "2f135018133e72e2203cde9827686431deeea1e5bec7efb9cb63deee08ae0070", checked := Try.checked }
namespace Rows
def none {H : Type} : Left H := { results := [], args := [] }

/-- 'laws.FnExactReverseWalk': WHATEVER THE INPUT: true; the input reads as it did. -/
def fnExactReverseWalkSpec : ChangeSpec := { name := "fnExactReverseWalk", fn := fun _ => fun
  | [d1, d2, d3] => { results := [.lit (.bool true)], args := [d1, d2, d3] }
  | _ => none }
def fnExactReverseWalkRow : OpenClaim := { program := "ytphjkmikleldcaa", sum := "2f135018133e72e2203cde9827686431deeea1e5bec7efb9cb63deee08ae0070", func := "loop.example/g01239/laws.FnExactReverseWalk", spec := "fnExactReverseWalk", unfollowed := true, recurses := true, apart := false }
def FnExactReverseWalkSaid : Prop := fnExactReverseWalkRow.holds Try.pinned (OpenSpec.ofChange fnExactReverseWalkSpec)

/-- ITS FALSE NEIGHBOUR: 'it returns false'. Refute it at one input. -/
def fnExactReverseWalkWrong : ChangeSpec := { name := "fnExactReverseWalk", fn := fun _ => fun
  | [d1, d2, d3] => { results := [.lit (.bool false)], args := [d1, d2, d3] }
  | _ => none }
def FnExactReverseWalkWrongFalsely : Prop := fnExactReverseWalkRow.holds Try.pinned (OpenSpec.ofChange fnExactReverseWalkWrong)

/-- 'laws.FnExactTurnTail': WHATEVER THE INPUT: true; the input reads as it did. -/
def fnExactTurnTailSpec : ChangeSpec := { name := "fnExactTurnTail", fn := fun _ => fun
  | [d1, d2, d3, d4] => { results := [.lit (.bool true)], args := [d1, d2, d3, d4] }
  | _ => none }
def fnExactTurnTailRow : OpenClaim := { program := "ytphjkmikleldcaa", sum := "2f135018133e72e2203cde9827686431deeea1e5bec7efb9cb63deee08ae0070", func := "loop.example/g01239/laws.FnExactTurnTail", spec := "fnExactTurnTail", unfollowed := true, recurses := true, apart := false }
def FnExactTurnTailSaid : Prop := fnExactTurnTailRow.holds Try.pinned (OpenSpec.ofChange fnExactTurnTailSpec)

/-- ITS FALSE NEIGHBOUR: 'it returns false'. Refute it at one input. -/
def fnExactTurnTailWrong : ChangeSpec := { name := "fnExactTurnTail", fn := fun _ => fun
  | [d1, d2, d3, d4] => { results := [.lit (.bool false)], args := [d1, d2, d3, d4] }
  | _ => none }
def FnExactTurnTailWrongFalsely : Prop := fnExactTurnTailRow.holds Try.pinned (OpenSpec.ofChange fnExactTurnTailWrong)

/-- 'laws.FnExactTailTurns': WHATEVER THE INPUT: true; the input reads as it did. -/
def fnExactTailTurnsSpec : ChangeSpec := { name := "fnExactTailTurns", fn := fun _ => fun
  | [d1, d2, d3] => { results := [.lit (.bool true)], args := [d1, d2, d3] }
  | _ => none }
def fnExactTailTurnsRow : OpenClaim := { program := "ytphjkmikleldcaa", sum := "2f135018133e72e2203cde9827686431deeea1e5bec7efb9cb63deee08ae0070", func := "loop.example/g01239/laws.FnExactTailTurns", spec := "fnExactTailTurns", unfollowed := true, recurses := true, apart := false }
def FnExactTailTurnsSaid : Prop := fnExactTailTurnsRow.holds Try.pinned (OpenSpec.ofChange fnExactTailTurnsSpec)

/-- ITS FALSE NEIGHBOUR: 'it returns false'. Refute it at one input. -/
def fnExactTailTurnsWrong : ChangeSpec := { name := "fnExactTailTurns", fn := fun _ => fun
  | [d1, d2, d3] => { results := [.lit (.bool false)], args := [d1, d2, d3] }
  | _ => none }
def FnExactTailTurnsWrongFalsely : Prop := fnExactTailTurnsRow.holds Try.pinned (OpenSpec.ofChange fnExactTailTurnsWrong)

/-- 'laws.FnExactCloseByTurns': WHATEVER THE INPUT: true; the input reads as it did. -/
def fnExactCloseByTurnsSpec : ChangeSpec := { name := "fnExactCloseByTurns", fn := fun _ => fun
  | [d1, d2, d3, d4] => { results := [.lit (.bool true)], args := [d1, d2, d3, d4] }
  | _ => none }
def fnExactCloseByTurnsRow : OpenClaim := { program := "ytphjkmikleldcaa", sum := "2f135018133e72e2203cde9827686431deeea1e5bec7efb9cb63deee08ae0070", func := "loop.example/g01239/laws.FnExactCloseByTurns", spec := "fnExactCloseByTurns", unfollowed := true, recurses := true, apart := false }
def FnExactCloseByTurnsSaid : Prop := fnExactCloseByTurnsRow.holds Try.pinned (OpenSpec.ofChange fnExactCloseByTurnsSpec)

/-- ITS FALSE NEIGHBOUR: 'it returns false'. Refute it at one input. -/
def fnExactCloseByTurnsWrong : ChangeSpec := { name := "fnExactCloseByTurns", fn := fun _ => fun
  | [d1, d2, d3, d4] => { results := [.lit (.bool false)], args := [d1, d2, d3, d4] }
  | _ => none }
def FnExactCloseByTurnsWrongFalsely : Prop := fnExactCloseByTurnsRow.holds Try.pinned (OpenSpec.ofChange fnExactCloseByTurnsWrong)

/-- 'laws.FnExactJoinClosed': WHATEVER THE INPUT: true; the input reads as it did. -/
def fnExactJoinClosedSpec : ChangeSpec := { name := "fnExactJoinClosed", fn := fun _ => fun
  | [d1, d2, d3, d4] => { results := [.lit (.bool true)], args := [d1, d2, d3, d4] }
  | _ => none }
def fnExactJoinClosedRow : OpenClaim := { program := "ytphjkmikleldcaa", sum := "2f135018133e72e2203cde9827686431deeea1e5bec7efb9cb63deee08ae0070", func := "loop.example/g01239/laws.FnExactJoinClosed", spec := "fnExactJoinClosed", unfollowed := true, recurses := true, apart := false }
def FnExactJoinClosedSaid : Prop := fnExactJoinClosedRow.holds Try.pinned (OpenSpec.ofChange fnExactJoinClosedSpec)

/-- ITS FALSE NEIGHBOUR: 'it returns false'. Refute it at one input. -/
def fnExactJoinClosedWrong : ChangeSpec := { name := "fnExactJoinClosed", fn := fun _ => fun
  | [d1, d2, d3, d4] => { results := [.lit (.bool false)], args := [d1, d2, d3, d4] }
  | _ => none }
def FnExactJoinClosedWrongFalsely : Prop := fnExactJoinClosedRow.holds Try.pinned (OpenSpec.ofChange fnExactJoinClosedWrong)

/-- 'laws.FnExactCountJoins': WHATEVER THE INPUT: true; the input reads as it did. -/
def fnExactCountJoinsSpec : ChangeSpec := { name := "fnExactCountJoins", fn := fun _ => fun
  | [d1, d2, d3, d4] => { results := [.lit (.bool true)], args := [d1, d2, d3, d4] }
  | _ => none }
def fnExactCountJoinsRow : OpenClaim := { program := "ytphjkmikleldcaa", sum := "2f135018133e72e2203cde9827686431deeea1e5bec7efb9cb63deee08ae0070", func := "loop.example/g01239/laws.FnExactCountJoins", spec := "fnExactCountJoins", unfollowed := true, recurses := true, apart := false }
def FnExactCountJoinsSaid : Prop := fnExactCountJoinsRow.holds Try.pinned (OpenSpec.ofChange fnExactCountJoinsSpec)

/-- ITS FALSE NEIGHBOUR: 'it returns false'. Refute it at one input. -/
def fnExactCountJoinsWrong : ChangeSpec := { name := "fnExactCountJoins", fn := fun _ => fun
  | [d1, d2, d3, d4] => { results := [.lit (.bool false)], args := [d1, d2, d3, d4] }
  | _ => none }
def FnExactCountJoinsWrongFalsely : Prop := fnExactCountJoinsRow.holds Try.pinned (OpenSpec.ofChange fnExactCountJoinsWrong)

/-- 'laws.FnExactIsClosedWalk': WHATEVER THE INPUT: true; the input reads as it did. -/
def fnExactIsClosedWalkSpec : ChangeSpec := { name := "fnExactIsClosedWalk", fn := fun _ => fun
  | [d1, d2, d3] => { results := [.lit (.bool true)], args := [d1, d2, d3] }
  | _ => none }
def fnExactIsClosedWalkRow : OpenClaim := { program := "ytphjkmikleldcaa", sum := "2f135018133e72e2203cde9827686431deeea1e5bec7efb9cb63deee08ae0070", func := "loop.example/g01239/laws.FnExactIsClosedWalk", spec := "fnExactIsClosedWalk", unfollowed := true, recurses := true, apart := false }
def FnExactIsClosedWalkSaid : Prop := fnExactIsClosedWalkRow.holds Try.pinned (OpenSpec.ofChange fnExactIsClosedWalkSpec)

/-- ITS FALSE NEIGHBOUR: 'it returns false'. Refute it at one input. -/
def fnExactIsClosedWalkWrong : ChangeSpec := { name := "fnExactIsClosedWalk", fn := fun _ => fun
  | [d1, d2, d3] => { results := [.lit (.bool false)], args := [d1, d2, d3] }
  | _ => none }
def FnExactIsClosedWalkWrongFalsely : Prop := fnExactIsClosedWalkRow.holds Try.pinned (OpenSpec.ofChange fnExactIsClosedWalkWrong)

/-- 'laws.FnExactChainWalks': WHATEVER THE INPUT: true; the input reads as it did. -/
def fnExactChainWalksSpec : ChangeSpec := { name := "fnExactChainWalks", fn := fun _ => fun
  | [d1, d2, d3, d4] => { results := [.lit (.bool true)], args := [d1, d2, d3, d4] }
  | _ => none }
def fnExactChainWalksRow : OpenClaim := { program := "ytphjkmikleldcaa", sum := "2f135018133e72e2203cde9827686431deeea1e5bec7efb9cb63deee08ae0070", func := "loop.example/g01239/laws.FnExactChainWalks", spec := "fnExactChainWalks", unfollowed := true, recurses := true, apart := false }
def FnExactChainWalksSaid : Prop := fnExactChainWalksRow.holds Try.pinned (OpenSpec.ofChange fnExactChainWalksSpec)

/-- ITS FALSE NEIGHBOUR: 'it returns false'. Refute it at one input. -/
def fnExactChainWalksWrong : ChangeSpec := { name := "fnExactChainWalks", fn := fun _ => fun
  | [d1, d2, d3, d4] => { results := [.lit (.bool false)], args := [d1, d2, d3, d4] }
  | _ => none }
def FnExactChainWalksWrongFalsely : Prop := fnExactChainWalksRow.holds Try.pinned (OpenSpec.ofChange fnExactChainWalksWrong)

/-- 'laws.FnExactRowSumsOf': WHATEVER THE INPUT: true; the input reads as it did. -/
def fnExactRowSumsOfSpec : ChangeSpec := { name := "fnExactRowSumsOf", fn := fun _ => fun
  | [d1, d2, d3] => { results := [.lit (.bool true)], args := [d1, d2, d3] }
  | _ => none }
def fnExactRowSumsOfRow : OpenClaim := { program := "ytphjkmikleldcaa", sum := "2f135018133e72e2203cde9827686431deeea1e5bec7efb9cb63deee08ae0070", func := "loop.example/g01239/laws.FnExactRowSumsOf", spec := "fnExactRowSumsOf", unfollowed := true, recurses := true, apart := false }
def FnExactRowSumsOfSaid : Prop := fnExactRowSumsOfRow.holds Try.pinned (OpenSpec.ofChange fnExactRowSumsOfSpec)

/-- ITS FALSE NEIGHBOUR: 'it returns false'. Refute it at one input. -/
def fnExactRowSumsOfWrong : ChangeSpec := { name := "fnExactRowSumsOf", fn := fun _ => fun
  | [d1, d2, d3] => { results := [.lit (.bool false)], args := [d1, d2, d3] }
  | _ => none }
def FnExactRowSumsOfWrongFalsely : Prop := fnExactRowSumsOfRow.holds Try.pinned (OpenSpec.ofChange fnExactRowSumsOfWrong)

/-- 'laws.FnExactColumnSumsOf': WHATEVER THE INPUT: true; the input reads as it did. -/
def fnExactColumnSumsOfSpec : ChangeSpec := { name := "fnExactColumnSumsOf", fn := fun _ => fun
  | [d1, d2, d3] => { results := [.lit (.bool true)], args := [d1, d2, d3] }
  | _ => none }
def fnExactColumnSumsOfRow : OpenClaim := { program := "ytphjkmikleldcaa", sum := "2f135018133e72e2203cde9827686431deeea1e5bec7efb9cb63deee08ae0070", func := "loop.example/g01239/laws.FnExactColumnSumsOf", spec := "fnExactColumnSumsOf", unfollowed := true, recurses := true, apart := false }
def FnExactColumnSumsOfSaid : Prop := fnExactColumnSumsOfRow.holds Try.pinned (OpenSpec.ofChange fnExactColumnSumsOfSpec)

/-- ITS FALSE NEIGHBOUR: 'it returns false'. Refute it at one input. -/
def fnExactColumnSumsOfWrong : ChangeSpec := { name := "fnExactColumnSumsOf", fn := fun _ => fun
  | [d1, d2, d3] => { results := [.lit (.bool false)], args := [d1, d2, d3] }
  | _ => none }
def FnExactColumnSumsOfWrongFalsely : Prop := fnExactColumnSumsOfRow.holds Try.pinned (OpenSpec.ofChange fnExactColumnSumsOfWrong)

/-- 'laws.FnExactIsHalfMagic': WHATEVER THE INPUT: true; the input reads as it did. -/
def fnExactIsHalfMagicSpec : ChangeSpec := { name := "fnExactIsHalfMagic", fn := fun _ => fun
  | [d1, d2, d3] => { results := [.lit (.bool true)], args := [d1, d2, d3] }
  | _ => none }
def fnExactIsHalfMagicRow : OpenClaim := { program := "ytphjkmikleldcaa", sum := "2f135018133e72e2203cde9827686431deeea1e5bec7efb9cb63deee08ae0070", func := "loop.example/g01239/laws.FnExactIsHalfMagic", spec := "fnExactIsHalfMagic", unfollowed := true, recurses := true, apart := false }
def FnExactIsHalfMagicSaid : Prop := fnExactIsHalfMagicRow.holds Try.pinned (OpenSpec.ofChange fnExactIsHalfMagicSpec)

/-- ITS FALSE NEIGHBOUR: 'it returns false'. Refute it at one input. -/
def fnExactIsHalfMagicWrong : ChangeSpec := { name := "fnExactIsHalfMagic", fn := fun _ => fun
  | [d1, d2, d3] => { results := [.lit (.bool false)], args := [d1, d2, d3] }
  | _ => none }
def FnExactIsHalfMagicWrongFalsely : Prop := fnExactIsHalfMagicRow.holds Try.pinned (OpenSpec.ofChange fnExactIsHalfMagicWrong)

/-- 'laws.FnExactOppositePairs': WHATEVER THE INPUT: true; the input reads as it did. -/
def fnExactOppositePairsSpec : ChangeSpec := { name := "fnExactOppositePairs", fn := fun _ => fun
  | [d1, d2, d3] => { results := [.lit (.bool true)], args := [d1, d2, d3] }
  | _ => none }
def fnExactOppositePairsRow : OpenClaim := { program := "ytphjkmikleldcaa", sum := "2f135018133e72e2203cde9827686431deeea1e5bec7efb9cb63deee08ae0070", func := "loop.example/g01239/laws.FnExactOppositePairs", spec := "fnExactOppositePairs", unfollowed := true, recurses := true, apart := false }
def FnExactOppositePairsSaid : Prop := fnExactOppositePairsRow.holds Try.pinned (OpenSpec.ofChange fnExactOppositePairsSpec)

/-- ITS FALSE NEIGHBOUR: 'it returns false'. Refute it at one input. -/
def fnExactOppositePairsWrong : ChangeSpec := { name := "fnExactOppositePairs", fn := fun _ => fun
  | [d1, d2, d3] => { results := [.lit (.bool false)], args := [d1, d2, d3] }
  | _ => none }
def FnExactOppositePairsWrongFalsely : Prop := fnExactOppositePairsRow.holds Try.pinned (OpenSpec.ofChange fnExactOppositePairsWrong)

/-- 'laws.FnExactStepsOfWalk': WHATEVER THE INPUT: true; the input reads as it did. -/
def fnExactStepsOfWalkSpec : ChangeSpec := { name := "fnExactStepsOfWalk", fn := fun _ => fun
  | [d1, d2, d3] => { results := [.lit (.bool true)], args := [d1, d2, d3] }
  | _ => none }
def fnExactStepsOfWalkRow : OpenClaim := { program := "ytphjkmikleldcaa", sum := "2f135018133e72e2203cde9827686431deeea1e5bec7efb9cb63deee08ae0070", func := "loop.example/g01239/laws.FnExactStepsOfWalk", spec := "fnExactStepsOfWalk", unfollowed := true, recurses := true, apart := false }
def FnExactStepsOfWalkSaid : Prop := fnExactStepsOfWalkRow.holds Try.pinned (OpenSpec.ofChange fnExactStepsOfWalkSpec)

/-- ITS FALSE NEIGHBOUR: 'it returns false'. Refute it at one input. -/
def fnExactStepsOfWalkWrong : ChangeSpec := { name := "fnExactStepsOfWalk", fn := fun _ => fun
  | [d1, d2, d3] => { results := [.lit (.bool false)], args := [d1, d2, d3] }
  | _ => none }
def FnExactStepsOfWalkWrongFalsely : Prop := fnExactStepsOfWalkRow.holds Try.pinned (OpenSpec.ofChange fnExactStepsOfWalkWrong)

/- THE SECOND FORM. 'bulk': how many values and letters a reading holds, each counted each time it is reached (what is shared counts as often as it is met; a slice's spare places count too). A statement '..UptoSaid' is the law's where the arguments, and the package variables that the reading takes, are together of bulk at most 1048576: NARROWER than '..Said'. Prove '..Said' where nothing that the law and all that it calls make is longer than what came in: it says more and counts as full. Else prove '..UptoSaid'. A law counts once. -/
mutual
def uptoBulk {H : Type} : DataW H → Nat
  | .lit (.string bytes) => bytes.length + 1
  | .lit _ => 1
  | .nil => 1
  | .ptr d => uptoBulk d + 1
  | .slice elems spare => uptoBulkAll elems + uptoBulkAll spare + 1
  | .agg parts => uptoBulkAll parts + 1
  | .iface _ d => uptoBulk d + 1
  | .map entries => uptoBulkEntries entries + 1
  | .held _ => 1
def uptoBulkAll {H : Type} : List (DataW H) → Nat
  | [] => 0
  | d :: r => uptoBulk d + uptoBulkAll r
def uptoBulkEntries {H : Type} : List (Lit × DataW H) → Nat
  | [] => 0
  | x :: r => uptoBulkEntry x + uptoBulkEntries r
def uptoBulkEntry {H : Type} : Lit × DataW H → Nat
  | (.string bytes, d) => bytes.length + uptoBulk d + 1
  | (_, d) => uptoBulk d + 1
 end
def uptoSmall : (H : Type) → List (DataW H) → Bool := fun _ ds => decide (uptoBulkAll ds ≤ 1048576)
def OpenSpec.upto (s : _root_.Go.ChangeSpec) : _root_.Go.OpenSpec := { _root_.Go.OpenSpec.ofChange s with cond := some uptoSmall }

/-- 'laws.FnExactReverseWalk', WHERE WHAT IT READS IS OF BULK AT MOST 1048576: true; the input reads as it did. -/
def fnExactReverseWalkUptoRow : OpenClaim := { program := "ytphjkmikleldcaa", sum := "2f135018133e72e2203cde9827686431deeea1e5bec7efb9cb63deee08ae0070", func := "loop.example/g01239/laws.FnExactReverseWalk", spec := "fnExactReverseWalk", unfollowed := true, recurses := true, apart := false, narrowed := true }
def FnExactReverseWalkUptoSaid : Prop := fnExactReverseWalkUptoRow.holds Try.pinned (OpenSpec.upto fnExactReverseWalkSpec)

/-- 'laws.FnExactTurnTail', WHERE WHAT IT READS IS OF BULK AT MOST 1048576: true; the input reads as it did. -/
def fnExactTurnTailUptoRow : OpenClaim := { program := "ytphjkmikleldcaa", sum := "2f135018133e72e2203cde9827686431deeea1e5bec7efb9cb63deee08ae0070", func := "loop.example/g01239/laws.FnExactTurnTail", spec := "fnExactTurnTail", unfollowed := true, recurses := true, apart := false, narrowed := true }
def FnExactTurnTailUptoSaid : Prop := fnExactTurnTailUptoRow.holds Try.pinned (OpenSpec.upto fnExactTurnTailSpec)

/-- 'laws.FnExactTailTurns', WHERE WHAT IT READS IS OF BULK AT MOST 1048576: true; the input reads as it did. -/
def fnExactTailTurnsUptoRow : OpenClaim := { program := "ytphjkmikleldcaa", sum := "2f135018133e72e2203cde9827686431deeea1e5bec7efb9cb63deee08ae0070", func := "loop.example/g01239/laws.FnExactTailTurns", spec := "fnExactTailTurns", unfollowed := true, recurses := true, apart := false, narrowed := true }
def FnExactTailTurnsUptoSaid : Prop := fnExactTailTurnsUptoRow.holds Try.pinned (OpenSpec.upto fnExactTailTurnsSpec)

/-- 'laws.FnExactCloseByTurns', WHERE WHAT IT READS IS OF BULK AT MOST 1048576: true; the input reads as it did. -/
def fnExactCloseByTurnsUptoRow : OpenClaim := { program := "ytphjkmikleldcaa", sum := "2f135018133e72e2203cde9827686431deeea1e5bec7efb9cb63deee08ae0070", func := "loop.example/g01239/laws.FnExactCloseByTurns", spec := "fnExactCloseByTurns", unfollowed := true, recurses := true, apart := false, narrowed := true }
def FnExactCloseByTurnsUptoSaid : Prop := fnExactCloseByTurnsUptoRow.holds Try.pinned (OpenSpec.upto fnExactCloseByTurnsSpec)

/-- 'laws.FnExactJoinClosed', WHERE WHAT IT READS IS OF BULK AT MOST 1048576: true; the input reads as it did. -/
def fnExactJoinClosedUptoRow : OpenClaim := { program := "ytphjkmikleldcaa", sum := "2f135018133e72e2203cde9827686431deeea1e5bec7efb9cb63deee08ae0070", func := "loop.example/g01239/laws.FnExactJoinClosed", spec := "fnExactJoinClosed", unfollowed := true, recurses := true, apart := false, narrowed := true }
def FnExactJoinClosedUptoSaid : Prop := fnExactJoinClosedUptoRow.holds Try.pinned (OpenSpec.upto fnExactJoinClosedSpec)

/-- 'laws.FnExactCountJoins', WHERE WHAT IT READS IS OF BULK AT MOST 1048576: true; the input reads as it did. -/
def fnExactCountJoinsUptoRow : OpenClaim := { program := "ytphjkmikleldcaa", sum := "2f135018133e72e2203cde9827686431deeea1e5bec7efb9cb63deee08ae0070", func := "loop.example/g01239/laws.FnExactCountJoins", spec := "fnExactCountJoins", unfollowed := true, recurses := true, apart := false, narrowed := true }
def FnExactCountJoinsUptoSaid : Prop := fnExactCountJoinsUptoRow.holds Try.pinned (OpenSpec.upto fnExactCountJoinsSpec)

/-- 'laws.FnExactIsClosedWalk', WHERE WHAT IT READS IS OF BULK AT MOST 1048576: true; the input reads as it did. -/
def fnExactIsClosedWalkUptoRow : OpenClaim := { program := "ytphjkmikleldcaa", sum := "2f135018133e72e2203cde9827686431deeea1e5bec7efb9cb63deee08ae0070", func := "loop.example/g01239/laws.FnExactIsClosedWalk", spec := "fnExactIsClosedWalk", unfollowed := true, recurses := true, apart := false, narrowed := true }
def FnExactIsClosedWalkUptoSaid : Prop := fnExactIsClosedWalkUptoRow.holds Try.pinned (OpenSpec.upto fnExactIsClosedWalkSpec)

/-- 'laws.FnExactChainWalks', WHERE WHAT IT READS IS OF BULK AT MOST 1048576: true; the input reads as it did. -/
def fnExactChainWalksUptoRow : OpenClaim := { program := "ytphjkmikleldcaa", sum := "2f135018133e72e2203cde9827686431deeea1e5bec7efb9cb63deee08ae0070", func := "loop.example/g01239/laws.FnExactChainWalks", spec := "fnExactChainWalks", unfollowed := true, recurses := true, apart := false, narrowed := true }
def FnExactChainWalksUptoSaid : Prop := fnExactChainWalksUptoRow.holds Try.pinned (OpenSpec.upto fnExactChainWalksSpec)

/-- 'laws.FnExactRowSumsOf', WHERE WHAT IT READS IS OF BULK AT MOST 1048576: true; the input reads as it did. -/
def fnExactRowSumsOfUptoRow : OpenClaim := { program := "ytphjkmikleldcaa", sum := "2f135018133e72e2203cde9827686431deeea1e5bec7efb9cb63deee08ae0070", func := "loop.example/g01239/laws.FnExactRowSumsOf", spec := "fnExactRowSumsOf", unfollowed := true, recurses := true, apart := false, narrowed := true }
def FnExactRowSumsOfUptoSaid : Prop := fnExactRowSumsOfUptoRow.holds Try.pinned (OpenSpec.upto fnExactRowSumsOfSpec)

/-- 'laws.FnExactColumnSumsOf', WHERE WHAT IT READS IS OF BULK AT MOST 1048576: true; the input reads as it did. -/
def fnExactColumnSumsOfUptoRow : OpenClaim := { program := "ytphjkmikleldcaa", sum := "2f135018133e72e2203cde9827686431deeea1e5bec7efb9cb63deee08ae0070", func := "loop.example/g01239/laws.FnExactColumnSumsOf", spec := "fnExactColumnSumsOf", unfollowed := true, recurses := true, apart := false, narrowed := true }
def FnExactColumnSumsOfUptoSaid : Prop := fnExactColumnSumsOfUptoRow.holds Try.pinned (OpenSpec.upto fnExactColumnSumsOfSpec)

/-- 'laws.FnExactIsHalfMagic', WHERE WHAT IT READS IS OF BULK AT MOST 1048576: true; the input reads as it did. -/
def fnExactIsHalfMagicUptoRow : OpenClaim := { program := "ytphjkmikleldcaa", sum := "2f135018133e72e2203cde9827686431deeea1e5bec7efb9cb63deee08ae0070", func := "loop.example/g01239/laws.FnExactIsHalfMagic", spec := "fnExactIsHalfMagic", unfollowed := true, recurses := true, apart := false, narrowed := true }
def FnExactIsHalfMagicUptoSaid : Prop := fnExactIsHalfMagicUptoRow.holds Try.pinned (OpenSpec.upto fnExactIsHalfMagicSpec)

/-- 'laws.FnExactOppositePairs', WHERE WHAT IT READS IS OF BULK AT MOST 1048576: true; the input reads as it did. -/
def fnExactOppositePairsUptoRow : OpenClaim := { program := "ytphjkmikleldcaa", sum := "2f135018133e72e2203cde9827686431deeea1e5bec7efb9cb63deee08ae0070", func := "loop.example/g01239/laws.FnExactOppositePairs", spec := "fnExactOppositePairs", unfollowed := true, recurses := true, apart := false, narrowed := true }
def FnExactOppositePairsUptoSaid : Prop := fnExactOppositePairsUptoRow.holds Try.pinned (OpenSpec.upto fnExactOppositePairsSpec)

/-- 'laws.FnExactStepsOfWalk', WHERE WHAT IT READS IS OF BULK AT MOST 1048576: true; the input reads as it did. -/
def fnExactStepsOfWalkUptoRow : OpenClaim := { program := "ytphjkmikleldcaa", sum := "2f135018133e72e2203cde9827686431deeea1e5bec7efb9cb63deee08ae0070", func := "loop.example/g01239/laws.FnExactStepsOfWalk", spec := "fnExactStepsOfWalk", unfollowed := true, recurses := true, apart := false, narrowed := true }
def FnExactStepsOfWalkUptoSaid : Prop := fnExactStepsOfWalkUptoRow.holds Try.pinned (OpenSpec.upto fnExactStepsOfWalkSpec)

end Rows
end Go.Proofs.Ytphjkmikleldcaa
