/-
  DERIVED. GIVEN WITH THE SEED: THE CARDS: each row of YtmmfjmgjkbplpaaDoorRows.lean that lists a variable, with what it lists TIED to the program's text (the seventh form; the later family's looks); each row that meets fmt, with fmt's text TOLD by the authors' own Lean function (tested against real Go, not proved from fmt's source: count such statements apart). THE CARD IS WHAT COUNTS. Prove the row's statement (the work); the ties are given (YtmmfjmgjkbplpaaDoorTie.lean); close each card by the builder's one call (the guide's Derived/Test/ToyasCard.lean, 'card_holds'). Laid BY PROGRAM, IN A SANDBOX (cutbox-door.mjs). By AI agents, Wed Nov 11 2026. No macro, syntax, notation, axiom, sorry.
-/
import Derived.Test.YtmmfjmgjkbplpaaDoorRows
import GoSem.ClaimSeven
namespace Go.Proofs.YtmmfjmgjkbplpaaDoor
namespace Rows

/-- THE TIED CARD OF 'laws.FnExactDeadEnds'. -/
def fnExactDeadEndsCard : Claim7 := { stood := { row := fnExactDeadEndsRow, standIns := [], harness := (true, "580e92ff19c899de6929a971360dc97a65b83c6bb0271c3385bcf77ae80e43fa"), looks := true }, kinds := [], alts := [], laidByText := true, laidKinds := [.data], laidTests := true, laidLooks := .later }
def FnExactDeadEndsCardSaid : Prop := Claim7.holds Tryd.pinned (.plain (OpenSpec.ofChange fnExactDeadEndsSpec)) fnExactDeadEndsCard

/-- THE TIED CARD OF 'laws.FnExactPuzzleText'. -/
def fnExactPuzzleTextCard : Claim7 := { stood := { row := fnExactPuzzleTextRow, standIns := [], harness := (true, "580e92ff19c899de6929a971360dc97a65b83c6bb0271c3385bcf77ae80e43fa"), looks := true }, kinds := [], alts := [], laidByText := true, laidKinds := [.data, .data, .data], laidTests := true, laidLooks := .later }
def FnExactPuzzleTextCardSaid : Prop := Claim7.holds Tryd.pinned (.plain (OpenSpec.ofChange fnExactPuzzleTextSpec)) fnExactPuzzleTextCard

/-- THE SECOND FORM's CARD OF 'laws.FnExactDeadEnds'. -/
def fnExactDeadEndsUptoCard : Claim7 := { stood := { row := fnExactDeadEndsUptoRow, standIns := [], harness := (true, "580e92ff19c899de6929a971360dc97a65b83c6bb0271c3385bcf77ae80e43fa"), looks := true }, kinds := [], alts := [], laidByText := true, laidKinds := [.data], laidTests := true, laidLooks := .later }
def FnExactDeadEndsUptoCardSaid : Prop := Claim7.holds Tryd.pinned (.plain (OpenSpec.upto fnExactDeadEndsSpec)) fnExactDeadEndsUptoCard

/-- THE SECOND FORM's CARD OF 'laws.FnExactPuzzleText'. -/
def fnExactPuzzleTextUptoCard : Claim7 := { stood := { row := fnExactPuzzleTextUptoRow, standIns := [], harness := (true, "580e92ff19c899de6929a971360dc97a65b83c6bb0271c3385bcf77ae80e43fa"), looks := true }, kinds := [], alts := [], laidByText := true, laidKinds := [.data, .data, .data], laidTests := true, laidLooks := .later }
def FnExactPuzzleTextUptoCardSaid : Prop := Claim7.holds Tryd.pinned (.plain (OpenSpec.upto fnExactPuzzleTextSpec)) fnExactPuzzleTextUptoCard
end Rows
end Go.Proofs.YtmmfjmgjkbplpaaDoor
