/-
  DERIVED. GIVEN WITH THE SEED: THE CARDS: each row of YtmmfjmgjkbplpaaGreatDoorRows.lean that lists a variable, with what it lists TIED to the program's text (the seventh form; the later family's looks); each row that meets fmt, with fmt's text TOLD by the authors' own Lean function (tested against real Go, not proved from fmt's source: count such statements apart). THE CARD IS WHAT COUNTS. Prove the row's statement (the work); the ties are given (YtmmfjmgjkbplpaaGreatDoorTie.lean); close each card by the builder's one call (the guide's Derived/Test/ToyasCard.lean, 'card_holds'). Laid BY PROGRAM, IN A SANDBOX (cutbox-door.mjs). By AI agents, Wed Nov 11 2026. No macro, syntax, notation, axiom, sorry.
-/
import Derived.Test.YtmmfjmgjkbplpaaGreatDoorRows
import GoSem.ClaimSeven
namespace Go.Proofs.YtmmfjmgjkbplpaaGreatDoor
namespace Rows

/-- THE TIED CARD OF 'laws.FnExactIsFarPainting'. -/
def fnExactIsFarPaintingCard : Claim7 := { stood := { row := fnExactIsFarPaintingRow, standIns := [], harness := (true, "84bd9aca61ac233ee99e9904e40402f4c60748f2d097f0091db9b229166bd884"), looks := false }, kinds := [], alts := [], laidByText := true, laidKinds := [.data], laidTests := true, laidLooks := .later }
def FnExactIsFarPaintingCardSaid : Prop := Claim7.holds Tryz.pinned (.plain (OpenSpec.ofChange fnExactIsFarPaintingSpec)) fnExactIsFarPaintingCard

/-- THE SECOND FORM's CARD OF 'laws.FnExactIsFarPainting'. -/
def fnExactIsFarPaintingUptoCard : Claim7 := { stood := { row := fnExactIsFarPaintingUptoRow, standIns := [], harness := (true, "84bd9aca61ac233ee99e9904e40402f4c60748f2d097f0091db9b229166bd884"), looks := false }, kinds := [], alts := [], laidByText := true, laidKinds := [.data], laidTests := true, laidLooks := .later }
def FnExactIsFarPaintingUptoCardSaid : Prop := Claim7.holds Tryz.pinned (.plain (OpenSpec.upto fnExactIsFarPaintingSpec)) fnExactIsFarPaintingUptoCard
end Rows
end Go.Proofs.YtmmfjmgjkbplpaaGreatDoor
