/-
  DERIVED. GIVEN WITH THE SEED: THE CARDS: each row of YtomfgjbicpeggaaGreatDoorRows.lean that lists a variable, with what it lists TIED to the program's text (the seventh form; the later family's looks); each row that meets fmt, with fmt's text TOLD by the authors' own Lean function (tested against real Go, not proved from fmt's source: count such statements apart). THE CARD IS WHAT COUNTS. Prove the row's statement (the work); the ties are given (YtomfgjbicpeggaaGreatDoorTie.lean); close each card by the builder's one call (the guide's Derived/Test/ToyasCard.lean, 'card_holds'). Laid BY PROGRAM, IN A SANDBOX (cutbox-door.mjs). By AI agents, Wed Nov 11 2026. No macro, syntax, notation, axiom, sorry.
-/
import Derived.Test.YtomfgjbicpeggaaGreatDoorRows
import GoSem.ClaimSeven
namespace Go.Proofs.YtomfgjbicpeggaaGreatDoor
namespace Rows

/-- THE TIED CARD OF 'laws.FnExactTwoColours'. -/
def fnExactTwoColoursCard : Claim7 := { stood := { row := fnExactTwoColoursRow, standIns := [], harness := (true, "1f2393c6de62e1ed798f6ef401535d3e2822d795a49be4562efc7a7e7d0d461c"), looks := false }, kinds := [], alts := [], laidByText := true, laidKinds := [.data], laidTests := true, laidLooks := .later }
def FnExactTwoColoursCardSaid : Prop := Claim7.holds Tryz.pinned (.plain (OpenSpec.ofChange fnExactTwoColoursSpec)) fnExactTwoColoursCard

/-- THE SECOND FORM's CARD OF 'laws.FnExactTwoColours'. -/
def fnExactTwoColoursUptoCard : Claim7 := { stood := { row := fnExactTwoColoursUptoRow, standIns := [], harness := (true, "1f2393c6de62e1ed798f6ef401535d3e2822d795a49be4562efc7a7e7d0d461c"), looks := false }, kinds := [], alts := [], laidByText := true, laidKinds := [.data], laidTests := true, laidLooks := .later }
def FnExactTwoColoursUptoCardSaid : Prop := Claim7.holds Tryz.pinned (.plain (OpenSpec.upto fnExactTwoColoursSpec)) fnExactTwoColoursUptoCard
end Rows
end Go.Proofs.YtomfgjbicpeggaaGreatDoor
