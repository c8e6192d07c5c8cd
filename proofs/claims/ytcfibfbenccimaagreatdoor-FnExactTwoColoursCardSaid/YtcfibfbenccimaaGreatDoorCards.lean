/-
  DERIVED. GIVEN WITH THE SEED: THE CARDS: each row of YtcfibfbenccimaaGreatDoorRows.lean that lists a variable, with what it lists TIED to the program's text (the seventh form; the later family's looks); each row that meets fmt, with fmt's text TOLD by the authors' own Lean function (tested against real Go, not proved from fmt's source: count such statements apart). THE CARD IS WHAT COUNTS. Prove the row's statement (the work); the ties are given (YtcfibfbenccimaaGreatDoorTie.lean); close each card by the builder's one call (the guide's Derived/Test/ToyasCard.lean, 'card_holds'). Laid BY PROGRAM, IN A SANDBOX (cutbox-door.mjs). By AI agents, Wed Nov 11 2026. No macro, syntax, notation, axiom, sorry.
-/
import Derived.Test.YtcfibfbenccimaaGreatDoorRows
import GoSem.ClaimSeven
namespace Go.Proofs.YtcfibfbenccimaaGreatDoor
namespace Rows

/-- THE TIED CARD OF 'laws.FnExactIsPainting'. -/
def fnExactIsPaintingCard : Claim7 := { stood := { row := fnExactIsPaintingRow, standIns := [], harness := (true, "2e283aab4ee48154c26d5a91102eba2c1e9d2ed990079d6fa100a98abe340df9"), looks := false }, kinds := [], alts := [], laidByText := true, laidKinds := [.data], laidTests := true, laidLooks := .later }
def FnExactIsPaintingCardSaid : Prop := Claim7.holds Tryz.pinned (.plain (OpenSpec.ofChange fnExactIsPaintingSpec)) fnExactIsPaintingCard

/-- THE TIED CARD OF 'laws.FnExactGuardedBy'. -/
def fnExactGuardedByCard : Claim7 := { stood := { row := fnExactGuardedByRow, standIns := [], harness := (true, "2e283aab4ee48154c26d5a91102eba2c1e9d2ed990079d6fa100a98abe340df9"), looks := false }, kinds := [], alts := [], laidByText := true, laidKinds := [.data], laidTests := true, laidLooks := .later }
def FnExactGuardedByCardSaid : Prop := Claim7.holds Tryz.pinned (.plain (OpenSpec.ofChange fnExactGuardedBySpec)) fnExactGuardedByCard

/-- THE TIED CARD OF 'laws.FnExactAreGuards'. -/
def fnExactAreGuardsCard : Claim7 := { stood := { row := fnExactAreGuardsRow, standIns := [], harness := (true, "2e283aab4ee48154c26d5a91102eba2c1e9d2ed990079d6fa100a98abe340df9"), looks := false }, kinds := [], alts := [], laidByText := true, laidKinds := [.data], laidTests := true, laidLooks := .later }
def FnExactAreGuardsCardSaid : Prop := Claim7.holds Tryz.pinned (.plain (OpenSpec.ofChange fnExactAreGuardsSpec)) fnExactAreGuardsCard

/-- THE TIED CARD OF 'laws.FnExactFillPeaceful'. -/
def fnExactFillPeacefulCard : Claim7 := { stood := { row := fnExactFillPeacefulRow, standIns := [], harness := (true, "2e283aab4ee48154c26d5a91102eba2c1e9d2ed990079d6fa100a98abe340df9"), looks := false }, kinds := [], alts := [], laidByText := true, laidKinds := [.data], laidTests := true, laidLooks := .later }
def FnExactFillPeacefulCardSaid : Prop := Claim7.holds Tryz.pinned (.plain (OpenSpec.ofChange fnExactFillPeacefulSpec)) fnExactFillPeacefulCard

/-- THE TIED CARD OF 'laws.FnExactTwoColours'. -/
def fnExactTwoColoursCard : Claim7 := { stood := { row := fnExactTwoColoursRow, standIns := [], harness := (true, "2e283aab4ee48154c26d5a91102eba2c1e9d2ed990079d6fa100a98abe340df9"), looks := false }, kinds := [], alts := [], laidByText := true, laidKinds := [.data], laidTests := true, laidLooks := .later }
def FnExactTwoColoursCardSaid : Prop := Claim7.holds Tryz.pinned (.plain (OpenSpec.ofChange fnExactTwoColoursSpec)) fnExactTwoColoursCard

/-- THE SECOND FORM's CARD OF 'laws.FnExactIsPainting'. -/
def fnExactIsPaintingUptoCard : Claim7 := { stood := { row := fnExactIsPaintingUptoRow, standIns := [], harness := (true, "2e283aab4ee48154c26d5a91102eba2c1e9d2ed990079d6fa100a98abe340df9"), looks := false }, kinds := [], alts := [], laidByText := true, laidKinds := [.data], laidTests := true, laidLooks := .later }
def FnExactIsPaintingUptoCardSaid : Prop := Claim7.holds Tryz.pinned (.plain (OpenSpec.upto fnExactIsPaintingSpec)) fnExactIsPaintingUptoCard

/-- THE SECOND FORM's CARD OF 'laws.FnExactGuardedBy'. -/
def fnExactGuardedByUptoCard : Claim7 := { stood := { row := fnExactGuardedByUptoRow, standIns := [], harness := (true, "2e283aab4ee48154c26d5a91102eba2c1e9d2ed990079d6fa100a98abe340df9"), looks := false }, kinds := [], alts := [], laidByText := true, laidKinds := [.data], laidTests := true, laidLooks := .later }
def FnExactGuardedByUptoCardSaid : Prop := Claim7.holds Tryz.pinned (.plain (OpenSpec.upto fnExactGuardedBySpec)) fnExactGuardedByUptoCard

/-- THE SECOND FORM's CARD OF 'laws.FnExactAreGuards'. -/
def fnExactAreGuardsUptoCard : Claim7 := { stood := { row := fnExactAreGuardsUptoRow, standIns := [], harness := (true, "2e283aab4ee48154c26d5a91102eba2c1e9d2ed990079d6fa100a98abe340df9"), looks := false }, kinds := [], alts := [], laidByText := true, laidKinds := [.data], laidTests := true, laidLooks := .later }
def FnExactAreGuardsUptoCardSaid : Prop := Claim7.holds Tryz.pinned (.plain (OpenSpec.upto fnExactAreGuardsSpec)) fnExactAreGuardsUptoCard

/-- THE SECOND FORM's CARD OF 'laws.FnExactFillPeaceful'. -/
def fnExactFillPeacefulUptoCard : Claim7 := { stood := { row := fnExactFillPeacefulUptoRow, standIns := [], harness := (true, "2e283aab4ee48154c26d5a91102eba2c1e9d2ed990079d6fa100a98abe340df9"), looks := false }, kinds := [], alts := [], laidByText := true, laidKinds := [.data], laidTests := true, laidLooks := .later }
def FnExactFillPeacefulUptoCardSaid : Prop := Claim7.holds Tryz.pinned (.plain (OpenSpec.upto fnExactFillPeacefulSpec)) fnExactFillPeacefulUptoCard

/-- THE SECOND FORM's CARD OF 'laws.FnExactTwoColours'. -/
def fnExactTwoColoursUptoCard : Claim7 := { stood := { row := fnExactTwoColoursUptoRow, standIns := [], harness := (true, "2e283aab4ee48154c26d5a91102eba2c1e9d2ed990079d6fa100a98abe340df9"), looks := false }, kinds := [], alts := [], laidByText := true, laidKinds := [.data], laidTests := true, laidLooks := .later }
def FnExactTwoColoursUptoCardSaid : Prop := Claim7.holds Tryz.pinned (.plain (OpenSpec.upto fnExactTwoColoursSpec)) fnExactTwoColoursUptoCard
end Rows
end Go.Proofs.YtcfibfbenccimaaGreatDoor
