/-
  DERIVED. GIVEN WITH THE SEED: THE CARDS: each row of YtnnonmpgkkpocaaGreatDoorRows.lean that lists a variable, with what it lists TIED to the program's text (the seventh form; the later family's looks); each row that meets fmt, with fmt's text TOLD by the authors' own Lean function (tested against real Go, not proved from fmt's source: count such statements apart). THE CARD IS WHAT COUNTS. Prove the row's statement (the work); the ties are given (YtnnonmpgkkpocaaGreatDoorTie.lean); close each card by the builder's one call (the guide's Derived/Test/ToyasCard.lean, 'card_holds'). Laid BY PROGRAM, IN A SANDBOX (cutbox-door.mjs). By AI agents, Wed Nov 11 2026. No macro, syntax, notation, axiom, sorry.
-/
import Derived.Test.YtnnonmpgkkpocaaGreatDoorRows
import GoSem.ClaimSeven
namespace Go.Proofs.YtnnonmpgkkpocaaGreatDoor
namespace Rows

/-- THE TIED CARD OF 'laws.FnExactCountToursFrom'. -/
def fnExactCountToursFromCard : Claim7 := { stood := { row := fnExactCountToursFromRow, standIns := [], harness := (true, "c17e79b0509236061c96e25b2d19ea17499925bbbd40b739225cc26e13a5899d"), looks := false }, kinds := [], alts := [], laidByText := true, laidKinds := [.data], laidTests := true, laidLooks := .later }
def FnExactCountToursFromCardSaid : Prop := Claim7.holds Tryz.pinned (.plain (OpenSpec.ofChange fnExactCountToursFromSpec)) fnExactCountToursFromCard

/-- THE TIED CARD OF 'laws.FnExactCountTours'. -/
def fnExactCountToursCard : Claim7 := { stood := { row := fnExactCountToursRow, standIns := [], harness := (true, "c17e79b0509236061c96e25b2d19ea17499925bbbd40b739225cc26e13a5899d"), looks := false }, kinds := [], alts := [], laidByText := true, laidKinds := [.data], laidTests := true, laidLooks := .later }
def FnExactCountToursCardSaid : Prop := Claim7.holds Tryz.pinned (.plain (OpenSpec.ofChange fnExactCountToursSpec)) fnExactCountToursCard

/-- THE TIED CARD OF 'laws.FnExactFirstTourFrom'. -/
def fnExactFirstTourFromCard : Claim7 := { stood := { row := fnExactFirstTourFromRow, standIns := [], harness := (true, "c17e79b0509236061c96e25b2d19ea17499925bbbd40b739225cc26e13a5899d"), looks := false }, kinds := [], alts := [], laidByText := true, laidKinds := [.data], laidTests := true, laidLooks := .later }
def FnExactFirstTourFromCardSaid : Prop := Claim7.holds Tryz.pinned (.plain (OpenSpec.ofChange fnExactFirstTourFromSpec)) fnExactFirstTourFromCard

/-- THE TIED CARD OF 'laws.FnExactFirstTour'. -/
def fnExactFirstTourCard : Claim7 := { stood := { row := fnExactFirstTourRow, standIns := [], harness := (true, "c17e79b0509236061c96e25b2d19ea17499925bbbd40b739225cc26e13a5899d"), looks := false }, kinds := [], alts := [], laidByText := true, laidKinds := [.data], laidTests := true, laidLooks := .later }
def FnExactFirstTourCardSaid : Prop := Claim7.holds Tryz.pinned (.plain (OpenSpec.ofChange fnExactFirstTourSpec)) fnExactFirstTourCard

/-- THE TIED CARD OF 'laws.FnExactCountClosedTours'. -/
def fnExactCountClosedToursCard : Claim7 := { stood := { row := fnExactCountClosedToursRow, standIns := [], harness := (true, "c17e79b0509236061c96e25b2d19ea17499925bbbd40b739225cc26e13a5899d"), looks := false }, kinds := [], alts := [], laidByText := true, laidKinds := [.data], laidTests := true, laidLooks := .later }
def FnExactCountClosedToursCardSaid : Prop := Claim7.holds Tryz.pinned (.plain (OpenSpec.ofChange fnExactCountClosedToursSpec)) fnExactCountClosedToursCard

/-- THE TIED CARD OF 'laws.FnExactFirstClosedTour'. -/
def fnExactFirstClosedTourCard : Claim7 := { stood := { row := fnExactFirstClosedTourRow, standIns := [], harness := (true, "c17e79b0509236061c96e25b2d19ea17499925bbbd40b739225cc26e13a5899d"), looks := false }, kinds := [], alts := [], laidByText := true, laidKinds := [.data], laidTests := true, laidLooks := .later }
def FnExactFirstClosedTourCardSaid : Prop := Claim7.holds Tryz.pinned (.plain (OpenSpec.ofChange fnExactFirstClosedTourSpec)) fnExactFirstClosedTourCard

/-- THE TIED CARD OF 'laws.FnExactForcedLeaps'. -/
def fnExactForcedLeapsCard : Claim7 := { stood := { row := fnExactForcedLeapsRow, standIns := [], harness := (true, "c17e79b0509236061c96e25b2d19ea17499925bbbd40b739225cc26e13a5899d"), looks := false }, kinds := [], alts := [], laidByText := true, laidKinds := [.data], laidTests := true, laidLooks := .later }
def FnExactForcedLeapsCardSaid : Prop := Claim7.holds Tryz.pinned (.plain (OpenSpec.ofChange fnExactForcedLeapsSpec)) fnExactForcedLeapsCard

/-- THE TIED CARD OF 'laws.FnExactFewestOnward'. -/
def fnExactFewestOnwardCard : Claim7 := { stood := { row := fnExactFewestOnwardRow, standIns := [], harness := (true, "c17e79b0509236061c96e25b2d19ea17499925bbbd40b739225cc26e13a5899d"), looks := false }, kinds := [], alts := [], laidByText := true, laidKinds := [.data], laidTests := true, laidLooks := .later }
def FnExactFewestOnwardCardSaid : Prop := Claim7.holds Tryz.pinned (.plain (OpenSpec.ofChange fnExactFewestOnwardSpec)) fnExactFewestOnwardCard

/-- THE SECOND FORM's CARD OF 'laws.FnExactCountToursFrom'. -/
def fnExactCountToursFromUptoCard : Claim7 := { stood := { row := fnExactCountToursFromUptoRow, standIns := [], harness := (true, "c17e79b0509236061c96e25b2d19ea17499925bbbd40b739225cc26e13a5899d"), looks := false }, kinds := [], alts := [], laidByText := true, laidKinds := [.data], laidTests := true, laidLooks := .later }
def FnExactCountToursFromUptoCardSaid : Prop := Claim7.holds Tryz.pinned (.plain (OpenSpec.upto fnExactCountToursFromSpec)) fnExactCountToursFromUptoCard

/-- THE SECOND FORM's CARD OF 'laws.FnExactCountTours'. -/
def fnExactCountToursUptoCard : Claim7 := { stood := { row := fnExactCountToursUptoRow, standIns := [], harness := (true, "c17e79b0509236061c96e25b2d19ea17499925bbbd40b739225cc26e13a5899d"), looks := false }, kinds := [], alts := [], laidByText := true, laidKinds := [.data], laidTests := true, laidLooks := .later }
def FnExactCountToursUptoCardSaid : Prop := Claim7.holds Tryz.pinned (.plain (OpenSpec.upto fnExactCountToursSpec)) fnExactCountToursUptoCard

/-- THE SECOND FORM's CARD OF 'laws.FnExactFirstTourFrom'. -/
def fnExactFirstTourFromUptoCard : Claim7 := { stood := { row := fnExactFirstTourFromUptoRow, standIns := [], harness := (true, "c17e79b0509236061c96e25b2d19ea17499925bbbd40b739225cc26e13a5899d"), looks := false }, kinds := [], alts := [], laidByText := true, laidKinds := [.data], laidTests := true, laidLooks := .later }
def FnExactFirstTourFromUptoCardSaid : Prop := Claim7.holds Tryz.pinned (.plain (OpenSpec.upto fnExactFirstTourFromSpec)) fnExactFirstTourFromUptoCard

/-- THE SECOND FORM's CARD OF 'laws.FnExactFirstTour'. -/
def fnExactFirstTourUptoCard : Claim7 := { stood := { row := fnExactFirstTourUptoRow, standIns := [], harness := (true, "c17e79b0509236061c96e25b2d19ea17499925bbbd40b739225cc26e13a5899d"), looks := false }, kinds := [], alts := [], laidByText := true, laidKinds := [.data], laidTests := true, laidLooks := .later }
def FnExactFirstTourUptoCardSaid : Prop := Claim7.holds Tryz.pinned (.plain (OpenSpec.upto fnExactFirstTourSpec)) fnExactFirstTourUptoCard

/-- THE SECOND FORM's CARD OF 'laws.FnExactCountClosedTours'. -/
def fnExactCountClosedToursUptoCard : Claim7 := { stood := { row := fnExactCountClosedToursUptoRow, standIns := [], harness := (true, "c17e79b0509236061c96e25b2d19ea17499925bbbd40b739225cc26e13a5899d"), looks := false }, kinds := [], alts := [], laidByText := true, laidKinds := [.data], laidTests := true, laidLooks := .later }
def FnExactCountClosedToursUptoCardSaid : Prop := Claim7.holds Tryz.pinned (.plain (OpenSpec.upto fnExactCountClosedToursSpec)) fnExactCountClosedToursUptoCard

/-- THE SECOND FORM's CARD OF 'laws.FnExactFirstClosedTour'. -/
def fnExactFirstClosedTourUptoCard : Claim7 := { stood := { row := fnExactFirstClosedTourUptoRow, standIns := [], harness := (true, "c17e79b0509236061c96e25b2d19ea17499925bbbd40b739225cc26e13a5899d"), looks := false }, kinds := [], alts := [], laidByText := true, laidKinds := [.data], laidTests := true, laidLooks := .later }
def FnExactFirstClosedTourUptoCardSaid : Prop := Claim7.holds Tryz.pinned (.plain (OpenSpec.upto fnExactFirstClosedTourSpec)) fnExactFirstClosedTourUptoCard

/-- THE SECOND FORM's CARD OF 'laws.FnExactForcedLeaps'. -/
def fnExactForcedLeapsUptoCard : Claim7 := { stood := { row := fnExactForcedLeapsUptoRow, standIns := [], harness := (true, "c17e79b0509236061c96e25b2d19ea17499925bbbd40b739225cc26e13a5899d"), looks := false }, kinds := [], alts := [], laidByText := true, laidKinds := [.data], laidTests := true, laidLooks := .later }
def FnExactForcedLeapsUptoCardSaid : Prop := Claim7.holds Tryz.pinned (.plain (OpenSpec.upto fnExactForcedLeapsSpec)) fnExactForcedLeapsUptoCard

/-- THE SECOND FORM's CARD OF 'laws.FnExactFewestOnward'. -/
def fnExactFewestOnwardUptoCard : Claim7 := { stood := { row := fnExactFewestOnwardUptoRow, standIns := [], harness := (true, "c17e79b0509236061c96e25b2d19ea17499925bbbd40b739225cc26e13a5899d"), looks := false }, kinds := [], alts := [], laidByText := true, laidKinds := [.data], laidTests := true, laidLooks := .later }
def FnExactFewestOnwardUptoCardSaid : Prop := Claim7.holds Tryz.pinned (.plain (OpenSpec.upto fnExactFewestOnwardSpec)) fnExactFewestOnwardUptoCard
end Rows
end Go.Proofs.YtnnonmpgkkpocaaGreatDoor
