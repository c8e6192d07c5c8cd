/-
  DERIVED. GIVEN WITH THE SEED: THE CARDS: each row of YtnmmgalidkambaaGreatDoorRows.lean that lists a variable, with what it lists TIED to the program's text (the seventh form; the later family's looks); each row that meets fmt, with fmt's text TOLD by the authors' own Lean function (tested against real Go, not proved from fmt's source: count such statements apart). THE CARD IS WHAT COUNTS. Prove the row's statement (the work); the ties are given (YtnmmgalidkambaaGreatDoorTie.lean); close each card by the builder's one call (the guide's Derived/Test/ToyasCard.lean, 'card_holds'). Laid BY PROGRAM, IN A SANDBOX (cutbox-door.mjs). By AI agents, Wed Nov 11 2026. No macro, syntax, notation, axiom, sorry.
-/
import Derived.Test.YtnmmgalidkambaaGreatDoorRows
import GoSem.ClaimSeven
namespace Go.Proofs.YtnmmgalidkambaaGreatDoor
namespace Rows

/-- THE TIED CARD OF 'laws.FnExactFirstTour'. -/
def fnExactFirstTourCard : Claim7 := { stood := { row := fnExactFirstTourRow, standIns := [], harness := (true, "a39fbe02a6df248e8fa811751d77fc189cf43630237bedbcd35460271f90b6a1"), looks := false }, kinds := [], alts := [], laidByText := true, laidKinds := [.data], laidTests := true, laidLooks := .later }
def FnExactFirstTourCardSaid : Prop := Claim7.holds Tryz.pinned (.plain (OpenSpec.ofChange fnExactFirstTourSpec)) fnExactFirstTourCard

/-- THE TIED CARD OF 'laws.FnExactFirstTourFrom'. -/
def fnExactFirstTourFromCard : Claim7 := { stood := { row := fnExactFirstTourFromRow, standIns := [], harness := (true, "a39fbe02a6df248e8fa811751d77fc189cf43630237bedbcd35460271f90b6a1"), looks := false }, kinds := [], alts := [], laidByText := true, laidKinds := [.data], laidTests := true, laidLooks := .later }
def FnExactFirstTourFromCardSaid : Prop := Claim7.holds Tryz.pinned (.plain (OpenSpec.ofChange fnExactFirstTourFromSpec)) fnExactFirstTourFromCard

/-- THE TIED CARD OF 'laws.FnExactCountToursFrom'. -/
def fnExactCountToursFromCard : Claim7 := { stood := { row := fnExactCountToursFromRow, standIns := [], harness := (true, "a39fbe02a6df248e8fa811751d77fc189cf43630237bedbcd35460271f90b6a1"), looks := false }, kinds := [], alts := [], laidByText := true, laidKinds := [.data], laidTests := true, laidLooks := .later }
def FnExactCountToursFromCardSaid : Prop := Claim7.holds Tryz.pinned (.plain (OpenSpec.ofChange fnExactCountToursFromSpec)) fnExactCountToursFromCard

/-- THE TIED CARD OF 'laws.FnExactCountTours'. -/
def fnExactCountToursCard : Claim7 := { stood := { row := fnExactCountToursRow, standIns := [], harness := (true, "a39fbe02a6df248e8fa811751d77fc189cf43630237bedbcd35460271f90b6a1"), looks := false }, kinds := [], alts := [], laidByText := true, laidKinds := [.data], laidTests := true, laidLooks := .later }
def FnExactCountToursCardSaid : Prop := Claim7.holds Tryz.pinned (.plain (OpenSpec.ofChange fnExactCountToursSpec)) fnExactCountToursCard

/-- THE TIED CARD OF 'laws.FnExactFirstClosedTour'. -/
def fnExactFirstClosedTourCard : Claim7 := { stood := { row := fnExactFirstClosedTourRow, standIns := [], harness := (true, "a39fbe02a6df248e8fa811751d77fc189cf43630237bedbcd35460271f90b6a1"), looks := false }, kinds := [], alts := [], laidByText := true, laidKinds := [.data], laidTests := true, laidLooks := .later }
def FnExactFirstClosedTourCardSaid : Prop := Claim7.holds Tryz.pinned (.plain (OpenSpec.ofChange fnExactFirstClosedTourSpec)) fnExactFirstClosedTourCard

/-- THE TIED CARD OF 'laws.FnExactCountClosedTours'. -/
def fnExactCountClosedToursCard : Claim7 := { stood := { row := fnExactCountClosedToursRow, standIns := [], harness := (true, "a39fbe02a6df248e8fa811751d77fc189cf43630237bedbcd35460271f90b6a1"), looks := false }, kinds := [], alts := [], laidByText := true, laidKinds := [.data], laidTests := true, laidLooks := .later }
def FnExactCountClosedToursCardSaid : Prop := Claim7.holds Tryz.pinned (.plain (OpenSpec.ofChange fnExactCountClosedToursSpec)) fnExactCountClosedToursCard

/-- THE TIED CARD OF 'laws.FnExactLongestWalk'. -/
def fnExactLongestWalkCard : Claim7 := { stood := { row := fnExactLongestWalkRow, standIns := [], harness := (true, "a39fbe02a6df248e8fa811751d77fc189cf43630237bedbcd35460271f90b6a1"), looks := false }, kinds := [], alts := [], laidByText := true, laidKinds := [.data], laidTests := true, laidLooks := .later }
def FnExactLongestWalkCardSaid : Prop := Claim7.holds Tryz.pinned (.plain (OpenSpec.ofChange fnExactLongestWalkSpec)) fnExactLongestWalkCard

/-- THE SECOND FORM's CARD OF 'laws.FnExactFirstTour'. -/
def fnExactFirstTourUptoCard : Claim7 := { stood := { row := fnExactFirstTourUptoRow, standIns := [], harness := (true, "a39fbe02a6df248e8fa811751d77fc189cf43630237bedbcd35460271f90b6a1"), looks := false }, kinds := [], alts := [], laidByText := true, laidKinds := [.data], laidTests := true, laidLooks := .later }
def FnExactFirstTourUptoCardSaid : Prop := Claim7.holds Tryz.pinned (.plain (OpenSpec.upto fnExactFirstTourSpec)) fnExactFirstTourUptoCard

/-- THE SECOND FORM's CARD OF 'laws.FnExactFirstTourFrom'. -/
def fnExactFirstTourFromUptoCard : Claim7 := { stood := { row := fnExactFirstTourFromUptoRow, standIns := [], harness := (true, "a39fbe02a6df248e8fa811751d77fc189cf43630237bedbcd35460271f90b6a1"), looks := false }, kinds := [], alts := [], laidByText := true, laidKinds := [.data], laidTests := true, laidLooks := .later }
def FnExactFirstTourFromUptoCardSaid : Prop := Claim7.holds Tryz.pinned (.plain (OpenSpec.upto fnExactFirstTourFromSpec)) fnExactFirstTourFromUptoCard

/-- THE SECOND FORM's CARD OF 'laws.FnExactCountToursFrom'. -/
def fnExactCountToursFromUptoCard : Claim7 := { stood := { row := fnExactCountToursFromUptoRow, standIns := [], harness := (true, "a39fbe02a6df248e8fa811751d77fc189cf43630237bedbcd35460271f90b6a1"), looks := false }, kinds := [], alts := [], laidByText := true, laidKinds := [.data], laidTests := true, laidLooks := .later }
def FnExactCountToursFromUptoCardSaid : Prop := Claim7.holds Tryz.pinned (.plain (OpenSpec.upto fnExactCountToursFromSpec)) fnExactCountToursFromUptoCard

/-- THE SECOND FORM's CARD OF 'laws.FnExactCountTours'. -/
def fnExactCountToursUptoCard : Claim7 := { stood := { row := fnExactCountToursUptoRow, standIns := [], harness := (true, "a39fbe02a6df248e8fa811751d77fc189cf43630237bedbcd35460271f90b6a1"), looks := false }, kinds := [], alts := [], laidByText := true, laidKinds := [.data], laidTests := true, laidLooks := .later }
def FnExactCountToursUptoCardSaid : Prop := Claim7.holds Tryz.pinned (.plain (OpenSpec.upto fnExactCountToursSpec)) fnExactCountToursUptoCard

/-- THE SECOND FORM's CARD OF 'laws.FnExactFirstClosedTour'. -/
def fnExactFirstClosedTourUptoCard : Claim7 := { stood := { row := fnExactFirstClosedTourUptoRow, standIns := [], harness := (true, "a39fbe02a6df248e8fa811751d77fc189cf43630237bedbcd35460271f90b6a1"), looks := false }, kinds := [], alts := [], laidByText := true, laidKinds := [.data], laidTests := true, laidLooks := .later }
def FnExactFirstClosedTourUptoCardSaid : Prop := Claim7.holds Tryz.pinned (.plain (OpenSpec.upto fnExactFirstClosedTourSpec)) fnExactFirstClosedTourUptoCard

/-- THE SECOND FORM's CARD OF 'laws.FnExactCountClosedTours'. -/
def fnExactCountClosedToursUptoCard : Claim7 := { stood := { row := fnExactCountClosedToursUptoRow, standIns := [], harness := (true, "a39fbe02a6df248e8fa811751d77fc189cf43630237bedbcd35460271f90b6a1"), looks := false }, kinds := [], alts := [], laidByText := true, laidKinds := [.data], laidTests := true, laidLooks := .later }
def FnExactCountClosedToursUptoCardSaid : Prop := Claim7.holds Tryz.pinned (.plain (OpenSpec.upto fnExactCountClosedToursSpec)) fnExactCountClosedToursUptoCard

/-- THE SECOND FORM's CARD OF 'laws.FnExactLongestWalk'. -/
def fnExactLongestWalkUptoCard : Claim7 := { stood := { row := fnExactLongestWalkUptoRow, standIns := [], harness := (true, "a39fbe02a6df248e8fa811751d77fc189cf43630237bedbcd35460271f90b6a1"), looks := false }, kinds := [], alts := [], laidByText := true, laidKinds := [.data], laidTests := true, laidLooks := .later }
def FnExactLongestWalkUptoCardSaid : Prop := Claim7.holds Tryz.pinned (.plain (OpenSpec.upto fnExactLongestWalkSpec)) fnExactLongestWalkUptoCard
end Rows
end Go.Proofs.YtnmmgalidkambaaGreatDoor
