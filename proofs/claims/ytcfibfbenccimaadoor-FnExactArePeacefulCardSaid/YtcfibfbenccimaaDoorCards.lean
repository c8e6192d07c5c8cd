/-
  DERIVED. GIVEN WITH THE SEED: THE CARDS: each row of YtcfibfbenccimaaDoorRows.lean that lists a variable, with what it lists TIED to the program's text (the seventh form; the later family's looks); each row that meets fmt, with fmt's text TOLD by the authors' own Lean function (tested against real Go, not proved from fmt's source: count such statements apart). THE CARD IS WHAT COUNTS. Prove the row's statement (the work); the ties are given (YtcfibfbenccimaaDoorTie.lean); close each card by the builder's one call (the guide's Derived/Test/ToyasCard.lean, 'card_holds'). Laid BY PROGRAM, IN A SANDBOX (cutbox-door.mjs). By AI agents, Wed Nov 11 2026. No macro, syntax, notation, axiom, sorry.
-/
import Derived.Test.YtcfibfbenccimaaDoorRows
import GoSem.ClaimSeven
namespace Go.Proofs.YtcfibfbenccimaaDoor
namespace Rows

/-- THE TIED CARD OF 'laws.FnExactPaintBySteps'. -/
def fnExactPaintByStepsCard : Claim7 := { stood := { row := fnExactPaintByStepsRow, standIns := [], harness := (true, "599f32fcde7fb0f7df14181b2e8fe81885dd605d6213601e26b36c1cb00ff270"), looks := false }, kinds := [], alts := [], laidByText := true, laidKinds := [.data], laidTests := true, laidLooks := .later }
def FnExactPaintByStepsCardSaid : Prop := Claim7.holds Tryd.pinned (.plain (OpenSpec.ofChange fnExactPaintByStepsSpec)) fnExactPaintByStepsCard

/-- THE TIED CARD OF 'laws.FnExactArePeaceful'. -/
def fnExactArePeacefulCard : Claim7 := { stood := { row := fnExactArePeacefulRow, standIns := [], harness := (true, "599f32fcde7fb0f7df14181b2e8fe81885dd605d6213601e26b36c1cb00ff270"), looks := false }, kinds := [], alts := [], laidByText := true, laidKinds := [.data], laidTests := true, laidLooks := .later }
def FnExactArePeacefulCardSaid : Prop := Claim7.holds Tryd.pinned (.plain (OpenSpec.ofChange fnExactArePeacefulSpec)) fnExactArePeacefulCard

/-- THE SECOND FORM's CARD OF 'laws.FnExactPaintBySteps'. -/
def fnExactPaintByStepsUptoCard : Claim7 := { stood := { row := fnExactPaintByStepsUptoRow, standIns := [], harness := (true, "599f32fcde7fb0f7df14181b2e8fe81885dd605d6213601e26b36c1cb00ff270"), looks := false }, kinds := [], alts := [], laidByText := true, laidKinds := [.data], laidTests := true, laidLooks := .later }
def FnExactPaintByStepsUptoCardSaid : Prop := Claim7.holds Tryd.pinned (.plain (OpenSpec.upto fnExactPaintByStepsSpec)) fnExactPaintByStepsUptoCard

/-- THE SECOND FORM's CARD OF 'laws.FnExactArePeaceful'. -/
def fnExactArePeacefulUptoCard : Claim7 := { stood := { row := fnExactArePeacefulUptoRow, standIns := [], harness := (true, "599f32fcde7fb0f7df14181b2e8fe81885dd605d6213601e26b36c1cb00ff270"), looks := false }, kinds := [], alts := [], laidByText := true, laidKinds := [.data], laidTests := true, laidLooks := .later }
def FnExactArePeacefulUptoCardSaid : Prop := Claim7.holds Tryd.pinned (.plain (OpenSpec.upto fnExactArePeacefulSpec)) fnExactArePeacefulUptoCard
end Rows
end Go.Proofs.YtcfibfbenccimaaDoor
