/-
  DERIVED. GIVEN WITH THE SEED: THE CARDS: each row of YtjplcnbifcpebaaGreatDoorRows.lean that lists a variable, with what it lists TIED to the program's text (the seventh form; the later family's looks); each row that meets fmt, with fmt's text TOLD by the authors' own Lean function (tested against real Go, not proved from fmt's source: count such statements apart). THE CARD IS WHAT COUNTS. Prove the row's statement (the work); the ties are given (YtjplcnbifcpebaaGreatDoorTie.lean); close each card by the builder's one call (the guide's Derived/Test/ToyasCard.lean, 'card_holds'). Laid BY PROGRAM, IN A SANDBOX (cutbox-door.mjs). By AI agents, Wed Nov 11 2026. No macro, syntax, notation, axiom, sorry.
-/
import Derived.Test.YtjplcnbifcpebaaGreatDoorRows
import GoSem.ClaimSeven
namespace Go.Proofs.YtjplcnbifcpebaaGreatDoor
namespace Rows

/-- THE TIED CARD OF 'laws.FnExactFillPeaceful'. -/
def fnExactFillPeacefulCard : Claim7 := { stood := { row := fnExactFillPeacefulRow, standIns := [], harness := (true, "8038356d0e7107d777d6b7c0662a77e4fd2f5bf05fb4743517cd562c03835875"), looks := false }, kinds := [], alts := [], laidByText := true, laidKinds := [.data], laidTests := true, laidLooks := .later }
def FnExactFillPeacefulCardSaid : Prop := Claim7.holds Tryz.pinned (.plain (OpenSpec.ofChange fnExactFillPeacefulSpec)) fnExactFillPeacefulCard

/-- THE SECOND FORM's CARD OF 'laws.FnExactFillPeaceful'. -/
def fnExactFillPeacefulUptoCard : Claim7 := { stood := { row := fnExactFillPeacefulUptoRow, standIns := [], harness := (true, "8038356d0e7107d777d6b7c0662a77e4fd2f5bf05fb4743517cd562c03835875"), looks := false }, kinds := [], alts := [], laidByText := true, laidKinds := [.data], laidTests := true, laidLooks := .later }
def FnExactFillPeacefulUptoCardSaid : Prop := Claim7.holds Tryz.pinned (.plain (OpenSpec.upto fnExactFillPeacefulSpec)) fnExactFillPeacefulUptoCard
end Rows
end Go.Proofs.YtjplcnbifcpebaaGreatDoor
