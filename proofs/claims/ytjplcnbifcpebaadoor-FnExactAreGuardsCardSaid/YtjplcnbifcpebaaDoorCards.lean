/-
  DERIVED. GIVEN WITH THE SEED: THE CARDS: each row of YtjplcnbifcpebaaDoorRows.lean that lists a variable, with what it lists TIED to the program's text (the seventh form; the later family's looks); each row that meets fmt, with fmt's text TOLD by the authors' own Lean function (tested against real Go, not proved from fmt's source: count such statements apart). THE CARD IS WHAT COUNTS. Prove the row's statement (the work); the ties are given (YtjplcnbifcpebaaDoorTie.lean); close each card by the builder's one call (the guide's Derived/Test/ToyasCard.lean, 'card_holds'). Laid BY PROGRAM, IN A SANDBOX (cutbox-door.mjs). By AI agents, Wed Nov 11 2026. No macro, syntax, notation, axiom, sorry.
-/
import Derived.Test.YtjplcnbifcpebaaDoorRows
import GoSem.ClaimSeven
namespace Go.Proofs.YtjplcnbifcpebaaDoor
namespace Rows

/-- THE TIED CARD OF 'laws.FnExactGuardedBy'. -/
def fnExactGuardedByCard : Claim7 := { stood := { row := fnExactGuardedByRow, standIns := [], harness := (true, "0935c38773622cfe074055b75bbfa851a94e82b93fafd1c62efd8c30223c11a3"), looks := false }, kinds := [], alts := [], laidByText := true, laidKinds := [.data], laidTests := true, laidLooks := .later }
def FnExactGuardedByCardSaid : Prop := Claim7.holds Tryd.pinned (.plain (OpenSpec.ofChange fnExactGuardedBySpec)) fnExactGuardedByCard

/-- THE TIED CARD OF 'laws.FnExactAreGuards'. -/
def fnExactAreGuardsCard : Claim7 := { stood := { row := fnExactAreGuardsRow, standIns := [], harness := (true, "0935c38773622cfe074055b75bbfa851a94e82b93fafd1c62efd8c30223c11a3"), looks := false }, kinds := [], alts := [], laidByText := true, laidKinds := [.data], laidTests := true, laidLooks := .later }
def FnExactAreGuardsCardSaid : Prop := Claim7.holds Tryd.pinned (.plain (OpenSpec.ofChange fnExactAreGuardsSpec)) fnExactAreGuardsCard

/-- THE TIED CARD OF 'laws.FnExactArePeaceful'. -/
def fnExactArePeacefulCard : Claim7 := { stood := { row := fnExactArePeacefulRow, standIns := [], harness := (true, "0935c38773622cfe074055b75bbfa851a94e82b93fafd1c62efd8c30223c11a3"), looks := false }, kinds := [], alts := [], laidByText := true, laidKinds := [.data], laidTests := true, laidLooks := .later }
def FnExactArePeacefulCardSaid : Prop := Claim7.holds Tryd.pinned (.plain (OpenSpec.ofChange fnExactArePeacefulSpec)) fnExactArePeacefulCard

/-- THE SECOND FORM's CARD OF 'laws.FnExactGuardedBy'. -/
def fnExactGuardedByUptoCard : Claim7 := { stood := { row := fnExactGuardedByUptoRow, standIns := [], harness := (true, "0935c38773622cfe074055b75bbfa851a94e82b93fafd1c62efd8c30223c11a3"), looks := false }, kinds := [], alts := [], laidByText := true, laidKinds := [.data], laidTests := true, laidLooks := .later }
def FnExactGuardedByUptoCardSaid : Prop := Claim7.holds Tryd.pinned (.plain (OpenSpec.upto fnExactGuardedBySpec)) fnExactGuardedByUptoCard

/-- THE SECOND FORM's CARD OF 'laws.FnExactAreGuards'. -/
def fnExactAreGuardsUptoCard : Claim7 := { stood := { row := fnExactAreGuardsUptoRow, standIns := [], harness := (true, "0935c38773622cfe074055b75bbfa851a94e82b93fafd1c62efd8c30223c11a3"), looks := false }, kinds := [], alts := [], laidByText := true, laidKinds := [.data], laidTests := true, laidLooks := .later }
def FnExactAreGuardsUptoCardSaid : Prop := Claim7.holds Tryd.pinned (.plain (OpenSpec.upto fnExactAreGuardsSpec)) fnExactAreGuardsUptoCard

/-- THE SECOND FORM's CARD OF 'laws.FnExactArePeaceful'. -/
def fnExactArePeacefulUptoCard : Claim7 := { stood := { row := fnExactArePeacefulUptoRow, standIns := [], harness := (true, "0935c38773622cfe074055b75bbfa851a94e82b93fafd1c62efd8c30223c11a3"), looks := false }, kinds := [], alts := [], laidByText := true, laidKinds := [.data], laidTests := true, laidLooks := .later }
def FnExactArePeacefulUptoCardSaid : Prop := Claim7.holds Tryd.pinned (.plain (OpenSpec.upto fnExactArePeacefulSpec)) fnExactArePeacefulUptoCard
end Rows
end Go.Proofs.YtjplcnbifcpebaaDoor
