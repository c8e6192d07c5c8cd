/-
  DERIVED. GIVEN WITH THE SEED: THE CARDS: each row of YtihcbpbepedaiaaDoorRows.lean that lists a variable, with what it lists TIED to the program's text (the seventh form; the later family's looks); each row that meets fmt, with fmt's text TOLD by the authors' own Lean function (tested against real Go, not proved from fmt's source: count such statements apart). THE CARD IS WHAT COUNTS. Prove the row's statement (the work); the ties are given (YtihcbpbepedaiaaDoorTie.lean); close each card by the builder's one call (the guide's Derived/Test/ToyasCard.lean, 'card_holds'). Laid BY PROGRAM, IN A SANDBOX (cutbox-door.mjs). By AI agents, Wed Nov 11 2026. No macro, syntax, notation, axiom, sorry.
-/
import Derived.Test.YtihcbpbepedaiaaDoorRows
import GoSem.ClaimSeven
namespace Go.Proofs.YtihcbpbepedaiaaDoor
namespace Rows

/-- THE TIED CARD OF 'laws.FnExactDeadEnds'. -/
def fnExactDeadEndsCard : Claim7 := { stood := { row := fnExactDeadEndsRow, standIns := [], harness := (true, "e2aafac10b1491dce91ffb1fb78b72867eac5cdb6088dd3e5d2f776dba379b98"), looks := false }, kinds := [], alts := [], laidByText := true, laidKinds := [.data], laidTests := true, laidLooks := .later }
def FnExactDeadEndsCardSaid : Prop := Claim7.holds Tryd.pinned (.plain (OpenSpec.ofChange fnExactDeadEndsSpec)) fnExactDeadEndsCard

/-- THE TIED CARD OF 'laws.FnExactForcedLeaps'. -/
def fnExactForcedLeapsCard : Claim7 := { stood := { row := fnExactForcedLeapsRow, standIns := [], harness := (true, "e2aafac10b1491dce91ffb1fb78b72867eac5cdb6088dd3e5d2f776dba379b98"), looks := false }, kinds := [], alts := [], laidByText := true, laidKinds := [.data], laidTests := true, laidLooks := .later }
def FnExactForcedLeapsCardSaid : Prop := Claim7.holds Tryd.pinned (.plain (OpenSpec.ofChange fnExactForcedLeapsSpec)) fnExactForcedLeapsCard

/-- THE TIED CARD OF 'laws.FnExactFewestOnward'. -/
def fnExactFewestOnwardCard : Claim7 := { stood := { row := fnExactFewestOnwardRow, standIns := [], harness := (true, "e2aafac10b1491dce91ffb1fb78b72867eac5cdb6088dd3e5d2f776dba379b98"), looks := false }, kinds := [], alts := [], laidByText := true, laidKinds := [.data], laidTests := true, laidLooks := .later }
def FnExactFewestOnwardCardSaid : Prop := Claim7.holds Tryd.pinned (.plain (OpenSpec.ofChange fnExactFewestOnwardSpec)) fnExactFewestOnwardCard

/-- THE SECOND FORM's CARD OF 'laws.FnExactDeadEnds'. -/
def fnExactDeadEndsUptoCard : Claim7 := { stood := { row := fnExactDeadEndsUptoRow, standIns := [], harness := (true, "e2aafac10b1491dce91ffb1fb78b72867eac5cdb6088dd3e5d2f776dba379b98"), looks := false }, kinds := [], alts := [], laidByText := true, laidKinds := [.data], laidTests := true, laidLooks := .later }
def FnExactDeadEndsUptoCardSaid : Prop := Claim7.holds Tryd.pinned (.plain (OpenSpec.upto fnExactDeadEndsSpec)) fnExactDeadEndsUptoCard

/-- THE SECOND FORM's CARD OF 'laws.FnExactForcedLeaps'. -/
def fnExactForcedLeapsUptoCard : Claim7 := { stood := { row := fnExactForcedLeapsUptoRow, standIns := [], harness := (true, "e2aafac10b1491dce91ffb1fb78b72867eac5cdb6088dd3e5d2f776dba379b98"), looks := false }, kinds := [], alts := [], laidByText := true, laidKinds := [.data], laidTests := true, laidLooks := .later }
def FnExactForcedLeapsUptoCardSaid : Prop := Claim7.holds Tryd.pinned (.plain (OpenSpec.upto fnExactForcedLeapsSpec)) fnExactForcedLeapsUptoCard

/-- THE SECOND FORM's CARD OF 'laws.FnExactFewestOnward'. -/
def fnExactFewestOnwardUptoCard : Claim7 := { stood := { row := fnExactFewestOnwardUptoRow, standIns := [], harness := (true, "e2aafac10b1491dce91ffb1fb78b72867eac5cdb6088dd3e5d2f776dba379b98"), looks := false }, kinds := [], alts := [], laidByText := true, laidKinds := [.data], laidTests := true, laidLooks := .later }
def FnExactFewestOnwardUptoCardSaid : Prop := Claim7.holds Tryd.pinned (.plain (OpenSpec.upto fnExactFewestOnwardSpec)) fnExactFewestOnwardUptoCard
end Rows
end Go.Proofs.YtihcbpbepedaiaaDoor
