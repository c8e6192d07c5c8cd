/-
  DERIVED. GIVEN WITH THE SEED: THE CARDS: each row of YtmmlhbfekjbdpaaDoorRows.lean that lists a variable, with what it lists TIED to the program's text (the seventh form; the later family's looks); each row that meets fmt, with fmt's text TOLD by the authors' own Lean function (tested against real Go, not proved from fmt's source: count such statements apart). THE CARD IS WHAT COUNTS. Prove the row's statement (the work); the ties are given (YtmmlhbfekjbdpaaDoorTie.lean); close each card by the builder's one call (the guide's Derived/Test/ToyasCard.lean, 'card_holds'). Laid BY PROGRAM, IN A SANDBOX (cutbox-door.mjs). By AI agents, Wed Nov 11 2026. No macro, syntax, notation, axiom, sorry.
-/
import Derived.Test.YtmmlhbfekjbdpaaDoorRows
import GoSem.ClaimSeven
namespace Go.Proofs.YtmmlhbfekjbdpaaDoor
namespace Rows

/-- THE TIED CARD OF 'laws.FnExactIsPainting'. -/
def fnExactIsPaintingCard : Claim7 := { stood := { row := fnExactIsPaintingRow, standIns := [], harness := (true, "31ce8cffde98ce0bf6b6d2e3769ba5b91547da5936229bcab5077a96202a798e"), looks := false }, kinds := [], alts := [], laidByText := true, laidKinds := [.data], laidTests := true, laidLooks := .later }
def FnExactIsPaintingCardSaid : Prop := Claim7.holds Tryd.pinned (.plain (OpenSpec.ofChange fnExactIsPaintingSpec)) fnExactIsPaintingCard

/-- THE TIED CARD OF 'laws.FnExactIsFarPainting'. -/
def fnExactIsFarPaintingCard : Claim7 := { stood := { row := fnExactIsFarPaintingRow, standIns := [], harness := (true, "31ce8cffde98ce0bf6b6d2e3769ba5b91547da5936229bcab5077a96202a798e"), looks := false }, kinds := [], alts := [], laidByText := true, laidKinds := [.data], laidTests := true, laidLooks := .later }
def FnExactIsFarPaintingCardSaid : Prop := Claim7.holds Tryd.pinned (.plain (OpenSpec.ofChange fnExactIsFarPaintingSpec)) fnExactIsFarPaintingCard

/-- THE TIED CARD OF 'laws.FnExactPaintBySteps'. -/
def fnExactPaintByStepsCard : Claim7 := { stood := { row := fnExactPaintByStepsRow, standIns := [], harness := (true, "31ce8cffde98ce0bf6b6d2e3769ba5b91547da5936229bcab5077a96202a798e"), looks := false }, kinds := [], alts := [], laidByText := true, laidKinds := [.data], laidTests := true, laidLooks := .later }
def FnExactPaintByStepsCardSaid : Prop := Claim7.holds Tryd.pinned (.plain (OpenSpec.ofChange fnExactPaintByStepsSpec)) fnExactPaintByStepsCard

/-- THE SECOND FORM's CARD OF 'laws.FnExactIsPainting'. -/
def fnExactIsPaintingUptoCard : Claim7 := { stood := { row := fnExactIsPaintingUptoRow, standIns := [], harness := (true, "31ce8cffde98ce0bf6b6d2e3769ba5b91547da5936229bcab5077a96202a798e"), looks := false }, kinds := [], alts := [], laidByText := true, laidKinds := [.data], laidTests := true, laidLooks := .later }
def FnExactIsPaintingUptoCardSaid : Prop := Claim7.holds Tryd.pinned (.plain (OpenSpec.upto fnExactIsPaintingSpec)) fnExactIsPaintingUptoCard

/-- THE SECOND FORM's CARD OF 'laws.FnExactIsFarPainting'. -/
def fnExactIsFarPaintingUptoCard : Claim7 := { stood := { row := fnExactIsFarPaintingUptoRow, standIns := [], harness := (true, "31ce8cffde98ce0bf6b6d2e3769ba5b91547da5936229bcab5077a96202a798e"), looks := false }, kinds := [], alts := [], laidByText := true, laidKinds := [.data], laidTests := true, laidLooks := .later }
def FnExactIsFarPaintingUptoCardSaid : Prop := Claim7.holds Tryd.pinned (.plain (OpenSpec.upto fnExactIsFarPaintingSpec)) fnExactIsFarPaintingUptoCard

/-- THE SECOND FORM's CARD OF 'laws.FnExactPaintBySteps'. -/
def fnExactPaintByStepsUptoCard : Claim7 := { stood := { row := fnExactPaintByStepsUptoRow, standIns := [], harness := (true, "31ce8cffde98ce0bf6b6d2e3769ba5b91547da5936229bcab5077a96202a798e"), looks := false }, kinds := [], alts := [], laidByText := true, laidKinds := [.data], laidTests := true, laidLooks := .later }
def FnExactPaintByStepsUptoCardSaid : Prop := Claim7.holds Tryd.pinned (.plain (OpenSpec.upto fnExactPaintByStepsSpec)) fnExactPaintByStepsUptoCard
end Rows
end Go.Proofs.YtmmlhbfekjbdpaaDoor
