/-
  DERIVED. GIVEN WITH THE SEED: THE CARDS: each row of YtmohhbgmbicklaaGreatDoorRows.lean that lists a variable, with what it lists TIED to the program's text (the seventh form; the later family's looks); each row that meets fmt, with fmt's text TOLD by the authors' own Lean function (tested against real Go, not proved from fmt's source: count such statements apart). THE CARD IS WHAT COUNTS. Prove the row's statement (the work); the ties are given (YtmohhbgmbicklaaGreatDoorTie.lean); close each card by the builder's one call (the guide's Derived/Test/ToyasCard.lean, 'card_holds'). Laid BY PROGRAM, IN A SANDBOX (cutbox-door.mjs). By AI agents, Wed Nov 11 2026. No macro, syntax, notation, axiom, sorry.
-/
import Derived.Test.YtmohhbgmbicklaaGreatDoorRows
import GoSem.ClaimSeven
namespace Go.Proofs.YtmohhbgmbicklaaGreatDoor
namespace Rows

/-- THE TIED CARD OF 'computuslaw19.ShowDates'. -/
def showDatesCard : Claim7 := { stood := { row := showDatesRow, standIns := [], harness := (true, "3910380182e79585ad24a7df185556baae002961cf68385a4e37277bdfbde43e"), looks := true }, kinds := [], alts := [], laidByText := true, laidKinds := [.data, .data, .data, .data, .data, .pinned], laidTests := true, laidLooks := .later }
def ShowDatesCardSaid : Prop := Claim7.holds Tryz.pinned (.plain (OpenSpec.ofChange showDatesSpec)) showDatesCard

/-- THE TIED CARD OF 'computuslaw19.ShowBack'. -/
def showBackCard : Claim7 := { stood := { row := showBackRow, standIns := [], harness := (true, "3910380182e79585ad24a7df185556baae002961cf68385a4e37277bdfbde43e"), looks := true }, kinds := [], alts := [], laidByText := true, laidKinds := [.data, .data, .data, .data, .data, .pinned], laidTests := true, laidLooks := .later }
def ShowBackCardSaid : Prop := Claim7.holds Tryz.pinned (.plain (OpenSpec.ofChange showBackSpec)) showBackCard

/-- THE TIED CARD OF 'computuslaw19.ShowSpanBack'. -/
def showSpanBackCard : Claim7 := { stood := { row := showSpanBackRow, standIns := [], harness := (true, "3910380182e79585ad24a7df185556baae002961cf68385a4e37277bdfbde43e"), looks := true }, kinds := [], alts := [], laidByText := true, laidKinds := [.data, .data, .data, .data, .data, .data, .pinned], laidTests := true, laidLooks := .later }
def ShowSpanBackCardSaid : Prop := Claim7.holds Tryz.pinned (.plain (OpenSpec.ofChange showSpanBackSpec)) showSpanBackCard

/-- THE SECOND FORM's CARD OF 'computuslaw19.ShowDates'. -/
def showDatesUptoCard : Claim7 := { stood := { row := showDatesUptoRow, standIns := [], harness := (true, "3910380182e79585ad24a7df185556baae002961cf68385a4e37277bdfbde43e"), looks := true }, kinds := [], alts := [], laidByText := true, laidKinds := [.data, .data, .data, .data, .data, .pinned], laidTests := true, laidLooks := .later }
def ShowDatesUptoCardSaid : Prop := Claim7.holds Tryz.pinned (.plain (OpenSpec.upto showDatesSpec)) showDatesUptoCard

/-- THE SECOND FORM's CARD OF 'computuslaw19.ShowBack'. -/
def showBackUptoCard : Claim7 := { stood := { row := showBackUptoRow, standIns := [], harness := (true, "3910380182e79585ad24a7df185556baae002961cf68385a4e37277bdfbde43e"), looks := true }, kinds := [], alts := [], laidByText := true, laidKinds := [.data, .data, .data, .data, .data, .pinned], laidTests := true, laidLooks := .later }
def ShowBackUptoCardSaid : Prop := Claim7.holds Tryz.pinned (.plain (OpenSpec.upto showBackSpec)) showBackUptoCard

/-- THE SECOND FORM's CARD OF 'computuslaw19.ShowSpanBack'. -/
def showSpanBackUptoCard : Claim7 := { stood := { row := showSpanBackUptoRow, standIns := [], harness := (true, "3910380182e79585ad24a7df185556baae002961cf68385a4e37277bdfbde43e"), looks := true }, kinds := [], alts := [], laidByText := true, laidKinds := [.data, .data, .data, .data, .data, .data, .pinned], laidTests := true, laidLooks := .later }
def ShowSpanBackUptoCardSaid : Prop := Claim7.holds Tryz.pinned (.plain (OpenSpec.upto showSpanBackSpec)) showSpanBackUptoCard
end Rows
end Go.Proofs.YtmohhbgmbicklaaGreatDoor
