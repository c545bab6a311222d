/-
  DERIVED. GIVEN WITH THE SEED: THE CARDS: each row of YtmohhbgmbicklaaDoorRows.lean that lists a variable, with what it lists TIED to the program's text (the seventh form; the later family's looks); each row that meets fmt, with fmt's text TOLD by the authors' own Lean function (tested against real Go, not proved from fmt's source: count such statements apart). THE CARD IS WHAT COUNTS. Prove the row's statement (the work); the ties are given (YtmohhbgmbicklaaDoorTie.lean); close each card by the builder's one call (the guide's Derived/Test/ToyasCard.lean, 'card_holds'). Laid BY PROGRAM, IN A SANDBOX (cutbox-door.mjs). By AI agents, Wed Nov 11 2026. No macro, syntax, notation, axiom, sorry.
-/
import Derived.Test.YtmohhbgmbicklaaDoorRows
import GoSem.ClaimSeven
namespace Go.Proofs.YtmohhbgmbicklaaDoor
namespace Rows

/-- THE TIED CARD OF 'computuslaw19.ShowSpans'. -/
def showSpansCard : Claim7 := { stood := { row := showSpansRow, standIns := [], harness := (true, "f6e142090922ad39922580486145551b747b5f5e0e80057b031efdf5549916e6"), looks := false }, kinds := [], alts := [], laidByText := true, laidKinds := [.data, .data, .data, .data, .data, .pinned], laidTests := true, laidLooks := .later }
def ShowSpansCardSaid : Prop := Claim7.holds Tryd.pinned (.plain (OpenSpec.ofChange showSpansSpec)) showSpansCard

/-- THE SECOND FORM's CARD OF 'computuslaw19.ShowSpans'. -/
def showSpansUptoCard : Claim7 := { stood := { row := showSpansUptoRow, standIns := [], harness := (true, "f6e142090922ad39922580486145551b747b5f5e0e80057b031efdf5549916e6"), looks := false }, kinds := [], alts := [], laidByText := true, laidKinds := [.data, .data, .data, .data, .data, .pinned], laidTests := true, laidLooks := .later }
def ShowSpansUptoCardSaid : Prop := Claim7.holds Tryd.pinned (.plain (OpenSpec.upto showSpansSpec)) showSpansUptoCard
end Rows
end Go.Proofs.YtmohhbgmbicklaaDoor
