/-
  DERIVED. GIVEN WITH THE SEED: THE CARDS: each row of YtoglkfchiidmmaaDoorRows.lean that lists a variable, with what it lists TIED to the program's text (the seventh form; the later family's looks); each row that meets fmt, with fmt's text TOLD by the authors' own Lean function (tested against real Go, not proved from fmt's source: count such statements apart). THE CARD IS WHAT COUNTS. Prove the row's statement (the work); the ties are given (YtoglkfchiidmmaaDoorTie.lean); close each card by the builder's one call (the guide's Derived/Test/ToyasCard.lean, 'card_holds'). Laid BY PROGRAM, IN A SANDBOX (cutbox-door.mjs). By AI agents, Wed Nov 11 2026. No macro, syntax, notation, axiom, sorry.
-/
import Derived.Test.YtoglkfchiidmmaaDoorRows
import GoSem.ClaimSeven
namespace Go.Proofs.YtoglkfchiidmmaaDoor
namespace Rows

/-- THE TIED CARD OF 'computuslaw21.SeriesInts'. -/
def seriesIntsCard : Claim7 := { stood := { row := seriesIntsRow, standIns := [], harness := (true, "d1bd10fccbcd6aee01301624f18a0aca9a410883fff67afc58aa21996f41b02a"), looks := true }, kinds := [], alts := [], laidByText := true, laidKinds := [.data], laidTests := true, laidLooks := .later }
def SeriesIntsCardSaid : Prop := Claim7.holds Tryd.pinned (.plain (OpenSpec.ofChange seriesIntsSpec)) seriesIntsCard

/-- THE TIED CARD OF 'computuslaw21.SeriesBack'. -/
def seriesBackCard : Claim7 := { stood := { row := seriesBackRow, standIns := [], harness := (true, "d1bd10fccbcd6aee01301624f18a0aca9a410883fff67afc58aa21996f41b02a"), looks := true }, kinds := [], alts := [], laidByText := true, laidKinds := [.data], laidTests := true, laidLooks := .later }
def SeriesBackCardSaid : Prop := Claim7.holds Tryd.pinned (.plain (OpenSpec.ofChange seriesBackSpec)) seriesBackCard

/-- THE SECOND FORM's CARD OF 'computuslaw21.SeriesInts'. -/
def seriesIntsUptoCard : Claim7 := { stood := { row := seriesIntsUptoRow, standIns := [], harness := (true, "d1bd10fccbcd6aee01301624f18a0aca9a410883fff67afc58aa21996f41b02a"), looks := true }, kinds := [], alts := [], laidByText := true, laidKinds := [.data], laidTests := true, laidLooks := .later }
def SeriesIntsUptoCardSaid : Prop := Claim7.holds Tryd.pinned (.plain (OpenSpec.upto seriesIntsSpec)) seriesIntsUptoCard

/-- THE SECOND FORM's CARD OF 'computuslaw21.SeriesBack'. -/
def seriesBackUptoCard : Claim7 := { stood := { row := seriesBackUptoRow, standIns := [], harness := (true, "d1bd10fccbcd6aee01301624f18a0aca9a410883fff67afc58aa21996f41b02a"), looks := true }, kinds := [], alts := [], laidByText := true, laidKinds := [.data], laidTests := true, laidLooks := .later }
def SeriesBackUptoCardSaid : Prop := Claim7.holds Tryd.pinned (.plain (OpenSpec.upto seriesBackSpec)) seriesBackUptoCard
end Rows
end Go.Proofs.YtoglkfchiidmmaaDoor
