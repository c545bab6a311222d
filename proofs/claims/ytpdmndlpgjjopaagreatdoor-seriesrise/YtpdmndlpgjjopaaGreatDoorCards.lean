/-
  DERIVED. GIVEN WITH THE SEED: THE CARDS: each row of YtpdmndlpgjjopaaGreatDoorRows.lean that lists a variable, with what it lists TIED to the program's text (the seventh form; the later family's looks); each row that meets fmt, with fmt's text TOLD by the authors' own Lean function (tested against real Go, not proved from fmt's source: count such statements apart). THE CARD IS WHAT COUNTS. Prove the row's statement (the work); the ties are given (YtpdmndlpgjjopaaGreatDoorTie.lean); close each card by the builder's one call (the guide's Derived/Test/ToyasCard.lean, 'card_holds'). Laid BY PROGRAM, IN A SANDBOX (cutbox-door.mjs). By AI agents, Wed Nov 11 2026. No macro, syntax, notation, axiom, sorry.
-/
import Derived.Test.YtpdmndlpgjjopaaGreatDoorRows
import GoSem.ClaimSeven
namespace Go.Proofs.YtpdmndlpgjjopaaGreatDoor
namespace Rows

/-- THE TIED CARD OF 'computuslaw21.SeriesRise'. -/
def seriesRiseCard : Claim7 := { stood := { row := seriesRiseRow, standIns := [], harness := (true, "53005c30e8245b73823646783d8e4b517c95b96662ee1bd682bd32302c5ac2df"), looks := true }, kinds := [], alts := [], laidByText := true, laidKinds := [.data, .data, .data, .data], laidTests := true, laidLooks := .later }
def SeriesRiseCardSaid : Prop := Claim7.holds Tryz.pinned (.plain (OpenSpec.ofChange seriesRiseSpec)) seriesRiseCard

/-- THE TIED CARD OF 'computuslaw21.SeriesTimes'. -/
def seriesTimesCard : Claim7 := { stood := { row := seriesTimesRow, standIns := [], harness := (true, "53005c30e8245b73823646783d8e4b517c95b96662ee1bd682bd32302c5ac2df"), looks := true }, kinds := [], alts := [], laidByText := true, laidKinds := [.data, .data, .data, .data], laidTests := true, laidLooks := .later }
def SeriesTimesCardSaid : Prop := Claim7.holds Tryz.pinned (.plain (OpenSpec.ofChange seriesTimesSpec)) seriesTimesCard

/-- THE SECOND FORM's CARD OF 'computuslaw21.SeriesRise'. -/
def seriesRiseUptoCard : Claim7 := { stood := { row := seriesRiseUptoRow, standIns := [], harness := (true, "53005c30e8245b73823646783d8e4b517c95b96662ee1bd682bd32302c5ac2df"), looks := true }, kinds := [], alts := [], laidByText := true, laidKinds := [.data, .data, .data, .data], laidTests := true, laidLooks := .later }
def SeriesRiseUptoCardSaid : Prop := Claim7.holds Tryz.pinned (.plain (OpenSpec.upto seriesRiseSpec)) seriesRiseUptoCard

/-- THE SECOND FORM's CARD OF 'computuslaw21.SeriesTimes'. -/
def seriesTimesUptoCard : Claim7 := { stood := { row := seriesTimesUptoRow, standIns := [], harness := (true, "53005c30e8245b73823646783d8e4b517c95b96662ee1bd682bd32302c5ac2df"), looks := true }, kinds := [], alts := [], laidByText := true, laidKinds := [.data, .data, .data, .data], laidTests := true, laidLooks := .later }
def SeriesTimesUptoCardSaid : Prop := Claim7.holds Tryz.pinned (.plain (OpenSpec.upto seriesTimesSpec)) seriesTimesUptoCard
end Rows
end Go.Proofs.YtpdmndlpgjjopaaGreatDoor
