/-
  DERIVED. GIVEN WITH THE SEED: THE CARDS: each row of YtcflipkbncpababDoorRows.lean that lists a variable, with what it lists TIED to the program's text (the seventh form; the later family's looks); each row that meets fmt, with fmt's text TOLD by the authors' own Lean function (tested against real Go, not proved from fmt's source: count such statements apart). THE CARD IS WHAT COUNTS. Prove the row's statement (the work); the ties are given (YtcflipkbncpababDoorTie.lean); close each card by the builder's one call (the guide's Derived/Test/ToyasCard.lean, 'card_holds'). Laid BY PROGRAM, IN A SANDBOX (cutbox-door.mjs). By AI agents, Wed Nov 11 2026. No macro, syntax, notation, axiom, sorry.
-/
import Derived.Test.YtcflipkbncpababDoorRows
import GoSem.ClaimSeven
namespace Go.Proofs.YtcflipkbncpababDoor
namespace Rows

/-- THE TIED CARD OF 'computuslaw04.DecSums'. -/
def decSumsCard : Claim7 := { stood := { row := decSumsRow, standIns := [], harness := (true, "3dc57d1e12b6c6e11f52f7d485e3f07c7d7f155988958e43c2cd4d4e34d8f154"), looks := false }, kinds := [], alts := [], laidByText := true, laidKinds := [.data, .data, .data], laidTests := true, laidLooks := .later }
def DecSumsCardSaid : Prop := Claim7.holds Tryd.pinned (.plain (OpenSpec.ofChange decSumsSpec)) decSumsCard

/-- THE TIED CARD OF 'computuslaw04.DecRounds'. -/
def decRoundsCard : Claim7 := { stood := { row := decRoundsRow, standIns := [], harness := (true, "3dc57d1e12b6c6e11f52f7d485e3f07c7d7f155988958e43c2cd4d4e34d8f154"), looks := false }, kinds := [], alts := [], laidByText := true, laidKinds := [.data, .data, .data], laidTests := true, laidLooks := .later }
def DecRoundsCardSaid : Prop := Claim7.holds Tryd.pinned (.plain (OpenSpec.ofChange decRoundsSpec)) decRoundsCard

/-- THE TIED CARD OF 'computuslaw04.DecTexts'. -/
def decTextsCard : Claim7 := { stood := { row := decTextsRow, standIns := [], harness := (true, "3dc57d1e12b6c6e11f52f7d485e3f07c7d7f155988958e43c2cd4d4e34d8f154"), looks := false }, kinds := [], alts := [], laidByText := true, laidKinds := [.data, .data, .data], laidTests := true, laidLooks := .later }
def DecTextsCardSaid : Prop := Claim7.holds Tryd.pinned (.plain (OpenSpec.ofChange decTextsSpec)) decTextsCard

/-- THE TIED CARD OF 'computuslaw04.DecTurned'. -/
def decTurnedCard : Claim7 := { stood := { row := decTurnedRow, standIns := [], harness := (true, "3dc57d1e12b6c6e11f52f7d485e3f07c7d7f155988958e43c2cd4d4e34d8f154"), looks := false }, kinds := [], alts := [], laidByText := true, laidKinds := [.data, .data, .data], laidTests := true, laidLooks := .later }
def DecTurnedCardSaid : Prop := Claim7.holds Tryd.pinned (.plain (OpenSpec.ofChange decTurnedSpec)) decTurnedCard

/-- THE TIED CARD OF 'computuslaw04.DecOrder'. -/
def decOrderCard : Claim7 := { stood := { row := decOrderRow, standIns := [], harness := (true, "3dc57d1e12b6c6e11f52f7d485e3f07c7d7f155988958e43c2cd4d4e34d8f154"), looks := false }, kinds := [], alts := [], laidByText := true, laidKinds := [.data, .data, .data], laidTests := true, laidLooks := .later }
def DecOrderCardSaid : Prop := Claim7.holds Tryd.pinned (.plain (OpenSpec.ofChange decOrderSpec)) decOrderCard

/-- THE TIED CARD OF 'computuslaw04.DecApart'. -/
def decApartCard : Claim7 := { stood := { row := decApartRow, standIns := [], harness := (true, "3dc57d1e12b6c6e11f52f7d485e3f07c7d7f155988958e43c2cd4d4e34d8f154"), looks := false }, kinds := [], alts := [], laidByText := true, laidKinds := [.data, .data, .data], laidTests := true, laidLooks := .later }
def DecApartCardSaid : Prop := Claim7.holds Tryd.pinned (.plain (OpenSpec.ofChange decApartSpec)) decApartCard

/-- THE SECOND FORM's CARD OF 'computuslaw04.DecSums'. -/
def decSumsUptoCard : Claim7 := { stood := { row := decSumsUptoRow, standIns := [], harness := (true, "3dc57d1e12b6c6e11f52f7d485e3f07c7d7f155988958e43c2cd4d4e34d8f154"), looks := false }, kinds := [], alts := [], laidByText := true, laidKinds := [.data, .data, .data], laidTests := true, laidLooks := .later }
def DecSumsUptoCardSaid : Prop := Claim7.holds Tryd.pinned (.plain (OpenSpec.upto decSumsSpec)) decSumsUptoCard

/-- THE SECOND FORM's CARD OF 'computuslaw04.DecRounds'. -/
def decRoundsUptoCard : Claim7 := { stood := { row := decRoundsUptoRow, standIns := [], harness := (true, "3dc57d1e12b6c6e11f52f7d485e3f07c7d7f155988958e43c2cd4d4e34d8f154"), looks := false }, kinds := [], alts := [], laidByText := true, laidKinds := [.data, .data, .data], laidTests := true, laidLooks := .later }
def DecRoundsUptoCardSaid : Prop := Claim7.holds Tryd.pinned (.plain (OpenSpec.upto decRoundsSpec)) decRoundsUptoCard

/-- THE SECOND FORM's CARD OF 'computuslaw04.DecTexts'. -/
def decTextsUptoCard : Claim7 := { stood := { row := decTextsUptoRow, standIns := [], harness := (true, "3dc57d1e12b6c6e11f52f7d485e3f07c7d7f155988958e43c2cd4d4e34d8f154"), looks := false }, kinds := [], alts := [], laidByText := true, laidKinds := [.data, .data, .data], laidTests := true, laidLooks := .later }
def DecTextsUptoCardSaid : Prop := Claim7.holds Tryd.pinned (.plain (OpenSpec.upto decTextsSpec)) decTextsUptoCard

/-- THE SECOND FORM's CARD OF 'computuslaw04.DecTurned'. -/
def decTurnedUptoCard : Claim7 := { stood := { row := decTurnedUptoRow, standIns := [], harness := (true, "3dc57d1e12b6c6e11f52f7d485e3f07c7d7f155988958e43c2cd4d4e34d8f154"), looks := false }, kinds := [], alts := [], laidByText := true, laidKinds := [.data, .data, .data], laidTests := true, laidLooks := .later }
def DecTurnedUptoCardSaid : Prop := Claim7.holds Tryd.pinned (.plain (OpenSpec.upto decTurnedSpec)) decTurnedUptoCard

/-- THE SECOND FORM's CARD OF 'computuslaw04.DecOrder'. -/
def decOrderUptoCard : Claim7 := { stood := { row := decOrderUptoRow, standIns := [], harness := (true, "3dc57d1e12b6c6e11f52f7d485e3f07c7d7f155988958e43c2cd4d4e34d8f154"), looks := false }, kinds := [], alts := [], laidByText := true, laidKinds := [.data, .data, .data], laidTests := true, laidLooks := .later }
def DecOrderUptoCardSaid : Prop := Claim7.holds Tryd.pinned (.plain (OpenSpec.upto decOrderSpec)) decOrderUptoCard

/-- THE SECOND FORM's CARD OF 'computuslaw04.DecApart'. -/
def decApartUptoCard : Claim7 := { stood := { row := decApartUptoRow, standIns := [], harness := (true, "3dc57d1e12b6c6e11f52f7d485e3f07c7d7f155988958e43c2cd4d4e34d8f154"), looks := false }, kinds := [], alts := [], laidByText := true, laidKinds := [.data, .data, .data], laidTests := true, laidLooks := .later }
def DecApartUptoCardSaid : Prop := Claim7.holds Tryd.pinned (.plain (OpenSpec.upto decApartSpec)) decApartUptoCard
end Rows
end Go.Proofs.YtcflipkbncpababDoor
