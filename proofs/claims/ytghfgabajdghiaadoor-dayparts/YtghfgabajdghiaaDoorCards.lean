/-
  DERIVED. GIVEN WITH THE SEED: THE CARDS: each row of YtghfgabajdghiaaDoorRows.lean that lists a variable, with what it lists TIED to the program's text (the seventh form; the later family's looks); each row that meets fmt, with fmt's text TOLD by the authors' own Lean function (tested against real Go, not proved from fmt's source: count such statements apart). THE CARD IS WHAT COUNTS. Prove the row's statement (the work); the ties are given (YtghfgabajdghiaaDoorTie.lean); close each card by the builder's one call (the guide's Derived/Test/ToyasCard.lean, 'card_holds'). Laid BY PROGRAM, IN A SANDBOX (cutbox-door.mjs). By AI agents, Wed Nov 11 2026. No macro, syntax, notation, axiom, sorry.
-/
import Derived.Test.YtghfgabajdghiaaDoorRows
import GoSem.ClaimSeven
namespace Go.Proofs.YtghfgabajdghiaaDoor
namespace Rows

/-- THE TIED CARD OF 'computuslaw15.DayParts'. -/
def dayPartsCard : Claim7 := { stood := { row := dayPartsRow, standIns := [], harness := (true, "ee6236e5d73ea5aaf834aeb57ea8ae40be55530693a6c9e83285e2346e9c90fa"), looks := false }, kinds := [], alts := [], laidByText := true, laidKinds := [.data], laidTests := true, laidLooks := .later }
def DayPartsCardSaid : Prop := Claim7.holds Tryd.pinned (.plain (OpenSpec.ofChange dayPartsSpec)) dayPartsCard

/-- THE TIED CARD OF 'computuslaw15.DayMoves'. -/
def dayMovesCard : Claim7 := { stood := { row := dayMovesRow, standIns := [], harness := (true, "ee6236e5d73ea5aaf834aeb57ea8ae40be55530693a6c9e83285e2346e9c90fa"), looks := false }, kinds := [], alts := [], laidByText := true, laidKinds := [.data], laidTests := true, laidLooks := .later }
def DayMovesCardSaid : Prop := Claim7.holds Tryd.pinned (.plain (OpenSpec.ofChange dayMovesSpec)) dayMovesCard

/-- THE TIED CARD OF 'computuslaw15.DayStamps'. -/
def dayStampsCard : Claim7 := { stood := { row := dayStampsRow, standIns := [], harness := (true, "ee6236e5d73ea5aaf834aeb57ea8ae40be55530693a6c9e83285e2346e9c90fa"), looks := false }, kinds := [], alts := [], laidByText := true, laidKinds := [.data], laidTests := true, laidLooks := .later }
def DayStampsCardSaid : Prop := Claim7.holds Tryd.pinned (.plain (OpenSpec.ofChange dayStampsSpec)) dayStampsCard

/-- THE TIED CARD OF 'computuslaw15.DayBack'. -/
def dayBackCard : Claim7 := { stood := { row := dayBackRow, standIns := [], harness := (true, "ee6236e5d73ea5aaf834aeb57ea8ae40be55530693a6c9e83285e2346e9c90fa"), looks := false }, kinds := [], alts := [], laidByText := true, laidKinds := [.data], laidTests := true, laidLooks := .later }
def DayBackCardSaid : Prop := Claim7.holds Tryd.pinned (.plain (OpenSpec.ofChange dayBackSpec)) dayBackCard

/-- THE TIED CARD OF 'computuslaw15.DayWhole'. -/
def dayWholeCard : Claim7 := { stood := { row := dayWholeRow, standIns := [], harness := (true, "ee6236e5d73ea5aaf834aeb57ea8ae40be55530693a6c9e83285e2346e9c90fa"), looks := false }, kinds := [], alts := [], laidByText := true, laidKinds := [.data], laidTests := true, laidLooks := .later }
def DayWholeCardSaid : Prop := Claim7.holds Tryd.pinned (.plain (OpenSpec.ofChange dayWholeSpec)) dayWholeCard

/-- THE TIED CARD OF 'computuslaw15.DaySorted'. -/
def daySortedCard : Claim7 := { stood := { row := daySortedRow, standIns := [], harness := (true, "ee6236e5d73ea5aaf834aeb57ea8ae40be55530693a6c9e83285e2346e9c90fa"), looks := false }, kinds := [], alts := [], laidByText := true, laidKinds := [.data], laidTests := true, laidLooks := .later }
def DaySortedCardSaid : Prop := Claim7.holds Tryd.pinned (.plain (OpenSpec.ofChange daySortedSpec)) daySortedCard

/-- THE SECOND FORM's CARD OF 'computuslaw15.DayParts'. -/
def dayPartsUptoCard : Claim7 := { stood := { row := dayPartsUptoRow, standIns := [], harness := (true, "ee6236e5d73ea5aaf834aeb57ea8ae40be55530693a6c9e83285e2346e9c90fa"), looks := false }, kinds := [], alts := [], laidByText := true, laidKinds := [.data], laidTests := true, laidLooks := .later }
def DayPartsUptoCardSaid : Prop := Claim7.holds Tryd.pinned (.plain (OpenSpec.upto dayPartsSpec)) dayPartsUptoCard

/-- THE SECOND FORM's CARD OF 'computuslaw15.DayMoves'. -/
def dayMovesUptoCard : Claim7 := { stood := { row := dayMovesUptoRow, standIns := [], harness := (true, "ee6236e5d73ea5aaf834aeb57ea8ae40be55530693a6c9e83285e2346e9c90fa"), looks := false }, kinds := [], alts := [], laidByText := true, laidKinds := [.data], laidTests := true, laidLooks := .later }
def DayMovesUptoCardSaid : Prop := Claim7.holds Tryd.pinned (.plain (OpenSpec.upto dayMovesSpec)) dayMovesUptoCard

/-- THE SECOND FORM's CARD OF 'computuslaw15.DayStamps'. -/
def dayStampsUptoCard : Claim7 := { stood := { row := dayStampsUptoRow, standIns := [], harness := (true, "ee6236e5d73ea5aaf834aeb57ea8ae40be55530693a6c9e83285e2346e9c90fa"), looks := false }, kinds := [], alts := [], laidByText := true, laidKinds := [.data], laidTests := true, laidLooks := .later }
def DayStampsUptoCardSaid : Prop := Claim7.holds Tryd.pinned (.plain (OpenSpec.upto dayStampsSpec)) dayStampsUptoCard

/-- THE SECOND FORM's CARD OF 'computuslaw15.DayBack'. -/
def dayBackUptoCard : Claim7 := { stood := { row := dayBackUptoRow, standIns := [], harness := (true, "ee6236e5d73ea5aaf834aeb57ea8ae40be55530693a6c9e83285e2346e9c90fa"), looks := false }, kinds := [], alts := [], laidByText := true, laidKinds := [.data], laidTests := true, laidLooks := .later }
def DayBackUptoCardSaid : Prop := Claim7.holds Tryd.pinned (.plain (OpenSpec.upto dayBackSpec)) dayBackUptoCard

/-- THE SECOND FORM's CARD OF 'computuslaw15.DayWhole'. -/
def dayWholeUptoCard : Claim7 := { stood := { row := dayWholeUptoRow, standIns := [], harness := (true, "ee6236e5d73ea5aaf834aeb57ea8ae40be55530693a6c9e83285e2346e9c90fa"), looks := false }, kinds := [], alts := [], laidByText := true, laidKinds := [.data], laidTests := true, laidLooks := .later }
def DayWholeUptoCardSaid : Prop := Claim7.holds Tryd.pinned (.plain (OpenSpec.upto dayWholeSpec)) dayWholeUptoCard

/-- THE SECOND FORM's CARD OF 'computuslaw15.DaySorted'. -/
def daySortedUptoCard : Claim7 := { stood := { row := daySortedUptoRow, standIns := [], harness := (true, "ee6236e5d73ea5aaf834aeb57ea8ae40be55530693a6c9e83285e2346e9c90fa"), looks := false }, kinds := [], alts := [], laidByText := true, laidKinds := [.data], laidTests := true, laidLooks := .later }
def DaySortedUptoCardSaid : Prop := Claim7.holds Tryd.pinned (.plain (OpenSpec.upto daySortedSpec)) daySortedUptoCard
end Rows
end Go.Proofs.YtghfgabajdghiaaDoor
