/-
  DERIVED. GIVEN WITH THE SEED: THE CARDS: each row of YtdkodkkbggdpbacDoorRows.lean that lists a variable, with what it lists TIED to the program's text (the seventh form; the later family's looks); each row that meets fmt, with fmt's text TOLD by the authors' own Lean function (tested against real Go, not proved from fmt's source: count such statements apart). THE CARD IS WHAT COUNTS. Prove the row's statement (the work); the ties are given (YtdkodkkbggdpbacDoorTie.lean); close each card by the builder's one call (the guide's Derived/Test/ToyasCard.lean, 'card_holds'). Laid BY PROGRAM, IN A SANDBOX (cutbox-door.mjs). By AI agents, Wed Nov 11 2026. No macro, syntax, notation, axiom, sorry.
-/
import Derived.Test.YtdkodkkbggdpbacDoorRows
import GoSem.ClaimSeven
namespace Go.Proofs.YtdkodkkbggdpbacDoor
namespace Rows

/-- THE TIED CARD OF 'computuslaw07.WhenWeek'. -/
def whenWeekCard : Claim7 := { stood := { row := whenWeekRow, standIns := [], harness := (true, "31da3511197b02eb1959e95843704189f6cec06c41b1413d8fbe63cfe2032c06"), looks := true }, kinds := [], alts := [], laidByText := true, laidKinds := [.data], laidTests := true, laidLooks := .later }
def WhenWeekCardSaid : Prop := Claim7.holds Tryd.pinned (.plain (OpenSpec.ofChange whenWeekSpec)) whenWeekCard

/-- THE SECOND FORM's CARD OF 'computuslaw07.WhenWeek'. -/
def whenWeekUptoCard : Claim7 := { stood := { row := whenWeekUptoRow, standIns := [], harness := (true, "31da3511197b02eb1959e95843704189f6cec06c41b1413d8fbe63cfe2032c06"), looks := true }, kinds := [], alts := [], laidByText := true, laidKinds := [.data], laidTests := true, laidLooks := .later }
def WhenWeekUptoCardSaid : Prop := Claim7.holds Tryd.pinned (.plain (OpenSpec.upto whenWeekSpec)) whenWeekUptoCard
end Rows
end Go.Proofs.YtdkodkkbggdpbacDoor
