/-
  DERIVED. GIVEN WITH THE SEED: THE CARDS: each row of YtklehbmghjcmaaaGreatDoorRows.lean that lists a variable, with what it lists TIED to the program's text (the seventh form; the later family's looks); each row that meets fmt, with fmt's text TOLD by the authors' own Lean function (tested against real Go, not proved from fmt's source: count such statements apart). THE CARD IS WHAT COUNTS. Prove the row's statement (the work); the ties are given (YtklehbmghjcmaaaGreatDoorTie.lean); close each card by the builder's one call (the guide's Derived/Test/ToyasCard.lean, 'card_holds'). Laid BY PROGRAM, IN A SANDBOX (cutbox-door.mjs). By AI agents, Wed Nov 11 2026. No macro, syntax, notation, axiom, sorry.
-/
import Derived.Test.YtklehbmghjcmaaaGreatDoorRows
import GoSem.ClaimSeven
namespace Go.Proofs.YtklehbmghjcmaaaGreatDoor
namespace Rows

/-- THE TIED CARD OF 'computuslaw17.StampLocals'. -/
def stampLocalsCard : Claim7 := { stood := { row := stampLocalsRow, standIns := [], harness := (true, "746b7686ae2c058c02a4bf30218e9c8642450b74247e214a736fd31ac7b25f5e"), looks := true }, kinds := [], alts := [], laidByText := true, laidKinds := [.data, .data, .data, .data], laidTests := true, laidLooks := .later }
def StampLocalsCardSaid : Prop := Claim7.holds Tryz.pinned (.plain (OpenSpec.ofChange stampLocalsSpec)) stampLocalsCard

/-- THE TIED CARD OF 'computuslaw17.StampAdds'. -/
def stampAddsCard : Claim7 := { stood := { row := stampAddsRow, standIns := [], harness := (true, "746b7686ae2c058c02a4bf30218e9c8642450b74247e214a736fd31ac7b25f5e"), looks := true }, kinds := [], alts := [], laidByText := true, laidKinds := [.data, .data, .data, .data], laidTests := true, laidLooks := .later }
def StampAddsCardSaid : Prop := Claim7.holds Tryz.pinned (.plain (OpenSpec.ofChange stampAddsSpec)) stampAddsCard

/-- THE TIED CARD OF 'computuslaw17.StampBack'. -/
def stampBackCard : Claim7 := { stood := { row := stampBackRow, standIns := [], harness := (true, "746b7686ae2c058c02a4bf30218e9c8642450b74247e214a736fd31ac7b25f5e"), looks := true }, kinds := [], alts := [], laidByText := true, laidKinds := [.data, .data, .data, .data], laidTests := true, laidLooks := .later }
def StampBackCardSaid : Prop := Claim7.holds Tryz.pinned (.plain (OpenSpec.ofChange stampBackSpec)) stampBackCard

/-- THE TIED CARD OF 'computuslaw17.StampFlat'. -/
def stampFlatCard : Claim7 := { stood := { row := stampFlatRow, standIns := [], harness := (true, "746b7686ae2c058c02a4bf30218e9c8642450b74247e214a736fd31ac7b25f5e"), looks := true }, kinds := [], alts := [], laidByText := true, laidKinds := [.data, .data, .data, .data], laidTests := true, laidLooks := .later }
def StampFlatCardSaid : Prop := Claim7.holds Tryz.pinned (.plain (OpenSpec.ofChange stampFlatSpec)) stampFlatCard

/-- THE TIED CARD OF 'computuslaw20.OpsTruncs'. -/
def opsTruncsCard : Claim7 := { stood := { row := opsTruncsRow, standIns := [], harness := (true, "746b7686ae2c058c02a4bf30218e9c8642450b74247e214a736fd31ac7b25f5e"), looks := true }, kinds := [], alts := [], laidByText := true, laidKinds := [.data, .data, .data, .data, .data], laidTests := true, laidLooks := .later }
def OpsTruncsCardSaid : Prop := Claim7.holds Tryz.pinned (.plain (OpenSpec.ofChange opsTruncsSpec)) opsTruncsCard

/-- THE TIED CARD OF 'computuslaw20.OpsHere'. -/
def opsHereCard : Claim7 := { stood := { row := opsHereRow, standIns := [], harness := (true, "746b7686ae2c058c02a4bf30218e9c8642450b74247e214a736fd31ac7b25f5e"), looks := true }, kinds := [], alts := [], laidByText := true, laidKinds := [.data, .data, .data, .data, .data], laidTests := true, laidLooks := .later }
def OpsHereCardSaid : Prop := Claim7.holds Tryz.pinned (.plain (OpenSpec.ofChange opsHereSpec)) opsHereCard

/-- THE SECOND FORM's CARD OF 'computuslaw17.StampLocals'. -/
def stampLocalsUptoCard : Claim7 := { stood := { row := stampLocalsUptoRow, standIns := [], harness := (true, "746b7686ae2c058c02a4bf30218e9c8642450b74247e214a736fd31ac7b25f5e"), looks := true }, kinds := [], alts := [], laidByText := true, laidKinds := [.data, .data, .data, .data], laidTests := true, laidLooks := .later }
def StampLocalsUptoCardSaid : Prop := Claim7.holds Tryz.pinned (.plain (OpenSpec.upto stampLocalsSpec)) stampLocalsUptoCard

/-- THE SECOND FORM's CARD OF 'computuslaw17.StampAdds'. -/
def stampAddsUptoCard : Claim7 := { stood := { row := stampAddsUptoRow, standIns := [], harness := (true, "746b7686ae2c058c02a4bf30218e9c8642450b74247e214a736fd31ac7b25f5e"), looks := true }, kinds := [], alts := [], laidByText := true, laidKinds := [.data, .data, .data, .data], laidTests := true, laidLooks := .later }
def StampAddsUptoCardSaid : Prop := Claim7.holds Tryz.pinned (.plain (OpenSpec.upto stampAddsSpec)) stampAddsUptoCard

/-- THE SECOND FORM's CARD OF 'computuslaw17.StampBack'. -/
def stampBackUptoCard : Claim7 := { stood := { row := stampBackUptoRow, standIns := [], harness := (true, "746b7686ae2c058c02a4bf30218e9c8642450b74247e214a736fd31ac7b25f5e"), looks := true }, kinds := [], alts := [], laidByText := true, laidKinds := [.data, .data, .data, .data], laidTests := true, laidLooks := .later }
def StampBackUptoCardSaid : Prop := Claim7.holds Tryz.pinned (.plain (OpenSpec.upto stampBackSpec)) stampBackUptoCard

/-- THE SECOND FORM's CARD OF 'computuslaw17.StampFlat'. -/
def stampFlatUptoCard : Claim7 := { stood := { row := stampFlatUptoRow, standIns := [], harness := (true, "746b7686ae2c058c02a4bf30218e9c8642450b74247e214a736fd31ac7b25f5e"), looks := true }, kinds := [], alts := [], laidByText := true, laidKinds := [.data, .data, .data, .data], laidTests := true, laidLooks := .later }
def StampFlatUptoCardSaid : Prop := Claim7.holds Tryz.pinned (.plain (OpenSpec.upto stampFlatSpec)) stampFlatUptoCard

/-- THE SECOND FORM's CARD OF 'computuslaw20.OpsTruncs'. -/
def opsTruncsUptoCard : Claim7 := { stood := { row := opsTruncsUptoRow, standIns := [], harness := (true, "746b7686ae2c058c02a4bf30218e9c8642450b74247e214a736fd31ac7b25f5e"), looks := true }, kinds := [], alts := [], laidByText := true, laidKinds := [.data, .data, .data, .data, .data], laidTests := true, laidLooks := .later }
def OpsTruncsUptoCardSaid : Prop := Claim7.holds Tryz.pinned (.plain (OpenSpec.upto opsTruncsSpec)) opsTruncsUptoCard

/-- THE SECOND FORM's CARD OF 'computuslaw20.OpsHere'. -/
def opsHereUptoCard : Claim7 := { stood := { row := opsHereUptoRow, standIns := [], harness := (true, "746b7686ae2c058c02a4bf30218e9c8642450b74247e214a736fd31ac7b25f5e"), looks := true }, kinds := [], alts := [], laidByText := true, laidKinds := [.data, .data, .data, .data, .data], laidTests := true, laidLooks := .later }
def OpsHereUptoCardSaid : Prop := Claim7.holds Tryz.pinned (.plain (OpenSpec.upto opsHereSpec)) opsHereUptoCard
end Rows
end Go.Proofs.YtklehbmghjcmaaaGreatDoor
