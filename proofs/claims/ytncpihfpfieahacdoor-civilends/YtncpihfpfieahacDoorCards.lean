/-
  DERIVED. GIVEN WITH THE SEED: THE CARDS: each row of YtncpihfpfieahacDoorRows.lean that lists a variable, with what it lists TIED to the program's text (the seventh form; the later family's looks); each row that meets fmt, with fmt's text TOLD by the authors' own Lean function (tested against real Go, not proved from fmt's source: count such statements apart). THE CARD IS WHAT COUNTS. Prove the row's statement (the work); the ties are given (YtncpihfpfieahacDoorTie.lean); close each card by the builder's one call (the guide's Derived/Test/ToyasCard.lean, 'card_holds'). Laid BY PROGRAM, IN A SANDBOX (cutbox-door.mjs). By AI agents, Wed Nov 11 2026. No macro, syntax, notation, axiom, sorry.
-/
import Derived.Test.YtncpihfpfieahacDoorRows
import GoSem.ClaimSeven
namespace Go.Proofs.YtncpihfpfieahacDoor
namespace Rows

/-- THE TIED CARD OF 'computuslaw02.CivilBack'. -/
def civilBackCard : Claim7 := { stood := { row := civilBackRow, standIns := [], harness := (true, "31f9e0f5730f06514bb473ce12f11faffe47c9f6893aaa077d8ff4a673a2002e"), looks := false }, kinds := [], alts := [], laidByText := true, laidKinds := [.data], laidTests := true, laidLooks := .later }
def CivilBackCardSaid : Prop := Claim7.holds Tryd.pinned (.plain (OpenSpec.ofChange civilBackSpec)) civilBackCard

/-- THE TIED CARD OF 'computuslaw02.CivilOrder'. -/
def civilOrderCard : Claim7 := { stood := { row := civilOrderRow, standIns := [], harness := (true, "31f9e0f5730f06514bb473ce12f11faffe47c9f6893aaa077d8ff4a673a2002e"), looks := false }, kinds := [], alts := [], laidByText := true, laidKinds := [.data], laidTests := true, laidLooks := .later }
def CivilOrderCardSaid : Prop := Claim7.holds Tryd.pinned (.plain (OpenSpec.ofChange civilOrderSpec)) civilOrderCard

/-- THE TIED CARD OF 'computuslaw02.CivilParts'. -/
def civilPartsCard : Claim7 := { stood := { row := civilPartsRow, standIns := [], harness := (true, "31f9e0f5730f06514bb473ce12f11faffe47c9f6893aaa077d8ff4a673a2002e"), looks := false }, kinds := [], alts := [], laidByText := true, laidKinds := [.data], laidTests := true, laidLooks := .later }
def CivilPartsCardSaid : Prop := Claim7.holds Tryd.pinned (.plain (OpenSpec.ofChange civilPartsSpec)) civilPartsCard

/-- THE TIED CARD OF 'computuslaw02.CivilEnds'. -/
def civilEndsCard : Claim7 := { stood := { row := civilEndsRow, standIns := [], harness := (true, "31f9e0f5730f06514bb473ce12f11faffe47c9f6893aaa077d8ff4a673a2002e"), looks := false }, kinds := [], alts := [], laidByText := true, laidKinds := [.data], laidTests := true, laidLooks := .later }
def CivilEndsCardSaid : Prop := Claim7.holds Tryd.pinned (.plain (OpenSpec.ofChange civilEndsSpec)) civilEndsCard

/-- THE SECOND FORM's CARD OF 'computuslaw02.CivilBack'. -/
def civilBackUptoCard : Claim7 := { stood := { row := civilBackUptoRow, standIns := [], harness := (true, "31f9e0f5730f06514bb473ce12f11faffe47c9f6893aaa077d8ff4a673a2002e"), looks := false }, kinds := [], alts := [], laidByText := true, laidKinds := [.data], laidTests := true, laidLooks := .later }
def CivilBackUptoCardSaid : Prop := Claim7.holds Tryd.pinned (.plain (OpenSpec.upto civilBackSpec)) civilBackUptoCard

/-- THE SECOND FORM's CARD OF 'computuslaw02.CivilOrder'. -/
def civilOrderUptoCard : Claim7 := { stood := { row := civilOrderUptoRow, standIns := [], harness := (true, "31f9e0f5730f06514bb473ce12f11faffe47c9f6893aaa077d8ff4a673a2002e"), looks := false }, kinds := [], alts := [], laidByText := true, laidKinds := [.data], laidTests := true, laidLooks := .later }
def CivilOrderUptoCardSaid : Prop := Claim7.holds Tryd.pinned (.plain (OpenSpec.upto civilOrderSpec)) civilOrderUptoCard

/-- THE SECOND FORM's CARD OF 'computuslaw02.CivilParts'. -/
def civilPartsUptoCard : Claim7 := { stood := { row := civilPartsUptoRow, standIns := [], harness := (true, "31f9e0f5730f06514bb473ce12f11faffe47c9f6893aaa077d8ff4a673a2002e"), looks := false }, kinds := [], alts := [], laidByText := true, laidKinds := [.data], laidTests := true, laidLooks := .later }
def CivilPartsUptoCardSaid : Prop := Claim7.holds Tryd.pinned (.plain (OpenSpec.upto civilPartsSpec)) civilPartsUptoCard

/-- THE SECOND FORM's CARD OF 'computuslaw02.CivilEnds'. -/
def civilEndsUptoCard : Claim7 := { stood := { row := civilEndsUptoRow, standIns := [], harness := (true, "31f9e0f5730f06514bb473ce12f11faffe47c9f6893aaa077d8ff4a673a2002e"), looks := false }, kinds := [], alts := [], laidByText := true, laidKinds := [.data], laidTests := true, laidLooks := .later }
def CivilEndsUptoCardSaid : Prop := Claim7.holds Tryd.pinned (.plain (OpenSpec.upto civilEndsSpec)) civilEndsUptoCard
end Rows
end Go.Proofs.YtncpihfpfieahacDoor
