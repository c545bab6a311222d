/-
  DERIVED. GIVEN WITH THE SEED: THE CARDS: each row of YtigeccplombggaaGreatDoorRows.lean that lists a variable, with what it lists TIED to the program's text (the seventh form; the later family's looks); each row that meets fmt, with fmt's text TOLD by the authors' own Lean function (tested against real Go, not proved from fmt's source: count such statements apart). THE CARD IS WHAT COUNTS. Prove the row's statement (the work); the ties are given (YtigeccplombggaaGreatDoorTie.lean); close each card by the builder's one call (the guide's Derived/Test/ToyasCard.lean, 'card_holds'). Laid BY PROGRAM, IN A SANDBOX (cutbox-door.mjs). By AI agents, Wed Nov 11 2026. No macro, syntax, notation, axiom, sorry.
-/
import Derived.Test.YtigeccplombggaaGreatDoorRows
import GoSem.ClaimSeven
namespace Go.Proofs.YtigeccplombggaaGreatDoor
namespace Rows

/-- THE TIED CARD OF 'computuslaw17.StampLocals'. -/
def stampLocalsCard : Claim7 := { stood := { row := stampLocalsRow, standIns := [], harness := (true, "de0d66b81f8f1f759ce10347d8bd7908ebb32187abf8d7d18a4f3cf38dcd3b7e"), looks := true }, kinds := [], alts := [], laidByText := true, laidKinds := [.data, .data, .data, .data], laidTests := true, laidLooks := .later }
def StampLocalsCardSaid : Prop := Claim7.holds Tryz.pinned (.plain (OpenSpec.ofChange stampLocalsSpec)) stampLocalsCard

/-- THE TIED CARD OF 'computuslaw17.StampAdds'. -/
def stampAddsCard : Claim7 := { stood := { row := stampAddsRow, standIns := [], harness := (true, "de0d66b81f8f1f759ce10347d8bd7908ebb32187abf8d7d18a4f3cf38dcd3b7e"), looks := true }, kinds := [], alts := [], laidByText := true, laidKinds := [.data, .data, .data, .data], laidTests := true, laidLooks := .later }
def StampAddsCardSaid : Prop := Claim7.holds Tryz.pinned (.plain (OpenSpec.ofChange stampAddsSpec)) stampAddsCard

/-- THE TIED CARD OF 'computuslaw17.StampSubs'. -/
def stampSubsCard : Claim7 := { stood := { row := stampSubsRow, standIns := [], harness := (true, "de0d66b81f8f1f759ce10347d8bd7908ebb32187abf8d7d18a4f3cf38dcd3b7e"), looks := true }, kinds := [], alts := [], laidByText := true, laidKinds := [.data, .data, .data, .data], laidTests := true, laidLooks := .later }
def StampSubsCardSaid : Prop := Claim7.holds Tryz.pinned (.plain (OpenSpec.ofChange stampSubsSpec)) stampSubsCard

/-- THE TIED CARD OF 'computuslaw17.StampBack'. -/
def stampBackCard : Claim7 := { stood := { row := stampBackRow, standIns := [], harness := (true, "de0d66b81f8f1f759ce10347d8bd7908ebb32187abf8d7d18a4f3cf38dcd3b7e"), looks := true }, kinds := [], alts := [], laidByText := true, laidKinds := [.data, .data, .data, .data], laidTests := true, laidLooks := .later }
def StampBackCardSaid : Prop := Claim7.holds Tryz.pinned (.plain (OpenSpec.ofChange stampBackSpec)) stampBackCard

/-- THE TIED CARD OF 'computuslaw17.StampSum'. -/
def stampSumCard : Claim7 := { stood := { row := stampSumRow, standIns := [], harness := (true, "de0d66b81f8f1f759ce10347d8bd7908ebb32187abf8d7d18a4f3cf38dcd3b7e"), looks := true }, kinds := [], alts := [], laidByText := true, laidKinds := [.data, .data, .data, .data], laidTests := true, laidLooks := .later }
def StampSumCardSaid : Prop := Claim7.holds Tryz.pinned (.plain (OpenSpec.ofChange stampSumSpec)) stampSumCard

/-- THE TIED CARD OF 'computuslaw17.StampFlat'. -/
def stampFlatCard : Claim7 := { stood := { row := stampFlatRow, standIns := [], harness := (true, "de0d66b81f8f1f759ce10347d8bd7908ebb32187abf8d7d18a4f3cf38dcd3b7e"), looks := true }, kinds := [], alts := [], laidByText := true, laidKinds := [.data, .data, .data, .data], laidTests := true, laidLooks := .later }
def StampFlatCardSaid : Prop := Claim7.holds Tryz.pinned (.plain (OpenSpec.ofChange stampFlatSpec)) stampFlatCard

/-- THE SECOND FORM's CARD OF 'computuslaw17.StampLocals'. -/
def stampLocalsUptoCard : Claim7 := { stood := { row := stampLocalsUptoRow, standIns := [], harness := (true, "de0d66b81f8f1f759ce10347d8bd7908ebb32187abf8d7d18a4f3cf38dcd3b7e"), looks := true }, kinds := [], alts := [], laidByText := true, laidKinds := [.data, .data, .data, .data], laidTests := true, laidLooks := .later }
def StampLocalsUptoCardSaid : Prop := Claim7.holds Tryz.pinned (.plain (OpenSpec.upto stampLocalsSpec)) stampLocalsUptoCard

/-- THE SECOND FORM's CARD OF 'computuslaw17.StampAdds'. -/
def stampAddsUptoCard : Claim7 := { stood := { row := stampAddsUptoRow, standIns := [], harness := (true, "de0d66b81f8f1f759ce10347d8bd7908ebb32187abf8d7d18a4f3cf38dcd3b7e"), looks := true }, kinds := [], alts := [], laidByText := true, laidKinds := [.data, .data, .data, .data], laidTests := true, laidLooks := .later }
def StampAddsUptoCardSaid : Prop := Claim7.holds Tryz.pinned (.plain (OpenSpec.upto stampAddsSpec)) stampAddsUptoCard

/-- THE SECOND FORM's CARD OF 'computuslaw17.StampSubs'. -/
def stampSubsUptoCard : Claim7 := { stood := { row := stampSubsUptoRow, standIns := [], harness := (true, "de0d66b81f8f1f759ce10347d8bd7908ebb32187abf8d7d18a4f3cf38dcd3b7e"), looks := true }, kinds := [], alts := [], laidByText := true, laidKinds := [.data, .data, .data, .data], laidTests := true, laidLooks := .later }
def StampSubsUptoCardSaid : Prop := Claim7.holds Tryz.pinned (.plain (OpenSpec.upto stampSubsSpec)) stampSubsUptoCard

/-- THE SECOND FORM's CARD OF 'computuslaw17.StampBack'. -/
def stampBackUptoCard : Claim7 := { stood := { row := stampBackUptoRow, standIns := [], harness := (true, "de0d66b81f8f1f759ce10347d8bd7908ebb32187abf8d7d18a4f3cf38dcd3b7e"), looks := true }, kinds := [], alts := [], laidByText := true, laidKinds := [.data, .data, .data, .data], laidTests := true, laidLooks := .later }
def StampBackUptoCardSaid : Prop := Claim7.holds Tryz.pinned (.plain (OpenSpec.upto stampBackSpec)) stampBackUptoCard

/-- THE SECOND FORM's CARD OF 'computuslaw17.StampSum'. -/
def stampSumUptoCard : Claim7 := { stood := { row := stampSumUptoRow, standIns := [], harness := (true, "de0d66b81f8f1f759ce10347d8bd7908ebb32187abf8d7d18a4f3cf38dcd3b7e"), looks := true }, kinds := [], alts := [], laidByText := true, laidKinds := [.data, .data, .data, .data], laidTests := true, laidLooks := .later }
def StampSumUptoCardSaid : Prop := Claim7.holds Tryz.pinned (.plain (OpenSpec.upto stampSumSpec)) stampSumUptoCard

/-- THE SECOND FORM's CARD OF 'computuslaw17.StampFlat'. -/
def stampFlatUptoCard : Claim7 := { stood := { row := stampFlatUptoRow, standIns := [], harness := (true, "de0d66b81f8f1f759ce10347d8bd7908ebb32187abf8d7d18a4f3cf38dcd3b7e"), looks := true }, kinds := [], alts := [], laidByText := true, laidKinds := [.data, .data, .data, .data], laidTests := true, laidLooks := .later }
def StampFlatUptoCardSaid : Prop := Claim7.holds Tryz.pinned (.plain (OpenSpec.upto stampFlatSpec)) stampFlatUptoCard
end Rows
end Go.Proofs.YtigeccplombggaaGreatDoor
