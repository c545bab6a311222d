/-
  DERIVED. GIVEN WITH THE SEED: THE CARDS: each row of YtofmmdfdiaahhaaGreatDoorRows.lean that lists a variable, with what it lists TIED to the program's text (the seventh form; the later family's looks); each row that meets fmt, with fmt's text TOLD by the authors' own Lean function (tested against real Go, not proved from fmt's source: count such statements apart). THE CARD IS WHAT COUNTS. Prove the row's statement (the work); the ties are given (YtofmmdfdiaahhaaGreatDoorTie.lean); close each card by the builder's one call (the guide's Derived/Test/ToyasCard.lean, 'card_holds'). Laid BY PROGRAM, IN A SANDBOX (cutbox-door.mjs). By AI agents, Wed Nov 11 2026. No macro, syntax, notation, axiom, sorry.
-/
import Derived.Test.YtofmmdfdiaahhaaGreatDoorRows
import GoSem.ClaimSeven
namespace Go.Proofs.YtofmmdfdiaahhaaGreatDoor
namespace Rows

/-- THE TIED CARD OF 'computuslaw20.OpsOverlaps'. -/
def opsOverlapsCard : Claim7 := { stood := { row := opsOverlapsRow, standIns := [], harness := (true, "1288aef8317a012f5a7b0e0b1f0b325ad2df71ac88b0c2102696b3cf94a1a272"), looks := true }, kinds := [], alts := [], laidByText := true, laidKinds := [.data, .data, .data, .data, .data], laidTests := true, laidLooks := .later }
def OpsOverlapsCardSaid : Prop := Claim7.holds Tryz.pinned (.plain (OpenSpec.ofChange opsOverlapsSpec)) opsOverlapsCard

/-- THE TIED CARD OF 'computuslaw20.OpsLess'. -/
def opsLessCard : Claim7 := { stood := { row := opsLessRow, standIns := [], harness := (true, "1288aef8317a012f5a7b0e0b1f0b325ad2df71ac88b0c2102696b3cf94a1a272"), looks := true }, kinds := [], alts := [], laidByText := true, laidKinds := [.data, .data, .data, .data, .data], laidTests := true, laidLooks := .later }
def OpsLessCardSaid : Prop := Claim7.holds Tryz.pinned (.plain (OpenSpec.ofChange opsLessSpec)) opsLessCard

/-- THE TIED CARD OF 'computuslaw20.OpsWhole'. -/
def opsWholeCard : Claim7 := { stood := { row := opsWholeRow, standIns := [], harness := (true, "1288aef8317a012f5a7b0e0b1f0b325ad2df71ac88b0c2102696b3cf94a1a272"), looks := true }, kinds := [], alts := [], laidByText := true, laidKinds := [.data, .data, .data, .data, .data], laidTests := true, laidLooks := .later }
def OpsWholeCardSaid : Prop := Claim7.holds Tryz.pinned (.plain (OpenSpec.ofChange opsWholeSpec)) opsWholeCard

/-- THE TIED CARD OF 'computuslaw20.OpsMakes'. -/
def opsMakesCard : Claim7 := { stood := { row := opsMakesRow, standIns := [], harness := (true, "1288aef8317a012f5a7b0e0b1f0b325ad2df71ac88b0c2102696b3cf94a1a272"), looks := true }, kinds := [], alts := [], laidByText := true, laidKinds := [.data, .data, .data, .data, .data], laidTests := true, laidLooks := .later }
def OpsMakesCardSaid : Prop := Claim7.holds Tryz.pinned (.plain (OpenSpec.ofChange opsMakesSpec)) opsMakesCard

/-- THE SECOND FORM's CARD OF 'computuslaw20.OpsOverlaps'. -/
def opsOverlapsUptoCard : Claim7 := { stood := { row := opsOverlapsUptoRow, standIns := [], harness := (true, "1288aef8317a012f5a7b0e0b1f0b325ad2df71ac88b0c2102696b3cf94a1a272"), looks := true }, kinds := [], alts := [], laidByText := true, laidKinds := [.data, .data, .data, .data, .data], laidTests := true, laidLooks := .later }
def OpsOverlapsUptoCardSaid : Prop := Claim7.holds Tryz.pinned (.plain (OpenSpec.upto opsOverlapsSpec)) opsOverlapsUptoCard

/-- THE SECOND FORM's CARD OF 'computuslaw20.OpsLess'. -/
def opsLessUptoCard : Claim7 := { stood := { row := opsLessUptoRow, standIns := [], harness := (true, "1288aef8317a012f5a7b0e0b1f0b325ad2df71ac88b0c2102696b3cf94a1a272"), looks := true }, kinds := [], alts := [], laidByText := true, laidKinds := [.data, .data, .data, .data, .data], laidTests := true, laidLooks := .later }
def OpsLessUptoCardSaid : Prop := Claim7.holds Tryz.pinned (.plain (OpenSpec.upto opsLessSpec)) opsLessUptoCard

/-- THE SECOND FORM's CARD OF 'computuslaw20.OpsWhole'. -/
def opsWholeUptoCard : Claim7 := { stood := { row := opsWholeUptoRow, standIns := [], harness := (true, "1288aef8317a012f5a7b0e0b1f0b325ad2df71ac88b0c2102696b3cf94a1a272"), looks := true }, kinds := [], alts := [], laidByText := true, laidKinds := [.data, .data, .data, .data, .data], laidTests := true, laidLooks := .later }
def OpsWholeUptoCardSaid : Prop := Claim7.holds Tryz.pinned (.plain (OpenSpec.upto opsWholeSpec)) opsWholeUptoCard

/-- THE SECOND FORM's CARD OF 'computuslaw20.OpsMakes'. -/
def opsMakesUptoCard : Claim7 := { stood := { row := opsMakesUptoRow, standIns := [], harness := (true, "1288aef8317a012f5a7b0e0b1f0b325ad2df71ac88b0c2102696b3cf94a1a272"), looks := true }, kinds := [], alts := [], laidByText := true, laidKinds := [.data, .data, .data, .data, .data], laidTests := true, laidLooks := .later }
def OpsMakesUptoCardSaid : Prop := Claim7.holds Tryz.pinned (.plain (OpenSpec.upto opsMakesSpec)) opsMakesUptoCard
end Rows
end Go.Proofs.YtofmmdfdiaahhaaGreatDoor
