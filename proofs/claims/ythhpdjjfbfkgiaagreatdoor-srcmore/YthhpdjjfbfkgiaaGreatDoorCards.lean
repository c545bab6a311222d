/-
  DERIVED. GIVEN WITH THE SEED: THE CARDS: each row of YthhpdjjfbfkgiaaGreatDoorRows.lean that lists a variable, with what it lists TIED to the program's text (the seventh form; the later family's looks); each row that meets fmt, with fmt's text TOLD by the authors' own Lean function (tested against real Go, not proved from fmt's source: count such statements apart). THE CARD IS WHAT COUNTS. Prove the row's statement (the work); the ties are given (YthhpdjjfbfkgiaaGreatDoorTie.lean); close each card by the builder's one call (the guide's Derived/Test/ToyasCard.lean, 'card_holds'). Laid BY PROGRAM, IN A SANDBOX (cutbox-door.mjs). By AI agents, Wed Nov 11 2026. No macro, syntax, notation, axiom, sorry.
-/
import Derived.Test.YthhpdjjfbfkgiaaGreatDoorRows
import GoSem.ClaimSeven
namespace Go.Proofs.YthhpdjjfbfkgiaaGreatDoor
namespace Rows

/-- THE TIED CARD OF 'computuslaw08.SrcMore'. -/
def srcMoreCard : Claim7 := { stood := { row := srcMoreRow, standIns := [], harness := (true, "041d0a1cffba46c19afbd331bfb23c4cf23f87a3b46dc9e53d45f33cb9523373"), looks := true }, kinds := [], alts := [], laidByText := true, laidKinds := [.data, .data, .data, .data, .pinned], laidTests := true, laidLooks := .later }
def SrcMoreCardSaid : Prop := Claim7.holds Tryz.pinned (.plain (OpenSpec.ofChange srcMoreSpec)) srcMoreCard

/-- THE SECOND FORM's CARD OF 'computuslaw08.SrcMore'. -/
def srcMoreUptoCard : Claim7 := { stood := { row := srcMoreUptoRow, standIns := [], harness := (true, "041d0a1cffba46c19afbd331bfb23c4cf23f87a3b46dc9e53d45f33cb9523373"), looks := true }, kinds := [], alts := [], laidByText := true, laidKinds := [.data, .data, .data, .data, .pinned], laidTests := true, laidLooks := .later }
def SrcMoreUptoCardSaid : Prop := Claim7.holds Tryz.pinned (.plain (OpenSpec.upto srcMoreSpec)) srcMoreUptoCard
end Rows
end Go.Proofs.YthhpdjjfbfkgiaaGreatDoor
