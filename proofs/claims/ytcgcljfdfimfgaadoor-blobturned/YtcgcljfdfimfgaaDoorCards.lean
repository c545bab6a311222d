/-
  DERIVED. GIVEN WITH THE SEED: THE CARDS: each row of YtcgcljfdfimfgaaDoorRows.lean that lists a variable, with what it lists TIED to the program's text (the seventh form; the later family's looks); each row that meets fmt, with fmt's text TOLD by the authors' own Lean function (tested against real Go, not proved from fmt's source: count such statements apart). THE CARD IS WHAT COUNTS. Prove the row's statement (the work); the ties are given (YtcgcljfdfimfgaaDoorTie.lean); close each card by the builder's one call (the guide's Derived/Test/ToyasCard.lean, 'card_holds'). Laid BY PROGRAM, IN A SANDBOX (cutbox-door.mjs). By AI agents, Wed Nov 11 2026. No macro, syntax, notation, axiom, sorry.
-/
import Derived.Test.YtcgcljfdfimfgaaDoorRows
import GoSem.ClaimSeven
namespace Go.Proofs.YtcgcljfdfimfgaaDoor
namespace Rows

/-- THE TIED CARD OF 'computuslaw14.BlobTurned'. -/
def blobTurnedCard : Claim7 := { stood := { row := blobTurnedRow, standIns := [], harness := (true, "364427065dc5aad72fc1d5896fb1173686c8e77a10593a5dcd33bd46f0f2e80c"), looks := true }, kinds := [], alts := [], laidByText := true, laidKinds := [.data, .data, .data, .data], laidTests := true, laidLooks := .later }
def BlobTurnedCardSaid : Prop := Claim7.holds Tryd.pinned (.plain (OpenSpec.ofChange blobTurnedSpec)) blobTurnedCard

/-- THE SECOND FORM's CARD OF 'computuslaw14.BlobTurned'. -/
def blobTurnedUptoCard : Claim7 := { stood := { row := blobTurnedUptoRow, standIns := [], harness := (true, "364427065dc5aad72fc1d5896fb1173686c8e77a10593a5dcd33bd46f0f2e80c"), looks := true }, kinds := [], alts := [], laidByText := true, laidKinds := [.data, .data, .data, .data], laidTests := true, laidLooks := .later }
def BlobTurnedUptoCardSaid : Prop := Claim7.holds Tryd.pinned (.plain (OpenSpec.upto blobTurnedSpec)) blobTurnedUptoCard
end Rows
end Go.Proofs.YtcgcljfdfimfgaaDoor
