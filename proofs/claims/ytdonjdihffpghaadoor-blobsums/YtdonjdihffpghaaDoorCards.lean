/-
  DERIVED. GIVEN WITH THE SEED: THE CARDS: each row of YtdonjdihffpghaaDoorRows.lean that lists a variable, with what it lists TIED to the program's text (the seventh form; the later family's looks); each row that meets fmt, with fmt's text TOLD by the authors' own Lean function (tested against real Go, not proved from fmt's source: count such statements apart). THE CARD IS WHAT COUNTS. Prove the row's statement (the work); the ties are given (YtdonjdihffpghaaDoorTie.lean); close each card by the builder's one call (the guide's Derived/Test/ToyasCard.lean, 'card_holds'). Laid BY PROGRAM, IN A SANDBOX (cutbox-door.mjs). By AI agents, Wed Nov 11 2026. No macro, syntax, notation, axiom, sorry.
-/
import Derived.Test.YtdonjdihffpghaaDoorRows
import GoSem.ClaimSeven
namespace Go.Proofs.YtdonjdihffpghaaDoor
namespace Rows

/-- THE TIED CARD OF 'computuslaw14.BlobSums'. -/
def blobSumsCard : Claim7 := { stood := { row := blobSumsRow, standIns := [], harness := (true, "052075a480e0cd8f6b8284fb649de1858ae445f4d2d3fb1a19415b8dff47a57a"), looks := true }, kinds := [], alts := [], laidByText := true, laidKinds := [.data, .data, .data, .data], laidTests := true, laidLooks := .later }
def BlobSumsCardSaid : Prop := Claim7.holds Tryd.pinned (.plain (OpenSpec.ofChange blobSumsSpec)) blobSumsCard

/-- THE TIED CARD OF 'computuslaw14.BlobTurned'. -/
def blobTurnedCard : Claim7 := { stood := { row := blobTurnedRow, standIns := [], harness := (true, "052075a480e0cd8f6b8284fb649de1858ae445f4d2d3fb1a19415b8dff47a57a"), looks := true }, kinds := [], alts := [], laidByText := true, laidKinds := [.data, .data, .data, .data], laidTests := true, laidLooks := .later }
def BlobTurnedCardSaid : Prop := Claim7.holds Tryd.pinned (.plain (OpenSpec.ofChange blobTurnedSpec)) blobTurnedCard

/-- THE SECOND FORM's CARD OF 'computuslaw14.BlobSums'. -/
def blobSumsUptoCard : Claim7 := { stood := { row := blobSumsUptoRow, standIns := [], harness := (true, "052075a480e0cd8f6b8284fb649de1858ae445f4d2d3fb1a19415b8dff47a57a"), looks := true }, kinds := [], alts := [], laidByText := true, laidKinds := [.data, .data, .data, .data], laidTests := true, laidLooks := .later }
def BlobSumsUptoCardSaid : Prop := Claim7.holds Tryd.pinned (.plain (OpenSpec.upto blobSumsSpec)) blobSumsUptoCard

/-- THE SECOND FORM's CARD OF 'computuslaw14.BlobTurned'. -/
def blobTurnedUptoCard : Claim7 := { stood := { row := blobTurnedUptoRow, standIns := [], harness := (true, "052075a480e0cd8f6b8284fb649de1858ae445f4d2d3fb1a19415b8dff47a57a"), looks := true }, kinds := [], alts := [], laidByText := true, laidKinds := [.data, .data, .data, .data], laidTests := true, laidLooks := .later }
def BlobTurnedUptoCardSaid : Prop := Claim7.holds Tryd.pinned (.plain (OpenSpec.upto blobTurnedSpec)) blobTurnedUptoCard
end Rows
end Go.Proofs.YtdonjdihffpghaaDoor
