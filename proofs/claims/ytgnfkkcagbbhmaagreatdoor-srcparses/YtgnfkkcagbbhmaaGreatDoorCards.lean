/-
  DERIVED. GIVEN WITH THE SEED: THE CARDS: each row of YtgnfkkcagbbhmaaGreatDoorRows.lean that lists a variable, with what it lists TIED to the program's text (the seventh form; the later family's looks); each row that meets fmt, with fmt's text TOLD by the authors' own Lean function (tested against real Go, not proved from fmt's source: count such statements apart). THE CARD IS WHAT COUNTS. Prove the row's statement (the work); the ties are given (YtgnfkkcagbbhmaaGreatDoorTie.lean); close each card by the builder's one call (the guide's Derived/Test/ToyasCard.lean, 'card_holds'). Laid BY PROGRAM, IN A SANDBOX (cutbox-door.mjs). By AI agents, Wed Nov 11 2026. No macro, syntax, notation, axiom, sorry.
-/
import Derived.Test.YtgnfkkcagbbhmaaGreatDoorRows
import GoSem.ClaimSeven
namespace Go.Proofs.YtgnfkkcagbbhmaaGreatDoor
namespace Rows

/-- THE TIED CARD OF 'computuslaw08.SrcParses'. -/
def srcParsesCard : Claim7 := { stood := { row := srcParsesRow, standIns := [], harness := (true, "446291b86f9a18773add3c535d892f34c6598370939e0a83c4602279abce4db1"), looks := true }, kinds := [], alts := [], laidByText := true, laidKinds := [.data, .data, .data, .data, .pinned], laidTests := true, laidLooks := .later }
def SrcParsesCardSaid : Prop := Claim7.holds Tryz.pinned (.plain (OpenSpec.ofChange srcParsesSpec)) srcParsesCard

/-- THE TIED CARD OF 'computuslaw08.SrcTexts'. -/
def srcTextsCard : Claim7 := { stood := { row := srcTextsRow, standIns := [], harness := (true, "446291b86f9a18773add3c535d892f34c6598370939e0a83c4602279abce4db1"), looks := true }, kinds := [], alts := [], laidByText := true, laidKinds := [.data, .data, .data, .data, .pinned], laidTests := true, laidLooks := .later }
def SrcTextsCardSaid : Prop := Claim7.holds Tryz.pinned (.plain (OpenSpec.ofChange srcTextsSpec)) srcTextsCard

/-- THE TIED CARD OF 'computuslaw08.SrcFormats'. -/
def srcFormatsCard : Claim7 := { stood := { row := srcFormatsRow, standIns := [], harness := (true, "446291b86f9a18773add3c535d892f34c6598370939e0a83c4602279abce4db1"), looks := true }, kinds := [], alts := [], laidByText := true, laidKinds := [.data, .data, .data, .data, .pinned], laidTests := true, laidLooks := .later }
def SrcFormatsCardSaid : Prop := Claim7.holds Tryz.pinned (.plain (OpenSpec.ofChange srcFormatsSpec)) srcFormatsCard

/-- THE SECOND FORM's CARD OF 'computuslaw08.SrcParses'. -/
def srcParsesUptoCard : Claim7 := { stood := { row := srcParsesUptoRow, standIns := [], harness := (true, "446291b86f9a18773add3c535d892f34c6598370939e0a83c4602279abce4db1"), looks := true }, kinds := [], alts := [], laidByText := true, laidKinds := [.data, .data, .data, .data, .pinned], laidTests := true, laidLooks := .later }
def SrcParsesUptoCardSaid : Prop := Claim7.holds Tryz.pinned (.plain (OpenSpec.upto srcParsesSpec)) srcParsesUptoCard

/-- THE SECOND FORM's CARD OF 'computuslaw08.SrcTexts'. -/
def srcTextsUptoCard : Claim7 := { stood := { row := srcTextsUptoRow, standIns := [], harness := (true, "446291b86f9a18773add3c535d892f34c6598370939e0a83c4602279abce4db1"), looks := true }, kinds := [], alts := [], laidByText := true, laidKinds := [.data, .data, .data, .data, .pinned], laidTests := true, laidLooks := .later }
def SrcTextsUptoCardSaid : Prop := Claim7.holds Tryz.pinned (.plain (OpenSpec.upto srcTextsSpec)) srcTextsUptoCard

/-- THE SECOND FORM's CARD OF 'computuslaw08.SrcFormats'. -/
def srcFormatsUptoCard : Claim7 := { stood := { row := srcFormatsUptoRow, standIns := [], harness := (true, "446291b86f9a18773add3c535d892f34c6598370939e0a83c4602279abce4db1"), looks := true }, kinds := [], alts := [], laidByText := true, laidKinds := [.data, .data, .data, .data, .pinned], laidTests := true, laidLooks := .later }
def SrcFormatsUptoCardSaid : Prop := Claim7.holds Tryz.pinned (.plain (OpenSpec.upto srcFormatsSpec)) srcFormatsUptoCard
end Rows
end Go.Proofs.YtgnfkkcagbbhmaaGreatDoor
