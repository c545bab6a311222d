/-
  DERIVED. GIVEN WITH THE SEED: THE CARDS: each row of YthbcicjkmgoliaaDoorRows.lean that lists a variable, with what it lists TIED to the program's text (the seventh form; the later family's looks); each row that meets fmt, with fmt's text TOLD by the authors' own Lean function (tested against real Go, not proved from fmt's source: count such statements apart). THE CARD IS WHAT COUNTS. Prove the row's statement (the work); the ties are given (YthbcicjkmgoliaaDoorTie.lean); close each card by the builder's one call (the guide's Derived/Test/ToyasCard.lean, 'card_holds'). Laid BY PROGRAM, IN A SANDBOX (cutbox-door.mjs). By AI agents, Wed Nov 11 2026. No macro, syntax, notation, axiom, sorry.
-/
import Derived.Test.YthbcicjkmgoliaaDoorRows
import GoSem.ClaimSeven
namespace Go.Proofs.YthbcicjkmgoliaaDoor
namespace Rows

/-- THE TIED CARD OF 'computuslaw11.FootYears'. -/
def footYearsCard : Claim7 := { stood := { row := footYearsRow, standIns := [], harness := (true, "2e9a5d94f2031cf50ddf848ef9b408c48e24073a734df665761314347aca71f4"), looks := true }, kinds := [], alts := [], laidByText := true, laidKinds := [.data, .data, .data, .data], laidTests := true, laidLooks := .later }
def FootYearsCardSaid : Prop := Claim7.holds Tryd.pinned (.plain (OpenSpec.ofChange footYearsSpec)) footYearsCard

/-- THE TIED CARD OF 'computuslaw11.FootStands'. -/
def footStandsCard : Claim7 := { stood := { row := footStandsRow, standIns := [], harness := (true, "2e9a5d94f2031cf50ddf848ef9b408c48e24073a734df665761314347aca71f4"), looks := true }, kinds := [], alts := [], laidByText := true, laidKinds := [.data, .data, .data, .data], laidTests := true, laidLooks := .later }
def FootStandsCardSaid : Prop := Claim7.holds Tryd.pinned (.plain (OpenSpec.ofChange footStandsSpec)) footStandsCard

/-- THE TIED CARD OF 'computuslaw11.FootGoes'. -/
def footGoesCard : Claim7 := { stood := { row := footGoesRow, standIns := [], harness := (true, "2e9a5d94f2031cf50ddf848ef9b408c48e24073a734df665761314347aca71f4"), looks := true }, kinds := [], alts := [], laidByText := true, laidKinds := [.data, .data, .data, .data], laidTests := true, laidLooks := .later }
def FootGoesCardSaid : Prop := Claim7.holds Tryd.pinned (.plain (OpenSpec.ofChange footGoesSpec)) footGoesCard

/-- THE TIED CARD OF 'computuslaw11.FootAgain'. -/
def footAgainCard : Claim7 := { stood := { row := footAgainRow, standIns := [], harness := (true, "2e9a5d94f2031cf50ddf848ef9b408c48e24073a734df665761314347aca71f4"), looks := true }, kinds := [], alts := [], laidByText := true, laidKinds := [.data, .data, .data, .data], laidTests := true, laidLooks := .later }
def FootAgainCardSaid : Prop := Claim7.holds Tryd.pinned (.plain (OpenSpec.ofChange footAgainSpec)) footAgainCard

/-- THE TIED CARD OF 'computuslaw11.FootOrder'. -/
def footOrderCard : Claim7 := { stood := { row := footOrderRow, standIns := [], harness := (true, "2e9a5d94f2031cf50ddf848ef9b408c48e24073a734df665761314347aca71f4"), looks := true }, kinds := [], alts := [], laidByText := true, laidKinds := [.data, .data, .data, .data], laidTests := true, laidLooks := .later }
def FootOrderCardSaid : Prop := Claim7.holds Tryd.pinned (.plain (OpenSpec.ofChange footOrderSpec)) footOrderCard

/-- THE TIED CARD OF 'computuslaw11.FootSave'. -/
def footSaveCard : Claim7 := { stood := { row := footSaveRow, standIns := [], harness := (true, "2e9a5d94f2031cf50ddf848ef9b408c48e24073a734df665761314347aca71f4"), looks := true }, kinds := [], alts := [], laidByText := true, laidKinds := [.data, .data, .data, .data], laidTests := true, laidLooks := .later }
def FootSaveCardSaid : Prop := Claim7.holds Tryd.pinned (.plain (OpenSpec.ofChange footSaveSpec)) footSaveCard

/-- THE SECOND FORM's CARD OF 'computuslaw11.FootYears'. -/
def footYearsUptoCard : Claim7 := { stood := { row := footYearsUptoRow, standIns := [], harness := (true, "2e9a5d94f2031cf50ddf848ef9b408c48e24073a734df665761314347aca71f4"), looks := true }, kinds := [], alts := [], laidByText := true, laidKinds := [.data, .data, .data, .data], laidTests := true, laidLooks := .later }
def FootYearsUptoCardSaid : Prop := Claim7.holds Tryd.pinned (.plain (OpenSpec.upto footYearsSpec)) footYearsUptoCard

/-- THE SECOND FORM's CARD OF 'computuslaw11.FootStands'. -/
def footStandsUptoCard : Claim7 := { stood := { row := footStandsUptoRow, standIns := [], harness := (true, "2e9a5d94f2031cf50ddf848ef9b408c48e24073a734df665761314347aca71f4"), looks := true }, kinds := [], alts := [], laidByText := true, laidKinds := [.data, .data, .data, .data], laidTests := true, laidLooks := .later }
def FootStandsUptoCardSaid : Prop := Claim7.holds Tryd.pinned (.plain (OpenSpec.upto footStandsSpec)) footStandsUptoCard

/-- THE SECOND FORM's CARD OF 'computuslaw11.FootGoes'. -/
def footGoesUptoCard : Claim7 := { stood := { row := footGoesUptoRow, standIns := [], harness := (true, "2e9a5d94f2031cf50ddf848ef9b408c48e24073a734df665761314347aca71f4"), looks := true }, kinds := [], alts := [], laidByText := true, laidKinds := [.data, .data, .data, .data], laidTests := true, laidLooks := .later }
def FootGoesUptoCardSaid : Prop := Claim7.holds Tryd.pinned (.plain (OpenSpec.upto footGoesSpec)) footGoesUptoCard

/-- THE SECOND FORM's CARD OF 'computuslaw11.FootAgain'. -/
def footAgainUptoCard : Claim7 := { stood := { row := footAgainUptoRow, standIns := [], harness := (true, "2e9a5d94f2031cf50ddf848ef9b408c48e24073a734df665761314347aca71f4"), looks := true }, kinds := [], alts := [], laidByText := true, laidKinds := [.data, .data, .data, .data], laidTests := true, laidLooks := .later }
def FootAgainUptoCardSaid : Prop := Claim7.holds Tryd.pinned (.plain (OpenSpec.upto footAgainSpec)) footAgainUptoCard

/-- THE SECOND FORM's CARD OF 'computuslaw11.FootOrder'. -/
def footOrderUptoCard : Claim7 := { stood := { row := footOrderUptoRow, standIns := [], harness := (true, "2e9a5d94f2031cf50ddf848ef9b408c48e24073a734df665761314347aca71f4"), looks := true }, kinds := [], alts := [], laidByText := true, laidKinds := [.data, .data, .data, .data], laidTests := true, laidLooks := .later }
def FootOrderUptoCardSaid : Prop := Claim7.holds Tryd.pinned (.plain (OpenSpec.upto footOrderSpec)) footOrderUptoCard

/-- THE SECOND FORM's CARD OF 'computuslaw11.FootSave'. -/
def footSaveUptoCard : Claim7 := { stood := { row := footSaveUptoRow, standIns := [], harness := (true, "2e9a5d94f2031cf50ddf848ef9b408c48e24073a734df665761314347aca71f4"), looks := true }, kinds := [], alts := [], laidByText := true, laidKinds := [.data, .data, .data, .data], laidTests := true, laidLooks := .later }
def FootSaveUptoCardSaid : Prop := Claim7.holds Tryd.pinned (.plain (OpenSpec.upto footSaveSpec)) footSaveUptoCard
end Rows
end Go.Proofs.YthbcicjkmgoliaaDoor
