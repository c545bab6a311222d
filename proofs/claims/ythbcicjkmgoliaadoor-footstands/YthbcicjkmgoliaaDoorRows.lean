/-
  NARROWER THAN 'FOR EVERY INPUT', by the rows' own cells (each row's printed sentence says how): FootYears: laid · FootStands: laid · FootGoes: laid · FootAgain: laid · FootOrder: laid · FootSave: laid.
  DERIVED. THE GIVEN ROWS OF THIS SEAT. 6 by the template 'for every input the law returns true; each argument reads behind the call as it read before'; 0 by the template 'total and deterministic' (their statements: YthbcicjkmgoliaaDoorTotals.lean).
  GIVEN WITH THE SEED: the statements are not yours to turn. If you find one false, say at which input.
  Laid BY PROGRAM, IN A SANDBOX (cutbox-rows.mjs): the forced cells as the released guide's own fill.sh prints them over the translation 29ecd3ab74c7ce34… (all of the seat's roots in one cut). By AI agents, Wed Nov 11 2026. No macro, syntax, notation, axiom, sorry.
-/
import Derived.Test.YthbcicjkmgoliaaDoorChecked
import GoSem.Claim
import GoSem.ClaimJoined
import GoSem.ClaimMapViews
import Derived.JoinedTies
import Derived.KernelRfl
namespace Go.Proofs.YthbcicjkmgoliaaDoor
/- THE CELL 'sum', in the pinned program and in every row, IS THE sha256 OF THE DUMP (.gsa) THAT YthbcicjkmgoliaaDoorProg.lean LOADS. Nothing in Lean hashes anything: it is a label: what it is worth is what the hold of that sum in a sandbox is worth. -/
noncomputable def Tryd.pinned : Pinned := { name := "ythbcicjkmgoliaadoor", sum := "29ecd3ab74c7ce34d935f851d2dcc9e21ab68c1b9fcf59266b0329e4cdb44433", checked := Tryd.checked }
namespace Rows
def none {H : Type} : Left H := { results := [], args := [] }

/- WHAT THE LISTED PACKAGE-LEVEL VARIABLES READ AS WHEN THE CALL BEGINS. Each datum BY PROGRAM (the guide's laid-datum.mjs) off the statement by which the dump's own 'gosem.cut.vars' lays the variable. In a bare row this is a premise. The card (YthbcicjkmgoliaaDoorCards.lean) ties it to the program's text. -/
def laid_computus_civil_lengths {H : Type} : DataW H := .agg [.lit (.int .i64 31), .lit (.int .i64 28), .lit (.int .i64 31), .lit (.int .i64 30), .lit (.int .i64 31), .lit (.int .i64 30), .lit (.int .i64 31), .lit (.int .i64 31), .lit (.int .i64 30), .lit (.int .i64 31), .lit (.int .i64 30), .lit (.int .i64 31)]
def laid_math_bits_deBruijn32tab {H : Type} : DataW H := .agg [.lit (.int .u8 0), .lit (.int .u8 1), .lit (.int .u8 28), .lit (.int .u8 2), .lit (.int .u8 29), .lit (.int .u8 14), .lit (.int .u8 24), .lit (.int .u8 3), .lit (.int .u8 30), .lit (.int .u8 22), .lit (.int .u8 20), .lit (.int .u8 15), .lit (.int .u8 25), .lit (.int .u8 17), .lit (.int .u8 4), .lit (.int .u8 8), .lit (.int .u8 31), .lit (.int .u8 27), .lit (.int .u8 13), .lit (.int .u8 23), .lit (.int .u8 21), .lit (.int .u8 19), .lit (.int .u8 16), .lit (.int .u8 7), .lit (.int .u8 26), .lit (.int .u8 12), .lit (.int .u8 18), .lit (.int .u8 6), .lit (.int .u8 11), .lit (.int .u8 5), .lit (.int .u8 10), .lit (.int .u8 9)]
def laid_math_bits_deBruijn64tab {H : Type} : DataW H := .agg [.lit (.int .u8 0), .lit (.int .u8 1), .lit (.int .u8 56), .lit (.int .u8 2), .lit (.int .u8 57), .lit (.int .u8 49), .lit (.int .u8 28), .lit (.int .u8 3), .lit (.int .u8 61), .lit (.int .u8 58), .lit (.int .u8 42), .lit (.int .u8 50), .lit (.int .u8 38), .lit (.int .u8 29), .lit (.int .u8 17), .lit (.int .u8 4), .lit (.int .u8 62), .lit (.int .u8 47), .lit (.int .u8 59), .lit (.int .u8 36), .lit (.int .u8 45), .lit (.int .u8 43), .lit (.int .u8 51), .lit (.int .u8 22), .lit (.int .u8 53), .lit (.int .u8 39), .lit (.int .u8 33), .lit (.int .u8 30), .lit (.int .u8 24), .lit (.int .u8 18), .lit (.int .u8 12), .lit (.int .u8 5), .lit (.int .u8 63), .lit (.int .u8 55), .lit (.int .u8 48), .lit (.int .u8 27), .lit (.int .u8 60), .lit (.int .u8 41), .lit (.int .u8 37), .lit (.int .u8 16), .lit (.int .u8 46), .lit (.int .u8 35), .lit (.int .u8 44), .lit (.int .u8 21), .lit (.int .u8 52), .lit (.int .u8 32), .lit (.int .u8 23), .lit (.int .u8 11), .lit (.int .u8 54), .lit (.int .u8 26), .lit (.int .u8 40), .lit (.int .u8 15), .lit (.int .u8 34), .lit (.int .u8 20), .lit (.int .u8 31), .lit (.int .u8 10), .lit (.int .u8 25), .lit (.int .u8 14), .lit (.int .u8 19), .lit (.int .u8 9), .lit (.int .u8 13), .lit (.int .u8 8), .lit (.int .u8 7), .lit (.int .u8 6)]
def laid_internal_strconv_uint64pow10 {H : Type} : DataW H := .agg [.lit (.int .u64 1), .lit (.int .u64 10), .lit (.int .u64 100), .lit (.int .u64 1000), .lit (.int .u64 10000), .lit (.int .u64 100000), .lit (.int .u64 1000000), .lit (.int .u64 10000000), .lit (.int .u64 100000000), .lit (.int .u64 1000000000), .lit (.int .u64 10000000000), .lit (.int .u64 100000000000), .lit (.int .u64 1000000000000), .lit (.int .u64 10000000000000), .lit (.int .u64 100000000000000), .lit (.int .u64 1000000000000000), .lit (.int .u64 10000000000000000), .lit (.int .u64 100000000000000000), .lit (.int .u64 1000000000000000000), .lit (.int .u64 10000000000000000000)]

/-- 'computuslaw11.FootYears': WHATEVER THE INPUT: true; the input reads as it did. -/
def footYearsSpec : ChangeSpec := { name := "footYears", fn := fun _ => fun
  | [d1, d2] => { results := [.lit (.bool true)], args := [d1, d2] }
  | _ => none }
def footYearsRow : OpenClaim := { program := "ythbcicjkmgoliaadoor", sum := "29ecd3ab74c7ce34d935f851d2dcc9e21ab68c1b9fcf59266b0329e4cdb44433", func := "computus/computuslaw11.FootYears", spec := "footYears", unfollowed := true, recurses := true, named := ["computus/civil.lengths", "internal/strconv.uint64pow10", "math/bits.deBruijn32tab", "math/bits.deBruijn64tab"], apart := false, laid := [("computus/civil.lengths", laid_computus_civil_lengths), ("math/bits.deBruijn32tab", laid_math_bits_deBruijn32tab), ("math/bits.deBruijn64tab", laid_math_bits_deBruijn64tab), ("internal/strconv.uint64pow10", laid_internal_strconv_uint64pow10)] }
def FootYearsSaid : Prop := footYearsRow.holds Tryd.pinned (OpenSpec.ofChange footYearsSpec)

/-- ITS FALSE NEIGHBOUR: 'it returns false'. Refute it at one input. -/
def footYearsWrong : ChangeSpec := { name := "footYears", fn := fun _ => fun
  | [d1, d2] => { results := [.lit (.bool false)], args := [d1, d2] }
  | _ => none }
def FootYearsWrongFalsely : Prop := footYearsRow.holds Tryd.pinned (OpenSpec.ofChange footYearsWrong)

/-- 'computuslaw11.FootStands': WHATEVER THE INPUT: true; the input reads as it did. -/
def footStandsSpec : ChangeSpec := { name := "footStands", fn := fun _ => fun
  | [d1, d2] => { results := [.lit (.bool true)], args := [d1, d2] }
  | _ => none }
def footStandsRow : OpenClaim := { program := "ythbcicjkmgoliaadoor", sum := "29ecd3ab74c7ce34d935f851d2dcc9e21ab68c1b9fcf59266b0329e4cdb44433", func := "computus/computuslaw11.FootStands", spec := "footStands", unfollowed := true, recurses := true, named := ["computus/civil.lengths", "internal/strconv.uint64pow10", "math/bits.deBruijn32tab", "math/bits.deBruijn64tab"], apart := false, laid := [("computus/civil.lengths", laid_computus_civil_lengths), ("math/bits.deBruijn32tab", laid_math_bits_deBruijn32tab), ("math/bits.deBruijn64tab", laid_math_bits_deBruijn64tab), ("internal/strconv.uint64pow10", laid_internal_strconv_uint64pow10)] }
def FootStandsSaid : Prop := footStandsRow.holds Tryd.pinned (OpenSpec.ofChange footStandsSpec)

/-- ITS FALSE NEIGHBOUR: 'it returns false'. Refute it at one input. -/
def footStandsWrong : ChangeSpec := { name := "footStands", fn := fun _ => fun
  | [d1, d2] => { results := [.lit (.bool false)], args := [d1, d2] }
  | _ => none }
def FootStandsWrongFalsely : Prop := footStandsRow.holds Tryd.pinned (OpenSpec.ofChange footStandsWrong)

/-- 'computuslaw11.FootGoes': WHATEVER THE INPUT: true; the input reads as it did. -/
def footGoesSpec : ChangeSpec := { name := "footGoes", fn := fun _ => fun
  | [d1, d2, d3] => { results := [.lit (.bool true)], args := [d1, d2, d3] }
  | _ => none }
def footGoesRow : OpenClaim := { program := "ythbcicjkmgoliaadoor", sum := "29ecd3ab74c7ce34d935f851d2dcc9e21ab68c1b9fcf59266b0329e4cdb44433", func := "computus/computuslaw11.FootGoes", spec := "footGoes", unfollowed := true, recurses := true, named := ["computus/civil.lengths", "internal/strconv.uint64pow10", "math/bits.deBruijn32tab", "math/bits.deBruijn64tab"], apart := false, laid := [("computus/civil.lengths", laid_computus_civil_lengths), ("math/bits.deBruijn32tab", laid_math_bits_deBruijn32tab), ("math/bits.deBruijn64tab", laid_math_bits_deBruijn64tab), ("internal/strconv.uint64pow10", laid_internal_strconv_uint64pow10)] }
def FootGoesSaid : Prop := footGoesRow.holds Tryd.pinned (OpenSpec.ofChange footGoesSpec)

/-- ITS FALSE NEIGHBOUR: 'it returns false'. Refute it at one input. -/
def footGoesWrong : ChangeSpec := { name := "footGoes", fn := fun _ => fun
  | [d1, d2, d3] => { results := [.lit (.bool false)], args := [d1, d2, d3] }
  | _ => none }
def FootGoesWrongFalsely : Prop := footGoesRow.holds Tryd.pinned (OpenSpec.ofChange footGoesWrong)

/-- 'computuslaw11.FootAgain': WHATEVER THE INPUT: true; the input reads as it did. -/
def footAgainSpec : ChangeSpec := { name := "footAgain", fn := fun _ => fun
  | [d1, d2] => { results := [.lit (.bool true)], args := [d1, d2] }
  | _ => none }
def footAgainRow : OpenClaim := { program := "ythbcicjkmgoliaadoor", sum := "29ecd3ab74c7ce34d935f851d2dcc9e21ab68c1b9fcf59266b0329e4cdb44433", func := "computus/computuslaw11.FootAgain", spec := "footAgain", unfollowed := true, recurses := true, named := ["computus/civil.lengths", "internal/strconv.uint64pow10", "math/bits.deBruijn32tab", "math/bits.deBruijn64tab"], apart := false, laid := [("computus/civil.lengths", laid_computus_civil_lengths), ("math/bits.deBruijn32tab", laid_math_bits_deBruijn32tab), ("math/bits.deBruijn64tab", laid_math_bits_deBruijn64tab), ("internal/strconv.uint64pow10", laid_internal_strconv_uint64pow10)] }
def FootAgainSaid : Prop := footAgainRow.holds Tryd.pinned (OpenSpec.ofChange footAgainSpec)

/-- ITS FALSE NEIGHBOUR: 'it returns false'. Refute it at one input. -/
def footAgainWrong : ChangeSpec := { name := "footAgain", fn := fun _ => fun
  | [d1, d2] => { results := [.lit (.bool false)], args := [d1, d2] }
  | _ => none }
def FootAgainWrongFalsely : Prop := footAgainRow.holds Tryd.pinned (OpenSpec.ofChange footAgainWrong)

/-- 'computuslaw11.FootOrder': WHATEVER THE INPUT: true; the input reads as it did. -/
def footOrderSpec : ChangeSpec := { name := "footOrder", fn := fun _ => fun
  | [d1, d2] => { results := [.lit (.bool true)], args := [d1, d2] }
  | _ => none }
def footOrderRow : OpenClaim := { program := "ythbcicjkmgoliaadoor", sum := "29ecd3ab74c7ce34d935f851d2dcc9e21ab68c1b9fcf59266b0329e4cdb44433", func := "computus/computuslaw11.FootOrder", spec := "footOrder", unfollowed := true, recurses := true, named := ["computus/civil.lengths", "internal/strconv.uint64pow10", "math/bits.deBruijn32tab", "math/bits.deBruijn64tab"], apart := false, laid := [("computus/civil.lengths", laid_computus_civil_lengths), ("math/bits.deBruijn32tab", laid_math_bits_deBruijn32tab), ("math/bits.deBruijn64tab", laid_math_bits_deBruijn64tab), ("internal/strconv.uint64pow10", laid_internal_strconv_uint64pow10)] }
def FootOrderSaid : Prop := footOrderRow.holds Tryd.pinned (OpenSpec.ofChange footOrderSpec)

/-- ITS FALSE NEIGHBOUR: 'it returns false'. Refute it at one input. -/
def footOrderWrong : ChangeSpec := { name := "footOrder", fn := fun _ => fun
  | [d1, d2] => { results := [.lit (.bool false)], args := [d1, d2] }
  | _ => none }
def FootOrderWrongFalsely : Prop := footOrderRow.holds Tryd.pinned (OpenSpec.ofChange footOrderWrong)

/-- 'computuslaw11.FootSave': WHATEVER THE INPUT: true; the input reads as it did. -/
def footSaveSpec : ChangeSpec := { name := "footSave", fn := fun _ => fun
  | [d1, d2] => { results := [.lit (.bool true)], args := [d1, d2] }
  | _ => none }
def footSaveRow : OpenClaim := { program := "ythbcicjkmgoliaadoor", sum := "29ecd3ab74c7ce34d935f851d2dcc9e21ab68c1b9fcf59266b0329e4cdb44433", func := "computus/computuslaw11.FootSave", spec := "footSave", unfollowed := true, recurses := true, named := ["computus/civil.lengths", "internal/strconv.uint64pow10", "math/bits.deBruijn32tab", "math/bits.deBruijn64tab"], apart := false, laid := [("computus/civil.lengths", laid_computus_civil_lengths), ("math/bits.deBruijn32tab", laid_math_bits_deBruijn32tab), ("math/bits.deBruijn64tab", laid_math_bits_deBruijn64tab), ("internal/strconv.uint64pow10", laid_internal_strconv_uint64pow10)] }
def FootSaveSaid : Prop := footSaveRow.holds Tryd.pinned (OpenSpec.ofChange footSaveSpec)

/-- ITS FALSE NEIGHBOUR: 'it returns false'. Refute it at one input. -/
def footSaveWrong : ChangeSpec := { name := "footSave", fn := fun _ => fun
  | [d1, d2] => { results := [.lit (.bool false)], args := [d1, d2] }
  | _ => none }
def FootSaveWrongFalsely : Prop := footSaveRow.holds Tryd.pinned (OpenSpec.ofChange footSaveWrong)

/- THE SECOND FORM. 'bulk': how many values and letters a reading holds, each counted each time it is reached (what is shared counts as often as it is met; a slice's spare places count too). A statement '..UptoSaid' is the law's where the arguments, and the package variables that the reading takes, are together of bulk at most 1048576: NARROWER than '..Said'. Prove '..Said' where nothing that the law and all that it calls make is longer than what came in: it says more and counts as full. Else prove '..UptoSaid'. A law counts once. -/
mutual
def uptoBulk {H : Type} : DataW H → Nat
  | .lit (.string bytes) => bytes.length + 1
  | .lit _ => 1
  | .nil => 1
  | .ptr d => uptoBulk d + 1
  | .slice elems spare => uptoBulkAll elems + uptoBulkAll spare + 1
  | .agg parts => uptoBulkAll parts + 1
  | .iface _ d => uptoBulk d + 1
  | .map entries => uptoBulkEntries entries + 1
  | .held _ => 1
def uptoBulkAll {H : Type} : List (DataW H) → Nat
  | [] => 0
  | d :: r => uptoBulk d + uptoBulkAll r
def uptoBulkEntries {H : Type} : List (Lit × DataW H) → Nat
  | [] => 0
  | x :: r => uptoBulkEntry x + uptoBulkEntries r
def uptoBulkEntry {H : Type} : Lit × DataW H → Nat
  | (.string bytes, d) => bytes.length + uptoBulk d + 1
  | (_, d) => uptoBulk d + 1
 end
def uptoSmall : (H : Type) → List (DataW H) → Bool := fun _ ds => decide (uptoBulkAll ds ≤ 1048576)
def OpenSpec.upto (s : _root_.Go.ChangeSpec) : _root_.Go.OpenSpec := { _root_.Go.OpenSpec.ofChange s with cond := some uptoSmall }

/-- 'computuslaw11.FootYears', WHERE WHAT IT READS IS OF BULK AT MOST 1048576: true; the input reads as it did. -/
def footYearsUptoRow : OpenClaim := { program := "ythbcicjkmgoliaadoor", sum := "29ecd3ab74c7ce34d935f851d2dcc9e21ab68c1b9fcf59266b0329e4cdb44433", func := "computus/computuslaw11.FootYears", spec := "footYears", unfollowed := true, recurses := true, named := ["computus/civil.lengths", "internal/strconv.uint64pow10", "math/bits.deBruijn32tab", "math/bits.deBruijn64tab"], apart := false, laid := [("computus/civil.lengths", laid_computus_civil_lengths), ("math/bits.deBruijn32tab", laid_math_bits_deBruijn32tab), ("math/bits.deBruijn64tab", laid_math_bits_deBruijn64tab), ("internal/strconv.uint64pow10", laid_internal_strconv_uint64pow10)], narrowed := true }
def FootYearsUptoSaid : Prop := footYearsUptoRow.holds Tryd.pinned (OpenSpec.upto footYearsSpec)

/-- 'computuslaw11.FootStands', WHERE WHAT IT READS IS OF BULK AT MOST 1048576: true; the input reads as it did. -/
def footStandsUptoRow : OpenClaim := { program := "ythbcicjkmgoliaadoor", sum := "29ecd3ab74c7ce34d935f851d2dcc9e21ab68c1b9fcf59266b0329e4cdb44433", func := "computus/computuslaw11.FootStands", spec := "footStands", unfollowed := true, recurses := true, named := ["computus/civil.lengths", "internal/strconv.uint64pow10", "math/bits.deBruijn32tab", "math/bits.deBruijn64tab"], apart := false, laid := [("computus/civil.lengths", laid_computus_civil_lengths), ("math/bits.deBruijn32tab", laid_math_bits_deBruijn32tab), ("math/bits.deBruijn64tab", laid_math_bits_deBruijn64tab), ("internal/strconv.uint64pow10", laid_internal_strconv_uint64pow10)], narrowed := true }
def FootStandsUptoSaid : Prop := footStandsUptoRow.holds Tryd.pinned (OpenSpec.upto footStandsSpec)

/-- 'computuslaw11.FootGoes', WHERE WHAT IT READS IS OF BULK AT MOST 1048576: true; the input reads as it did. -/
def footGoesUptoRow : OpenClaim := { program := "ythbcicjkmgoliaadoor", sum := "29ecd3ab74c7ce34d935f851d2dcc9e21ab68c1b9fcf59266b0329e4cdb44433", func := "computus/computuslaw11.FootGoes", spec := "footGoes", unfollowed := true, recurses := true, named := ["computus/civil.lengths", "internal/strconv.uint64pow10", "math/bits.deBruijn32tab", "math/bits.deBruijn64tab"], apart := false, laid := [("computus/civil.lengths", laid_computus_civil_lengths), ("math/bits.deBruijn32tab", laid_math_bits_deBruijn32tab), ("math/bits.deBruijn64tab", laid_math_bits_deBruijn64tab), ("internal/strconv.uint64pow10", laid_internal_strconv_uint64pow10)], narrowed := true }
def FootGoesUptoSaid : Prop := footGoesUptoRow.holds Tryd.pinned (OpenSpec.upto footGoesSpec)

/-- 'computuslaw11.FootAgain', WHERE WHAT IT READS IS OF BULK AT MOST 1048576: true; the input reads as it did. -/
def footAgainUptoRow : OpenClaim := { program := "ythbcicjkmgoliaadoor", sum := "29ecd3ab74c7ce34d935f851d2dcc9e21ab68c1b9fcf59266b0329e4cdb44433", func := "computus/computuslaw11.FootAgain", spec := "footAgain", unfollowed := true, recurses := true, named := ["computus/civil.lengths", "internal/strconv.uint64pow10", "math/bits.deBruijn32tab", "math/bits.deBruijn64tab"], apart := false, laid := [("computus/civil.lengths", laid_computus_civil_lengths), ("math/bits.deBruijn32tab", laid_math_bits_deBruijn32tab), ("math/bits.deBruijn64tab", laid_math_bits_deBruijn64tab), ("internal/strconv.uint64pow10", laid_internal_strconv_uint64pow10)], narrowed := true }
def FootAgainUptoSaid : Prop := footAgainUptoRow.holds Tryd.pinned (OpenSpec.upto footAgainSpec)

/-- 'computuslaw11.FootOrder', WHERE WHAT IT READS IS OF BULK AT MOST 1048576: true; the input reads as it did. -/
def footOrderUptoRow : OpenClaim := { program := "ythbcicjkmgoliaadoor", sum := "29ecd3ab74c7ce34d935f851d2dcc9e21ab68c1b9fcf59266b0329e4cdb44433", func := "computus/computuslaw11.FootOrder", spec := "footOrder", unfollowed := true, recurses := true, named := ["computus/civil.lengths", "internal/strconv.uint64pow10", "math/bits.deBruijn32tab", "math/bits.deBruijn64tab"], apart := false, laid := [("computus/civil.lengths", laid_computus_civil_lengths), ("math/bits.deBruijn32tab", laid_math_bits_deBruijn32tab), ("math/bits.deBruijn64tab", laid_math_bits_deBruijn64tab), ("internal/strconv.uint64pow10", laid_internal_strconv_uint64pow10)], narrowed := true }
def FootOrderUptoSaid : Prop := footOrderUptoRow.holds Tryd.pinned (OpenSpec.upto footOrderSpec)

/-- 'computuslaw11.FootSave', WHERE WHAT IT READS IS OF BULK AT MOST 1048576: true; the input reads as it did. -/
def footSaveUptoRow : OpenClaim := { program := "ythbcicjkmgoliaadoor", sum := "29ecd3ab74c7ce34d935f851d2dcc9e21ab68c1b9fcf59266b0329e4cdb44433", func := "computus/computuslaw11.FootSave", spec := "footSave", unfollowed := true, recurses := true, named := ["computus/civil.lengths", "internal/strconv.uint64pow10", "math/bits.deBruijn32tab", "math/bits.deBruijn64tab"], apart := false, laid := [("computus/civil.lengths", laid_computus_civil_lengths), ("math/bits.deBruijn32tab", laid_math_bits_deBruijn32tab), ("math/bits.deBruijn64tab", laid_math_bits_deBruijn64tab), ("internal/strconv.uint64pow10", laid_internal_strconv_uint64pow10)], narrowed := true }
def FootSaveUptoSaid : Prop := footSaveUptoRow.holds Tryd.pinned (OpenSpec.upto footSaveSpec)

end Rows
end Go.Proofs.YthbcicjkmgoliaaDoor
