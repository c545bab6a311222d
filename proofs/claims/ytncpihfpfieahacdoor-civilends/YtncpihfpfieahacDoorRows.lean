/-
  NARROWER THAN 'FOR EVERY INPUT', by the rows' own cells (each row's printed sentence says how): CivilBack: laid · CivilOrder: laid · CivilParts: laid · CivilEnds: laid.
  DERIVED. THE GIVEN ROWS OF THIS SEAT. 4 by the template 'for every input the law returns true; each argument reads behind the call as it read before'; 0 by the template 'total and deterministic' (their statements: YtncpihfpfieahacDoorTotals.lean).
  GIVEN WITH THE SEED: the statements are not yours to turn. If you find one false, say at which input.
  Laid BY PROGRAM, IN A SANDBOX (cutbox-rows.mjs): the forced cells as the released guide's own fill.sh prints them over the translation 1467aace5a50969e… (all of the seat's roots in one cut). By AI agents, Wed Nov 11 2026. No macro, syntax, notation, axiom, sorry.
-/
import Derived.Test.YtncpihfpfieahacDoorChecked
import GoSem.Claim
import GoSem.ClaimJoined
import GoSem.ClaimMapViews
import Derived.JoinedTies
import Derived.KernelRfl
namespace Go.Proofs.YtncpihfpfieahacDoor
/- THE CELL 'sum', in the pinned program and in every row, IS THE sha256 OF THE DUMP (.gsa) THAT YtncpihfpfieahacDoorProg.lean LOADS. Nothing in Lean hashes anything: it is a label: what it is worth is what the hold of that sum in a sandbox is worth. -/
noncomputable def Tryd.pinned : Pinned := { name := "ytncpihfpfieahacdoor", sum := "1467aace5a50969eb5a24c156d5425bb912d20249c4096e411944e3cde8a025c", checked := Tryd.checked }
namespace Rows
def none {H : Type} : Left H := { results := [], args := [] }

/- WHAT THE LISTED PACKAGE-LEVEL VARIABLES READ AS WHEN THE CALL BEGINS. Each datum BY PROGRAM (the guide's laid-datum.mjs) off the statement by which the dump's own 'gosem.cut.vars' lays the variable. In a bare row this is a premise. The card (YtncpihfpfieahacDoorCards.lean) ties it to the program's text. -/
def laid_computus_civil_lengths {H : Type} : DataW H := .agg [.lit (.int .i64 31), .lit (.int .i64 28), .lit (.int .i64 31), .lit (.int .i64 30), .lit (.int .i64 31), .lit (.int .i64 30), .lit (.int .i64 31), .lit (.int .i64 31), .lit (.int .i64 30), .lit (.int .i64 31), .lit (.int .i64 30), .lit (.int .i64 31)]

/-- 'computuslaw02.CivilBack': WHATEVER THE INPUT: true; the input reads as it did. -/
def civilBackSpec : ChangeSpec := { name := "civilBack", fn := fun _ => fun
  | [d] => { results := [.lit (.bool true)], args := [d] }
  | _ => none }
def civilBackRow : OpenClaim := { program := "ytncpihfpfieahacdoor", sum := "1467aace5a50969eb5a24c156d5425bb912d20249c4096e411944e3cde8a025c", func := "computus/computuslaw02.CivilBack", spec := "civilBack", named := ["computus/civil.lengths"], apart := false, laid := [("computus/civil.lengths", laid_computus_civil_lengths)] }
def CivilBackSaid : Prop := civilBackRow.holds Tryd.pinned (OpenSpec.ofChange civilBackSpec)

/-- ITS FALSE NEIGHBOUR: 'it returns false'. Refute it at one input. -/
def civilBackWrong : ChangeSpec := { name := "civilBack", fn := fun _ => fun
  | [d] => { results := [.lit (.bool false)], args := [d] }
  | _ => none }
def CivilBackWrongFalsely : Prop := civilBackRow.holds Tryd.pinned (OpenSpec.ofChange civilBackWrong)

/-- 'computuslaw02.CivilOrder': WHATEVER THE INPUT: true; the input reads as it did. -/
def civilOrderSpec : ChangeSpec := { name := "civilOrder", fn := fun _ => fun
  | [d1, d2, d3] => { results := [.lit (.bool true)], args := [d1, d2, d3] }
  | _ => none }
def civilOrderRow : OpenClaim := { program := "ytncpihfpfieahacdoor", sum := "1467aace5a50969eb5a24c156d5425bb912d20249c4096e411944e3cde8a025c", func := "computus/computuslaw02.CivilOrder", spec := "civilOrder", named := ["computus/civil.lengths"], apart := false, laid := [("computus/civil.lengths", laid_computus_civil_lengths)] }
def CivilOrderSaid : Prop := civilOrderRow.holds Tryd.pinned (OpenSpec.ofChange civilOrderSpec)

/-- ITS FALSE NEIGHBOUR: 'it returns false'. Refute it at one input. -/
def civilOrderWrong : ChangeSpec := { name := "civilOrder", fn := fun _ => fun
  | [d1, d2, d3] => { results := [.lit (.bool false)], args := [d1, d2, d3] }
  | _ => none }
def CivilOrderWrongFalsely : Prop := civilOrderRow.holds Tryd.pinned (OpenSpec.ofChange civilOrderWrong)

/-- 'computuslaw02.CivilParts': WHATEVER THE INPUT: true; the input reads as it did. -/
def civilPartsSpec : ChangeSpec := { name := "civilParts", fn := fun _ => fun
  | [d] => { results := [.lit (.bool true)], args := [d] }
  | _ => none }
def civilPartsRow : OpenClaim := { program := "ytncpihfpfieahacdoor", sum := "1467aace5a50969eb5a24c156d5425bb912d20249c4096e411944e3cde8a025c", func := "computus/computuslaw02.CivilParts", spec := "civilParts", named := ["computus/civil.lengths"], apart := false, laid := [("computus/civil.lengths", laid_computus_civil_lengths)] }
def CivilPartsSaid : Prop := civilPartsRow.holds Tryd.pinned (OpenSpec.ofChange civilPartsSpec)

/-- ITS FALSE NEIGHBOUR: 'it returns false'. Refute it at one input. -/
def civilPartsWrong : ChangeSpec := { name := "civilParts", fn := fun _ => fun
  | [d] => { results := [.lit (.bool false)], args := [d] }
  | _ => none }
def CivilPartsWrongFalsely : Prop := civilPartsRow.holds Tryd.pinned (OpenSpec.ofChange civilPartsWrong)

/-- 'computuslaw02.CivilEnds': WHATEVER THE INPUT: true; the input reads as it did. -/
def civilEndsSpec : ChangeSpec := { name := "civilEnds", fn := fun _ => fun
  | [d1, d2] => { results := [.lit (.bool true)], args := [d1, d2] }
  | _ => none }
def civilEndsRow : OpenClaim := { program := "ytncpihfpfieahacdoor", sum := "1467aace5a50969eb5a24c156d5425bb912d20249c4096e411944e3cde8a025c", func := "computus/computuslaw02.CivilEnds", spec := "civilEnds", named := ["computus/civil.lengths"], apart := false, laid := [("computus/civil.lengths", laid_computus_civil_lengths)] }
def CivilEndsSaid : Prop := civilEndsRow.holds Tryd.pinned (OpenSpec.ofChange civilEndsSpec)

/-- ITS FALSE NEIGHBOUR: 'it returns false'. Refute it at one input. -/
def civilEndsWrong : ChangeSpec := { name := "civilEnds", fn := fun _ => fun
  | [d1, d2] => { results := [.lit (.bool false)], args := [d1, d2] }
  | _ => none }
def CivilEndsWrongFalsely : Prop := civilEndsRow.holds Tryd.pinned (OpenSpec.ofChange civilEndsWrong)

/- THE SECOND FORM. 'bulk': how many values and letters a reading holds, each counted each time it is reached (what is shared counts as often as it is met; a slice's spare places count too). A statement '..UptoSaid' is the law's where the arguments, and the package variables that the reading takes, are together of bulk at most 1048576: NARROWER than '..Said'. Prove '..Said' where nothing that the law and all that it calls make is longer than what came in: it says more and counts as full. Else prove '..UptoSaid'. A law counts once. -/
mutual
def uptoBulk {H : Type} : DataW H → Nat
  | .lit (.string bytes) => bytes.length + 1
  | .lit _ => 1
  | .nil => 1
  | .ptr d => uptoBulk d + 1
  | .slice elems spare => uptoBulkAll elems + uptoBulkAll spare + 1
  | .agg parts => uptoBulkAll parts + 1
  | .iface _ d => uptoBulk d + 1
  | .map entries => uptoBulkEntries entries + 1
  | .held _ => 1
def uptoBulkAll {H : Type} : List (DataW H) → Nat
  | [] => 0
  | d :: r => uptoBulk d + uptoBulkAll r
def uptoBulkEntries {H : Type} : List (Lit × DataW H) → Nat
  | [] => 0
  | x :: r => uptoBulkEntry x + uptoBulkEntries r
def uptoBulkEntry {H : Type} : Lit × DataW H → Nat
  | (.string bytes, d) => bytes.length + uptoBulk d + 1
  | (_, d) => uptoBulk d + 1
 end
def uptoSmall : (H : Type) → List (DataW H) → Bool := fun _ ds => decide (uptoBulkAll ds ≤ 1048576)
def OpenSpec.upto (s : _root_.Go.ChangeSpec) : _root_.Go.OpenSpec := { _root_.Go.OpenSpec.ofChange s with cond := some uptoSmall }

/-- 'computuslaw02.CivilBack', WHERE WHAT IT READS IS OF BULK AT MOST 1048576: true; the input reads as it did. -/
def civilBackUptoRow : OpenClaim := { program := "ytncpihfpfieahacdoor", sum := "1467aace5a50969eb5a24c156d5425bb912d20249c4096e411944e3cde8a025c", func := "computus/computuslaw02.CivilBack", spec := "civilBack", named := ["computus/civil.lengths"], apart := false, laid := [("computus/civil.lengths", laid_computus_civil_lengths)], narrowed := true }
def CivilBackUptoSaid : Prop := civilBackUptoRow.holds Tryd.pinned (OpenSpec.upto civilBackSpec)

/-- 'computuslaw02.CivilOrder', WHERE WHAT IT READS IS OF BULK AT MOST 1048576: true; the input reads as it did. -/
def civilOrderUptoRow : OpenClaim := { program := "ytncpihfpfieahacdoor", sum := "1467aace5a50969eb5a24c156d5425bb912d20249c4096e411944e3cde8a025c", func := "computus/computuslaw02.CivilOrder", spec := "civilOrder", named := ["computus/civil.lengths"], apart := false, laid := [("computus/civil.lengths", laid_computus_civil_lengths)], narrowed := true }
def CivilOrderUptoSaid : Prop := civilOrderUptoRow.holds Tryd.pinned (OpenSpec.upto civilOrderSpec)

/-- 'computuslaw02.CivilParts', WHERE WHAT IT READS IS OF BULK AT MOST 1048576: true; the input reads as it did. -/
def civilPartsUptoRow : OpenClaim := { program := "ytncpihfpfieahacdoor", sum := "1467aace5a50969eb5a24c156d5425bb912d20249c4096e411944e3cde8a025c", func := "computus/computuslaw02.CivilParts", spec := "civilParts", named := ["computus/civil.lengths"], apart := false, laid := [("computus/civil.lengths", laid_computus_civil_lengths)], narrowed := true }
def CivilPartsUptoSaid : Prop := civilPartsUptoRow.holds Tryd.pinned (OpenSpec.upto civilPartsSpec)

/-- 'computuslaw02.CivilEnds', WHERE WHAT IT READS IS OF BULK AT MOST 1048576: true; the input reads as it did. -/
def civilEndsUptoRow : OpenClaim := { program := "ytncpihfpfieahacdoor", sum := "1467aace5a50969eb5a24c156d5425bb912d20249c4096e411944e3cde8a025c", func := "computus/computuslaw02.CivilEnds", spec := "civilEnds", named := ["computus/civil.lengths"], apart := false, laid := [("computus/civil.lengths", laid_computus_civil_lengths)], narrowed := true }
def CivilEndsUptoSaid : Prop := civilEndsUptoRow.holds Tryd.pinned (OpenSpec.upto civilEndsSpec)

end Rows
end Go.Proofs.YtncpihfpfieahacDoor
