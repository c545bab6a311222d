/-
  NARROWER THAN 'FOR EVERY INPUT', by the rows' own cells (each row's printed sentence says how): CivilYears: laid · CivilDays: laid · CivilWeeks: laid · CivilShifts: laid.
  DERIVED. THE GIVEN ROWS OF THIS SEAT. 4 by the template 'for every input the law returns true; each argument reads behind the call as it read before'; 0 by the template 'total and deterministic' (their statements: YtncpihfpfieahabDoorTotals.lean).
  GIVEN WITH THE SEED: the statements are not yours to turn. If you find one false, say at which input.
  Laid BY PROGRAM, IN A SANDBOX (cutbox-rows.mjs): the forced cells as the released guide's own fill.sh prints them over the translation c4a591246532abcf… (all of the seat's roots in one cut). By AI agents, Wed Nov 11 2026. No macro, syntax, notation, axiom, sorry.
-/
import Derived.Test.YtncpihfpfieahabDoorChecked
import GoSem.Claim
import GoSem.ClaimJoined
import GoSem.ClaimMapViews
import Derived.JoinedTies
import Derived.KernelRfl
namespace Go.Proofs.YtncpihfpfieahabDoor
/- THE CELL 'sum', in the pinned program and in every row, IS THE sha256 OF THE DUMP (.gsa) THAT YtncpihfpfieahabDoorProg.lean LOADS. Nothing in Lean hashes anything: it is a label: what it is worth is what the hold of that sum in a sandbox is worth. -/
noncomputable def Tryd.pinned : Pinned := { name := "ytncpihfpfieahabdoor", sum := "c4a591246532abcfc216b124953e230f9ceeab306da7e86d173f7fe4edf73055", checked := Tryd.checked }
namespace Rows
def none {H : Type} : Left H := { results := [], args := [] }

/- WHAT THE LISTED PACKAGE-LEVEL VARIABLES READ AS WHEN THE CALL BEGINS. Each datum BY PROGRAM (the guide's laid-datum.mjs) off the statement by which the dump's own 'gosem.cut.vars' lays the variable. In a bare row this is a premise. The card (YtncpihfpfieahabDoorCards.lean) ties it to the program's text. -/
def laid_computus_civil_lengths {H : Type} : DataW H := .agg [.lit (.int .i64 31), .lit (.int .i64 28), .lit (.int .i64 31), .lit (.int .i64 30), .lit (.int .i64 31), .lit (.int .i64 30), .lit (.int .i64 31), .lit (.int .i64 31), .lit (.int .i64 30), .lit (.int .i64 31), .lit (.int .i64 30), .lit (.int .i64 31)]

/-- 'computuslaw02.CivilYears': WHATEVER THE INPUT: true; the input reads as it did. -/
def civilYearsSpec : ChangeSpec := { name := "civilYears", fn := fun _ => fun
  | [d1, d2, d3] => { results := [.lit (.bool true)], args := [d1, d2, d3] }
  | _ => none }
def civilYearsRow : OpenClaim := { program := "ytncpihfpfieahabdoor", sum := "c4a591246532abcfc216b124953e230f9ceeab306da7e86d173f7fe4edf73055", func := "computus/computuslaw02.CivilYears", spec := "civilYears", named := ["computus/civil.lengths"], apart := false, laid := [("computus/civil.lengths", laid_computus_civil_lengths)] }
def CivilYearsSaid : Prop := civilYearsRow.holds Tryd.pinned (OpenSpec.ofChange civilYearsSpec)

/-- ITS FALSE NEIGHBOUR: 'it returns false'. Refute it at one input. -/
def civilYearsWrong : ChangeSpec := { name := "civilYears", fn := fun _ => fun
  | [d1, d2, d3] => { results := [.lit (.bool false)], args := [d1, d2, d3] }
  | _ => none }
def CivilYearsWrongFalsely : Prop := civilYearsRow.holds Tryd.pinned (OpenSpec.ofChange civilYearsWrong)

/-- 'computuslaw02.CivilDays': WHATEVER THE INPUT: true; the input reads as it did. -/
def civilDaysSpec : ChangeSpec := { name := "civilDays", fn := fun _ => fun
  | [d1, d2, d3, d4] => { results := [.lit (.bool true)], args := [d1, d2, d3, d4] }
  | _ => none }
def civilDaysRow : OpenClaim := { program := "ytncpihfpfieahabdoor", sum := "c4a591246532abcfc216b124953e230f9ceeab306da7e86d173f7fe4edf73055", func := "computus/computuslaw02.CivilDays", spec := "civilDays", named := ["computus/civil.lengths"], apart := false, laid := [("computus/civil.lengths", laid_computus_civil_lengths)] }
def CivilDaysSaid : Prop := civilDaysRow.holds Tryd.pinned (OpenSpec.ofChange civilDaysSpec)

/-- ITS FALSE NEIGHBOUR: 'it returns false'. Refute it at one input. -/
def civilDaysWrong : ChangeSpec := { name := "civilDays", fn := fun _ => fun
  | [d1, d2, d3, d4] => { results := [.lit (.bool false)], args := [d1, d2, d3, d4] }
  | _ => none }
def CivilDaysWrongFalsely : Prop := civilDaysRow.holds Tryd.pinned (OpenSpec.ofChange civilDaysWrong)

/-- 'computuslaw02.CivilWeeks': WHATEVER THE INPUT: true; the input reads as it did. -/
def civilWeeksSpec : ChangeSpec := { name := "civilWeeks", fn := fun _ => fun
  | [d] => { results := [.lit (.bool true)], args := [d] }
  | _ => none }
def civilWeeksRow : OpenClaim := { program := "ytncpihfpfieahabdoor", sum := "c4a591246532abcfc216b124953e230f9ceeab306da7e86d173f7fe4edf73055", func := "computus/computuslaw02.CivilWeeks", spec := "civilWeeks", named := ["computus/civil.lengths"], apart := false, laid := [("computus/civil.lengths", laid_computus_civil_lengths)] }
def CivilWeeksSaid : Prop := civilWeeksRow.holds Tryd.pinned (OpenSpec.ofChange civilWeeksSpec)

/-- ITS FALSE NEIGHBOUR: 'it returns false'. Refute it at one input. -/
def civilWeeksWrong : ChangeSpec := { name := "civilWeeks", fn := fun _ => fun
  | [d] => { results := [.lit (.bool false)], args := [d] }
  | _ => none }
def CivilWeeksWrongFalsely : Prop := civilWeeksRow.holds Tryd.pinned (OpenSpec.ofChange civilWeeksWrong)

/-- 'computuslaw02.CivilShifts': WHATEVER THE INPUT: true; the input reads as it did. -/
def civilShiftsSpec : ChangeSpec := { name := "civilShifts", fn := fun _ => fun
  | [d1, d2] => { results := [.lit (.bool true)], args := [d1, d2] }
  | _ => none }
def civilShiftsRow : OpenClaim := { program := "ytncpihfpfieahabdoor", sum := "c4a591246532abcfc216b124953e230f9ceeab306da7e86d173f7fe4edf73055", func := "computus/computuslaw02.CivilShifts", spec := "civilShifts", named := ["computus/civil.lengths"], apart := false, laid := [("computus/civil.lengths", laid_computus_civil_lengths)] }
def CivilShiftsSaid : Prop := civilShiftsRow.holds Tryd.pinned (OpenSpec.ofChange civilShiftsSpec)

/-- ITS FALSE NEIGHBOUR: 'it returns false'. Refute it at one input. -/
def civilShiftsWrong : ChangeSpec := { name := "civilShifts", fn := fun _ => fun
  | [d1, d2] => { results := [.lit (.bool false)], args := [d1, d2] }
  | _ => none }
def CivilShiftsWrongFalsely : Prop := civilShiftsRow.holds Tryd.pinned (OpenSpec.ofChange civilShiftsWrong)

/- THE SECOND FORM. 'bulk': how many values and letters a reading holds, each counted each time it is reached (what is shared counts as often as it is met; a slice's spare places count too). A statement '..UptoSaid' is the law's where the arguments, and the package variables that the reading takes, are together of bulk at most 1048576: NARROWER than '..Said'. Prove '..Said' where nothing that the law and all that it calls make is longer than what came in: it says more and counts as full. Else prove '..UptoSaid'. A law counts once. -/
mutual
def uptoBulk {H : Type} : DataW H → Nat
  | .lit (.string bytes) => bytes.length + 1
  | .lit _ => 1
  | .nil => 1
  | .ptr d => uptoBulk d + 1
  | .slice elems spare => uptoBulkAll elems + uptoBulkAll spare + 1
  | .agg parts => uptoBulkAll parts + 1
  | .iface _ d => uptoBulk d + 1
  | .map entries => uptoBulkEntries entries + 1
  | .held _ => 1
def uptoBulkAll {H : Type} : List (DataW H) → Nat
  | [] => 0
  | d :: r => uptoBulk d + uptoBulkAll r
def uptoBulkEntries {H : Type} : List (Lit × DataW H) → Nat
  | [] => 0
  | x :: r => uptoBulkEntry x + uptoBulkEntries r
def uptoBulkEntry {H : Type} : Lit × DataW H → Nat
  | (.string bytes, d) => bytes.length + uptoBulk d + 1
  | (_, d) => uptoBulk d + 1
 end
def uptoSmall : (H : Type) → List (DataW H) → Bool := fun _ ds => decide (uptoBulkAll ds ≤ 1048576)
def OpenSpec.upto (s : _root_.Go.ChangeSpec) : _root_.Go.OpenSpec := { _root_.Go.OpenSpec.ofChange s with cond := some uptoSmall }

/-- 'computuslaw02.CivilYears', WHERE WHAT IT READS IS OF BULK AT MOST 1048576: true; the input reads as it did. -/
def civilYearsUptoRow : OpenClaim := { program := "ytncpihfpfieahabdoor", sum := "c4a591246532abcfc216b124953e230f9ceeab306da7e86d173f7fe4edf73055", func := "computus/computuslaw02.CivilYears", spec := "civilYears", named := ["computus/civil.lengths"], apart := false, laid := [("computus/civil.lengths", laid_computus_civil_lengths)], narrowed := true }
def CivilYearsUptoSaid : Prop := civilYearsUptoRow.holds Tryd.pinned (OpenSpec.upto civilYearsSpec)

/-- 'computuslaw02.CivilDays', WHERE WHAT IT READS IS OF BULK AT MOST 1048576: true; the input reads as it did. -/
def civilDaysUptoRow : OpenClaim := { program := "ytncpihfpfieahabdoor", sum := "c4a591246532abcfc216b124953e230f9ceeab306da7e86d173f7fe4edf73055", func := "computus/computuslaw02.CivilDays", spec := "civilDays", named := ["computus/civil.lengths"], apart := false, laid := [("computus/civil.lengths", laid_computus_civil_lengths)], narrowed := true }
def CivilDaysUptoSaid : Prop := civilDaysUptoRow.holds Tryd.pinned (OpenSpec.upto civilDaysSpec)

/-- 'computuslaw02.CivilWeeks', WHERE WHAT IT READS IS OF BULK AT MOST 1048576: true; the input reads as it did. -/
def civilWeeksUptoRow : OpenClaim := { program := "ytncpihfpfieahabdoor", sum := "c4a591246532abcfc216b124953e230f9ceeab306da7e86d173f7fe4edf73055", func := "computus/computuslaw02.CivilWeeks", spec := "civilWeeks", named := ["computus/civil.lengths"], apart := false, laid := [("computus/civil.lengths", laid_computus_civil_lengths)], narrowed := true }
def CivilWeeksUptoSaid : Prop := civilWeeksUptoRow.holds Tryd.pinned (OpenSpec.upto civilWeeksSpec)

/-- 'computuslaw02.CivilShifts', WHERE WHAT IT READS IS OF BULK AT MOST 1048576: true; the input reads as it did. -/
def civilShiftsUptoRow : OpenClaim := { program := "ytncpihfpfieahabdoor", sum := "c4a591246532abcfc216b124953e230f9ceeab306da7e86d173f7fe4edf73055", func := "computus/computuslaw02.CivilShifts", spec := "civilShifts", named := ["computus/civil.lengths"], apart := false, laid := [("computus/civil.lengths", laid_computus_civil_lengths)], narrowed := true }
def CivilShiftsUptoSaid : Prop := civilShiftsUptoRow.holds Tryd.pinned (OpenSpec.upto civilShiftsSpec)

end Rows
end Go.Proofs.YtncpihfpfieahabDoor
