/-
  NARROWER THAN 'FOR EVERY INPUT', by the rows' own cells (each row's printed sentence says how): DayParts: laid · DayMoves: laid · DayStamps: laid · DayBack: laid · DayWhole: laid · DaySorted: laid.
  DERIVED. THE GIVEN ROWS OF THIS SEAT. 6 by the template 'for every input the law returns true; each argument reads behind the call as it read before'; 0 by the template 'total and deterministic' (their statements: YtghfgabajdghiaaDoorTotals.lean).
  GIVEN WITH THE SEED: the statements are not yours to turn. If you find one false, say at which input.
  Laid BY PROGRAM, IN A SANDBOX (cutbox-rows.mjs): the forced cells as the released guide's own fill.sh prints them over the translation 2fe2310bc581e212… (all of the seat's roots in one cut). By AI agents, Wed Nov 11 2026. No macro, syntax, notation, axiom, sorry.
-/
import Derived.Test.YtghfgabajdghiaaDoorChecked
import GoSem.Claim
import GoSem.ClaimJoined
import GoSem.ClaimMapViews
import Derived.JoinedTies
import Derived.KernelRfl
namespace Go.Proofs.YtghfgabajdghiaaDoor
/- THE CELL 'sum', in the pinned program and in every row, IS THE sha256 OF THE DUMP (.gsa) THAT YtghfgabajdghiaaDoorProg.lean LOADS. Nothing in Lean hashes anything: it is a label: what it is worth is what the hold of that sum in a sandbox is worth. -/
noncomputable def Tryd.pinned : Pinned := { name := "ytghfgabajdghiaadoor", sum := "2fe2310bc581e212fde349b8a3c3e0161c93195074814b0c01dc1a0c3ebbdc89", checked := Tryd.checked }
namespace Rows
def none {H : Type} : Left H := { results := [], args := [] }

/- WHAT THE LISTED PACKAGE-LEVEL VARIABLES READ AS WHEN THE CALL BEGINS. Each datum BY PROGRAM (the guide's laid-datum.mjs) off the statement by which the dump's own 'gosem.cut.vars' lays the variable. In a bare row this is a premise. The card (YtghfgabajdghiaaDoorCards.lean) ties it to the program's text. -/
def laid_computus_civil_lengths {H : Type} : DataW H := .agg [.lit (.int .i64 31), .lit (.int .i64 28), .lit (.int .i64 31), .lit (.int .i64 30), .lit (.int .i64 31), .lit (.int .i64 30), .lit (.int .i64 31), .lit (.int .i64 31), .lit (.int .i64 30), .lit (.int .i64 31), .lit (.int .i64 30), .lit (.int .i64 31)]

/-- 'computuslaw15.DayParts': WHATEVER THE INPUT: true; the input reads as it did. -/
def dayPartsSpec : ChangeSpec := { name := "dayParts", fn := fun _ => fun
  | [d1, d2, d3, d4] => { results := [.lit (.bool true)], args := [d1, d2, d3, d4] }
  | _ => none }
def dayPartsRow : OpenClaim := { program := "ytghfgabajdghiaadoor", sum := "2fe2310bc581e212fde349b8a3c3e0161c93195074814b0c01dc1a0c3ebbdc89", func := "computus/computuslaw15.DayParts", spec := "dayParts", unfollowed := true, recurses := true, named := ["computus/civil.lengths"], apart := false, laid := [("computus/civil.lengths", laid_computus_civil_lengths)] }
def DayPartsSaid : Prop := dayPartsRow.holds Tryd.pinned (OpenSpec.ofChange dayPartsSpec)

/-- ITS FALSE NEIGHBOUR: 'it returns false'. Refute it at one input. -/
def dayPartsWrong : ChangeSpec := { name := "dayParts", fn := fun _ => fun
  | [d1, d2, d3, d4] => { results := [.lit (.bool false)], args := [d1, d2, d3, d4] }
  | _ => none }
def DayPartsWrongFalsely : Prop := dayPartsRow.holds Tryd.pinned (OpenSpec.ofChange dayPartsWrong)

/-- 'computuslaw15.DayMoves': WHATEVER THE INPUT: true; the input reads as it did. -/
def dayMovesSpec : ChangeSpec := { name := "dayMoves", fn := fun _ => fun
  | [d1, d2, d3] => { results := [.lit (.bool true)], args := [d1, d2, d3] }
  | _ => none }
def dayMovesRow : OpenClaim := { program := "ytghfgabajdghiaadoor", sum := "2fe2310bc581e212fde349b8a3c3e0161c93195074814b0c01dc1a0c3ebbdc89", func := "computus/computuslaw15.DayMoves", spec := "dayMoves", unfollowed := true, recurses := true, named := ["computus/civil.lengths"], apart := false, laid := [("computus/civil.lengths", laid_computus_civil_lengths)] }
def DayMovesSaid : Prop := dayMovesRow.holds Tryd.pinned (OpenSpec.ofChange dayMovesSpec)

/-- ITS FALSE NEIGHBOUR: 'it returns false'. Refute it at one input. -/
def dayMovesWrong : ChangeSpec := { name := "dayMoves", fn := fun _ => fun
  | [d1, d2, d3] => { results := [.lit (.bool false)], args := [d1, d2, d3] }
  | _ => none }
def DayMovesWrongFalsely : Prop := dayMovesRow.holds Tryd.pinned (OpenSpec.ofChange dayMovesWrong)

/-- 'computuslaw15.DayStamps': WHATEVER THE INPUT: true; the input reads as it did. -/
def dayStampsSpec : ChangeSpec := { name := "dayStamps", fn := fun _ => fun
  | [d1, d2, d3, d4] => { results := [.lit (.bool true)], args := [d1, d2, d3, d4] }
  | _ => none }
def dayStampsRow : OpenClaim := { program := "ytghfgabajdghiaadoor", sum := "2fe2310bc581e212fde349b8a3c3e0161c93195074814b0c01dc1a0c3ebbdc89", func := "computus/computuslaw15.DayStamps", spec := "dayStamps", unfollowed := true, recurses := true, named := ["computus/civil.lengths"], apart := false, laid := [("computus/civil.lengths", laid_computus_civil_lengths)] }
def DayStampsSaid : Prop := dayStampsRow.holds Tryd.pinned (OpenSpec.ofChange dayStampsSpec)

/-- ITS FALSE NEIGHBOUR: 'it returns false'. Refute it at one input. -/
def dayStampsWrong : ChangeSpec := { name := "dayStamps", fn := fun _ => fun
  | [d1, d2, d3, d4] => { results := [.lit (.bool false)], args := [d1, d2, d3, d4] }
  | _ => none }
def DayStampsWrongFalsely : Prop := dayStampsRow.holds Tryd.pinned (OpenSpec.ofChange dayStampsWrong)

/-- 'computuslaw15.DayBack': WHATEVER THE INPUT: true; the input reads as it did. -/
def dayBackSpec : ChangeSpec := { name := "dayBack", fn := fun _ => fun
  | [d1, d2, d3] => { results := [.lit (.bool true)], args := [d1, d2, d3] }
  | _ => none }
def dayBackRow : OpenClaim := { program := "ytghfgabajdghiaadoor", sum := "2fe2310bc581e212fde349b8a3c3e0161c93195074814b0c01dc1a0c3ebbdc89", func := "computus/computuslaw15.DayBack", spec := "dayBack", unfollowed := true, recurses := true, named := ["computus/civil.lengths"], apart := false, laid := [("computus/civil.lengths", laid_computus_civil_lengths)] }
def DayBackSaid : Prop := dayBackRow.holds Tryd.pinned (OpenSpec.ofChange dayBackSpec)

/-- ITS FALSE NEIGHBOUR: 'it returns false'. Refute it at one input. -/
def dayBackWrong : ChangeSpec := { name := "dayBack", fn := fun _ => fun
  | [d1, d2, d3] => { results := [.lit (.bool false)], args := [d1, d2, d3] }
  | _ => none }
def DayBackWrongFalsely : Prop := dayBackRow.holds Tryd.pinned (OpenSpec.ofChange dayBackWrong)

/-- 'computuslaw15.DayWhole': WHATEVER THE INPUT: true; the input reads as it did. -/
def dayWholeSpec : ChangeSpec := { name := "dayWhole", fn := fun _ => fun
  | [d] => { results := [.lit (.bool true)], args := [d] }
  | _ => none }
def dayWholeRow : OpenClaim := { program := "ytghfgabajdghiaadoor", sum := "2fe2310bc581e212fde349b8a3c3e0161c93195074814b0c01dc1a0c3ebbdc89", func := "computus/computuslaw15.DayWhole", spec := "dayWhole", unfollowed := true, recurses := true, named := ["computus/civil.lengths"], apart := false, laid := [("computus/civil.lengths", laid_computus_civil_lengths)] }
def DayWholeSaid : Prop := dayWholeRow.holds Tryd.pinned (OpenSpec.ofChange dayWholeSpec)

/-- ITS FALSE NEIGHBOUR: 'it returns false'. Refute it at one input. -/
def dayWholeWrong : ChangeSpec := { name := "dayWhole", fn := fun _ => fun
  | [d] => { results := [.lit (.bool false)], args := [d] }
  | _ => none }
def DayWholeWrongFalsely : Prop := dayWholeRow.holds Tryd.pinned (OpenSpec.ofChange dayWholeWrong)

/-- 'computuslaw15.DaySorted': WHATEVER THE INPUT: true; the input reads as it did. -/
def daySortedSpec : ChangeSpec := { name := "daySorted", fn := fun _ => fun
  | [d1, d2] => { results := [.lit (.bool true)], args := [d1, d2] }
  | _ => none }
def daySortedRow : OpenClaim := { program := "ytghfgabajdghiaadoor", sum := "2fe2310bc581e212fde349b8a3c3e0161c93195074814b0c01dc1a0c3ebbdc89", func := "computus/computuslaw15.DaySorted", spec := "daySorted", unfollowed := true, recurses := true, named := ["computus/civil.lengths"], apart := false, laid := [("computus/civil.lengths", laid_computus_civil_lengths)] }
def DaySortedSaid : Prop := daySortedRow.holds Tryd.pinned (OpenSpec.ofChange daySortedSpec)

/-- ITS FALSE NEIGHBOUR: 'it returns false'. Refute it at one input. -/
def daySortedWrong : ChangeSpec := { name := "daySorted", fn := fun _ => fun
  | [d1, d2] => { results := [.lit (.bool false)], args := [d1, d2] }
  | _ => none }
def DaySortedWrongFalsely : Prop := daySortedRow.holds Tryd.pinned (OpenSpec.ofChange daySortedWrong)

/- THE SECOND FORM. 'bulk': how many values and letters a reading holds, each counted each time it is reached (what is shared counts as often as it is met; a slice's spare places count too). A statement '..UptoSaid' is the law's where the arguments, and the package variables that the reading takes, are together of bulk at most 1048576: NARROWER than '..Said'. Prove '..Said' where nothing that the law and all that it calls make is longer than what came in: it says more and counts as full. Else prove '..UptoSaid'. A law counts once. -/
mutual
def uptoBulk {H : Type} : DataW H → Nat
  | .lit (.string bytes) => bytes.length + 1
  | .lit _ => 1
  | .nil => 1
  | .ptr d => uptoBulk d + 1
  | .slice elems spare => uptoBulkAll elems + uptoBulkAll spare + 1
  | .agg parts => uptoBulkAll parts + 1
  | .iface _ d => uptoBulk d + 1
  | .map entries => uptoBulkEntries entries + 1
  | .held _ => 1
def uptoBulkAll {H : Type} : List (DataW H) → Nat
  | [] => 0
  | d :: r => uptoBulk d + uptoBulkAll r
def uptoBulkEntries {H : Type} : List (Lit × DataW H) → Nat
  | [] => 0
  | x :: r => uptoBulkEntry x + uptoBulkEntries r
def uptoBulkEntry {H : Type} : Lit × DataW H → Nat
  | (.string bytes, d) => bytes.length + uptoBulk d + 1
  | (_, d) => uptoBulk d + 1
 end
def uptoSmall : (H : Type) → List (DataW H) → Bool := fun _ ds => decide (uptoBulkAll ds ≤ 1048576)
def OpenSpec.upto (s : _root_.Go.ChangeSpec) : _root_.Go.OpenSpec := { _root_.Go.OpenSpec.ofChange s with cond := some uptoSmall }

/-- 'computuslaw15.DayParts', WHERE WHAT IT READS IS OF BULK AT MOST 1048576: true; the input reads as it did. -/
def dayPartsUptoRow : OpenClaim := { program := "ytghfgabajdghiaadoor", sum := "2fe2310bc581e212fde349b8a3c3e0161c93195074814b0c01dc1a0c3ebbdc89", func := "computus/computuslaw15.DayParts", spec := "dayParts", unfollowed := true, recurses := true, named := ["computus/civil.lengths"], apart := false, laid := [("computus/civil.lengths", laid_computus_civil_lengths)], narrowed := true }
def DayPartsUptoSaid : Prop := dayPartsUptoRow.holds Tryd.pinned (OpenSpec.upto dayPartsSpec)

/-- 'computuslaw15.DayMoves', WHERE WHAT IT READS IS OF BULK AT MOST 1048576: true; the input reads as it did. -/
def dayMovesUptoRow : OpenClaim := { program := "ytghfgabajdghiaadoor", sum := "2fe2310bc581e212fde349b8a3c3e0161c93195074814b0c01dc1a0c3ebbdc89", func := "computus/computuslaw15.DayMoves", spec := "dayMoves", unfollowed := true, recurses := true, named := ["computus/civil.lengths"], apart := false, laid := [("computus/civil.lengths", laid_computus_civil_lengths)], narrowed := true }
def DayMovesUptoSaid : Prop := dayMovesUptoRow.holds Tryd.pinned (OpenSpec.upto dayMovesSpec)

/-- 'computuslaw15.DayStamps', WHERE WHAT IT READS IS OF BULK AT MOST 1048576: true; the input reads as it did. -/
def dayStampsUptoRow : OpenClaim := { program := "ytghfgabajdghiaadoor", sum := "2fe2310bc581e212fde349b8a3c3e0161c93195074814b0c01dc1a0c3ebbdc89", func := "computus/computuslaw15.DayStamps", spec := "dayStamps", unfollowed := true, recurses := true, named := ["computus/civil.lengths"], apart := false, laid := [("computus/civil.lengths", laid_computus_civil_lengths)], narrowed := true }
def DayStampsUptoSaid : Prop := dayStampsUptoRow.holds Tryd.pinned (OpenSpec.upto dayStampsSpec)

/-- 'computuslaw15.DayBack', WHERE WHAT IT READS IS OF BULK AT MOST 1048576: true; the input reads as it did. -/
def dayBackUptoRow : OpenClaim := { program := "ytghfgabajdghiaadoor", sum := "2fe2310bc581e212fde349b8a3c3e0161c93195074814b0c01dc1a0c3ebbdc89", func := "computus/computuslaw15.DayBack", spec := "dayBack", unfollowed := true, recurses := true, named := ["computus/civil.lengths"], apart := false, laid := [("computus/civil.lengths", laid_computus_civil_lengths)], narrowed := true }
def DayBackUptoSaid : Prop := dayBackUptoRow.holds Tryd.pinned (OpenSpec.upto dayBackSpec)

/-- 'computuslaw15.DayWhole', WHERE WHAT IT READS IS OF BULK AT MOST 1048576: true; the input reads as it did. -/
def dayWholeUptoRow : OpenClaim := { program := "ytghfgabajdghiaadoor", sum := "2fe2310bc581e212fde349b8a3c3e0161c93195074814b0c01dc1a0c3ebbdc89", func := "computus/computuslaw15.DayWhole", spec := "dayWhole", unfollowed := true, recurses := true, named := ["computus/civil.lengths"], apart := false, laid := [("computus/civil.lengths", laid_computus_civil_lengths)], narrowed := true }
def DayWholeUptoSaid : Prop := dayWholeUptoRow.holds Tryd.pinned (OpenSpec.upto dayWholeSpec)

/-- 'computuslaw15.DaySorted', WHERE WHAT IT READS IS OF BULK AT MOST 1048576: true; the input reads as it did. -/
def daySortedUptoRow : OpenClaim := { program := "ytghfgabajdghiaadoor", sum := "2fe2310bc581e212fde349b8a3c3e0161c93195074814b0c01dc1a0c3ebbdc89", func := "computus/computuslaw15.DaySorted", spec := "daySorted", unfollowed := true, recurses := true, named := ["computus/civil.lengths"], apart := false, laid := [("computus/civil.lengths", laid_computus_civil_lengths)], narrowed := true }
def DaySortedUptoSaid : Prop := daySortedUptoRow.holds Tryd.pinned (OpenSpec.upto daySortedSpec)

end Rows
end Go.Proofs.YtghfgabajdghiaaDoor
