/-
  NARROWER THAN 'FOR EVERY INPUT', by the rows' own cells (each row's printed sentence says how): KindFinds: laid · KindOne: laid · KindSame: laid.
  DERIVED. THE GIVEN ROWS OF THIS SEAT. 3 by the template 'for every input the law returns true; each argument reads behind the call as it read before'; 0 by the template 'total and deterministic' (their statements: YtcmefhnfdcngfaaDoorTotals.lean).
  GIVEN WITH THE SEED: the statements are not yours to turn. If you find one false, say at which input.
  Laid BY PROGRAM, IN A SANDBOX (cutbox-rows.mjs): the forced cells as the released guide's own fill.sh prints them over the translation 9f4ad100f447d6a4… (all of the seat's roots in one cut). By AI agents, Wed Nov 11 2026. No macro, syntax, notation, axiom, sorry.
-/
import Derived.Test.YtcmefhnfdcngfaaDoorChecked
import GoSem.PinnedTables
import GoSem.Claim
import GoSem.ClaimJoined
import GoSem.ClaimMapViews
import Derived.JoinedTies
import Derived.KernelRfl
namespace Go.Proofs.YtcmefhnfdcngfaaDoor
/- THE CELL 'sum', in the pinned program and in every row, IS THE sha256 OF THE DUMP (.gsa) THAT YtcmefhnfdcngfaaDoorProg.lean LOADS. Nothing in Lean hashes anything: it is a label: what it is worth is what the hold of that sum in a sandbox is worth. -/
noncomputable def Tryd.pinned : Pinned := { name := "ytcmefhnfdcngfaadoor", sum := "9f4ad100f447d6a4138f566948473c04fc198151f8e3b97eb9ac824c554cc08f", checked := Tryd.checked }
namespace Rows
def none {H : Type} : Left H := { results := [], args := [] }

/- WHAT THE LISTED PACKAGE-LEVEL VARIABLES READ AS WHEN THE CALL BEGINS. Each datum BY PROGRAM (the guide's laid-datum.mjs) off the statement by which the dump's own 'gosem.cut.vars' lays the variable. In a bare row this is a premise. The card (YtcmefhnfdcngfaaDoorCards.lean) ties it to the program's text. -/
def laid_unicode_utf8_acceptRanges {H : Type} : DataW H := .agg [.agg [.lit (.int .u8 128), .lit (.int .u8 191)], .agg [.lit (.int .u8 160), .lit (.int .u8 191)], .agg [.lit (.int .u8 128), .lit (.int .u8 159)], .agg [.lit (.int .u8 144), .lit (.int .u8 191)], .agg [.lit (.int .u8 128), .lit (.int .u8 143)], .agg [.lit (.int .u8 0), .lit (.int .u8 0)], .agg [.lit (.int .u8 0), .lit (.int .u8 0)], .agg [.lit (.int .u8 0), .lit (.int .u8 0)], .agg [.lit (.int .u8 0), .lit (.int .u8 0)], .agg [.lit (.int .u8 0), .lit (.int .u8 0)], .agg [.lit (.int .u8 0), .lit (.int .u8 0)], .agg [.lit (.int .u8 0), .lit (.int .u8 0)], .agg [.lit (.int .u8 0), .lit (.int .u8 0)], .agg [.lit (.int .u8 0), .lit (.int .u8 0)], .agg [.lit (.int .u8 0), .lit (.int .u8 0)], .agg [.lit (.int .u8 0), .lit (.int .u8 0)]]
def laid_computus_kind_kinds {H : Type} : DataW H := .agg [.lit (.string []), .lit (.string [98, 111, 111, 108]), .lit (.string [105, 110, 116]), .lit (.string [110, 117, 109, 101, 114, 105, 99]), .lit (.string [116, 101, 120, 116]), .lit (.string [100, 97, 116, 101]), .lit (.string [116, 105, 109, 101, 115, 116, 97, 109, 112]), .lit (.string [116, 105, 109, 101, 115, 116, 97, 109, 112, 116, 122]), .lit (.string [105, 110, 116, 101, 114, 118, 97, 108])]
/-- One of Go's own tables, pinned by name: the form's constant. -/
def laid_unicode_utf8_first : DataW Unit := Go.Pinned.utf8First

/-- 'computuslaw23.KindFinds': WHATEVER THE INPUT: true; the input reads as it did. -/
def kindFindsSpec : ChangeSpec := { name := "kindFinds", fn := fun _ => fun
  | [d1, d2, d3, d4] => { results := [.lit (.bool true)], args := [d1, d2, d3, d4] }
  | _ => none }
def kindFindsRow : OpenClaim := { program := "ytcmefhnfdcngfaadoor", sum := "9f4ad100f447d6a4138f566948473c04fc198151f8e3b97eb9ac824c554cc08f", func := "computus/computuslaw23.KindFinds", spec := "kindFinds", inPlace := ["internal/bytealg.CountString", "internal/bytealg.IndexByteString", "internal/bytealg.IndexString", "internal/abi.NoEscape", "internal/bytealg.MakeNoZero"], unfollowed := true, recurses := true, named := ["computus/kind.kinds", "unicode/utf8.first", "unicode/utf8.acceptRanges", "internal/bytealg.MaxLen"], apart := false, laid := [("unicode/utf8.acceptRanges", laid_unicode_utf8_acceptRanges), ("computus/kind.kinds", laid_computus_kind_kinds), ("unicode/utf8.first", laid_unicode_utf8_first)] }
def KindFindsSaid : Prop := kindFindsRow.holds Tryd.pinned (OpenSpec.ofChange kindFindsSpec)

/-- ITS FALSE NEIGHBOUR: 'it returns false'. Refute it at one input. -/
def kindFindsWrong : ChangeSpec := { name := "kindFinds", fn := fun _ => fun
  | [d1, d2, d3, d4] => { results := [.lit (.bool false)], args := [d1, d2, d3, d4] }
  | _ => none }
def KindFindsWrongFalsely : Prop := kindFindsRow.holds Tryd.pinned (OpenSpec.ofChange kindFindsWrong)

/-- 'computuslaw23.KindOne': WHATEVER THE INPUT: true; the input reads as it did. -/
def kindOneSpec : ChangeSpec := { name := "kindOne", fn := fun _ => fun
  | [d1, d2] => { results := [.lit (.bool true)], args := [d1, d2] }
  | _ => none }
def kindOneRow : OpenClaim := { program := "ytcmefhnfdcngfaadoor", sum := "9f4ad100f447d6a4138f566948473c04fc198151f8e3b97eb9ac824c554cc08f", func := "computus/computuslaw23.KindOne", spec := "kindOne", inPlace := ["internal/bytealg.CountString", "internal/bytealg.IndexByteString", "internal/bytealg.IndexString", "internal/abi.NoEscape", "internal/bytealg.MakeNoZero"], unfollowed := true, recurses := true, named := ["unicode/utf8.first", "unicode/utf8.acceptRanges", "internal/bytealg.MaxLen", "computus/kind.kinds"], apart := false, laid := [("unicode/utf8.acceptRanges", laid_unicode_utf8_acceptRanges), ("computus/kind.kinds", laid_computus_kind_kinds), ("unicode/utf8.first", laid_unicode_utf8_first)] }
def KindOneSaid : Prop := kindOneRow.holds Tryd.pinned (OpenSpec.ofChange kindOneSpec)

/-- ITS FALSE NEIGHBOUR: 'it returns false'. Refute it at one input. -/
def kindOneWrong : ChangeSpec := { name := "kindOne", fn := fun _ => fun
  | [d1, d2] => { results := [.lit (.bool false)], args := [d1, d2] }
  | _ => none }
def KindOneWrongFalsely : Prop := kindOneRow.holds Tryd.pinned (OpenSpec.ofChange kindOneWrong)

/-- 'computuslaw23.KindSame': WHATEVER THE INPUT: true; the input reads as it did. -/
def kindSameSpec : ChangeSpec := { name := "kindSame", fn := fun _ => fun
  | [d] => { results := [.lit (.bool true)], args := [d] }
  | _ => none }
def kindSameRow : OpenClaim := { program := "ytcmefhnfdcngfaadoor", sum := "9f4ad100f447d6a4138f566948473c04fc198151f8e3b97eb9ac824c554cc08f", func := "computus/computuslaw23.KindSame", spec := "kindSame", inPlace := ["internal/bytealg.CountString", "internal/bytealg.IndexByteString", "internal/bytealg.IndexString", "internal/abi.NoEscape", "internal/bytealg.MakeNoZero"], unfollowed := true, recurses := true, named := ["unicode/utf8.first", "unicode/utf8.acceptRanges", "internal/bytealg.MaxLen", "computus/kind.kinds"], apart := false, laid := [("unicode/utf8.acceptRanges", laid_unicode_utf8_acceptRanges), ("computus/kind.kinds", laid_computus_kind_kinds), ("unicode/utf8.first", laid_unicode_utf8_first)] }
def KindSameSaid : Prop := kindSameRow.holds Tryd.pinned (OpenSpec.ofChange kindSameSpec)

/-- ITS FALSE NEIGHBOUR: 'it returns false'. Refute it at one input. -/
def kindSameWrong : ChangeSpec := { name := "kindSame", fn := fun _ => fun
  | [d] => { results := [.lit (.bool false)], args := [d] }
  | _ => none }
def KindSameWrongFalsely : Prop := kindSameRow.holds Tryd.pinned (OpenSpec.ofChange kindSameWrong)

/- THE SECOND FORM. 'bulk': how many values and letters a reading holds, each counted each time it is reached (what is shared counts as often as it is met; a slice's spare places count too). A statement '..UptoSaid' is the law's where the arguments, and the package variables that the reading takes, are together of bulk at most 1048576: NARROWER than '..Said'. Prove '..Said' where nothing that the law and all that it calls make is longer than what came in: it says more and counts as full. Else prove '..UptoSaid'. A law counts once. -/
mutual
def uptoBulk {H : Type} : DataW H → Nat
  | .lit (.string bytes) => bytes.length + 1
  | .lit _ => 1
  | .nil => 1
  | .ptr d => uptoBulk d + 1
  | .slice elems spare => uptoBulkAll elems + uptoBulkAll spare + 1
  | .agg parts => uptoBulkAll parts + 1
  | .iface _ d => uptoBulk d + 1
  | .map entries => uptoBulkEntries entries + 1
  | .held _ => 1
def uptoBulkAll {H : Type} : List (DataW H) → Nat
  | [] => 0
  | d :: r => uptoBulk d + uptoBulkAll r
def uptoBulkEntries {H : Type} : List (Lit × DataW H) → Nat
  | [] => 0
  | x :: r => uptoBulkEntry x + uptoBulkEntries r
def uptoBulkEntry {H : Type} : Lit × DataW H → Nat
  | (.string bytes, d) => bytes.length + uptoBulk d + 1
  | (_, d) => uptoBulk d + 1
 end
def uptoSmall : (H : Type) → List (DataW H) → Bool := fun _ ds => decide (uptoBulkAll ds ≤ 1048576)
def OpenSpec.upto (s : _root_.Go.ChangeSpec) : _root_.Go.OpenSpec := { _root_.Go.OpenSpec.ofChange s with cond := some uptoSmall }

/-- 'computuslaw23.KindFinds', WHERE WHAT IT READS IS OF BULK AT MOST 1048576: true; the input reads as it did. -/
def kindFindsUptoRow : OpenClaim := { program := "ytcmefhnfdcngfaadoor", sum := "9f4ad100f447d6a4138f566948473c04fc198151f8e3b97eb9ac824c554cc08f", func := "computus/computuslaw23.KindFinds", spec := "kindFinds", inPlace := ["internal/bytealg.CountString", "internal/bytealg.IndexByteString", "internal/bytealg.IndexString", "internal/abi.NoEscape", "internal/bytealg.MakeNoZero"], unfollowed := true, recurses := true, named := ["computus/kind.kinds", "unicode/utf8.first", "unicode/utf8.acceptRanges", "internal/bytealg.MaxLen"], apart := false, laid := [("unicode/utf8.acceptRanges", laid_unicode_utf8_acceptRanges), ("computus/kind.kinds", laid_computus_kind_kinds), ("unicode/utf8.first", laid_unicode_utf8_first)], narrowed := true }
def KindFindsUptoSaid : Prop := kindFindsUptoRow.holds Tryd.pinned (OpenSpec.upto kindFindsSpec)

/-- 'computuslaw23.KindOne', WHERE WHAT IT READS IS OF BULK AT MOST 1048576: true; the input reads as it did. -/
def kindOneUptoRow : OpenClaim := { program := "ytcmefhnfdcngfaadoor", sum := "9f4ad100f447d6a4138f566948473c04fc198151f8e3b97eb9ac824c554cc08f", func := "computus/computuslaw23.KindOne", spec := "kindOne", inPlace := ["internal/bytealg.CountString", "internal/bytealg.IndexByteString", "internal/bytealg.IndexString", "internal/abi.NoEscape", "internal/bytealg.MakeNoZero"], unfollowed := true, recurses := true, named := ["unicode/utf8.first", "unicode/utf8.acceptRanges", "internal/bytealg.MaxLen", "computus/kind.kinds"], apart := false, laid := [("unicode/utf8.acceptRanges", laid_unicode_utf8_acceptRanges), ("computus/kind.kinds", laid_computus_kind_kinds), ("unicode/utf8.first", laid_unicode_utf8_first)], narrowed := true }
def KindOneUptoSaid : Prop := kindOneUptoRow.holds Tryd.pinned (OpenSpec.upto kindOneSpec)

/-- 'computuslaw23.KindSame', WHERE WHAT IT READS IS OF BULK AT MOST 1048576: true; the input reads as it did. -/
def kindSameUptoRow : OpenClaim := { program := "ytcmefhnfdcngfaadoor", sum := "9f4ad100f447d6a4138f566948473c04fc198151f8e3b97eb9ac824c554cc08f", func := "computus/computuslaw23.KindSame", spec := "kindSame", inPlace := ["internal/bytealg.CountString", "internal/bytealg.IndexByteString", "internal/bytealg.IndexString", "internal/abi.NoEscape", "internal/bytealg.MakeNoZero"], unfollowed := true, recurses := true, named := ["unicode/utf8.first", "unicode/utf8.acceptRanges", "internal/bytealg.MaxLen", "computus/kind.kinds"], apart := false, laid := [("unicode/utf8.acceptRanges", laid_unicode_utf8_acceptRanges), ("computus/kind.kinds", laid_computus_kind_kinds), ("unicode/utf8.first", laid_unicode_utf8_first)], narrowed := true }
def KindSameUptoSaid : Prop := kindSameUptoRow.holds Tryd.pinned (OpenSpec.upto kindSameSpec)

end Rows
end Go.Proofs.YtcmefhnfdcngfaaDoor
