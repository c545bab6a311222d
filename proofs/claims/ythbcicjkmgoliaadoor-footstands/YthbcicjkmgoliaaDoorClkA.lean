/- Contracts of clock.belowSixty, clock.Make, clock.Parts, and the reference's Make and Parts: each answers the plain number, for every argument. -/
import Derived.Test.YthbcicjkmgoliaaDoorRows
import Derived.WalkKit
import Derived.WalkSpells
import Derived.WalkLawsBesides
namespace Go.Proofs.YthbcicjkmgoliaaDoor.Clk
open Go.RowKit
set_option linter.unusedVariables false

theorem ret_int {k : IntKind} {a b : Int} (h : a = b) : Ending.returned (.int k a) = .returned (.int k b) := by rw [h]
theorem ret_bool {a b : Bool} (h : a = b) : Ending.returned (.bool a) = .returned (.bool b) := by rw [h]
theorem ret_two {k l : IntKind} {a b c d : Int} (h : a = b) (g : c = d) : Ending.returned (.tuple #[.int k a, .int l c]) = .returned (.tuple #[.int k b, .int l d]) := by rw [h, g]

/-- can these parts be a time of a day? -/
def mkOk (h m s us : Int) : Prop := 0 ≤ h ∧ h ≤ 24 ∧ 0 ≤ m ∧ m ≤ 59 ∧ 0 ≤ s ∧ s ≤ 59 ∧ 0 ≤ us ∧ us ≤ 999999 ∧ h * 3600000000 + m * 60000000 + s * 1000000 + us ≤ 86400000000
instance (h m s us : Int) : Decidable (mkOk h m s us) := by unfold mkOk; infer_instance
def mkV (h m s us : Int) : Int := if mkOk h m s us then h * 3600000000 + m * 60000000 + s * 1000000 + us else 0
def mkE (h m s us : Int) : Int := if mkOk h m s us then 0 else 10
theorem mkV_in {h m s us : Int} (x : mkOk h m s us) : mkV h m s us = h * 3600000000 + m * 60000000 + s * 1000000 + us := if_pos x
theorem mkE_in {h m s us : Int} (x : mkOk h m s us) : mkE h m s us = 0 := if_pos x
theorem mkV_out {h m s us : Int} (x : ¬ mkOk h m s us) : mkV h m s us = 0 := if_neg x
theorem mkE_out {h m s us : Int} (x : ¬ mkOk h m s us) : mkE h m s us = 10 := if_neg x

end Go.Proofs.YthbcicjkmgoliaaDoor.Clk
