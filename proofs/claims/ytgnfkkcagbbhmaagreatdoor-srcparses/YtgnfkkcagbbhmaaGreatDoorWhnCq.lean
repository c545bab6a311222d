/- Contracts: when.Day and the reference's Day, whole. -/
import Derived.Test.YtgnfkkcagbbhmaaGreatDoorWhnBq
namespace Go.Proofs.YtgnfkkcagbbhmaaGreatDoor
open Go.RowKit
set_option linter.unusedVariables false

def dyA (m k d n : Int) : Prop := okOn k d n ∧ 1 ≤ m ∧ m ≤ 12
instance (m k d n : Int) : Decidable (dyA m k d n) := by unfold dyA; infer_instance
def dyY (y : Int) : Prop := -4718 < y ∧ y < 294282
instance (y : Int) : Decidable (dyY y) := by unfold dyY; infer_instance
def stp (up : Bool) (n0 j : Int) : Int := if up = true then n0 + j else n0 - j
end Go.Proofs.YtgnfkkcagbbhmaaGreatDoor
