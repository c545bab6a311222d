/- Contracts of clock.Parts and the reference's Parts: hours, minutes, seconds, microseconds. -/
import Derived.Test.YtgnfkkcagbbhmaaGreatDoorClkAq
namespace Go.Proofs.YtgnfkkcagbbhmaaGreatDoor.Clk
open Go.RowKit
set_option linter.unusedVariables false

/-- a time of a day? -/
def isT (t : Int) : Prop := 0 ≤ t ∧ t ≤ 86400000000
instance (t : Int) : Decidable (isT t) := by unfold isT; infer_instance
end Go.Proofs.YtgnfkkcagbbhmaaGreatDoor.Clk
