/- Contracts of clock.Parts and the reference's Parts: hours, minutes, seconds, microseconds. -/
import Derived.Test.YtdkodkkbggdpbacDoorClkA
namespace Go.Proofs.YtdkodkkbggdpbacDoor.Clk
open Go.RowKit
set_option linter.unusedVariables false

/-- a time of a day? -/
def isT (t : Int) : Prop := 0 ≤ t ∧ t ≤ 86400000000
instance (t : Int) : Decidable (isT t) := by unfold isT; infer_instance
def tm (x : Int) (t : Int) : Int := if isT t then x else 0
def tmE (t : Int) : Int := if isT t then 0 else 10

end Go.Proofs.YtdkodkkbggdpbacDoor.Clk
