/- Contracts of clock.Fraction, clock.face, clock.Text, clock.Long, clock.Offset. -/
import Derived.Test.YtgnfkkcagbbhmaaGreatDoorClkCq
import Derived.Lib.TrimByte
namespace Go.Proofs.YtgnfkkcagbbhmaaGreatDoor.Clk
open Go.RowKit
set_option linter.unusedVariables false

end Go.Proofs.YtgnfkkcagbbhmaaGreatDoor.Clk
