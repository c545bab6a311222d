/- Contracts of clock.Text, clock.Long, clock.Offset. -/
import Derived.Test.YtgnfkkcagbbhmaaGreatDoorClkDq
namespace Go.Proofs.YtgnfkkcagbbhmaaGreatDoor.Clk
open Go.RowKit
set_option linter.unusedVariables false

end Go.Proofs.YtgnfkkcagbbhmaaGreatDoor.Clk
