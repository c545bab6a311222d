/- Contract of clock.Offset. -/
import Derived.Test.YtgnfkkcagbbhmaaGreatDoorClkEq
namespace Go.Proofs.YtgnfkkcagbbhmaaGreatDoor.Clk
open Go.RowKit
set_option linter.unusedVariables false

end Go.Proofs.YtgnfkkcagbbhmaaGreatDoor.Clk
