/- What the law's fixed calls come to. -/
import Derived.Test.YtgnfkkcagbbhmaaGreatDoorClkIq
namespace Go.Proofs.YtgnfkkcagbbhmaaGreatDoor.Clk
open Go.RowKit
set_option linter.unusedVariables false

end Go.Proofs.YtgnfkkcagbbhmaaGreatDoor.Clk
