/- What the law's fixed calls come to. -/
import Derived.Test.YtdkodkkbggdpbabDoorClkI
namespace Go.Proofs.YtdkodkkbggdpbabDoor.Clk
open Go.RowKit
set_option linter.unusedVariables false

end Go.Proofs.YtdkodkkbggdpbabDoor.Clk
