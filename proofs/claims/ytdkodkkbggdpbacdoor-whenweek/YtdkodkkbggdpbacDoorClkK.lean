/- What the law's fixed calls come to. -/
import Derived.Test.YtdkodkkbggdpbacDoorClkI
namespace Go.Proofs.YtdkodkkbggdpbacDoor.Clk
open Go.RowKit
set_option linter.unusedVariables false

end Go.Proofs.YtdkodkkbggdpbacDoor.Clk
