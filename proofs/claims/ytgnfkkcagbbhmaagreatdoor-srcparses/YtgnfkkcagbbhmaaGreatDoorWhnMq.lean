/- Contracts: when.TextOn and the reference's. -/
import Derived.Test.YtgnfkkcagbbhmaaGreatDoorWhnLq
import Derived.Test.YtgnfkkcagbbhmaaGreatDoorDigAq
namespace Go.Proofs.YtgnfkkcagbbhmaaGreatDoor
open Go.RowKit
set_option linter.unusedVariables false

end Go.Proofs.YtgnfkkcagbbhmaaGreatDoor
