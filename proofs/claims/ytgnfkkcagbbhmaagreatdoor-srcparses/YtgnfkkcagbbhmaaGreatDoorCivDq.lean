/- Contracts, more: Days and Date, of civil and of the reference. -/
import Derived.Test.YtgnfkkcagbbhmaaGreatDoorCivCq
namespace Go.Proofs.YtgnfkkcagbbhmaaGreatDoor.Cvl
open Go.RowKit
set_option linter.unusedVariables false

end Go.Proofs.YtgnfkkcagbbhmaaGreatDoor.Cvl
