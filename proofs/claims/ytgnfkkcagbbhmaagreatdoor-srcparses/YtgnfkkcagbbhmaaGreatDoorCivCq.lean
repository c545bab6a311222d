/- Contracts, more: the reference's day, First, Last, Can, Days, Date; civil.First, Last, canBe, yearOf, Days, Date. -/
import Derived.Test.YtgnfkkcagbbhmaaGreatDoorCivBq
namespace Go.Proofs.YtgnfkkcagbbhmaaGreatDoor.Cvl
open Go.RowKit
set_option linter.unusedVariables false

end Go.Proofs.YtgnfkkcagbbhmaaGreatDoor.Cvl
