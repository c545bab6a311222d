/- Contracts, more: Weekday, YearDay, Week, of civil and of the reference. -/
import Derived.Test.YtgnfkkcagbbhmaaGreatDoorCivDq
namespace Go.Proofs.YtgnfkkcagbbhmaaGreatDoor.Cvl
open Go.RowKit
set_option linter.unusedVariables false

end Go.Proofs.YtgnfkkcagbbhmaaGreatDoor.Cvl
