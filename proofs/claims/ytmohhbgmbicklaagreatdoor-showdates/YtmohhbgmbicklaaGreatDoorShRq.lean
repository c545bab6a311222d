/- the reference's part, unit, size, sql, iso over their callees. -/
import Derived.Test.YtmohhbgmbicklaaGreatDoorShPq
import Derived.Deep.CutRange
import Derived.Deep.DeepCutAuto
import Derived.Test.YtmohhbgmbicklaaGreatDoorShQq
namespace Go.Proofs.YtmohhbgmbicklaaGreatDoor
open Go.RowKit
set_option linter.unusedVariables false



end Go.Proofs.YtmohhbgmbicklaaGreatDoor
