/- The reference's postgres: an interval in words. -/
import Derived.Test.YtmohhbgmbicklaaGreatDoorShWq
import Derived.Test.YtmohhbgmbicklaaGreatDoorShRq
import Derived.Test.YtmohhbgmbicklaaGreatDoorDigDq
namespace Go.Proofs.YtmohhbgmbicklaaGreatDoor
open Go.RowKit
set_option linter.unusedVariables false


end Go.Proofs.YtmohhbgmbicklaaGreatDoor
