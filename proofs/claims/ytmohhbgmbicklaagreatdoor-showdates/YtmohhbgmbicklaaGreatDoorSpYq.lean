/- SpD, SpE, as one text. -/
import Derived.Test.YtmohhbgmbicklaaGreatDoorSpXq
import Derived.Test.YtmohhbgmbicklaaGreatDoorBxZq
import Derived.Test.YtmohhbgmbicklaaGreatDoorBxCq
import Derived.Deep.Cut
import Derived.Test.YtmohhbgmbicklaaGreatDoorWiZq
/- Intervals so many times, turned: way by way. -/
namespace Go.Proofs.YtmohhbgmbicklaaGreatDoor.Sp
open Go.RowKit
set_option linter.unusedVariables false

end Go.Proofs.YtmohhbgmbicklaaGreatDoor.Sp

/- Intervals turned, together, apart, so many times: what each function answers, the program's and the reference's alike. -/
namespace Go.Proofs.YtmohhbgmbicklaaGreatDoor.Sp
open Go.RowKit
set_option linter.unusedVariables false

end Go.Proofs.YtmohhbgmbicklaaGreatDoor.Sp
