/- SpD, SpE, as one text. -/
import Derived.Test.YtofmmdfdiaahhaaGreatDoorSpXq
import Derived.Test.YtofmmdfdiaahhaaGreatDoorBxZq
import Derived.Test.YtofmmdfdiaahhaaGreatDoorBxCq
import Derived.Deep.Cut
import Derived.Test.YtofmmdfdiaahhaaGreatDoorWiZq
/- Intervals so many times, turned: way by way. -/
namespace Go.Proofs.YtofmmdfdiaahhaaGreatDoor.Sp
open Go.RowKit
set_option linter.unusedVariables false


end Go.Proofs.YtofmmdfdiaahhaaGreatDoor.Sp

/- Intervals turned, together, apart, so many times: what each function answers, the program's and the reference's alike. -/
namespace Go.Proofs.YtofmmdfdiaahhaaGreatDoor.Sp
open Go.RowKit
set_option linter.unusedVariables false

end Go.Proofs.YtofmmdfdiaahhaaGreatDoor.Sp
