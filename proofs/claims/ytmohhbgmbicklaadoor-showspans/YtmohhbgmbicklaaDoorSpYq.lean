/- SpD, SpE, as one text. -/
import Derived.Test.YtmohhbgmbicklaaDoorSpXq
import Derived.Test.YtmohhbgmbicklaaDoorBxZq
import Derived.Test.YtmohhbgmbicklaaDoorBxCq
import Derived.Deep.Cut
import Derived.Test.YtmohhbgmbicklaaDoorWiZq
/- Intervals so many times, turned: way by way. -/
namespace Go.Proofs.YtmohhbgmbicklaaDoor.Sp
open Go.RowKit
set_option linter.unusedVariables false


end Go.Proofs.YtmohhbgmbicklaaDoor.Sp

/- Intervals turned, together, apart, so many times: what each function answers, the program's and the reference's alike. -/
namespace Go.Proofs.YtmohhbgmbicklaaDoor.Sp
open Go.RowKit
set_option linter.unusedVariables false

end Go.Proofs.YtmohhbgmbicklaaDoor.Sp
