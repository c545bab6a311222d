/- law17's known, over its callees. -/
import Derived.Test.YtpdmndlpgjjopaaGreatDoorStBerq
import Derived.Test.YtpdmndlpgjjopaaGreatDoorStIq
import Derived.Test.YtpdmndlpgjjopaaGreatDoorStBq
import Derived.Test.YtpdmndlpgjjopaaGreatDoorBxCq
namespace Go.Proofs.YtpdmndlpgjjopaaGreatDoor
open Go.RowKit
set_option linter.unusedVariables false


end Go.Proofs.YtpdmndlpgjjopaaGreatDoor
