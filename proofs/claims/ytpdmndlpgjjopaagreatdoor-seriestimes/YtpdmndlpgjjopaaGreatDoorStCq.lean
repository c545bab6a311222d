/- stamp: Sub, gone, Age, way by way. -/
import Derived.Test.YtpdmndlpgjjopaaGreatDoorStBq
import Derived.Test.YtpdmndlpgjjopaaGreatDoorBxCq
namespace Go.Proofs.YtpdmndlpgjjopaaGreatDoor
open Go.RowKit
set_option linter.unusedVariables false


end Go.Proofs.YtpdmndlpgjjopaaGreatDoor
