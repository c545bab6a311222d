/- stamp: Sub, monthOf, gone, Age whole. -/
import Derived.Test.YtpdmndlpgjjopaaGreatDoorStMq
import Derived.Test.YtpdmndlpgjjopaaGreatDoorSpYq
namespace Go.Proofs.YtpdmndlpgjjopaaGreatDoor
open Go.RowKit
set_option linter.unusedVariables false

end Go.Proofs.YtpdmndlpgjjopaaGreatDoor
