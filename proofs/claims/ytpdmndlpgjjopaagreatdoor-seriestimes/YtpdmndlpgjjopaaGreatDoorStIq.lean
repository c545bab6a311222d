/- law17: a stamp of a date and a time. -/
import Derived.Test.YtpdmndlpgjjopaaGreatDoorStAq
import Derived.Test.YtpdmndlpgjjopaaGreatDoorBxCq
namespace Go.Proofs.YtpdmndlpgjjopaaGreatDoor
open Go.RowKit
set_option linter.unusedVariables false


end Go.Proofs.YtpdmndlpgjjopaaGreatDoor
