/- stamp.Age whole. -/
import Derived.Test.YtpdmndlpgjjopaaGreatDoorStGq
namespace Go.Proofs.YtpdmndlpgjjopaaGreatDoor
open Go.RowKit
set_option linter.unusedVariables false

end Go.Proofs.YtpdmndlpgjjopaaGreatDoor
