/- stamp: Sub, gone, Age, way by way. -/
import Derived.Test.YtoglkfchiidmmaaDoorStBq
import Derived.Test.YtoglkfchiidmmaaDoorBxCq
namespace Go.Proofs.YtoglkfchiidmmaaDoor
open Go.RowKit
set_option linter.unusedVariables false


end Go.Proofs.YtoglkfchiidmmaaDoor
