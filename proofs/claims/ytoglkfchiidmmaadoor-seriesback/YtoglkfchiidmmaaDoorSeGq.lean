/- series: the reference's Count. -/
import Derived.Test.YtoglkfchiidmmaaDoorSeFq
namespace Go.Proofs.YtoglkfchiidmmaaDoor
open Go.RowKit
set_option linter.unusedVariables false

end Go.Proofs.YtoglkfchiidmmaaDoor
