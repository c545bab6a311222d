/- What the law's fixed calls come to. -/
import Derived.Test.YtebjicnjbiiioaaDoorNumF
namespace Go.Proofs.YtebjicnjbiiioaaDoor
open Go.RowKit
set_option linter.unusedVariables false

end Go.Proofs.YtebjicnjbiiioaaDoor
