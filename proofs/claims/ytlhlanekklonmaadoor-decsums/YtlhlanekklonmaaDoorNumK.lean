/- What the law's fixed calls come to. -/
import Derived.Test.YtlhlanekklonmaaDoorNumF
namespace Go.Proofs.YtlhlanekklonmaaDoor
open Go.RowKit
set_option linter.unusedVariables false

end Go.Proofs.YtlhlanekklonmaaDoor
