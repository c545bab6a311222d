/- What the law's fixed calls come to. -/
import Derived.Test.YtghfgabajdghiaaDoorNumF
namespace Go.Proofs.YtghfgabajdghiaaDoor
open Go.RowKit
set_option linter.unusedVariables false

end Go.Proofs.YtghfgabajdghiaaDoor
