/- What the law's fixed calls come to. -/
import Derived.Test.YtghfgabajdghiabNumF
namespace Go.Proofs.Ytghfgabajdghiab
open Go.RowKit
set_option linter.unusedVariables false

end Go.Proofs.Ytghfgabajdghiab
