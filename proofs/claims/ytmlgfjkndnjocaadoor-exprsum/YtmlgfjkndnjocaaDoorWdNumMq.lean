/- Plain mathematics of digits as a number. -/
import Derived.Test.YtmlgfjkndnjocaaDoorWdWholeq
namespace Go.Proofs.YtmlgfjkndnjocaaDoor
set_option linter.unusedVariables false

/-! ### where a text stands among others -/
end Go.Proofs.YtmlgfjkndnjocaaDoor
