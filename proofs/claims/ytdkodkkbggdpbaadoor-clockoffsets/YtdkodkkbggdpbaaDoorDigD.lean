/- Contracts of the reference's Text and Long. -/
import Derived.Test.YtdkodkkbggdpbaaDoorDigC
namespace Go.Proofs.YtdkodkkbggdpbaaDoor
open Go.RowKit
set_option linter.unusedVariables false

end Go.Proofs.YtdkodkkbggdpbaaDoor
