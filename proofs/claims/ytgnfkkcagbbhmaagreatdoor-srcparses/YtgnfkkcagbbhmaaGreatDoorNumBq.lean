/- Contracts of math/bits.Len64, LeadingZeros64, Mul64, as this program's own translation has them. -/
import Derived.Test.YtgnfkkcagbbhmaaGreatDoorNumAq
import Derived.Lib.Strings
import Derived.Lib.Slices
import Derived.Lib.Small
import Derived.Lib.Walk
import Derived.Lib.BitFns
import Derived.Lib.Mul64
import Derived.Laws.Bits64b
namespace Go.Proofs.YtgnfkkcagbbhmaaGreatDoor
open Go.RowKit
set_option linter.unusedVariables false

end Go.Proofs.YtgnfkkcagbbhmaaGreatDoor
