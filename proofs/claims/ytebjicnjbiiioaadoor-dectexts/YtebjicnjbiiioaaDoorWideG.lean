/- Contracts, more: Add, Sub, Neg of the reference, and num.Sub, num.Neg. -/
import Derived.Test.YtebjicnjbiiioaaDoorWideF
namespace Go.Proofs.YtebjicnjbiiioaaDoor
open Go.RowKit
set_option linter.unusedVariables false

theorem small_sum {a b : Int} (h1 : -9223372036854775808 ≤ a) (h2 : a ≤ 9223372036854775807) (h3 : -9223372036854775808 ≤ b) (h4 : b ≤ 9223372036854775807) : a.natAbs + b.natAbs < 4294967296 ^ 6 :=
  Nat.lt_of_le_of_lt (show a.natAbs + b.natAbs ≤ 18446744073709551616 by omega) (by decide)

end Go.Proofs.YtebjicnjbiiioaaDoor
