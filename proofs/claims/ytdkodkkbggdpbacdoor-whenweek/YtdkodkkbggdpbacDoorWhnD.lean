/- Contracts: the reference's Day, whole. -/
import Derived.Test.YtdkodkkbggdpbacDoorWhnC
namespace Go.Proofs.YtdkodkkbggdpbacDoor
open Go.RowKit
set_option linter.unusedVariables false

theorem ret_pair {a b c : Int} (h : a = b) : Ending.returned (.tuple #[.int .i64 a, .int .i64 c]) = .returned (.tuple #[.int .i64 b, .int .i64 c]) := by rw [h]

end Go.Proofs.YtdkodkkbggdpbacDoor
