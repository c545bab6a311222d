/- Seconds ahead that clocks may stand. -/
import Derived.Test.YtpdmndlpgjjopaaGreatDoorZmZq
namespace Go.Proofs.YtpdmndlpgjjopaaGreatDoor
open Go.RowKit
set_option linter.unusedVariables false

def offB (o : Int) : Bool := decide (-57600 ≤ o) && decide (o ≤ 57600)

set_option maxRecDepth 100000 in
set_option maxHeartbeats 4000000 in
theorem isOff_any (o : Int) (w : World) : Calls Tryz.prog 32 #[.int .i64 o] w fun e w' => e = .returned (.bool (offB o)) ∧ w' = w := by
  go_enter Tryz.func32, Tryz.ntmps32
  go_wp2
  all_goals (go_ret; exact ⟨by congr 2; unfold offB; by_cases a1 : -57600 ≤ o <;> by_cases a2 : o ≤ 57600 <;> simp_all <;> omega, rfl⟩)

end Go.Proofs.YtpdmndlpgjjopaaGreatDoor
