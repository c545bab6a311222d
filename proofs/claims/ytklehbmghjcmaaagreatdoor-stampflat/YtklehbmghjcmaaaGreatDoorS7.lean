import Derived.Test.YtklehbmghjcmaaaGreatDoorSz
import Derived.Test.YtklehbmghjcmaaaGreatDoorS3
open Go.Value renaming int → vi
open Go.IntKind renaming i64 → ki
open List renaming setIfInBounds_toArray → zb, set_cons_zero → zc, set_cons_succ → zd
open Go.Act renaming put → za
open Go.Ending renaming returned → zr
set_option maxRecDepth 100000
set_option maxHeartbeats 16000000
set_option linter.unusedVariables false
namespace Go.Proofs.YtklehbmghjcmaaaGreatDoor
open Go.RowKit
def offB (o : Int) : Bool := decide (-57600 ≤ o) && decide (o ≤ 57600)
theorem isOff_any (o : Int) (w : World) : Calls Tryz.prog 74 #[vi ki o] w fun e w' => e = zr (.bool (offB o)) ∧ w' = w := by
 go_enter Tryz.func74, Tryz.ntmps74
 go_wp2
 all_goals (go_ret; exact ⟨by congr 2; unfold offB; by_cases a1 : -57600 ≤ o <;> by_cases a2 : o ≤ 57600 <;> simp_all <;> omega, rfl⟩)
end Go.Proofs.YtklehbmghjcmaaaGreatDoor
