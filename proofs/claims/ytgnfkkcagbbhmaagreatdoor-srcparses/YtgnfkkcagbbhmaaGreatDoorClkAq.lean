/- Contracts of clock.belowSixty, clock.Make, clock.Parts, and the reference's Make and Parts: each answers the plain number, for every argument. -/
import Derived.Test.YtgnfkkcagbbhmaaGreatDoorRows
import Derived.WalkKit
import Derived.WalkSpells
import Derived.WalkLawsBesides
namespace Go.Proofs.YtgnfkkcagbbhmaaGreatDoor.Clk
open Go.RowKit
set_option linter.unusedVariables false

theorem ret_bool {a b : Bool} (h : a = b) : Ending.returned (.bool a) = .returned (.bool b) := by rw [h]
/-- can these parts be a time of a day? -/
def mkOk (h m s us : Int) : Prop := 0 ≤ h ∧ h ≤ 24 ∧ 0 ≤ m ∧ m ≤ 59 ∧ 0 ≤ s ∧ s ≤ 59 ∧ 0 ≤ us ∧ us ≤ 999999 ∧ h * 3600000000 + m * 60000000 + s * 1000000 + us ≤ 86400000000
instance (h m s us : Int) : Decidable (mkOk h m s us) := by unfold mkOk; infer_instance
def mkV (h m s us : Int) : Int := if mkOk h m s us then h * 3600000000 + m * 60000000 + s * 1000000 + us else 0
def mkE (h m s us : Int) : Int := if mkOk h m s us then 0 else 10
theorem mkV_in {h m s us : Int} (x : mkOk h m s us) : mkV h m s us = h * 3600000000 + m * 60000000 + s * 1000000 + us := if_pos x
theorem mkE_in {h m s us : Int} (x : mkOk h m s us) : mkE h m s us = 0 := if_pos x
theorem mkV_out {h m s us : Int} (x : ¬ mkOk h m s us) : mkV h m s us = 0 := if_neg x
theorem mkE_out {h m s us : Int} (x : ¬ mkOk h m s us) : mkE h m s us = 10 := if_neg x

set_option maxHeartbeats 1000000 in
theorem make_any (h m s us : Int) (w : World) :
    Calls Tryz.prog 202 #[.int .i64 h, .int .i64 m, .int .i64 s, .int .i64 us] w fun e w' => e = .returned (.tuple #[.int .i64 (mkV h m s us), .int .i64 (mkE h m s us)]) ∧ w' = w := by
  by_cases x : mkOk h m s us
  · rw [mkV_in x, mkE_in x]
    obtain ⟨h1, h2, h3, h4, h5, h6, h7, h8, h9⟩ := x
    go_enter Tryz.func202, Tryz.ntmps202
    go_wp2
    go_ret2
    exact ⟨rfl, rfl⟩
  · rw [mkV_out x, mkE_out x]
    go_enter Tryz.func202, Tryz.ntmps202
    go_wp2
    all_goals first
      | (go_ret2; exact ⟨rfl, rfl⟩)
      | (exfalso; apply x; unfold mkOk; omega)

end Go.Proofs.YtgnfkkcagbbhmaaGreatDoor.Clk
