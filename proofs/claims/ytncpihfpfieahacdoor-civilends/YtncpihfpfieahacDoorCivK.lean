/- What the civil laws' fixed calls come to. -/
import Derived.Test.YtncpihfpfieahacDoorCivG
namespace Go.Proofs.YtncpihfpfieahacDoor
open Go.RowKit
set_option linter.unusedVariables false

theorem kd (y m d n : Int) (h : right y m d = true) (e : Cv.S y + Cv.cum y m + d - 1 = n) (w : World) (hw : Lens w) :
    Calls Tryd.prog 10 #[.int .i64 y, .int .i64 m, .int .i64 d] w fun e w' => e = .returned (.tuple #[.int .i64 n, .int .i64 0]) ∧ w' = w := by
  rw [← e]; exact days_yes y m d h w hw

theorem kw (w : World) : Calls Tryd.prog 19 #[.int .i64 7673] w fun e w' => e = .returned (.tuple #[.int .i64 2020, .int .i64 53, .int .i64 0]) ∧ w' = w :=
  week_yes 7673 2020 (by decide) (by decide) (by decide) w
theorem ks (w : World) (hw : Lens w) : Calls Tryd.prog 15 #[.int .i64 8796, .int .i64 1] w fun e w' => e = .returned (.tuple #[.int .i64 8825, .int .i64 0]) ∧ w' = w := by
  have h := shift_any 8796 2024 1 31 1 (by decide) (by unfold Cv.Is; decide) w hw
  have e1 : shV 2024 1 31 1 = 8825 := by decide
  have e2 : shE 2024 1 31 1 = 0 := by decide
  rw [e1, e2] at h
  exact h

set_option maxHeartbeats 1000000 in
theorem known_any (w : World) (hw : Lens w) : Calls Tryd.prog 9 #[] w fun e w' => e = .returned (.bool true) ∧ w' = w := by
  go_enter Tryd.func9, Tryd.ntmps9
  go_wp2_with fail
  refine (kd 1999 12 31 (-1) (by decide) (by decide) _ hw).mono ?_
  rintro e w1 ⟨rfl, rfl⟩
  go_wp2_with fail
  refine (kd 2000 3 1 60 (by decide) (by decide) _ hw).mono ?_
  rintro e w1 ⟨rfl, rfl⟩
  go_wp2_with fail
  refine (kd 2021 1 3 7673 (by decide) (by decide) _ hw).mono ?_
  rintro e w1 ⟨rfl, rfl⟩
  go_wp2_with fail
  refine (kw _).mono ?_
  rintro e w1 ⟨rfl, rfl⟩
  go_wp2_with fail
  refine (kd 2024 1 31 8796 (by decide) (by decide) _ hw).mono ?_
  rintro e w1 ⟨rfl, rfl⟩
  go_wp2_with fail
  refine (kd 2024 2 29 8825 (by decide) (by decide) _ hw).mono ?_
  rintro e w1 ⟨rfl, rfl⟩
  go_wp2_with fail
  refine (ks _ hw).mono ?_
  rintro e w1 ⟨rfl, rfl⟩
  go_wp2_with fail
  refine (weekday_any _ _).mono ?_
  rintro e w1 ⟨rfl, rfl⟩
  go_wp2
  go_ret
  exact ⟨rfl, rfl⟩

end Go.Proofs.YtncpihfpfieahacDoor
