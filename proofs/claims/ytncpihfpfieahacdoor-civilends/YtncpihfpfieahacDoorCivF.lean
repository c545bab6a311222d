/- Contracts, more: Week and Shift, of civil and of the reference; what the laws' fixed calls come to. -/
import Derived.Test.YtncpihfpfieahacDoorCivE
namespace Go.Proofs.YtncpihfpfieahacDoor
open Go.RowKit
set_option linter.unusedVariables false

/-- the Thursday of a day's week. -/
def thu (n : Int) : Int := n - ((n + 6) % 7 + 6) % 7 + 3
theorem thu_eq (n : Int) : thu n = n - ((n + 6) % 7 + 6) % 7 + 3 := rfl
theorem thu_bd (n : Int) : n - 3 ≤ thu n ∧ thu n ≤ n + 3 := by unfold thu; omega
theorem week_bd {n y : Int} (n1 : -2453698 ≤ n) (n2 : n ≤ 106754173) (a1 : Cv.S y ≤ thu n) (a2 : thu n < Cv.S (y + 1)) : -4720 ≤ y ∧ y ≤ 294284 := by
  have b := thu_bd n
  have c := S_first
  have d := S_last
  have e : Cv.S (-4719) = -2454063 := by decide
  have f : Cv.S 294284 = 106754539 := by decide
  have g : -4719 < y + 1 := Cv.S_lt (by omega)
  have h : y < 294284 := Cv.S_lt (by omega)
  omega
theorem S_in {t y : Int} (a1 : Cv.S y ≤ t) (a2 : t < Cv.S (y + 1)) : 0 ≤ t - Cv.S y ∧ t - Cv.S y ≤ 366 := by
  have := Cv.S_succ y
  have := Cv.lp_01 y
  omega

set_option maxHeartbeats 400000 in
theorem week_no (n : Int) (h : can n = false) (w : World) :
    Calls Tryd.prog 19 #[.int .i64 n] w fun e w' => e = .returned (.tuple #[.int .i64 0, .int .i64 0, .int .i64 10]) ∧ w' = w := by
  go_enter Tryd.func19, Tryd.ntmps19
  go_wp2_with (go_at_call 21; refine (can_any _ _).mono ?_; rintro e w' ⟨rfl, rfl⟩)
  go_ret3
  exact ⟨rfl, rfl⟩

theorem ret_three {a b c a' b' c' : Int} (h1 : a = a') (h2 : b = b') (h3 : c = c') : Ending.returned (.tuple #[.int .i64 a, .int .i64 b, .int .i64 c]) = .returned (.tuple #[.int .i64 a', .int .i64 b', .int .i64 c']) := by rw [h1, h2, h3]

set_option maxHeartbeats 800000 in
theorem week_yes (n y : Int) (h : can n = true) (a1 : Cv.S y ≤ thu n) (a2 : thu n < Cv.S (y + 1)) (w : World) :
    Calls Tryd.prog 19 #[.int .i64 n] w fun e w' => e = .returned (.tuple #[.int .i64 y, .int .i64 ((thu n - Cv.S y) / 7 + 1), .int .i64 0]) ∧ w' = w := by
  obtain ⟨n1, n2⟩ := of_can h
  obtain ⟨y1, y2⟩ := week_bd n1 n2 a1 a2
  obtain ⟨s1, s2⟩ := S_bd y (by omega) (by omega)
  obtain ⟨t1, t2⟩ := thu_bd n
  obtain ⟨r1, r2⟩ := S_in a1 a2
  have H1 : Hid (∀ w : World, Calls Tryd.prog 22 #[.int .i64 (thu n)] w fun e w' => e = .returned (.int .i64 y) ∧ w' = w) := fun w => yearOf_any (thu n) y (by omega) (by omega) a1 a2 w
  obtain ⟨d, hd⟩ : ∃ d, d = (n + 6) % 7 := ⟨_, rfl⟩
  have W1 : Hid (∀ w : World, Calls Tryd.prog 14 #[.int .i64 n] w fun e w' => e = .returned (.int .i64 d) ∧ w' = w) := by
    intro w; rw [hd]; exact weekday_any n w
  have d1 : 0 ≤ d := by omega
  have d2 : d < 7 := by omega
  have et : n - (d + 7 - 1) % 7 + 3 = thu n := by rw [thu_eq, ← hd]; omega
  generalize thu n = t at *
  clear a1 a2 hd
  go_enter Tryd.func19, Tryd.ntmps19
  go_wp2_with fail
  refine (can_any _ _).mono ?_
  rintro e w1 ⟨rfl, rfl⟩
  go_wp2_with fail
  refine (W1.out _).mono ?_
  rintro e w1 ⟨rfl, rfl⟩
  go_wp2_with fail
  refine (H1.out _).mono ?_
  rintro e w1 ⟨rfl, rfl⟩
  go_wp2_with fail
  refine (new_any _ (by omega) (by omega) _).mono ?_
  rintro e w1 ⟨rfl, rfl⟩
  go_wp2
  go_ret3
  exact ⟨rfl, rfl⟩

end Go.Proofs.YtncpihfpfieahacDoor
