/- Contracts, more: Week and Shift, of civil and of the reference; what the laws' fixed calls come to. -/
import Derived.Test.YtghfgabajdghiaaDoorCivE
namespace Go.Proofs.YtghfgabajdghiaaDoor.Cvl
open Go.RowKit
set_option linter.unusedVariables false

/-- the Thursday of a day's week. -/
def thu (n : Int) : Int := n - ((n + 6) % 7 + 6) % 7 + 3
theorem thu_eq (n : Int) : thu n = n - ((n + 6) % 7 + 6) % 7 + 3 := rfl
theorem thu_bd (n : Int) : n - 3 ≤ thu n ∧ thu n ≤ n + 3 := by unfold thu; omega
theorem week_bd {n y : Int} (n1 : -2453698 ≤ n) (n2 : n ≤ 106754173) (a1 : Cv.S y ≤ thu n) (a2 : thu n < Cv.S (y + 1)) : -4720 ≤ y ∧ y ≤ 294284 := by
  have b := thu_bd n
  have c := S_first
  have d := S_last
  have e : Cv.S (-4719) = -2454063 := by decide
  have f : Cv.S 294284 = 106754539 := by decide
  have g : -4719 < y + 1 := Cv.S_lt (by omega)
  have h : y < 294284 := Cv.S_lt (by omega)
  omega
theorem S_in {t y : Int} (a1 : Cv.S y ≤ t) (a2 : t < Cv.S (y + 1)) : 0 ≤ t - Cv.S y ∧ t - Cv.S y ≤ 366 := by
  have := Cv.S_succ y
  have := Cv.lp_01 y
  omega

theorem ret_three {a b c a' b' c' : Int} (h1 : a = a') (h2 : b = b') (h3 : c = c') : Ending.returned (.tuple #[.int .i64 a, .int .i64 b, .int .i64 c]) = .returned (.tuple #[.int .i64 a', .int .i64 b', .int .i64 c']) := by rw [h1, h2, h3]

end Go.Proofs.YtghfgabajdghiaaDoor.Cvl
