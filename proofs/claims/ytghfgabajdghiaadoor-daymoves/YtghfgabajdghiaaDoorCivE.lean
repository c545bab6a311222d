/- Contracts, more: Weekday, YearDay, Week, of civil and of the reference. -/
import Derived.Test.YtghfgabajdghiaaDoorCivD
namespace Go.Proofs.YtghfgabajdghiaaDoor.Cvl
open Go.RowKit
set_option linter.unusedVariables false

theorem wd_fold (n : Int) : (n % 7 + 6) % 7 = (n + 6) % 7 := by omega
theorem wd_t (n : Int) : (n.tmod 7 + 7 + 6) % 7 = (n + 6) % 7 ∧ -6 ≤ n.tmod 7 ∧ n.tmod 7 ≤ 6 := by
  have bd := Nm.tmod_bd (a := n) (b := 7) (by decide)
  by_cases h : n.tmod 7 < 0
  · have := mod_up (a := n) (b := 7) (by decide) h; omega
  · have := mod_same (a := n) (b := 7) (by decide) h; omega

end Go.Proofs.YtghfgabajdghiaaDoor.Cvl
