/- Contracts, more: the reference's Leap, Len, Right, start, day; civil.Len, Right, newYear. -/
import Derived.Test.YtgnfkkcagbbhmaaGreatDoorCivAq
namespace Go.Proofs.YtgnfkkcagbbhmaaGreatDoor.Cvl
open Go.RowKit
set_option linter.unusedVariables false

/-- can the date be? -/
def right (y m d : Int) : Bool := decide (-4718 ≤ y ∧ y ≤ 294282 ∧ 1 ≤ d ∧ d ≤ Cv.len y m)
end Go.Proofs.YtgnfkkcagbbhmaaGreatDoor.Cvl
