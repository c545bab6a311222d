/- Contracts of clock.belowSixty, clock.Make, clock.Parts, and the reference's Make and Parts: each answers the plain number, for every argument. -/
import Derived.Test.YtmohhbgmbicklaaGreatDoorRows
import Derived.WalkKit
import Derived.WalkSpells
import Derived.WalkLawsBesides
namespace Go.Proofs.YtmohhbgmbicklaaGreatDoor.Clk
open Go.RowKit
set_option linter.unusedVariables false

theorem ret_int {k : IntKind} {a b : Int} (h : a = b) : Ending.returned (.int k a) = .returned (.int k b) := by rw [h]
theorem ret_bool {a b : Bool} (h : a = b) : Ending.returned (.bool a) = .returned (.bool b) := by rw [h]
theorem ret_two {k l : IntKind} {a b c d : Int} (h : a = b) (g : c = d) : Ending.returned (.tuple #[.int k a, .int l c]) = .returned (.tuple #[.int k b, .int l d]) := by rw [h, g]

/-- can these parts be a time of a day? -/
def mkOk (h m s us : Int) : Prop := 0 ≤ h ∧ h ≤ 24 ∧ 0 ≤ m ∧ m ≤ 59 ∧ 0 ≤ s ∧ s ≤ 59 ∧ 0 ≤ us ∧ us ≤ 999999 ∧ h * 3600000000 + m * 60000000 + s * 1000000 + us ≤ 86400000000
instance (h m s us : Int) : Decidable (mkOk h m s us) := by unfold mkOk; infer_instance
end Go.Proofs.YtmohhbgmbicklaaGreatDoor.Clk
