/- src.Name of the name UTC. -/
import Derived.Test.YtdonjdihffpghaaDoorSrE
import Derived.Test.YtdonjdihffpghaaDoorShelf
import Derived.Test.YtdonjdihffpghaaDoorBlH
namespace Go.Proofs.YtdonjdihffpghaaDoor
open Go.RowKit Sr
set_option linter.unusedVariables false

theorem isP_fin : ∀ r : Fin 128, decide (0 ≤ Lib.indexByte [95, 45, 43, 47] ((r.val : Int).toNat.toUInt8)) = isP (r.val : Int) := by decide +kernel
theorem crune128 : CRune 128 := by
  intro R w h0 h1
  refine (Tryd.strings_ContainsRune_ascii ⟨#[95, 45, 43, 47]⟩ R w h0 h1).mono ?_
  rintro e w' ⟨rfl, rfl⟩
  refine ⟨?_, Below.refl _ _⟩
  have := isP_fin ⟨R.toNat, by omega⟩
  simp only [show ((R.toNat : Nat) : Int) = R by omega] at this
  rw [← this]
theorem name_utc (w : World) : Calls Tryd.prog 16 #[.string ⟨#[85, 84, 67]⟩] w fun e w' => e = .returned (.bool true) ∧ Below w.heap.size w w' :=
  name_any ⟨#[85, 84, 67]⟩ 128 crune128 (by
    intro pos hp
    have hp : pos < 3 := hp
    rcases pos with _ | _ | _ | pos
    · decide +kernel
    · decide +kernel
    · decide +kernel
    · omega) (by decide) w

end Go.Proofs.YtdonjdihffpghaaDoor
