/- What the law's fixed calls come to. -/
import Derived.Test.YtlhlanekklonmaaNumF
namespace Go.Proofs.Ytlhlanekklonmaa
open Go.RowKit
set_option linter.unusedVariables false

theorem k_div (w : World) : Calls Try.prog 8 #[.int .i64 (-7), .int .i64 2] w fun e w' => e = .returned (.tuple #[.int .i64 (-4), .int .i64 0]) ∧ w' = w :=
  div_in (-7) 2 (by decide) (by decide) (by decide) (by decide) (by decide) (.inr (by decide)) w
theorem k_mod (w : World) : Calls Try.prog 9 #[.int .i64 (-7), .int .i64 2] w fun e w' => e = .returned (.tuple #[.int .i64 1, .int .i64 0]) ∧ w' = w :=
  mod_in (-7) 2 (by decide) (by decide) (by decide) w
theorem k_out (w : World) : Calls Try.prog 10 #[.int .i64 4611686018427387904, .int .i64 9, .int .i64 4] w fun e w' => e = .returned (.tuple #[.int .i64 0, .int .i64 10]) ∧ Below w.heap.size w w' := by
  have h := scale_any 4611686018427387904 9 4 (by decide) (by decide) (by decide) (by decide) (by decide) (by decide) (by decide) w
  have e : ((4611686018427387904 : Int) * 9).fdiv 4 = 10376293541461622784 := by decide
  rw [e, smV_out (by decide), smE_out (by decide)] at h
  exact h
theorem k_in (w : World) : Calls Try.prog 10 #[.int .i64 4611686018427387904, .int .i64 3, .int .i64 4] w fun e w' => e = .returned (.tuple #[.int .i64 3458764513820540928, .int .i64 0]) ∧ Below w.heap.size w w' := by
  have h := scale_any 4611686018427387904 3 4 (by decide) (by decide) (by decide) (by decide) (by decide) (by decide) (by decide) w
  have e : ((4611686018427387904 : Int) * 3).fdiv 4 = 3458764513820540928 := by decide
  rw [e, smV_in (by decide) (by decide), smE_in (by decide) (by decide)] at h
  exact h

set_option maxHeartbeats 1000000 in
theorem known_any (w : World) : Calls Try.prog 5 #[] w fun e w' => e = .returned (.bool true) ∧ Below w.heap.size w w' := by
  go_enter Try.func5, Try.ntmps5
  go_wp2_with fail
  refine (k_div _).mono ?_
  rintro e w1 ⟨rfl, rfl⟩
  go_wp2_with fail
  refine (k_mod _).mono ?_
  rintro e w1 ⟨rfl, rfl⟩
  go_wp2_with fail
  refine (k_out _).mono ?_
  rintro e w1 ⟨rfl, hb1⟩
  go_wp2_with fail
  refine (k_in _).mono ?_
  rintro e w2 ⟨rfl, hb2⟩
  go_wp2
  go_ret
  exact ⟨rfl, hb1.trans (hb2.mono hb1.size)⟩

end Go.Proofs.Ytlhlanekklonmaa
