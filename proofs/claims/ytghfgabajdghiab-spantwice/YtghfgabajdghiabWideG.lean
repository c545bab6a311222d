/- Contracts, more: Add, Sub, Neg of the reference, and num.Sub, num.Neg. -/
import Derived.Test.YtghfgabajdghiabWideF
namespace Go.Proofs.Ytghfgabajdghiab
open Go.RowKit
set_option linter.unusedVariables false

theorem small_sum {a b : Int} (h1 : -9223372036854775808 ≤ a) (h2 : a ≤ 9223372036854775807) (h3 : -9223372036854775808 ≤ b) (h4 : b ≤ 9223372036854775807) : a.natAbs + b.natAbs < 4294967296 ^ 6 :=
  Nat.lt_of_le_of_lt (show a.natAbs + b.natAbs ≤ 18446744073709551616 by omega) (by decide)

set_option maxRecDepth 100000 in
set_option maxHeartbeats 1000000 in
theorem refadd_any (a b : Int) (h1 : -9223372036854775808 ≤ a) (h2 : a ≤ 9223372036854775807) (h3 : -9223372036854775808 ≤ b) (h4 : b ≤ 9223372036854775807) (w : World) :
    Calls Try.prog 31 #[.int .i64 a, .int .i64 b] w fun e w' => e = .returned (.tuple #[.int .i64 (smV (a + b)), .int .i64 (smE (a + b))]) ∧ Below w.heap.size w w' := by
  have HS : Hid (∀ (v : Value) (w : World), IsW w v (a + b) → Calls Try.prog 48 #[v] w fun e w' => e = .returned (.tuple #[.int .i64 (smV (a + b)), .int .i64 (smE (a + b))]) ∧ Below w.heap.size w w') := fun v w h => wsmall v _ w h
  generalize smV (a + b) = V at *
  generalize smE (a + b) = E at *
  go_enter Try.func31, Try.ntmps31
  go_wp2_with fail
  refine (wof a h1 h2 _).mono ?_
  rintro e w1 ⟨v1, rfl, W1, B1⟩
  go_wp2_with fail
  refine (wof b h3 h4 _).mono ?_
  rintro e w2 ⟨v2, rfl, W2, b2⟩
  have W1' := W1.below b2
  have B2 := B1.trans (b2.mono B1.size)
  clear W1 b2 B1
  go_wp2_with fail
  refine (wplus v1 v2 a b _ W1' W2 (small_sum h1 h2 h3 h4)).mono ?_
  rintro e w3 ⟨v3, rfl, W3, b3⟩
  have B3 := B2.trans (b3.mono B2.size)
  clear b3 B2
  go_wp2_with fail
  refine (HS.out v3 _ W3).mono ?_
  rintro e w4 ⟨rfl, b4⟩
  have B4 := B3.trans (b4.mono B3.size)
  go_wp2
  go_ret2
  exact ⟨rfl, B4⟩

end Go.Proofs.Ytghfgabajdghiab
