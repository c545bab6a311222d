/- Contracts: the reference's Scale, Div and Mod. -/
import Derived.Test.YtghfgabajdghiaaDoorWideZ
namespace Go.Proofs.YtghfgabajdghiaaDoor
open Go.RowKit
set_option linter.unusedVariables false

set_option maxHeartbeats 400000 in
theorem refdiv_zero (a : Int) (w : World) :
    Calls Tryd.prog 70 #[.int .i64 a, .int .i64 0] w fun e w' => e = .returned (.tuple #[.int .i64 0, .int .i64 11]) ∧ Below w.heap.size w w' := by
  go_enter Tryd.func70, Tryd.ntmps70
  go_wp2
  go_ret2
  exact ⟨rfl, Below.refl _ _⟩

set_option maxHeartbeats 400000 in
theorem refmod_zero (a : Int) (w : World) :
    Calls Tryd.prog 71 #[.int .i64 a, .int .i64 0] w fun e w' => e = .returned (.tuple #[.int .i64 0, .int .i64 11]) ∧ Below w.heap.size w w' := by
  go_enter Tryd.func71, Tryd.ntmps71
  go_wp2
  go_ret2
  exact ⟨rfl, Below.refl _ _⟩

theorem prod_lt {a b : Int} (h1 : -9223372036854775808 ≤ a) (h2 : a ≤ 9223372036854775807) (h3 : -9223372036854775808 ≤ b) (h4 : b ≤ 9223372036854775807) : (a * b).natAbs < 4294967296 ^ 5 := by
  rw [Int.natAbs_mul]
  exact Nat.lt_of_lt_of_le (Nat.mul_lt_mul'' (show a.natAbs < 18446744073709551616 by omega) (show b.natAbs < 18446744073709551616 by omega)) (by decide)

set_option maxRecDepth 100000 in
set_option maxHeartbeats 1000000 in
theorem refdiv_any (a b : Int) (h1 : -9223372036854775808 ≤ a) (h2 : a ≤ 9223372036854775807) (h3 : -9223372036854775808 ≤ b) (h4 : b ≤ 9223372036854775807) (hb : b ≠ 0) (w : World) :
    Calls Tryd.prog 70 #[.int .i64 a, .int .i64 b] w fun e w' => e = .returned (.tuple #[.int .i64 (smV (a.fdiv b)), .int .i64 (smE (a.fdiv b))]) ∧ Below w.heap.size w w' := by
  have HS : Hid (∀ (v : Value) (w : World), IsW w v (a.fdiv b) → Calls Tryd.prog 64 #[v] w fun e w' => e = .returned (.tuple #[.int .i64 (smV (a.fdiv b)), .int .i64 (smE (a.fdiv b))]) ∧ Below w.heap.size w w') := fun v w h => wsmall v _ w h
  generalize smV (a.fdiv b) = V at *
  generalize smE (a.fdiv b) = E at *
  have hb' : (b == 0) = false := by simpa using hb
  have la : a.natAbs < 4294967296 ^ 5 := Nat.lt_of_le_of_lt (show a.natAbs ≤ 18446744073709551616 by omega) (by decide)
  go_enter Tryd.func70, Tryd.ntmps70
  go_wp2_with fail
  refine (wof a h1 h2 _).mono ?_
  rintro e w1 ⟨v1, rfl, W1, B1⟩
  go_wp2_with fail
  refine (wof b h3 h4 _).mono ?_
  rintro e w2 ⟨v2, rfl, W2, b2⟩
  have W1' := W1.below b2
  have B2 := B1.trans (b2.mono B1.size)
  clear W1 b2 B1
  go_wp2_with fail
  refine (wover v1 v2 a b _ W1' W2 hb la (by omega)).mono ?_
  rintro e w3 ⟨v3, rfl, W3, b3⟩
  have B3 := B2.trans (b3.mono B2.size)
  clear b3 B2
  go_wp2_with fail
  refine (HS.out v3 _ W3).mono ?_
  rintro e w4 ⟨rfl, b4⟩
  have B4 := B3.trans (b4.mono B3.size)
  go_wp2
  go_ret2
  exact ⟨rfl, B4⟩

end Go.Proofs.YtghfgabajdghiaaDoor
