/- Contracts: the reference's Scale, Div and Mod. -/
import Derived.Test.YtcflipkbncpabacWideZ
namespace Go.Proofs.Ytcflipkbncpabac
open Go.RowKit
set_option linter.unusedVariables false

set_option maxHeartbeats 400000 in
theorem refscale_zero (a b : Int) (w : World) :
    Calls Try.prog 22 #[.int .i64 a, .int .i64 b, .int .i64 0] w fun e w' => e = .returned (.tuple #[.int .i64 0, .int .i64 11]) ∧ Below w.heap.size w w' := by
  go_enter Try.func22, Try.ntmps22
  go_wp2
  go_ret2
  exact ⟨rfl, Below.refl _ _⟩

set_option maxHeartbeats 400000 in
theorem refdiv_zero (a : Int) (w : World) :
    Calls Try.prog 18 #[.int .i64 a, .int .i64 0] w fun e w' => e = .returned (.tuple #[.int .i64 0, .int .i64 11]) ∧ Below w.heap.size w w' := by
  go_enter Try.func18, Try.ntmps18
  go_wp2
  go_ret2
  exact ⟨rfl, Below.refl _ _⟩

set_option maxHeartbeats 400000 in
theorem refmod_zero (a : Int) (w : World) :
    Calls Try.prog 20 #[.int .i64 a, .int .i64 0] w fun e w' => e = .returned (.tuple #[.int .i64 0, .int .i64 11]) ∧ Below w.heap.size w w' := by
  go_enter Try.func20, Try.ntmps20
  go_wp2
  go_ret2
  exact ⟨rfl, Below.refl _ _⟩

theorem prod_lt {a b : Int} (h1 : -9223372036854775808 ≤ a) (h2 : a ≤ 9223372036854775807) (h3 : -9223372036854775808 ≤ b) (h4 : b ≤ 9223372036854775807) : (a * b).natAbs < 4294967296 ^ 5 := by
  rw [Int.natAbs_mul]
  exact Nat.lt_of_lt_of_le (Nat.mul_lt_mul'' (show a.natAbs < 18446744073709551616 by omega) (show b.natAbs < 18446744073709551616 by omega)) (by decide)

set_option maxRecDepth 100000 in
set_option maxHeartbeats 1000000 in
theorem refscale_any (a b c : Int) (h1 : -9223372036854775808 ≤ a) (h2 : a ≤ 9223372036854775807) (h3 : -9223372036854775808 ≤ b) (h4 : b ≤ 9223372036854775807) (h5 : -9223372036854775808 ≤ c) (h6 : c ≤ 9223372036854775807) (hc : c ≠ 0) (w : World) :
    Calls Try.prog 22 #[.int .i64 a, .int .i64 b, .int .i64 c] w fun e w' => e = .returned (.tuple #[.int .i64 (smV ((a * b).fdiv c)), .int .i64 (smE ((a * b).fdiv c))]) ∧ Below w.heap.size w w' := by
  have HS : Hid (∀ (v : Value) (w : World), IsW w v ((a * b).fdiv c) → Calls Try.prog 24 #[v] w fun e w' => e = .returned (.tuple #[.int .i64 (smV ((a * b).fdiv c)), .int .i64 (smE ((a * b).fdiv c))]) ∧ Below w.heap.size w w') := fun v w h => wsmall v _ w h
  generalize smV ((a * b).fdiv c) = V at *
  generalize smE ((a * b).fdiv c) = E at *
  have hc' : (c == 0) = false := by simpa using hc
  go_enter Try.func22, Try.ntmps22
  go_wp2_with fail
  refine (wof a h1 h2 _).mono ?_
  rintro e w1 ⟨v1, rfl, W1, B1⟩
  go_wp2_with fail
  refine (wof b h3 h4 _).mono ?_
  rintro e w2 ⟨v2, rfl, W2, b2⟩
  have W1' := W1.below b2
  have B2 := B1.trans (b2.mono B1.size)
  clear W1 b2 B1
  go_wp2_with fail
  refine (wtimes v1 v2 a b _ W1' W2 (by omega) (by omega)).mono ?_
  rintro e w3 ⟨v3, rfl, W3, b3⟩
  have B3 := B2.trans (b3.mono B2.size)
  clear b3 B2 W1' W2
  go_wp2_with fail
  refine (wof c h5 h6 _).mono ?_
  rintro e w4 ⟨v4, rfl, W4, b4⟩
  have W3' := W3.below b4
  have B4 := B3.trans (b4.mono B3.size)
  clear W3 b4 B3
  go_wp2_with fail
  refine (wover v3 v4 _ c _ W3' W4 hc (prod_lt h1 h2 h3 h4) (by omega)).mono ?_
  rintro e w5 ⟨v5, rfl, W5, b5⟩
  have B5 := B4.trans (b5.mono B4.size)
  clear b5 B4 W3' W4
  go_wp2_with fail
  refine (HS.out v5 _ W5).mono ?_
  rintro e w6 ⟨rfl, b6⟩
  have B6 := B5.trans (b6.mono B5.size)
  go_wp2
  go_ret2
  exact ⟨rfl, B6⟩

set_option maxRecDepth 100000 in
set_option maxHeartbeats 1000000 in
theorem refdiv_any (a b : Int) (h1 : -9223372036854775808 ≤ a) (h2 : a ≤ 9223372036854775807) (h3 : -9223372036854775808 ≤ b) (h4 : b ≤ 9223372036854775807) (hb : b ≠ 0) (w : World) :
    Calls Try.prog 18 #[.int .i64 a, .int .i64 b] w fun e w' => e = .returned (.tuple #[.int .i64 (smV (a.fdiv b)), .int .i64 (smE (a.fdiv b))]) ∧ Below w.heap.size w w' := by
  have HS : Hid (∀ (v : Value) (w : World), IsW w v (a.fdiv b) → Calls Try.prog 24 #[v] w fun e w' => e = .returned (.tuple #[.int .i64 (smV (a.fdiv b)), .int .i64 (smE (a.fdiv b))]) ∧ Below w.heap.size w w') := fun v w h => wsmall v _ w h
  generalize smV (a.fdiv b) = V at *
  generalize smE (a.fdiv b) = E at *
  have hb' : (b == 0) = false := by simpa using hb
  have la : a.natAbs < 4294967296 ^ 5 := Nat.lt_of_le_of_lt (show a.natAbs ≤ 18446744073709551616 by omega) (by decide)
  go_enter Try.func18, Try.ntmps18
  go_wp2_with fail
  refine (wof a h1 h2 _).mono ?_
  rintro e w1 ⟨v1, rfl, W1, B1⟩
  go_wp2_with fail
  refine (wof b h3 h4 _).mono ?_
  rintro e w2 ⟨v2, rfl, W2, b2⟩
  have W1' := W1.below b2
  have B2 := B1.trans (b2.mono B1.size)
  clear W1 b2 B1
  go_wp2_with fail
  refine (wover v1 v2 a b _ W1' W2 hb la (by omega)).mono ?_
  rintro e w3 ⟨v3, rfl, W3, b3⟩
  have B3 := B2.trans (b3.mono B2.size)
  clear b3 B2
  go_wp2_with fail
  refine (HS.out v3 _ W3).mono ?_
  rintro e w4 ⟨rfl, b4⟩
  have B4 := B3.trans (b4.mono B3.size)
  go_wp2
  go_ret2
  exact ⟨rfl, B4⟩

end Go.Proofs.Ytcflipkbncpabac
