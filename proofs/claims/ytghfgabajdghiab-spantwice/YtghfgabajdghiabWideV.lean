/- Contracts: the reference's Times of numbers with their signs, and its Mul. -/
import Derived.Test.YtghfgabajdghiabWideU
namespace Go.Proofs.Ytghfgabajdghiab
open Go.RowKit
set_option linter.unusedVariables false

theorem sign_mul (x y : Int) : ((decide (x < 0) != decide (y < 0)) && !decide (x.natAbs * y.natAbs = 0)) = decide (x * y < 0) := by
  rw [← Int.natAbs_mul]
  have hz : (x * y).natAbs = 0 ↔ x = 0 ∨ y = 0 := by rw [Int.natAbs_eq_zero, Int.mul_eq_zero]
  rcases Int.lt_trichotomy x 0 with hx | hx | hx
  · rcases Int.lt_trichotomy y 0 with hy | hy | hy
    · have h := Int.mul_pos_of_neg_of_neg hx hy
      rw [decide_eq_true hx, decide_eq_true hy, decide_eq_false (show ¬ x * y < 0 by omega)]; rfl
    · subst hy; simp
    · have h := Int.mul_neg_of_neg_of_pos hx hy
      rw [decide_eq_true hx, decide_eq_false (show ¬ y < 0 by omega), decide_eq_true h, decide_eq_false (show ¬ (x * y).natAbs = 0 by omega)]; rfl
  · subst hx; simp
  · rcases Int.lt_trichotomy y 0 with hy | hy | hy
    · have h := Int.mul_neg_of_pos_of_neg hx hy
      rw [decide_eq_true hy, decide_eq_false (show ¬ x < 0 by omega), decide_eq_true h, decide_eq_false (show ¬ (x * y).natAbs = 0 by omega)]; rfl
    · subst hy; simp
    · have h := Int.mul_pos hx hy
      rw [decide_eq_false (show ¬ x < 0 by omega), decide_eq_false (show ¬ y < 0 by omega), decide_eq_false (show ¬ x * y < 0 by omega)]; rfl

theorem wtimes (v u : Value) (x y : Int) (w : World) (hx : IsW w v x) (hy : IsW w u y) (h1 : x.natAbs < 18446744073709551616) (h2 : y.natAbs < 18446744073709551616) :
    Calls Try.prog 52 #[v, u] w fun e w' => ∃ v', e = .returned v' ∧ IsW w' v' (x * y) ∧ Below w.heap.size w w' := by
  obtain ⟨ba, rfl, ra⟩ := hx
  obtain ⟨bb, rfl, rb⟩ := hy
  refine (times_any _ _ ba bb _ _ w ra rb h1 h2).mono fun e w' ⟨b, he, hb, _, hr⟩ => ⟨_, he, ⟨b, by rw [sign_mul], ?_⟩, hb⟩
  rw [Int.natAbs_mul]; exact hr

set_option maxRecDepth 100000 in
set_option maxHeartbeats 1000000 in
theorem refmul_any (a b : Int) (h1 : -9223372036854775808 ≤ a) (h2 : a ≤ 9223372036854775807) (h3 : -9223372036854775808 ≤ b) (h4 : b ≤ 9223372036854775807) (w : World) :
    Calls Try.prog 37 #[.int .i64 a, .int .i64 b] w fun e w' => e = .returned (.tuple #[.int .i64 (smV (a * b)), .int .i64 (smE (a * b))]) ∧ Below w.heap.size w w' := by
  have HS : Hid (∀ (v : Value) (w : World), IsW w v (a * b) → Calls Try.prog 48 #[v] w fun e w' => e = .returned (.tuple #[.int .i64 (smV (a * b)), .int .i64 (smE (a * b))]) ∧ Below w.heap.size w w') := fun v w h => wsmall v _ w h
  generalize smV (a * b) = V at *
  generalize smE (a * b) = E at *
  go_enter Try.func37, Try.ntmps37
  go_wp2_with fail
  refine (wof a h1 h2 _).mono ?_
  rintro e w1 ⟨v1, rfl, W1, B1⟩
  go_wp2_with fail
  refine (wof b h3 h4 _).mono ?_
  rintro e w2 ⟨v2, rfl, W2, b2⟩
  have W1' := W1.below b2
  have B2 := B1.trans (b2.mono B1.size)
  clear W1 b2 B1
  go_wp2_with fail
  refine (wtimes v1 v2 a b _ W1' W2 (by omega) (by omega)).mono ?_
  rintro e w3 ⟨v3, rfl, W3, b3⟩
  have B3 := B2.trans (b3.mono B2.size)
  clear b3 B2
  go_wp2_with fail
  refine (HS.out v3 _ W3).mono ?_
  rintro e w4 ⟨rfl, b4⟩
  have B4 := B3.trans (b4.mono B3.size)
  go_wp2
  go_ret2
  exact ⟨rfl, B4⟩

end Go.Proofs.Ytghfgabajdghiab
