/- Contracts, more: Add, Sub, Neg of the reference, and num.Sub, num.Neg. -/
import Derived.Test.YtcflipkbncpabacWideF
namespace Go.Proofs.Ytcflipkbncpabac
open Go.RowKit
set_option linter.unusedVariables false

set_option maxHeartbeats 400000 in
theorem sub_in (a b : Int) (h1 : -9223372036854775808 ≤ a) (h2 : a ≤ 9223372036854775807) (h3 : -9223372036854775808 ≤ b) (h4 : b ≤ 9223372036854775807)
    (l1 : -9223372036854775808 ≤ a - b) (l2 : a - b ≤ 9223372036854775807) (w : World) :
    Calls Try.prog 10 #[.int .i64 a, .int .i64 b] w fun e w' => e = .returned (.tuple #[.int .i64 (a - b), .int .i64 0]) ∧ w' = w := by
  by_cases h : b < 0
  · have hs : a < a - b := by omega
    go_enter Try.func10, Try.ntmps10
    go_wp2
    go_ret2
    exact ⟨rfl, rfl⟩
  · have hs : ¬ a < a - b := by omega
    go_enter Try.func10, Try.ntmps10
    go_wp2
    go_ret2
    exact ⟨rfl, rfl⟩

set_option maxHeartbeats 400000 in
theorem sub_out (a b : Int) (h1 : -9223372036854775808 ≤ a) (h2 : a ≤ 9223372036854775807) (h3 : -9223372036854775808 ≤ b) (h4 : b ≤ 9223372036854775807)
    (l : a - b < -9223372036854775808 ∨ 9223372036854775807 < a - b) (w : World) :
    Calls Try.prog 10 #[.int .i64 a, .int .i64 b] w fun e w' => e = .returned (.tuple #[.int .i64 0, .int .i64 10]) ∧ w' = w := by
  rcases l with l | l
  · have h : ¬ b < 0 := by omega
    have hs : a < wrap64 (a - b) := by unfold wrap64; omega
    clear l
    go_enter Try.func10, Try.ntmps10
    go_wp2
    go_ret2
    exact ⟨rfl, rfl⟩
  · have h : b < 0 := by omega
    have hs : ¬ a < wrap64 (a - b) := by unfold wrap64; omega
    clear l
    go_enter Try.func10, Try.ntmps10
    go_wp2
    go_ret2
    exact ⟨rfl, rfl⟩

theorem sub_any (a b : Int) (h1 : -9223372036854775808 ≤ a) (h2 : a ≤ 9223372036854775807) (h3 : -9223372036854775808 ≤ b) (h4 : b ≤ 9223372036854775807) (w : World) :
    Calls Try.prog 10 #[.int .i64 a, .int .i64 b] w fun e w' => e = .returned (.tuple #[.int .i64 (smV (a - b)), .int .i64 (smE (a - b))]) ∧ w' = w := by
  by_cases l : -9223372036854775808 ≤ a - b ∧ a - b ≤ 9223372036854775807
  · rw [smV_in l.1 l.2, smE_in l.1 l.2]; exact sub_in a b h1 h2 h3 h4 l.1 l.2 w
  · rw [smV_out (by omega), smE_out (by omega)]; exact sub_out a b h1 h2 h3 h4 (by omega) w

set_option maxHeartbeats 400000 in
theorem neg_in (a : Int) (h1 : -9223372036854775807 ≤ a) (h2 : a ≤ 9223372036854775807) (w : World) :
    Calls Try.prog 12 #[.int .i64 a] w fun e w' => e = .returned (.tuple #[.int .i64 (-a), .int .i64 0]) ∧ w' = w := by
  have h : (a == -9223372036854775808) = false := by rw [beq_eq_false_iff_ne]; omega
  go_enter Try.func12, Try.ntmps12
  go_wp2
  go_ret2
  exact ⟨rfl, rfl⟩

set_option maxHeartbeats 400000 in
theorem neg_out (w : World) :
    Calls Try.prog 12 #[.int .i64 (-9223372036854775808)] w fun e w' => e = .returned (.tuple #[.int .i64 0, .int .i64 10]) ∧ w' = w := by
  go_enter Try.func12, Try.ntmps12
  go_wp2
  go_ret2
  exact ⟨rfl, rfl⟩

theorem neg_any (a : Int) (h1 : -9223372036854775808 ≤ a) (h2 : a ≤ 9223372036854775807) (w : World) :
    Calls Try.prog 12 #[.int .i64 a] w fun e w' => e = .returned (.tuple #[.int .i64 (smV (-a)), .int .i64 (smE (-a))]) ∧ w' = w := by
  by_cases h : a = -9223372036854775808
  · subst h; exact neg_out w
  · rw [smV_in (by omega) (by omega), smE_in (by omega) (by omega)]; exact neg_in a (by omega) h2 w

theorem small_sum {a b : Int} (h1 : -9223372036854775808 ≤ a) (h2 : a ≤ 9223372036854775807) (h3 : -9223372036854775808 ≤ b) (h4 : b ≤ 9223372036854775807) : a.natAbs + b.natAbs < 4294967296 ^ 6 :=
  Nat.lt_of_le_of_lt (show a.natAbs + b.natAbs ≤ 18446744073709551616 by omega) (by decide)

set_option maxRecDepth 100000 in
set_option maxHeartbeats 1000000 in
theorem refadd_any (a b : Int) (h1 : -9223372036854775808 ≤ a) (h2 : a ≤ 9223372036854775807) (h3 : -9223372036854775808 ≤ b) (h4 : b ≤ 9223372036854775807) (w : World) :
    Calls Try.prog 9 #[.int .i64 a, .int .i64 b] w fun e w' => e = .returned (.tuple #[.int .i64 (smV (a + b)), .int .i64 (smE (a + b))]) ∧ Below w.heap.size w w' := by
  have HS : Hid (∀ (v : Value) (w : World), IsW w v (a + b) → Calls Try.prog 24 #[v] w fun e w' => e = .returned (.tuple #[.int .i64 (smV (a + b)), .int .i64 (smE (a + b))]) ∧ Below w.heap.size w w') := fun v w h => wsmall v _ w h
  generalize smV (a + b) = V at *
  generalize smE (a + b) = E at *
  go_enter Try.func9, Try.ntmps9
  go_wp2_with fail
  refine (wof a h1 h2 _).mono ?_
  rintro e w1 ⟨v1, rfl, W1, B1⟩
  go_wp2_with fail
  refine (wof b h3 h4 _).mono ?_
  rintro e w2 ⟨v2, rfl, W2, b2⟩
  have W1' := W1.below b2
  have B2 := B1.trans (b2.mono B1.size)
  clear W1 b2 B1
  go_wp2_with fail
  refine (wplus v1 v2 a b _ W1' W2 (small_sum h1 h2 h3 h4)).mono ?_
  rintro e w3 ⟨v3, rfl, W3, b3⟩
  have B3 := B2.trans (b3.mono B2.size)
  clear b3 B2
  go_wp2_with fail
  refine (HS.out v3 _ W3).mono ?_
  rintro e w4 ⟨rfl, b4⟩
  have B4 := B3.trans (b4.mono B3.size)
  go_wp2
  go_ret2
  exact ⟨rfl, B4⟩

set_option maxRecDepth 100000 in
set_option maxHeartbeats 1000000 in
theorem refsub_any (a b : Int) (h1 : -9223372036854775808 ≤ a) (h2 : a ≤ 9223372036854775807) (h3 : -9223372036854775808 ≤ b) (h4 : b ≤ 9223372036854775807) (w : World) :
    Calls Try.prog 11 #[.int .i64 a, .int .i64 b] w fun e w' => e = .returned (.tuple #[.int .i64 (smV (a - b)), .int .i64 (smE (a - b))]) ∧ Below w.heap.size w w' := by
  have HS : Hid (∀ (v : Value) (w : World), IsW w v (a + -b) → Calls Try.prog 24 #[v] w fun e w' => e = .returned (.tuple #[.int .i64 (smV (a - b)), .int .i64 (smE (a - b))]) ∧ Below w.heap.size w w') := fun v w h => by
    have q := wsmall v _ w h
    rw [show a + -b = a - b by omega] at q
    exact q
  generalize smV (a - b) = V at *
  generalize smE (a - b) = E at *
  go_enter Try.func11, Try.ntmps11
  go_wp2_with fail
  refine (wof a h1 h2 _).mono ?_
  rintro e w1 ⟨v1, rfl, W1, B1⟩
  go_wp2_with fail
  refine (wof b h3 h4 _).mono ?_
  rintro e w2 ⟨v2, rfl, W2, b2⟩
  have W1' := W1.below b2
  have B2 := B1.trans (b2.mono B1.size)
  clear W1 b2 B1
  go_wp2_with fail
  refine (wminus v2 b _ W2).mono ?_
  rintro e w3 ⟨v3, rfl, W3, b3⟩
  have W1 := W1'.below b3
  have B3 := B2.trans (b3.mono B2.size)
  clear b3 B2 W2 W1'
  go_wp2_with fail
  refine (wplus v1 v3 a (-b) _ W1 W3 (by have := small_sum h1 h2 h3 h4; rw [Int.natAbs_neg]; exact this)).mono ?_
  rintro e w4 ⟨v4, rfl, W4, b4⟩
  have B4 := B3.trans (b4.mono B3.size)
  clear b4 B3
  go_wp2_with fail
  refine (HS.out v4 _ W4).mono ?_
  rintro e w5 ⟨rfl, b5⟩
  have B5 := B4.trans (b5.mono B4.size)
  go_wp2
  go_ret2
  exact ⟨rfl, B5⟩

set_option maxRecDepth 100000 in
set_option maxHeartbeats 1000000 in
theorem refneg_any (a : Int) (h1 : -9223372036854775808 ≤ a) (h2 : a ≤ 9223372036854775807) (w : World) :
    Calls Try.prog 13 #[.int .i64 a] w fun e w' => e = .returned (.tuple #[.int .i64 (smV (-a)), .int .i64 (smE (-a))]) ∧ Below w.heap.size w w' := by
  have HS : Hid (∀ (v : Value) (w : World), IsW w v (-a) → Calls Try.prog 24 #[v] w fun e w' => e = .returned (.tuple #[.int .i64 (smV (-a)), .int .i64 (smE (-a))]) ∧ Below w.heap.size w w') := fun v w h => wsmall v _ w h
  generalize smV (-a) = V at *
  generalize smE (-a) = E at *
  go_enter Try.func13, Try.ntmps13
  go_wp2_with fail
  refine (wof a h1 h2 _).mono ?_
  rintro e w1 ⟨v1, rfl, W1, B1⟩
  go_wp2_with fail
  refine (wminus v1 a _ W1).mono ?_
  rintro e w2 ⟨v2, rfl, W2, b2⟩
  have B2 := B1.trans (b2.mono B1.size)
  clear b2 B1
  go_wp2_with fail
  refine (HS.out v2 _ W2).mono ?_
  rintro e w3 ⟨rfl, b3⟩
  have B3 := B2.trans (b3.mono B2.size)
  go_wp2
  go_ret2
  exact ⟨rfl, B3⟩

end Go.Proofs.Ytcflipkbncpabac
