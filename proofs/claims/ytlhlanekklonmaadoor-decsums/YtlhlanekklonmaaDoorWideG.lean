/- Contracts, more: Add, Sub, Neg of the reference, and num.Sub, num.Neg. -/
import Derived.Test.YtlhlanekklonmaaDoorWideF
namespace Go.Proofs.YtlhlanekklonmaaDoor
open Go.RowKit
set_option linter.unusedVariables false

set_option maxHeartbeats 400000 in
theorem wsub_in (a b : Int) (h1 : -9223372036854775808 ≤ a) (h2 : a ≤ 9223372036854775807) (h3 : -9223372036854775808 ≤ b) (h4 : b ≤ 9223372036854775807)
    (l1 : -9223372036854775808 ≤ a - b) (l2 : a - b ≤ 9223372036854775807) (w : World) :
    Calls Tryd.prog 62 #[.int .i64 a, .int .i64 b] w fun e w' => e = .returned (.tuple #[.int .i64 (a - b), .int .i64 0]) ∧ w' = w := by
  by_cases h : b < 0
  · have hs : a < a - b := by omega
    go_enter Tryd.func62, Tryd.ntmps62
    go_wp2
    go_ret2
    exact ⟨rfl, rfl⟩
  · have hs : ¬ a < a - b := by omega
    go_enter Tryd.func62, Tryd.ntmps62
    go_wp2
    go_ret2
    exact ⟨rfl, rfl⟩

set_option maxHeartbeats 400000 in
theorem wsub_out (a b : Int) (h1 : -9223372036854775808 ≤ a) (h2 : a ≤ 9223372036854775807) (h3 : -9223372036854775808 ≤ b) (h4 : b ≤ 9223372036854775807)
    (l : a - b < -9223372036854775808 ∨ 9223372036854775807 < a - b) (w : World) :
    Calls Tryd.prog 62 #[.int .i64 a, .int .i64 b] w fun e w' => e = .returned (.tuple #[.int .i64 0, .int .i64 10]) ∧ w' = w := by
  rcases l with l | l
  · have h : ¬ b < 0 := by omega
    have hs : a < wrap64 (a - b) := by unfold wrap64; omega
    clear l
    go_enter Tryd.func62, Tryd.ntmps62
    go_wp2
    go_ret2
    exact ⟨rfl, rfl⟩
  · have h : b < 0 := by omega
    have hs : ¬ a < wrap64 (a - b) := by unfold wrap64; omega
    clear l
    go_enter Tryd.func62, Tryd.ntmps62
    go_wp2
    go_ret2
    exact ⟨rfl, rfl⟩

theorem wsub_any (a b : Int) (h1 : -9223372036854775808 ≤ a) (h2 : a ≤ 9223372036854775807) (h3 : -9223372036854775808 ≤ b) (h4 : b ≤ 9223372036854775807) (w : World) :
    Calls Tryd.prog 62 #[.int .i64 a, .int .i64 b] w fun e w' => e = .returned (.tuple #[.int .i64 (smV (a - b)), .int .i64 (smE (a - b))]) ∧ w' = w := by
  by_cases l : -9223372036854775808 ≤ a - b ∧ a - b ≤ 9223372036854775807
  · rw [smV_in l.1 l.2, smE_in l.1 l.2]; exact wsub_in a b h1 h2 h3 h4 l.1 l.2 w
  · rw [smV_out (by omega), smE_out (by omega)]; exact wsub_out a b h1 h2 h3 h4 (by omega) w

theorem small_sum {a b : Int} (h1 : -9223372036854775808 ≤ a) (h2 : a ≤ 9223372036854775807) (h3 : -9223372036854775808 ≤ b) (h4 : b ≤ 9223372036854775807) : a.natAbs + b.natAbs < 4294967296 ^ 6 :=
  Nat.lt_of_le_of_lt (show a.natAbs + b.natAbs ≤ 18446744073709551616 by omega) (by decide)

end Go.Proofs.YtlhlanekklonmaaDoor
