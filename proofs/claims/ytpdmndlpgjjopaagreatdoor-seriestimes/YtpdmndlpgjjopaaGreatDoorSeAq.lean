/- series: how many numbers there are (isMost, areAll, count, Count). -/
import Derived.Test.YtpdmndlpgjjopaaGreatDoorBxCq
import Derived.Test.YtpdmndlpgjjopaaGreatDoorNmZq
import Derived.Laws.StructEq
import Derived.Deep.Cut
import Derived.Deep.CutRange
import Derived.Deep.DeepCutAuto
namespace Go.Proofs.YtpdmndlpgjjopaaGreatDoor
open Go.RowKit
set_option linter.unusedVariables false

def mostB (m : Int) : Bool := decide (0 ≤ m) && decide (m ≤ 1000)

theorem most_any (m : Int) (w : World) : Calls Tryz.prog 15 #[.int .i64 m] w fun r w' => r = .returned (.bool (mostB m)) ∧ w' = w := by
  unfold mostB
  by_cases h0 : 0 ≤ m
  · by_cases h1 : m ≤ 1000
    · rw [decide_eq_true h0, decide_eq_true h1]
      go_enter Tryz.func15, Tryz.ntmps15
      go_wp2_with fail
      go_ret
      exact ⟨rfl, rfl⟩
    · rw [decide_eq_true h0, decide_eq_false h1]
      go_enter Tryz.func15, Tryz.ntmps15
      go_wp2_with fail
      go_ret
      exact ⟨rfl, rfl⟩
  · rw [decide_eq_false h0]
    go_enter Tryz.func15, Tryz.ntmps15
    go_wp2_with fail
    go_ret
    exact ⟨rfl, rfl⟩

def allU (a b s : Int) : Bool := decide (a = -9223372036854775808) && (decide (b = 9223372036854775807) && decide (s = 1))
def allD (a b s : Int) : Bool := decide (a = 9223372036854775807) && (decide (b = -9223372036854775808) && decide (s = -1))
def allB (a b s : Int) : Bool := allU a b s || allD a b s
theorem ite_okS {c : Prop} [Decidable c] (r : Bool) (w : World) : (if c then Result.ok r w else Result.ok false w) = Result.ok (decide c && r) w := by split <;> simp [*]
set_option maxRecDepth 100000 in
set_option maxHeartbeats 4000000 in
theorem numbers_eq (a b s x y z : Int) (w : World) : (Op.equalIn 10000 124 (.agg #[.int .i64 a, .int .i64 b, .int .i64 s]) (.agg #[.int .i64 x, .int .i64 y, .int .i64 z])).run Tryz.prog w = .ok (decide (a = x) && (decide (b = y) && decide (s = z))) w := by
  rw [run_equalIn_struct w 9999 124 _ _ (by kernel_rfl) (by kernel_rfl)]
  go_simp
  simp only [ite_okS]
  congr 1
  rw [Bool.eq_iff_iff]
  simp only [Bool.and_eq_true, decide_eq_true_eq, and_true]

set_option maxRecDepth 100000 in
set_option maxHeartbeats 4000000 in
theorem all_any (a b s : Int) (w : World) : Calls Tryz.prog 63 #[.agg #[.int .i64 a, .int .i64 b, .int .i64 s]] w fun r w' => r = .returned (.bool (allB a b s)) ∧ Below w.heap.size w w' := by
  have E1 : ∀ w : World, (Op.equalIn 10000 124 (.agg #[.int .i64 a, .int .i64 b, .int .i64 s]) (.agg #[.int .i64 (-9223372036854775808), .int .i64 9223372036854775807, .int .i64 1])).run Tryz.prog w = .ok (allU a b s) w := fun w => numbers_eq a b s _ _ _ w
  have E2 : ∀ w : World, (Op.equalIn 10000 124 (.agg #[.int .i64 a, .int .i64 b, .int .i64 s]) (.agg #[.int .i64 9223372036854775807, .int .i64 (-9223372036854775808), .int .i64 (-1)])).run Tryz.prog w = .ok (allD a b s) w := fun w => numbers_eq a b s _ _ _ w
  unfold allB
  generalize allU a b s = p at *
  generalize allD a b s = q at *
  cases p
  · rw [Bool.false_or]
    go_enter Tryz.func63, Tryz.ntmps63
    go_wp2_with fail
    go_ret
    exact ⟨rfl, (by repeat' (first | assumption | exact Below.refl _ _ | exact Nat.le_refl _ | refine Below.alloc ?_ ?_ _ | (simp; done) | (simp; omega) | omega))⟩
  · rw [Bool.true_or]
    go_enter Tryz.func63, Tryz.ntmps63
    go_wp2_with fail
    go_ret
    exact ⟨rfl, (by repeat' (first | assumption | exact Below.refl _ _ | exact Nat.le_refl _ | refine Below.alloc ?_ ?_ _ | (simp; done) | (simp; omega) | omega))⟩

/-- how many there are. -/
def cntI (a b s : Int) : Int := if 0 < s then (if b < a then 0 else (b - a) / s + 1) else (if a < b then 0 else (a - b) / (-s) + 1)

end Go.Proofs.YtpdmndlpgjjopaaGreatDoor
