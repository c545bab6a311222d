/- Contracts of num.size, num.signed, num.Add, num.Sub, num.Div, num.Mod: each answers what the plain number says, for every argument of its type. -/
import Derived.Test.YtgnfkkcagbbhmaaGreatDoorRows
import Derived.Test.YtgnfkkcagbbhmaaGreatDoorNumMathq
import Derived.WalkKit
import Derived.WalkSpells
import Derived.WalkLawsBesides
namespace Go.Proofs.YtgnfkkcagbbhmaaGreatDoor
open Go.RowKit
set_option linter.unusedVariables false

theorem ret_int {k : IntKind} {a b : Int} (h : a = b) : Ending.returned (.int k a) = .returned (.int k b) := by rw [h]
theorem ret_two {k l : IntKind} {a b c d : Int} (h : a = b) (g : c = d) : Ending.returned (.tuple #[.int k a, .int l c]) = .returned (.tuple #[.int k b, .int l d]) := by rw [h, g]

/-- what a whole number is as an answer: itself, or 0 and the error 10. -/
def smV (x : Int) : Int := if -9223372036854775808 ≤ x ∧ x ≤ 9223372036854775807 then x else 0
def smE (x : Int) : Int := if -9223372036854775808 ≤ x ∧ x ≤ 9223372036854775807 then 0 else 10
theorem smV_in {x : Int} (h1 : -9223372036854775808 ≤ x) (h2 : x ≤ 9223372036854775807) : smV x = x := if_pos ⟨h1, h2⟩
theorem smE_in {x : Int} (h1 : -9223372036854775808 ≤ x) (h2 : x ≤ 9223372036854775807) : smE x = 0 := if_pos ⟨h1, h2⟩
theorem smV_out {x : Int} (h : x < -9223372036854775808 ∨ 9223372036854775807 < x) : smV x = 0 := if_neg (by omega)
theorem smE_out {x : Int} (h : x < -9223372036854775808 ∨ 9223372036854775807 < x) : smE x = 10 := if_neg (by omega)

set_option maxHeartbeats 400000 in
theorem size_any (a : Int) (h1 : -9223372036854775808 ≤ a) (h2 : a ≤ 9223372036854775807) (w : World) :
    Calls Tryz.prog 177 #[.int .i64 a] w fun e w' => e = .returned (.int .u64 (a.natAbs : Int)) ∧ w' = w := by
  by_cases h : a < 0
  · go_enter Tryz.func177, Tryz.ntmps177
    go_wp2
    go_ret
    exact ⟨ret_int (by simp only [IntKind.wrap_u64]; omega), rfl⟩
  · go_enter Tryz.func177, Tryz.ntmps177
    go_wp2
    go_ret
    exact ⟨ret_int (by omega), rfl⟩

set_option maxHeartbeats 400000 in
theorem add_in (a b : Int) (h1 : -9223372036854775808 ≤ a) (h2 : a ≤ 9223372036854775807) (h3 : -9223372036854775808 ≤ b) (h4 : b ≤ 9223372036854775807)
    (l1 : -9223372036854775808 ≤ a + b) (l2 : a + b ≤ 9223372036854775807) (w : World) :
    Calls Tryz.prog 173 #[.int .i64 a, .int .i64 b] w fun e w' => e = .returned (.tuple #[.int .i64 (a + b), .int .i64 0]) ∧ w' = w := by
  by_cases h : b < 0
  · have hs : a + b < a := by omega
    go_enter Tryz.func173, Tryz.ntmps173
    go_wp2
    go_ret2
    exact ⟨rfl, rfl⟩
  · have hs : ¬ a + b < a := by omega
    go_enter Tryz.func173, Tryz.ntmps173
    go_wp2
    go_ret2
    exact ⟨rfl, rfl⟩

set_option maxHeartbeats 400000 in
theorem add_out (a b : Int) (h1 : -9223372036854775808 ≤ a) (h2 : a ≤ 9223372036854775807) (h3 : -9223372036854775808 ≤ b) (h4 : b ≤ 9223372036854775807)
    (l : a + b < -9223372036854775808 ∨ 9223372036854775807 < a + b) (w : World) :
    Calls Tryz.prog 173 #[.int .i64 a, .int .i64 b] w fun e w' => e = .returned (.tuple #[.int .i64 0, .int .i64 10]) ∧ w' = w := by
  rcases l with l | l
  · have h : b < 0 := by omega
    have hs : ¬ wrap64 (a + b) < a := by unfold wrap64; omega
    clear l
    go_enter Tryz.func173, Tryz.ntmps173
    go_wp2
    go_ret2
    exact ⟨rfl, rfl⟩
  · have h : ¬ b < 0 := by omega
    have hs : wrap64 (a + b) < a := by unfold wrap64; omega
    clear l
    go_enter Tryz.func173, Tryz.ntmps173
    go_wp2
    go_ret2
    exact ⟨rfl, rfl⟩

theorem add_any (a b : Int) (h1 : -9223372036854775808 ≤ a) (h2 : a ≤ 9223372036854775807) (h3 : -9223372036854775808 ≤ b) (h4 : b ≤ 9223372036854775807) (w : World) :
    Calls Tryz.prog 173 #[.int .i64 a, .int .i64 b] w fun e w' => e = .returned (.tuple #[.int .i64 (smV (a + b)), .int .i64 (smE (a + b))]) ∧ w' = w := by
  by_cases l : -9223372036854775808 ≤ a + b ∧ a + b ≤ 9223372036854775807
  · rw [smV_in l.1 l.2, smE_in l.1 l.2]; exact add_in a b h1 h2 h3 h4 l.1 l.2 w
  · rw [smV_out (by omega), smE_out (by omega)]; exact add_out a b h1 h2 h3 h4 (by omega) w

/-- num.signed: the number of that size, below nought or not. -/
def sgn (b : Bool) (n : Nat) : Int := if b then -(n : Int) else n

set_option maxHeartbeats 400000 in
theorem signed_big (b : Bool) (n : Nat) (hn : n < 18446744073709551616) (h : 9223372036854775808 < n) (w : World) :
    Calls Tryz.prog 175 #[.bool b, .int .u64 n] w fun e w' => e = .returned (.tuple #[.int .i64 0, .int .i64 10]) ∧ w' = w := by
  have h' : (9223372036854775808 : Int) < n := by omega
  clear h
  go_enter Tryz.func175, Tryz.ntmps175
  go_wp2
  go_ret2
  exact ⟨rfl, rfl⟩

set_option maxHeartbeats 400000 in
theorem signed_small (b : Bool) (n : Nat) (h : n < 9223372036854775808) (w : World) :
    Calls Tryz.prog 175 #[.bool b, .int .u64 n] w fun e w' => e = .returned (.tuple #[.int .i64 (sgn b n), .int .i64 0]) ∧ w' = w := by
  have h' : ¬ (9223372036854775808 : Int) < n := by omega
  have h2 : ((n : Int) == 9223372036854775808) = false := by rw [beq_eq_false_iff_ne]; omega
  cases b
  · go_enter Tryz.func175, Tryz.ntmps175
    go_wp2
    go_ret2
    exact ⟨ret_two (by unfold sgn; simp) rfl, rfl⟩
  · go_enter Tryz.func175, Tryz.ntmps175
    go_wp2
    go_ret2
    exact ⟨ret_two (by unfold sgn; simp only [IntKind.wrap_u64, wrap64]; simp; omega) rfl, rfl⟩

set_option maxHeartbeats 400000 in
theorem signed_edge (b : Bool) (n : Nat) (h : n = 9223372036854775808) (w : World) :
    Calls Tryz.prog 175 #[.bool b, .int .u64 n] w fun e w' => e = .returned (.tuple #[.int .i64 (smV (sgn b n)), .int .i64 (smE (sgn b n))]) ∧ w' = w := by
  have h' : ¬ (9223372036854775808 : Int) < n := by omega
  have h2 : ((n : Int) == 9223372036854775808) = true := by rw [beq_iff_eq]; omega
  cases b
  · rw [show sgn false n = (n : Int) from rfl, smV_out (by omega), smE_out (by omega)]
    clear h
    go_enter Tryz.func175, Tryz.ntmps175
    go_wp2
    go_ret2
    exact ⟨rfl, rfl⟩
  · have hs : sgn true n = -(n : Int) := rfl
    have e : IntKind.i64.wrap (IntKind.u64.wrap (-(n : Int))) = -(n : Int) := by simp only [IntKind.wrap_u64, IntKind.wrap_i64]; omega
    have e' : wrap64 (IntKind.u64.wrap (-(n : Int))) = -(n : Int) := by simp only [IntKind.wrap_u64, wrap64]; omega
    rw [hs, smV_in (by omega) (by omega), smE_in (by omega) (by omega)]
    clear h hs
    go_enter Tryz.func175, Tryz.ntmps175
    go_wp2
    go_ret2
    exact ⟨rfl, rfl⟩

theorem signed_any (b : Bool) (n : Nat) (hn : n < 18446744073709551616) (w : World) :
    Calls Tryz.prog 175 #[.bool b, .int .u64 n] w fun e w' => e = .returned (.tuple #[.int .i64 (smV (sgn b n)), .int .i64 (smE (sgn b n))]) ∧ w' = w := by
  by_cases h : n < 9223372036854775808
  · have l : -9223372036854775808 ≤ sgn b n ∧ sgn b n ≤ 9223372036854775807 := by unfold sgn; cases b <;> simp <;> omega
    rw [smV_in l.1 l.2, smE_in l.1 l.2]; exact signed_small b n h w
  · by_cases g : n = 9223372036854775808
    · exact signed_edge b n g w
    · have l : sgn b n < -9223372036854775808 ∨ 9223372036854775807 < sgn b n := by unfold sgn; cases b <;> simp <;> omega
      rw [smV_out l, smE_out l]; exact signed_big b n hn (by omega) w

end Go.Proofs.YtgnfkkcagbbhmaaGreatDoor
