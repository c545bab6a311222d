/- Mathematics of the reference's divide: one bit after another. -/
import Derived.Test.YtghfgabajdghiaaDoorWideV
namespace Go.Proofs.YtghfgabajdghiaaDoor
open Go.RowKit
set_option linter.unusedVariables false

theorem big_pow (k : Nat) : (4294967296 : Nat) ^ k = 2 ^ (32 * k) := by rw [Nat.pow_mul]
theorem dg_shift (v k : Nat) : Wd.dg v k = (v >>> (32 * k)) % 2 ^ 32 := by
  unfold Wd.dg
  rw [big_pow, Nat.shiftRight_eq_div_pow]
theorem dg_or (a b k : Nat) : Wd.dg (a ||| b) k = Wd.dg a k ||| Wd.dg b k := by
  rw [dg_shift, dg_shift, dg_shift, Nat.shiftRight_or_distrib, Nat.or_mod_two_pow]

/-- a bit of a number is the bit of its part. -/
theorem dg_bit (v i : Nat) : Wd.dg v (i / 32) / 2 ^ (i % 32) % 2 = v / 2 ^ i % 2 := by
  rw [dg_shift, Nat.shiftRight_eq_div_pow]
  have h32 : (2 : Nat) ^ 32 = 2 ^ (i % 32) * 2 ^ (32 - i % 32) := by rw [← Nat.pow_add]; congr 1; omega
  rw [h32, Nat.mod_mul_right_div_self, Nat.div_div_eq_div_mul, ← Nat.pow_add, show 32 * (i / 32) + i % 32 = i by omega]
  exact Nat.mod_mod_of_dvd _ (Nat.dvd_of_pow_dvd (show 1 ≤ 32 - i % 32 by omega) (Nat.dvd_refl _))
theorem top_bit (v i : Nat) : v / 2 ^ i = 2 * (v / 2 ^ (i + 1)) + v / 2 ^ i % 2 := by
  rw [Nat.pow_succ, ← Nat.div_div_eq_div_mul]; omega

/-- one bit more. -/
theorem long_lt (T v b : Nat) (hv : 0 < v) (hb : b ≤ 1) (h : 2 * (T % v) + b < v) : (2 * T + b) % v = 2 * (T % v) + b ∧ (2 * T + b) / v = 2 * (T / v) := by
  have e : 2 * T + b = (2 * (T % v) + b) + v * (2 * (T / v)) := by
    have := Nat.mod_add_div T v
    rw [Nat.mul_left_comm]; omega
  rw [e, Nat.add_mul_mod_self_left, Nat.add_mul_div_left _ _ hv, Nat.mod_eq_of_lt h, Nat.div_eq_of_lt h]
  constructor
  · rfl
  · omega
theorem long_ge (T v b : Nat) (hv : 0 < v) (hb : b ≤ 1) (h : v ≤ 2 * (T % v) + b) : (2 * T + b) % v = 2 * (T % v) + b - v ∧ (2 * T + b) / v = 2 * (T / v) + 1 := by
  have hl := Nat.mod_lt T hv
  have e : 2 * T + b = (2 * (T % v) + b - v) + v * (2 * (T / v) + 1) := by
    have := Nat.mod_add_div T v
    rw [Nat.mul_add, Nat.mul_left_comm]; omega
  rw [e, Nat.add_mul_mod_self_left, Nat.add_mul_div_left _ _ hv, Nat.mod_eq_of_lt (by omega), Nat.div_eq_of_lt (by omega)]
  constructor
  · rfl
  · omega

/-- the rest with its new bit. -/
theorem add_bit (r b : Nat) (hb : b ≤ 1) : 2 * r + b = 2 * r ||| b := by
  have h := Nat.shiftLeft_add_eq_or_of_lt (show b < 2 ^ 1 by omega) r
  rw [Nat.shiftLeft_eq, Nat.pow_one, Nat.mul_comm] at h
  exact h
theorem dg_low (b k : Nat) (hb : b ≤ 1) : Wd.dg b k = if k = 0 then b else 0 := by
  unfold Wd.dg
  by_cases h : k = 0
  · subst h; rw [if_pos rfl, Nat.pow_zero, Nat.div_one]; omega
  · rw [if_neg h, Nat.div_eq_of_lt (Nat.lt_of_lt_of_le (show b < 4294967296 ^ 1 by omega) (Nat.pow_le_pow_right (by decide) (by omega)))]
theorem rest_dg (r b k : Nat) (hb : b ≤ 1) : Wd.dg (2 * r + b) k = if k = 0 then Wd.dg (2 * r) k ||| b else Wd.dg (2 * r) k := by
  rw [add_bit r b hb, dg_or, dg_low b k hb]
  split
  · rfl
  · exact Nat.or_zero _

/-- the quotient with its new bit. -/
theorem dg_pow (i k : Nat) : Wd.dg (2 ^ i) k = if k = i / 32 then 2 ^ (i % 32) else 0 := by
  unfold Wd.dg
  rw [big_pow]
  by_cases h : k = i / 32
  · rw [if_pos h, Nat.pow_div (by omega) (by decide), show i - 32 * k = i % 32 by omega]
    exact Nat.mod_eq_of_lt (Nat.lt_of_lt_of_le (Nat.pow_lt_pow_right (by decide) (show i % 32 < 32 by omega)) (by decide))
  · rw [if_neg h]
    by_cases g : i < 32 * k
    · rw [Nat.div_eq_of_lt (Nat.pow_lt_pow_right (by decide) g)]
    · rw [Nat.pow_div (by omega) (by decide)]
      rw [show i - 32 * k = 32 + (i - 32 * k - 32) by omega, Nat.pow_add]
      exact Nat.mul_mod_right _ _
theorem quo_dg (Q i k : Nat) : Wd.dg ((2 * Q + 1) * 2 ^ i) k = if k = i / 32 then Wd.dg (Q * 2 ^ (i + 1)) k ||| 2 ^ (i % 32) else Wd.dg (Q * 2 ^ (i + 1)) k := by
  have h := Nat.shiftLeft_add_eq_or_of_lt (show 2 ^ i < 2 ^ (i + 1) from Nat.pow_lt_pow_right (by decide) (by omega)) Q
  rw [Nat.shiftLeft_eq] at h
  have e : (2 * Q + 1) * 2 ^ i = Q * 2 ^ (i + 1) + 2 ^ i := by
    rw [Nat.add_mul, Nat.one_mul, Nat.pow_succ, Nat.mul_comm 2 Q, Nat.mul_assoc, Nat.mul_comm 2]
  rw [e, h, dg_or, dg_pow]
  split
  · rfl
  · exact Nat.or_zero _
theorem quo_same (Q i : Nat) : 2 * Q * 2 ^ i = Q * 2 ^ (i + 1) := by
  rw [Nat.pow_succ, Nat.mul_comm 2 Q, Nat.mul_assoc, Nat.mul_comm 2]

end Go.Proofs.YtghfgabajdghiaaDoor
