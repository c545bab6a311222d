/- The reference's Times: the product of two numbers of 64 bits with their signs. -/
import Derived.Test.YtghfgabajdghiabWideG
namespace Go.Proofs.Ytghfgabajdghiab
open Go.RowKit
set_option linter.unusedVariables false

/-- what is carried into part k of a product by one part. -/
def mc (x v k : Nat) : Nat := x * (v % 4294967296 ^ k) / 4294967296 ^ k
theorem mc_zero (x v : Nat) : mc x v 0 = 0 := by simp [mc, Nat.mod_one]
theorem mod_up' (v k : Nat) : v % 4294967296 ^ (k + 1) = v % 4294967296 ^ k + 4294967296 ^ k * Wd.dg v k := by
  unfold Wd.dg; rw [Nat.pow_succ, Nat.mod_mul]
theorem mc_step (x v k : Nat) : mc x v k + x * Wd.dg v k = x * (v % 4294967296 ^ (k + 1)) / 4294967296 ^ k := by
  unfold mc
  rw [mod_up', Nat.mul_add, show x * (4294967296 ^ k * Wd.dg v k) = 4294967296 ^ k * (x * Wd.dg v k) by rw [Nat.mul_left_comm], Nat.add_mul_div_left _ _ (Wd.pw_pos k)]
theorem mc_carry (x v k : Nat) : (mc x v k + x * Wd.dg v k) / 4294967296 = mc x v (k + 1) := by
  rw [mc_step, Nat.div_div_eq_div_mul, ← Nat.pow_succ]; rfl
theorem mc_digit (x v k : Nat) : (mc x v k + x * Wd.dg v k) % 4294967296 = Wd.dg (x * v) k := by
  rw [mc_step]
  unfold Wd.dg
  have e : x * v = x * (v % 4294967296 ^ (k + 1)) + 4294967296 ^ k * (4294967296 * (x * (v / 4294967296 ^ (k + 1)))) := by
    have h := Nat.mod_add_div v (4294967296 ^ (k + 1))
    have h2 : x * v = x * (v % 4294967296 ^ (k + 1)) + x * (4294967296 ^ (k + 1) * (v / 4294967296 ^ (k + 1))) := by rw [← Nat.mul_add, h]
    rw [h2, Nat.pow_succ, Nat.mul_left_comm x, Nat.mul_assoc (4294967296 ^ k)]
  conv => rhs; rw [e, Nat.add_mul_div_left _ _ (Wd.pw_pos k), Nat.add_mul_mod_self_left]
theorem mc_le (x v k : Nat) : mc x v k ≤ x := by
  unfold mc
  have h : v % 4294967296 ^ k ≤ 4294967296 ^ k := Nat.le_of_lt (Nat.mod_lt _ (Wd.pw_pos k))
  calc x * (v % 4294967296 ^ k) / 4294967296 ^ k ≤ x * 4294967296 ^ k / 4294967296 ^ k := Nat.div_le_div_right (Nat.mul_le_mul_left x h)
    _ = x := Nat.mul_div_cancel x (Wd.pw_pos k)
theorem mul_cells (x v k : Nat) (hx : x < 4294967296) : mc x v k + x * Wd.dg v k < 18446744073709551616 ∧ bits .and .u64 ((mc x v k : Int) + ((x * Wd.dg v k : Nat) : Int)) 4294967295 = ((Wd.dg (x * v) k : Nat) : Int) ∧ ((mc x v k : Int) + ((x * Wd.dg v k : Nat) : Int)) / 4294967296 = ((mc x v (k + 1) : Nat) : Int) := by
  have h1 := mc_le x v k
  have h2 := Wd.dg_lt v k
  have h3 : x * Wd.dg v k ≤ 4294967295 * 4294967295 := Nat.mul_le_mul (by omega) (by omega)
  have h4 : mc x v k + x * Wd.dg v k < 18446744073709551616 := by omega
  refine ⟨h4, ?_, ?_⟩
  · rw [castAdd, andLow _ h4, mc_digit]
  · rw [castAdd, castDiv, mc_carry]

/-- the row of one part's product, so many places up. -/
theorem row_part (x v i j : Nat) (hi : i ≤ 1) (hj : j < 6) (hm : x * v < 4294967296 ^ 3) : (if i ≤ j ∧ j < i + 3 then Wd.dg (x * v) (j - i) else 0) = Wd.dg (x * v * 4294967296 ^ i) j := by
  have big : ∀ t, 3 ≤ t → Wd.dg (x * v) t = 0 := fun t ht => by
    unfold Wd.dg
    rw [Nat.div_eq_of_lt (Nat.lt_of_lt_of_le hm (Nat.pow_le_pow_right (by decide) ht))]
  have up : ∀ t, Wd.dg (x * v * 4294967296) (t + 1) = Wd.dg (x * v) t := fun t => by
    unfold Wd.dg
    rw [Nat.pow_succ, Nat.mul_div_mul_right _ _ (by decide)]
  rcases Nat.lt_or_ge i 1 with h0 | h0
  · obtain rfl : i = 0 := by omega
    rw [Nat.pow_zero, Nat.mul_one]
    split
    · rfl
    · exact (big j (by omega)).symm
  · obtain rfl : i = 1 := by omega
    rw [Nat.pow_one]
    cases j with
    | zero => simp [Wd.dg, Nat.mul_mod_left]
    | succ t =>
      rw [up t]
      split
      · rw [Nat.add_sub_cancel]
      · exact (big t (by omega)).symm
theorem out_step (va vb i : Nat) : (va % 4294967296 ^ i) * vb + Wd.dg va i * vb * 4294967296 ^ i = (va % 4294967296 ^ (i + 1)) * vb := by
  rw [mod_up', Nat.add_mul]
  congr 1
  rw [Nat.mul_right_comm, Nat.mul_comm (Wd.dg va i)]

end Go.Proofs.Ytghfgabajdghiab
