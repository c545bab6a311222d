/- Plain mathematics of whole numbers: how the quotient that cuts toward nought and the one that goes downward hang together, and how far each can go. -/
namespace Go.Proofs.Ytghfgabajdghiac
set_option linter.unusedVariables false
namespace Nm

theorem tmod_neg_le {a b : Int} (h : a < 0) : a.tmod b ≤ 0 := by
  have := Int.tmod_nonneg (a := -a) b (by omega)
  rw [Int.neg_tmod] at this; omega

/-- where nothing is left, or what is left has the divisor's sign, both quotients are one. -/
theorem keep {a b : Int} (hb : b ≠ 0) (h : a.tmod b = 0 ∨ (a.tmod b < 0 ↔ b < 0)) : a.fdiv b = a.tdiv b ∧ a.fmod b = a.tmod b := by
  rw [Int.fdiv_eq_tdiv, Int.fmod_eq_tmod]
  by_cases hd : b ∣ a
  · simp [hd]
  · have hz : a.tmod b ≠ 0 := fun e => hd (Int.dvd_of_tmod_eq_zero e)
    have hs : a.tmod b < 0 ↔ b < 0 := by rcases h with h | h; exact absurd h hz; exact h
    rw [if_neg hd, if_neg hd]
    by_cases ha : 0 ≤ a
    · have h1 := Int.tmod_nonneg b ha
      have hb' : 0 ≤ b := by omega
      simp [ha, hb']
    · have h1 := tmod_neg_le (a := a) (b := b) (by omega)
      have hb' : ¬ 0 ≤ b := by omega
      rw [if_neg ha, if_neg hb', if_neg ha, if_neg hb', Int.sign_eq_neg_one_of_neg (by omega)]
      have : (b.toNat : Int) = 0 := by omega
      omega

/-- else the one that goes downward is one less, and what is left one divisor more. -/
theorem down {a b : Int} (hb : b ≠ 0) (hz : a.tmod b ≠ 0) (h : ¬ (a.tmod b < 0 ↔ b < 0)) : a.fdiv b = a.tdiv b - 1 ∧ a.fmod b = a.tmod b + b := by
  have hd : ¬ b ∣ a := fun e => hz (Int.tmod_eq_zero_of_dvd e)
  rw [Int.fdiv_eq_tdiv, Int.fmod_eq_tmod, if_neg hd, if_neg hd]
  by_cases ha : 0 ≤ a
  · have h1 := Int.tmod_nonneg b ha
    have hb' : ¬ 0 ≤ b := by omega
    simp [ha, hb']
  · have h1 := tmod_neg_le (a := a) (b := b) (by omega)
    have hb' : 0 ≤ b := by omega
    rw [if_neg ha, if_pos hb', if_neg ha, if_pos hb', Int.sign_eq_one_of_pos (by omega)]
    omega

theorem tdiv_half {a b : Int} (h1 : -9223372036854775808 ≤ a) (h2 : a ≤ 9223372036854775807) (hb : b ≤ -2 ∨ 2 ≤ b) : -4611686018427387904 ≤ a.tdiv b ∧ a.tdiv b ≤ 4611686018427387904 := by
  have e : (a.tdiv b).natAbs = a.natAbs / b.natAbs := Int.natAbs_tdiv a b
  have l : a.natAbs / b.natAbs ≤ a.natAbs / 2 := Nat.div_le_div_left (by omega) (by omega)
  omega

theorem tdiv_bd {a b : Int} (h1 : -9223372036854775808 ≤ a) (h2 : a ≤ 9223372036854775807) (hb : b ≠ 0) (h : a ≠ -9223372036854775808 ∨ b ≠ -1) : -9223372036854775808 ≤ a.tdiv b ∧ a.tdiv b ≤ 9223372036854775807 := by
  by_cases h3 : b = 1
  · subst h3; rw [Int.tdiv_one]; omega
  · by_cases h4 : b = -1
    · subst h4; rw [Int.tdiv_neg, Int.tdiv_one]; omega
    · have := tdiv_half h1 h2 (b := b) (by omega)
      omega

theorem two_of_left {a b : Int} (hb : b ≠ 0) (hz : a.tmod b ≠ 0) : b ≤ -2 ∨ 2 ≤ b := by
  by_cases h3 : b = 1
  · subst h3; exact absurd (Int.tmod_one a) hz
  · by_cases h4 : b = -1
    · subst h4; rw [Int.tmod_neg, Int.tmod_one] at hz; exact absurd rfl hz
    · omega

theorem tmod_bd {a b : Int} (hb : b ≠ 0) : (a.tmod b).natAbs < b.natAbs := by
  have e : (a.tmod b).natAbs = a.natAbs % b.natAbs := Int.natAbs_tmod a b
  rw [e]
  exact Nat.mod_lt _ (by omega)

end Nm
end Go.Proofs.Ytghfgabajdghiac
