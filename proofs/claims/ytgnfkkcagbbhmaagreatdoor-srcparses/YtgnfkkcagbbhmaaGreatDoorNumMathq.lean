/- Plain mathematics of whole numbers: how the quotient that cuts toward nought and the one that goes downward hang together, and how far each can go. -/
namespace Go.Proofs.YtgnfkkcagbbhmaaGreatDoor
set_option linter.unusedVariables false
namespace Nm

theorem tmod_neg_le {a b : Int} (h : a < 0) : a.tmod b ≤ 0 := by
  have := Int.tmod_nonneg (a := -a) b (by omega)
  rw [Int.neg_tmod] at this; omega

/-- where nothing is left, or what is left has the divisor's sign, both quotients are one. -/
theorem keep {a b : Int} (hb : b ≠ 0) (h : a.tmod b = 0 ∨ (a.tmod b < 0 ↔ b < 0)) : a.fdiv b = a.tdiv b ∧ a.fmod b = a.tmod b := by
  rw [Int.fdiv_eq_tdiv, Int.fmod_eq_tmod]
  by_cases hd : b ∣ a
  · simp [hd]
  · have hz : a.tmod b ≠ 0 := fun e => hd (Int.dvd_of_tmod_eq_zero e)
    have hs : a.tmod b < 0 ↔ b < 0 := by rcases h with h | h; exact absurd h hz; exact h
    rw [if_neg hd, if_neg hd]
    by_cases ha : 0 ≤ a
    · have h1 := Int.tmod_nonneg b ha
      have hb' : 0 ≤ b := by omega
      simp [ha, hb']
    · have h1 := tmod_neg_le (a := a) (b := b) (by omega)
      have hb' : ¬ 0 ≤ b := by omega
      rw [if_neg ha, if_neg hb', if_neg ha, if_neg hb', Int.sign_eq_neg_one_of_neg (by omega)]
      have : (b.toNat : Int) = 0 := by omega
      omega

end Nm
end Go.Proofs.YtgnfkkcagbbhmaaGreatDoor
