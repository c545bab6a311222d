/- Plain mathematics of decimal numbers: powers of ten, numbers at a greater scale, order, rounding half away from nought. -/
namespace Go.Proofs.YtebjicnjbiiioaaDoor
set_option linter.unusedVariables false
namespace Dm

/-- ten to the k. -/
def ten (k : Nat) : Int := 10 ^ k
theorem ten_pos (k : Nat) : 0 < ten k := Int.pow_pos (by decide)
theorem ten_add (a b : Nat) : ten (a + b) = ten a * ten b := Int.pow_add 10 a b
theorem ten_succ (k : Nat) : ten (k + 1) = ten k * 10 := Int.pow_succ 10 k
theorem ten_le {k : Nat} (h : k ≤ 9) : ten k ≤ 1000000000 := by
  have : ∀ i : Fin 10, ten i.val ≤ 1000000000 := by decide
  exact this ⟨k, by omega⟩

theorem fdiv_mul {a b c : Int} (hc : 0 < c) (hb : 0 < b) : (a * c).fdiv (b * c) = a.fdiv b := by
  rw [Int.fdiv_eq_ediv_of_nonneg _ (Int.le_of_lt (Int.mul_pos hb hc)), Int.fdiv_eq_ediv_of_nonneg a (Int.le_of_lt hb), Int.mul_ediv_mul_of_pos_left _ _ hc]

/-- half away from nought, by u. -/
def rnd (n u : Int) : Int := if 0 ≤ n then (2 * n + u) / (2 * u) else -((2 * (-n) + u) / (2 * u))

theorem rnd_mul {n u c : Int} (hc : 0 < c) (hu : 0 < u) : rnd (n * c) (u * c) = rnd n u := by
  have e : ∀ m : Int, (2 * (m * c) + u * c) / (2 * (u * c)) = (2 * m + u) / (2 * u) := by
    intro m
    rw [show 2 * (m * c) + u * c = (2 * m + u) * c by rw [Int.add_mul, Int.mul_assoc], show 2 * (u * c) = 2 * u * c by rw [Int.mul_assoc], Int.mul_ediv_mul_of_pos_left _ _ hc]
  unfold rnd
  by_cases h : 0 ≤ n
  · have h' : 0 ≤ n * c := Int.mul_nonneg h (by omega)
    rw [if_pos h, if_pos h', e]
  · have h' : ¬ 0 ≤ n * c := by have := Int.mul_neg_of_neg_of_pos (show n < 0 by omega) hc; omega
    rw [if_neg h, if_neg h', ← Int.neg_mul, e]

theorem rnd_self {n u : Int} (hu : 0 < u) : rnd (n * u) u = n := by
  have h := rnd_mul (n := n) (u := 1) hu (by decide)
  rw [Int.one_mul] at h
  rw [h]
  unfold rnd
  split <;> omega

theorem rnd_mono {a b u : Int} (hu : 0 < u) (h : a ≤ b) : rnd a u ≤ rnd b u := by
  have p : ∀ m : Int, 0 ≤ m → 0 ≤ (2 * m + u) / (2 * u) := fun m hm => Int.ediv_nonneg (by omega) (by omega)
  unfold rnd
  by_cases ha : 0 ≤ a
  · rw [if_pos ha, if_pos (by omega)]
    exact Int.ediv_le_ediv (by omega) (by omega)
  · rw [if_neg ha]
    by_cases hb : 0 ≤ b
    · rw [if_pos hb]
      have := p (-a) (by omega)
      have := p b hb
      omega
    · rw [if_neg hb]
      have : (2 * (-b) + u) / (2 * u) ≤ (2 * (-a) + u) / (2 * u) := Int.ediv_le_ediv (by omega) (by omega)
      omega

/-- the program's way to it: the quotient toward nought, and one further where half or more is left (u even). -/
theorem rnd_pos {n u h : Int} (hu : u = 2 * h) (hh : 0 < h) (hn : 0 ≤ n) : rnd n u = if h ≤ n.tmod u then n.tdiv u + 1 else n.tdiv u := by
  have e1 : n.tdiv u = n / u := Int.tdiv_eq_ediv_of_nonneg hn
  have e2 : n.tmod u = n % u := Int.tmod_eq_emod_of_nonneg hn
  have e3 := Int.mul_ediv_add_emod n u
  have e4 := Int.emod_nonneg n (show u ≠ 0 by omega)
  have e5 := Int.emod_lt_of_pos n (show 0 < u by omega)
  unfold rnd
  rw [if_pos hn, e1, e2]
  split
  · rw [Int.ediv_eq_iff_of_pos (by omega)]
    have : u * (n / u) = (n / u) * u := Int.mul_comm _ _
    have e6 : (n / u + 1) * (2 * u) = 2 * ((n / u) * u) + 2 * u := by rw [Int.add_mul, Int.one_mul, Int.mul_left_comm]
    omega
  · rw [Int.ediv_eq_iff_of_pos (by omega)]
    have : u * (n / u) = (n / u) * u := Int.mul_comm _ _
    have e6 : (n / u) * (2 * u) = 2 * ((n / u) * u) := by rw [Int.mul_left_comm]
    omega

theorem rnd_neg (n u : Int) (hu : 0 < u) : rnd (-n) u = - rnd n u := by
  unfold rnd
  by_cases h0 : n = 0
  · subst h0
    have : (2 * 0 + u) / (2 * u) = 0 := Int.ediv_eq_zero_of_lt (by omega) (by omega)
    simp only [Int.neg_zero, Int.le_refl, if_true, this]
  by_cases h : 0 ≤ n
  · rw [if_pos h, if_neg (by omega), Int.neg_neg]
  · rw [if_neg h, if_pos (by omega), Int.neg_neg]

end Dm
end Go.Proofs.YtebjicnjbiiioaaDoor
