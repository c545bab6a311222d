/- Plain mathematics of numbers in parts of 32 bits: what one part of a sum, of a difference and of a product is, and how parts order numbers. -/
namespace Go.Proofs.Ytghfgabajdghiab
set_option linter.unusedVariables false
namespace Wd

/-- the part number i of v. -/
def dg (v i : Nat) : Nat := v / 4294967296 ^ i % 4294967296
theorem dg_lt (v i : Nat) : dg v i < 4294967296 := Nat.mod_lt _ (by decide)
theorem pw_pos (i : Nat) : 0 < 4294967296 ^ i := Nat.pow_pos (by decide)
/-- what is carried into part i of a sum. -/
def cy (a b i : Nat) : Nat := (a % 4294967296 ^ i + b % 4294967296 ^ i) / 4294967296 ^ i
/-- what is borrowed from part i of a difference. -/
def bw (a b i : Nat) : Nat := if a % 4294967296 ^ i < b % 4294967296 ^ i then 1 else 0

theorem cy_zero (a b : Nat) : cy a b 0 = 0 := by unfold cy; simp [Nat.mod_one]
theorem bw_zero (a b : Nat) : bw a b 0 = 0 := by unfold bw; simp [Nat.mod_one]
theorem bw_01 (a b i : Nat) : bw a b i ≤ 1 := by unfold bw; split <;> omega
theorem mod_next (v p : Nat) : v % (p * 4294967296) = v % p + p * (v / p % 4294967296) := Nat.mod_mul

theorem sum_div (a b p : Nat) (hp : 0 < p) : (a + b) / p = a / p + b / p + (a % p + b % p) / p := by
  have e : a + b = (a % p + b % p) + p * (a / p + b / p) := by
    have h1 := Nat.div_add_mod a p
    have h2 := Nat.div_add_mod b p
    rw [Nat.mul_add]; omega
  rw [e, Nat.add_mul_div_left _ _ hp]
  omega

theorem cy_01 (a b i : Nat) : cy a b i ≤ 1 := by
  unfold cy
  have hp := pw_pos i
  generalize 4294967296 ^ i = p at *
  have h1 := Nat.mod_lt a hp
  have h2 := Nat.mod_lt b hp
  have : (a % p + b % p) / p < 2 := Nat.div_lt_of_lt_mul (by omega)
  omega

theorem add_dg (a b i : Nat) : (cy a b i + dg a i + dg b i) % 4294967296 = dg (a + b) i ∧ (cy a b i + dg a i + dg b i) / 4294967296 = cy a b (i + 1) := by
  unfold dg cy
  rw [Nat.pow_succ]
  have hp := pw_pos i
  generalize 4294967296 ^ i = p at *
  rw [sum_div a b p hp, mod_next a p, mod_next b p]
  have e : a % p + p * (a / p % 4294967296) + (b % p + p * (b / p % 4294967296)) = (a % p + b % p) + p * (a / p % 4294967296 + b / p % 4294967296) := by rw [Nat.mul_add]; omega
  rw [e, ← Nat.div_div_eq_div_mul, Nat.add_mul_div_left _ _ hp]
  generalize (a % p + b % p) / p = c
  generalize a / p = A
  generalize b / p = B
  constructor
  · omega
  · have : c + A % 4294967296 + B % 4294967296 = c + (A % 4294967296 + B % 4294967296) := by omega
    rw [this]

theorem sub_div (a b p : Nat) (hp : 0 < p) (h : b ≤ a) : (a - b) / p + b / p + (if a % p < b % p then 1 else 0) = a / p := by
  have h1 := Nat.div_add_mod a p
  have h2 := Nat.div_add_mod b p
  have l1 := Nat.mod_lt a hp
  have l2 := Nat.mod_lt b hp
  generalize a / p = A at *
  generalize b / p = B at *
  generalize a % p = x at *
  generalize b % p = y at *
  subst h1 h2
  by_cases c : x < y
  · rw [if_pos c]
    have hAB : B + 1 ≤ A := by
      by_cases g : A ≤ B
      · have := Nat.mul_le_mul_left p g; omega
      · omega
    obtain ⟨D, rfl⟩ : ∃ D, A = B + 1 + D := ⟨A - B - 1, by omega⟩
    have e : p * (B + 1 + D) + x - (p * B + y) = (p + x - y) + p * D := by rw [Nat.mul_add, Nat.mul_add]; omega
    rw [e, Nat.add_mul_div_left _ _ hp, Nat.div_eq_of_lt (by omega)]
    omega
  · rw [if_neg c]
    have hAB : B ≤ A := by
      by_cases g : B ≤ A
      · exact g
      · have := Nat.mul_le_mul_left p (show A + 1 ≤ B by omega)
        rw [Nat.mul_add] at this
        omega
    obtain ⟨D, rfl⟩ : ∃ D, A = B + D := ⟨A - B, by omega⟩
    have e : p * (B + D) + x - (p * B + y) = (x - y) + p * D := by rw [Nat.mul_add]; omega
    rw [e, Nat.add_mul_div_left _ _ hp, Nat.div_eq_of_lt (by omega)]
    omega

theorem lt_parts (p x y u v : Nat) (hu : u < p) (hv : v < p) : u + p * x < v + p * y ↔ x < y ∨ (x = y ∧ u < v) := by
  constructor
  · intro h
    by_cases c : x < y
    · exact .inl c
    · by_cases e : x = y
      · subst e; exact .inr ⟨rfl, by omega⟩
      · have := Nat.mul_le_mul_left p (show y + 1 ≤ x by omega)
        rw [Nat.mul_add] at this
        omega
  · rintro (h | ⟨rfl, h⟩)
    · have := Nat.mul_le_mul_left p (show x + 1 ≤ y by omega)
      rw [Nat.mul_add] at this
      omega
    · omega

theorem sub_dg (a b i : Nat) (h : b ≤ a) : (dg a i + 4294967296 - dg b i - bw a b i) % 4294967296 = dg (a - b) i ∧ 1 - (dg a i + 4294967296 - dg b i - bw a b i) / 4294967296 = bw a b (i + 1) := by
  have lb := bw_01 a b i
  have s := sub_div a b (4294967296 ^ i) (pw_pos i) h
  have hp := pw_pos i
  have e1 : bw a b (i + 1) = if a / 4294967296 ^ i % 4294967296 < b / 4294967296 ^ i % 4294967296 ∨ (a / 4294967296 ^ i % 4294967296 = b / 4294967296 ^ i % 4294967296 ∧ a % 4294967296 ^ i < b % 4294967296 ^ i) then 1 else 0 := by
    unfold bw
    rw [Nat.pow_succ, mod_next a, mod_next b]
    have := lt_parts (4294967296 ^ i) (a / 4294967296 ^ i % 4294967296) (b / 4294967296 ^ i % 4294967296) (a % 4294967296 ^ i) (b % 4294967296 ^ i) (Nat.mod_lt _ hp) (Nat.mod_lt _ hp)
    simp only [this]
  rw [e1]
  unfold dg bw at *
  generalize a / 4294967296 ^ i = A at *
  generalize b / 4294967296 ^ i = B at *
  generalize (a - b) / 4294967296 ^ i = D at *
  generalize a % 4294967296 ^ i = x at *
  generalize b % 4294967296 ^ i = y at *
  by_cases c : x < y
  · rw [if_pos c] at s lb ⊢
    constructor
    · omega
    · split <;> omega
  · rw [if_neg c] at s lb ⊢
    constructor
    · omega
    · split <;> omega

/-- the numbers above part i. -/
theorem top (a i : Nat) : a / 4294967296 ^ i = a / 4294967296 ^ (i + 1) * 4294967296 + dg a i := by
  unfold dg
  rw [Nat.pow_succ, ← Nat.div_div_eq_div_mul]
  omega
theorem top_eq {a b i : Nat} (h : a / 4294967296 ^ (i + 1) = b / 4294967296 ^ (i + 1)) (g : dg a i = dg b i) : a / 4294967296 ^ i = b / 4294967296 ^ i := by
  rw [top a, top b, h, g]
theorem top_lt {a b i : Nat} (h : a / 4294967296 ^ (i + 1) = b / 4294967296 ^ (i + 1)) (g : dg a i < dg b i) : a < b := by
  by_cases c : a < b
  · exact c
  · have := Nat.div_le_div_right (c := 4294967296 ^ i) (show b ≤ a by omega)
    rw [top a, top b, h] at this
    omega
theorem top_six {a : Nat} (h : a < 4294967296 ^ 6) : a / 4294967296 ^ 6 = 0 := Nat.div_eq_of_lt h
theorem top_zero (a : Nat) : a / 4294967296 ^ 0 = a := by simp

theorem dg_zero (i : Nat) : dg 0 i = 0 := by unfold dg; simp
theorem dg_mod (a i : Nat) (h : i < 6) : dg (a % 4294967296 ^ 6) i = dg a i := by
  unfold dg
  have e : (4294967296 : Nat) ^ 6 = 4294967296 ^ i * (4294967296 * 4294967296 ^ (5 - i)) := by
    rw [← Nat.pow_succ', ← Nat.pow_add, show i + (5 - i + 1) = 6 by omega]
  have hp := pw_pos i
  rw [e, Nat.mod_mul, Nat.add_mul_div_left _ _ hp, Nat.div_eq_of_lt (Nat.mod_lt _ hp), Nat.zero_add, Nat.mod_mul, Nat.add_mul_mod_self_left, Nat.mod_mod]

end Wd
end Go.Proofs.Ytghfgabajdghiab
