/- Plain mathematics of the division of two digits by one: what one digit of the quotient is, and how two make it whole. -/
namespace Go.Proofs.Ytghfgabajdghiab
set_option linter.unusedVariables false
namespace Dv

/-- the first guess is not below the digit, and at most one above the base. -/
theorem guess (u d y y1 y0 : Nat) (hy : y = y1 * 4294967296 + y0) (h0 : y0 < 4294967296) (h1 : 2147483648 ≤ y1) (hu : u < y) (hd : d < 4294967296) :
    (u * 4294967296 + d) / y ≤ u / y1 ∧ u / y1 ≤ 4294967297 ∧ u / y1 * y1 + u % y1 = u ∧ (u * 4294967296 + d) / y < 4294967296 := by
  refine ⟨?_, ?_, ?_, ?_⟩
  · have e : u / y1 = (u * 4294967296 + d) / 4294967296 / y1 := by
      have : (u * 4294967296 + d) / 4294967296 = u := by omega
      rw [this]
    rw [e, Nat.div_div_eq_div_mul]
    exact Nat.div_le_div_left (by rw [Nat.mul_comm]; omega) (Nat.mul_pos (by omega) (by omega))
  · have : u / y1 < 4294967298 := Nat.div_lt_of_lt_mul (by omega)
    omega
  · rw [Nat.mul_comm]; exact Nat.div_add_mod u y1
  · exact Nat.div_lt_of_lt_mul (by rw [Nat.mul_comm]; omega)

theorem split (q y y1 y0 : Nat) (hy : y = y1 * 4294967296 + y0) : q * y = 4294967296 * (q * y1) + q * y0 := by
  rw [hy, Nat.mul_add, ← Nat.mul_assoc, Nat.mul_comm (q * y1)]

/-- where the test says yes, the digit is below. -/
theorem step_big (u d y q : Nat) (hu : u < y) (hd : d < 4294967296) (hq : 4294967296 ≤ q) : (u * 4294967296 + d) / y < q :=
  Nat.lt_of_lt_of_le (Nat.div_lt_of_lt_mul (by rw [Nat.mul_comm]; omega)) hq

theorem step_less (u d y y1 y0 q r : Nat) (hy : y = y1 * 4294967296 + y0) (hpos : 0 < y) (hr : q * y1 + r = u) (ht : 4294967296 * r + d < q * y0) : (u * 4294967296 + d) / y < q := by
  rw [Nat.div_lt_iff_lt_mul hpos, split q y y1 y0 hy]
  omega

/-- where it says no, it is the digit. -/
theorem exit_no (u d y y1 y0 q r : Nat) (hy : y = y1 * 4294967296 + y0) (hpos : 0 < y) (hr : q * y1 + r = u) (hle : (u * 4294967296 + d) / y ≤ q) (ht : q * y0 ≤ 4294967296 * r + d) : (u * 4294967296 + d) / y = q := by
  apply Nat.le_antisymm hle
  rw [Nat.le_div_iff_mul_le hpos, split q y y1 y0 hy]
  omega

theorem exit_break (u d y y1 y0 q r : Nat) (hy : y = y1 * 4294967296 + y0) (hpos : 0 < y) (h0 : y0 < 4294967296) (hr : q * y1 + r = u) (hle : (u * 4294967296 + d) / y ≤ q) (hq : q ≤ 4294967296) (hb : 4294967296 ≤ r) : (u * 4294967296 + d) / y = q := by
  apply exit_no u d y y1 y0 q r hy hpos hr hle
  have h1 : q * y0 ≤ 4294967296 * y0 := Nat.mul_le_mul_right _ hq
  omega

theorem two_b (b u d1 d0 A B r1 r0 : Nat) (h1 : u * b + d1 = A + r1) (h2 : r1 * b + d0 = B + r0) : u * (b * b) + (d1 * b + d0) = r0 + (A * b + B) := by
  have e1 : u * (b * b) + (d1 * b + d0) = (u * b + d1) * b + d0 := by rw [Nat.add_mul, Nat.mul_assoc, Nat.add_assoc]
  rw [e1, h1, Nat.add_mul, Nat.add_assoc, h2]
  omega

theorem two (b u d1 d0 y q1 q0 r1 r0 : Nat) (h1 : u * b + d1 = q1 * y + r1) (h2 : r1 * b + d0 = q0 * y + r0) (hr : r0 < y) :
    (u * (b * b) + (d1 * b + d0)) / y = q1 * b + q0 ∧ (u * (b * b) + (d1 * b + d0)) % y = r0 := by
  have hpos : 0 < y := by omega
  have e : u * (b * b) + (d1 * b + d0) = r0 + y * (q1 * b + q0) := by
    have e1 : y * (q1 * b + q0) = (q1 * y) * b + q0 * y := by
      rw [Nat.mul_add, ← Nat.mul_assoc, Nat.mul_comm y q1, Nat.mul_comm y q0]
    rw [e1]
    exact two_b b u d1 d0 _ _ r1 r0 h1 h2
  rw [e]
  exact ⟨by rw [Nat.add_mul_div_left _ _ hpos, Nat.div_eq_of_lt hr, Nat.zero_add], by rw [Nat.add_mul_mod_self_left, Nat.mod_eq_of_lt hr]⟩

/-- a shift of both changes no quotient. -/
theorem scaled (n y p : Nat) (hp : 0 < p) : (n * p) / (y * p) = n / y ∧ (n * p) % (y * p) = (n % y) * p :=
  ⟨Nat.mul_div_mul_right _ _ hp, Nat.mul_mod_mul_right _ _ _⟩

end Dv
end Go.Proofs.Ytghfgabajdghiab
