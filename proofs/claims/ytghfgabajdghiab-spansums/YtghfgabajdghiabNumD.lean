/- The contract of math/bits.Div64: quotient and remainder of a number of two words by one. -/
import Derived.Test.YtghfgabajdghiabNumC
import Derived.Test.YtghfgabajdghiabDivMath
import Derived.Lib.ItoaNum
namespace Go.Proofs.Ytghfgabajdghiab
open Go.RowKit
set_option linter.unusedVariables false

/-- what holds of a guess of one digit: with what is left it makes the number; it is not below the digit. -/
def Dg (U D Y Y1 Q R : Nat) : Prop := Q * Y1 + R = U ∧ (U * 4294967296 + D) / Y ≤ Q ∧ Q ≤ 4294967297 ∧ R < 4294967296

theorem dg_next {Q R Y1 U q r : Nat} (a : Q * Y1 + R = U) (hp : 0 < Q) (eq : (Q : Int) - 1 = q) (er : (R : Int) + Y1 = r) : q * Y1 + r = U := by
  obtain rfl : Q = q + 1 := by omega
  rw [Nat.add_mul] at a
  omega

theorem dg_down {U D Y Y1 Q R q r : Nat} (h : Dg U D Y Y1 Q R) (hl : (U * 4294967296 + D) / Y < Q) (eq : (Q : Int) - 1 = q) (er : (R : Int) + Y1 = r) (hr : r < 4294967296) : Dg U D Y Y1 q r := by
  have hp : 0 < Q := Nat.lt_of_le_of_lt (Nat.zero_le _) hl
  refine ⟨dg_next h.1 hp eq er, ?_, by have := h.2.2.1; omega, hr⟩
  obtain rfl : Q = q + 1 := by omega
  exact Nat.le_of_lt_succ hl

theorem dg_break {U D Y Y1 Y0 Q R q r : Nat} (hY : Y = Y1 * 4294967296 + Y0) (hp : 0 < Y) (h0 : Y0 < 4294967296) (h : Dg U D Y Y1 Q R) (hl : (U * 4294967296 + D) / Y < Q) (eq : (Q : Int) - 1 = q) (er : (R : Int) + Y1 = r) (hr : 4294967296 ≤ r) : (U * 4294967296 + D) / Y = q := by
  have hq : 0 < Q := Nat.lt_of_le_of_lt (Nat.zero_le _) hl
  refine Dv.exit_break U D Y Y1 Y0 q r hY hp h0 (dg_next h.1 hq eq er) ?_ (by have := h.2.2.1; omega) hr
  obtain rfl : Q = q + 1 := by omega
  exact Nat.le_of_lt_succ hl

theorem wrapMul (a b : Nat) (h : a * b < 18446744073709551616) : IntKind.u64.wrap ((a : Int) * (b : Int)) = ((a * b : Nat) : Int) := by
  rw [← Int.natCast_mul, castWrap _ h]

theorem dg_init (U D Y Y1 Y0 : Nat) (hY : Y = Y1 * 4294967296 + Y0) (b3 : Y0 < 4294967296) (b1 : 2147483648 ≤ Y1) (b2 : Y1 < 4294967296) (hU : U < Y) (hD : D < 4294967296) : Dg U D Y Y1 (U / Y1) (U % Y1) := by
  obtain ⟨g1, g2, g3, _⟩ := Dv.guess U D Y Y1 Y0 hY b3 b1 hU hD
  exact ⟨g3, g1, g2, Nat.lt_trans (Nat.mod_lt _ (by omega)) b2⟩

theorem quo_eq (U Y1 : Nat) (hU : U < 18446744073709551616) : IntKind.u64.wrap ((U : Int) / (Y1 : Int)) = ((U / Y1 : Nat) : Int) := by
  rw [← Int.natCast_ediv]
  exact castWrap _ (Nat.lt_of_le_of_lt (Nat.div_le_self _ _) hU)

theorem rem_eq (U Y1 q : Nat) (hU : U < 18446744073709551616) (hq : q = U / Y1) : IntKind.u64.wrap ((U : Int) - IntKind.u64.wrap ((q : Int) * (Y1 : Int))) = ((U % Y1 : Nat) : Int) := by
  have e := Nat.div_add_mod U Y1
  rw [Nat.mul_comm, ← hq] at e
  rw [wrapMul q Y1 (by omega), IntKind.wrap_u64]
  generalize q * Y1 = P at *
  omega

theorem left_eq (U D Y q r : Nat) (e : U * 4294967296 + D = q * Y + r) (hr : r < 18446744073709551616) :
    IntKind.u64.wrap (IntKind.u64.wrap (IntKind.u64.wrap ((U : Int) * 4294967296) + (D : Int)) - IntKind.u64.wrap ((q : Int) * (Y : Int))) = (r : Int) := by
  simp only [IntKind.wrap_u64]
  rw [← Int.natCast_mul]
  generalize q * Y = P at *
  omega

theorem fin_q {N Y q r : Nat} (h : N / Y = q * 4294967296 + r) : (q : Int) * 4294967296 + (r : Int) = (N : Int) / (Y : Int) := by
  rw [← Int.natCast_ediv, h]
  omega
theorem fin_r {N Y r s : Nat} (h : N % Y = r) : (r : Int) / 2 ^ s = (N : Int) % (Y : Int) / 2 ^ s := by
  rw [← Int.natCast_emod, h]

theorem mul_lt {a b : Nat} (ha : a < 4294967296) (hb : b < 4294967296) : a * b < 18446744073709551616 := by
  have := Lib.half_mul_le (a := a) (b := b) (by omega) (by omega)
  omega

/-- the shifted numbers: the divisor's highest bit is set, and the shifted number's parts make it. -/
theorem norm (y : Nat) (hp : y ≠ 0) (hy : y < 18446744073709551616) : ∃ s : Nat, s < 64 ∧ (64 - (Lib.bitLen y : Int)) = (s : Int) ∧ 9223372036854775808 ≤ y * 2 ^ s ∧ y * 2 ^ s < 18446744073709551616 := by
  obtain ⟨l1, l2, l3⟩ := Lib.bitLenAux_bounds 64 y hy hp
  have l4 : Lib.bitLen y ≤ 64 := Lib.bitLen_le y 64 (by decide) hy
  have e : Lib.bitLen y = Lib.bitLenAux 64 y := rfl
  rw [← e] at l1 l2 l3
  generalize Lib.bitLen y = n at *
  refine ⟨64 - n, by omega, by omega, ?_, ?_⟩
  · have : 2 ^ (n - 1) * 2 ^ (64 - n) = 9223372036854775808 := by
      rw [← Nat.pow_add, show n - 1 + (64 - n) = 63 by omega]
    rw [← this]
    exact Nat.mul_le_mul_right _ l2
  · have : 2 ^ n * 2 ^ (64 - n) = 18446744073709551616 := by
      rw [← Nat.pow_add, show n + (64 - n) = 64 by omega]
    rw [← this]
    exact Nat.mul_lt_mul_of_pos_right l3 (Nat.two_pow_pos _)

end Go.Proofs.Ytghfgabajdghiab
