/- CivMath, NumMath, NumA, NumB, NumC, DivMath, NumD, NumE, NumF, NumK, as one text. -/
import Derived.Test.YtmohhbgmbicklaaDoorRows
import Derived.WalkKit
import Derived.WalkSpells
import Derived.WalkLawsBesides
import Derived.Lib.Strings
import Derived.Lib.Slices
import Derived.Lib.Small
import Derived.Lib.Walk
import Derived.Lib.BitFns
import Derived.Lib.Mul64
import Derived.Laws.Bits64b
import Derived.Lib.ItoaNum
import Derived.RegionTactic
import Derived.ChangeAlike
/- Plain mathematics of the calendar: leap years, lengths of months, the day on which a year begins, and that every day has one date. -/
namespace Go.Proofs.YtmohhbgmbicklaaDoor
set_option linter.unusedVariables false
namespace Cv

def leap (y : Int) : Bool := (y % 4 == 0) && ((y % 100 != 0) || (y % 400 == 0))
/-- one more day in leap years. -/
def lp (y : Int) : Int := if leap y = true then 1 else 0
def len (y m : Int) : Int := if m = 2 then 28 + lp y else if m = 4 ∨ m = 6 ∨ m = 9 ∨ m = 11 then 30 else if 1 ≤ m ∧ m ≤ 12 then 31 else 0
/-- the day of January 1. -/
def S (y : Int) : Int := 365 * (y + 4800) + (y + 4803) / 4 - (y + 4899) / 100 + (y + 5199) / 400 - 2483649
/-- the days of a year ahead of a month; of month 13: all. -/
def cum (y m : Int) : Int :=
  if m ≤ 1 then 0 else if m = 2 then 31 else lp y + (if m = 3 then 59 else if m = 4 then 90 else if m = 5 then 120 else if m = 6 then 151 else if m = 7 then 181 else if m = 8 then 212 else if m = 9 then 243 else if m = 10 then 273 else if m = 11 then 304 else if m = 12 then 334 else 365)

theorem leap_iff (y : Int) : leap y = true ↔ (y % 4 = 0 ∧ (y % 100 ≠ 0 ∨ y % 400 = 0)) := by
  unfold leap; simp [bne_iff_ne]
theorem lp_eq (y : Int) : lp y = if (y % 4 = 0 ∧ (y % 100 ≠ 0 ∨ y % 400 = 0)) then 1 else 0 := by
  unfold lp; simp only [leap_iff]
theorem lp_01 (y : Int) : 0 ≤ lp y ∧ lp y ≤ 1 := by unfold lp; split <;> omega
theorem S_succ (y : Int) : S (y + 1) = S y + 365 + lp y := by
  rw [lp_eq]; unfold S; split <;> omega
theorem S_mono {y z : Int} (h : y ≤ z) : S y ≤ S z := by unfold S; omega
theorem S_lt {y z : Int} (h : S y < S z) : y < z := by
  by_cases g : z ≤ y
  · have := S_mono g; omega
  · omega
/-- a year's days: no other year has them. -/
theorem year_one {n y z : Int} (h1 : S y ≤ n) (h2 : n < S (y + 1)) (h3 : S z ≤ n) (h4 : n < S (z + 1)) : y = z := by
  have a : y < z + 1 := S_lt (by omega)
  have b : z < y + 1 := S_lt (by omega)
  omega
theorem guess (n y : Int) (h : y = n * 400 / 146097) : S (2000 + y - 1) ≤ n ∧ n < S (2000 + y + 2) ∧ (S (2000 + y) ≤ n ∨ S (2000 + y - 1) ≤ n) := by
  unfold S; omega
theorem year_is (n : Int) : ∃ y, S y ≤ n ∧ n < S (y + 1) := by
  obtain ⟨g1, g2, _⟩ := guess n _ rfl
  generalize n * 400 / 146097 = y at *
  by_cases a : n < S (2000 + y)
  · exact ⟨2000 + y - 1, g1, by rw [show 2000 + y - 1 + 1 = 2000 + y by omega]; exact a⟩
  · by_cases b : n < S (2000 + y + 1)
    · exact ⟨2000 + y, by omega, b⟩
    · exact ⟨2000 + y + 1, by omega, by rw [show 2000 + y + 1 + 1 = 2000 + y + 2 by omega]; exact g2⟩

theorem len_bd (y m : Int) : 0 ≤ len y m ∧ len y m ≤ 31 := by
  have := lp_01 y
  unfold len; split
  · omega
  · split
    · omega
    · split <;> omega
theorem len_out (y m : Int) (h : m < 1 ∨ 12 < m) : len y m = 0 := by
  unfold len
  rw [if_neg (by omega), if_neg (by omega), if_neg (by omega)]
theorem twelve {m : Int} (h1 : 1 ≤ m) (h2 : m ≤ 12) : m = 1 ∨ m = 2 ∨ m = 3 ∨ m = 4 ∨ m = 5 ∨ m = 6 ∨ m = 7 ∨ m = 8 ∨ m = 9 ∨ m = 10 ∨ m = 11 ∨ m = 12 := by omega
theorem cum_succ (y m : Int) (h1 : 1 ≤ m) (h2 : m ≤ 12) : cum y (m + 1) = cum y m + len y m := by
  rcases twelve h1 h2 with rfl | rfl | rfl | rfl | rfl | rfl | rfl | rfl | rfl | rfl | rfl | rfl <;> simp [cum, len] <;> omega
theorem cum_one (y : Int) : cum y 1 = 0 := by simp [cum]
theorem cum_all (y : Int) : cum y 13 = 365 + lp y := by simp [cum]; omega
theorem cum_bd (y m : Int) : 0 ≤ cum y m ∧ cum y m ≤ 366 := by
  have := lp_01 y
  by_cases a : m ≤ 1
  · unfold cum; rw [if_pos a]; omega
  · by_cases b : m ≤ 12
    · rcases twelve (m := m) (by omega) b with rfl | rfl | rfl | rfl | rfl | rfl | rfl | rfl | rfl | rfl | rfl | rfl <;> simp [cum] <;> omega
    · unfold cum
      rw [if_neg a, if_neg (by omega), if_neg (by omega), if_neg (by omega), if_neg (by omega), if_neg (by omega), if_neg (by omega), if_neg (by omega), if_neg (by omega), if_neg (by omega), if_neg (by omega), if_neg (by omega)]
      omega
theorem cum_mono {y a b : Int} (h0 : 1 ≤ a) (h : a ≤ b) (h1 : b ≤ 13) : cum y a ≤ cum y b := by
  have := lp_01 y
  obtain ⟨k, rfl⟩ : ∃ k : Nat, b = a + k := ⟨(b - a).toNat, by omega⟩
  clear h
  induction k with
  | zero => simp
  | succ k ih =>
    have i := ih (by omega)
    have c := cum_succ y (a + k) (by omega) (by omega)
    have l := len_bd y (a + k)
    rw [show a + ((k + 1 : Nat) : Int) = a + (k : Int) + 1 by omega, c]
    omega
/-- a day's month: no other month has it. -/
theorem month_is (y r : Int) (h1 : 0 ≤ r) (h2 : r < 365 + lp y) : ∃ m, 1 ≤ m ∧ m ≤ 12 ∧ cum y m ≤ r ∧ r < cum y (m + 1) := by
  have e := cum_all y
  have key : ∀ k : Nat, k ≤ 12 → r < cum y (k + 1) → ∃ m, 1 ≤ m ∧ m ≤ 12 ∧ cum y m ≤ r ∧ r < cum y (m + 1) := by
    intro k
    induction k with
    | zero => intro _ h; have e0 : cum y (((0 : Nat) : Int) + 1) = 0 := cum_one y; rw [e0] at h; omega
    | succ k ih =>
      intro hk h
      by_cases g : cum y ((k : Int) + 1) ≤ r
      · exact ⟨(k : Int) + 1, by omega, by omega, g, by rw [show ((k : Int) + 1 + 1) = ((k + 1 : Nat) : Int) + 1 by omega]; exact h⟩
      · exact ih (by omega) (by omega)
  exact key 12 (by omega) (by rw [show (((12 : Nat) : Int) + 1) = 13 by omega, e]; exact h2)
/-- a date of a day. -/
def Is (n y m d : Int) : Prop := 1 ≤ m ∧ m ≤ 12 ∧ 1 ≤ d ∧ d ≤ len y m ∧ n = S y + cum y m + d - 1
theorem is_date (n : Int) : ∃ y m d, Is n y m d := by
  obtain ⟨y, h1, h2⟩ := year_is n
  have e := S_succ y
  obtain ⟨m, m1, m2, c1, c2⟩ := month_is y (n - S y) (by omega) (by omega)
  have := cum_succ y m m1 m2
  exact ⟨y, m, n - S y - cum y m + 1, m1, m2, by omega, by omega, by omega⟩
theorem is_year {n y m d : Int} (h : Is n y m d) : S y ≤ n ∧ n < S (y + 1) := by
  obtain ⟨h1, h2, h3, h4, h5⟩ := h
  have a := cum_bd y m
  have b := cum_succ y m h1 h2
  have c := cum_mono (y := y) (a := m + 1) (b := 13) (by omega) (by omega) (by omega)
  have e := S_succ y
  rw [cum_all] at c
  omega
end Cv
end Go.Proofs.YtmohhbgmbicklaaDoor

/- Plain mathematics of whole numbers: how the quotient that cuts toward nought and the one that goes downward hang together, and how far each can go. -/
namespace Go.Proofs.YtmohhbgmbicklaaDoor
set_option linter.unusedVariables false
namespace Nm

end Nm
end Go.Proofs.YtmohhbgmbicklaaDoor

/- Contracts of num.size, num.signed, num.Add, num.Sub, num.Div, num.Mod: each answers what the plain number says, for every argument of its type. -/
namespace Go.Proofs.YtmohhbgmbicklaaDoor
open Go.RowKit
set_option linter.unusedVariables false

theorem ret_int {k : IntKind} {a b : Int} (h : a = b) : Ending.returned (.int k a) = .returned (.int k b) := by rw [h]
end Go.Proofs.YtmohhbgmbicklaaDoor

/- Contracts of math/bits.Len64, LeadingZeros64, Mul64, as this program's own translation has them. -/
namespace Go.Proofs.YtmohhbgmbicklaaDoor
open Go.RowKit
set_option linter.unusedVariables false

end Go.Proofs.YtmohhbgmbicklaaDoor

/- Contracts of math/bits.Mul64, num.product, num.Mul, num.Mod, num.Split, num.Neg's kin: the product's two halves, the product, what is left, days and microseconds. -/
namespace Go.Proofs.YtmohhbgmbicklaaDoor
open Go.RowKit
set_option linter.unusedVariables false

end Go.Proofs.YtmohhbgmbicklaaDoor

/- Plain mathematics of the division of two digits by one: what one digit of the quotient is, and how two make it whole. -/
namespace Go.Proofs.YtmohhbgmbicklaaDoor
set_option linter.unusedVariables false
namespace Dv

/-- the first guess is not below the digit, and at most one above the base. -/
theorem guess (u d y y1 y0 : Nat) (hy : y = y1 * 4294967296 + y0) (h0 : y0 < 4294967296) (h1 : 2147483648 ≤ y1) (hu : u < y) (hd : d < 4294967296) :
    (u * 4294967296 + d) / y ≤ u / y1 ∧ u / y1 ≤ 4294967297 ∧ u / y1 * y1 + u % y1 = u ∧ (u * 4294967296 + d) / y < 4294967296 := by
  refine ⟨?_, ?_, ?_, ?_⟩
  · have e : u / y1 = (u * 4294967296 + d) / 4294967296 / y1 := by
      have : (u * 4294967296 + d) / 4294967296 = u := by omega
      rw [this]
    rw [e, Nat.div_div_eq_div_mul]
    exact Nat.div_le_div_left (by rw [Nat.mul_comm]; omega) (Nat.mul_pos (by omega) (by omega))
  · have : u / y1 < 4294967298 := Nat.div_lt_of_lt_mul (by omega)
    omega
  · rw [Nat.mul_comm]; exact Nat.div_add_mod u y1
  · exact Nat.div_lt_of_lt_mul (by rw [Nat.mul_comm]; omega)

theorem split (q y y1 y0 : Nat) (hy : y = y1 * 4294967296 + y0) : q * y = 4294967296 * (q * y1) + q * y0 := by
  rw [hy, Nat.mul_add, ← Nat.mul_assoc, Nat.mul_comm (q * y1)]

end Dv
end Go.Proofs.YtmohhbgmbicklaaDoor

/- The contract of math/bits.Div64: quotient and remainder of a number of two words by one. -/
namespace Go.Proofs.YtmohhbgmbicklaaDoor
open Go.RowKit
set_option linter.unusedVariables false

end Go.Proofs.YtmohhbgmbicklaaDoor

/- The contract of math/bits.Div64 whole, and of num.Scale. -/
namespace Go.Proofs.YtmohhbgmbicklaaDoor
open Go.RowKit
set_option linter.unusedVariables false

end Go.Proofs.YtmohhbgmbicklaaDoor

/- The contract of num.Scale: one number times another one, and how often a third one is there. -/
namespace Go.Proofs.YtmohhbgmbicklaaDoor
open Go.RowKit
set_option linter.unusedVariables false

end Go.Proofs.YtmohhbgmbicklaaDoor

/- What the law's fixed calls come to. -/
namespace Go.Proofs.YtmohhbgmbicklaaDoor
open Go.RowKit
set_option linter.unusedVariables false

end Go.Proofs.YtmohhbgmbicklaaDoor
