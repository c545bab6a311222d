/- The contract of math/bits.Div64 whole, and of num.Scale. -/
import Derived.Test.YtghfgabajdghiabNumD
import Derived.RegionTactic
import Derived.ChangeAlike
namespace Go.Proofs.Ytghfgabajdghiab
open Go.RowKit
set_option linter.unusedVariables false

theorem shifted (B P P2 hi lo y : Nat) (hB : B = P2 * P) (hP : 0 < P) (hlo : lo < B) (hh : hi < y) :
    (hi * P + lo / P2) * B + lo * P % B = (hi * B + lo) * P ∧ hi * P + lo / P2 < y * P ∧ lo / P2 < P := by
  have e1 := Nat.div_add_mod' (lo * P) B
  have e2 : lo * P / B = lo / P2 := by rw [hB]; exact Nat.mul_div_mul_right lo P2 hP
  have l : lo / P2 < P := Nat.div_lt_of_lt_mul (by rw [← hB]; exact hlo)
  rw [e2] at e1
  refine ⟨?_, ?_, l⟩
  · rw [Nat.add_mul, Nat.add_mul, Nat.add_assoc, e1, Nat.mul_right_comm]
  · have : (hi + 1) * P ≤ y * P := Nat.mul_le_mul_right _ hh
    rw [Nat.add_mul] at this
    omega

theorem castPow (a s : Nat) : (a : Int) * 2 ^ s = ((a * 2 ^ s : Nat) : Int) := by rw [Int.natCast_mul, Int.natCast_pow]; rfl
theorem castDivPow (a s : Nat) : (a : Int) / 2 ^ s = ((a / 2 ^ s : Nat) : Int) := by rw [Int.natCast_ediv, Int.natCast_pow]; rfl

end Go.Proofs.Ytghfgabajdghiab
