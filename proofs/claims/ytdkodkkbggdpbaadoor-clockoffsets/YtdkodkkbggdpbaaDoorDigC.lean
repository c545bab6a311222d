/- Contract of the reference's Fraction: microseconds behind a point. -/
import Derived.Test.YtdkodkkbggdpbaaDoorDigB
namespace Go.Proofs.YtdkodkkbggdpbaaDoor
open Go.RowKit
set_option linter.unusedVariables false

theorem trimR_same (r : List UInt8) : Lib.trimRightB (r ++ [48]) 48 = Lib.trimRightB r 48 := by
  unfold Lib.trimRightB
  rw [List.reverse_append]
  simp
theorem trimR_stop (r : List UInt8) (c : UInt8) (h : c ≠ 48) : Lib.trimRightB (r ++ [c]) 48 = r ++ [c] := by
  unfold Lib.trimRightB
  rw [List.reverse_append]
  simp [h]
theorem digit_zero {k : Nat} (h : k < 10) (e : UInt8.ofNat (48 + k) = 48) : k = 0 := by
  have := digit_nat h
  rw [e] at this
  simp at this
  omega
theorem frac_list {us : Int} (h1 : 1 ≤ us) (h2 : us ≤ 999999) : ∃ a b c d e f : Nat, (a < 10 ∧ b < 10 ∧ c < 10 ∧ d < 10 ∧ e < 10 ∧ f < 10) ∧ ¬ (a = 0 ∧ b = 0 ∧ c = 0 ∧ d = 0 ∧ e = 0 ∧ f = 0) ∧
    (⟨(Lib.itoa (1000000 + us)).toArray⟩ : ByteArray).extract 1 7 = ⟨#[UInt8.ofNat (48 + a), UInt8.ofNat (48 + b), UInt8.ofNat (48 + c), UInt8.ofNat (48 + d), UInt8.ofNat (48 + e), UInt8.ofNat (48 + f)]⟩ := by
  obtain ⟨u, hu⟩ : ∃ u : Nat, (1000000 + us).toNat = u := ⟨_, rfl⟩
  have e0 : Lib.itoa (1000000 + us) = Lib.decDigits u := by unfold Lib.itoa; rw [if_neg (by omega), hu]
  have e1 : Lib.decDigits u = [UInt8.ofNat (48 + u / 10 / 10 / 10 / 10 / 10 / 10), UInt8.ofNat (48 + u / 10 / 10 / 10 / 10 / 10 % 10), UInt8.ofNat (48 + u / 10 / 10 / 10 / 10 % 10), UInt8.ofNat (48 + u / 10 / 10 / 10 % 10), UInt8.ofNat (48 + u / 10 / 10 % 10), UInt8.ofNat (48 + u / 10 % 10), UInt8.ofNat (48 + u % 10)] := by
    rw [dec_step (x := u) (by omega), dec_step (x := u / 10) (by omega), dec_step (x := u / 10 / 10) (by omega), dec_step (x := u / 10 / 10 / 10) (by omega), dec_step (x := u / 10 / 10 / 10 / 10) (by omega), dec_step (x := u / 10 / 10 / 10 / 10 / 10) (by omega), Lib.decDigits_one (by omega)]
    rfl
  refine ⟨_, _, _, _, _, _, ⟨?_, ?_, ?_, ?_, ?_, ?_⟩, ?_, by rw [e0, e1]; rfl⟩
  all_goals omega

end Go.Proofs.YtdkodkkbggdpbaaDoor
