/- The contract of num.Scale: one number times another one, and how often a third one is there. -/
import Derived.Test.YtghfgabajdghiabNumE
namespace Go.Proofs.Ytghfgabajdghiab
open Go.RowKit
set_option linter.unusedVariables false

theorem fdiv_pp (p n : Nat) : (p : Int).fdiv (n : Int) = ((p / n : Nat) : Int) := by
  rw [Int.fdiv_eq_ediv_of_nonneg _ (by omega), Int.natCast_ediv]

theorem fdiv_np (p n : Nat) (hn : 0 < n) : (-(p : Int)).fdiv (n : Int) = if p % n = 0 then -((p / n : Nat) : Int) else -((p / n : Nat) : Int) - 1 := by
  rw [Int.fdiv_eq_ediv_of_nonneg _ (by omega)]
  have e := Nat.div_add_mod p n
  have l := Nat.mod_lt p hn
  have e' : (n : Int) * ((p / n : Nat) : Int) + ((p % n : Nat) : Int) = (p : Int) := by rw [← Int.natCast_mul, ← Int.natCast_add, e]
  by_cases h : p % n = 0
  · rw [if_pos h]
    refine ((Int.ediv_emod_unique (r := 0) (by omega)).2 ⟨?_, by omega, by omega⟩).1
    rw [h] at e'
    rw [Int.mul_neg]
    omega
  · rw [if_neg h]
    refine ((Int.ediv_emod_unique (r := (n : Int) - ((p % n : Nat) : Int)) (by omega)).2 ⟨?_, by omega, by omega⟩).1
    rw [Int.mul_sub, Int.mul_neg]
    omega

theorem scale_math (a b c : Int) (p n : Nat) (hp : a.natAbs * b.natAbs = p) (hn : c.natAbs = n) (hc : c ≠ 0) :
    (a * b).fdiv c = if ((decide (a < 0) != decide (b < 0)) != decide (c < 0)) = true then (if p % n = 0 then -((p / n : Nat) : Int) else -((p / n : Nat) : Int) - 1) else ((p / n : Nat) : Int) := by
  have hs := sgn_of a b
  rw [hp] at hs
  rw [← hs]
  have hn0 : 0 < n := by omega
  generalize (decide (a < 0) != decide (b < 0)) = X
  by_cases h : c < 0
  · have ec : c = -(n : Int) := by omega
    rw [ec]
    have hd : decide (-(n : Int) < 0) = true := by rw [decide_eq_true_eq]; omega
    rw [hd]
    cases X
    · show (p : Int).fdiv (-(n : Int)) = _
      rw [show (p : Int).fdiv (-(n : Int)) = (-(p : Int)).fdiv (n : Int) by rw [← Int.neg_fdiv_neg (p : Int) (-(n : Int)), Int.neg_neg], fdiv_np p n hn0]
      rfl
    · show (-(p : Int)).fdiv (-(n : Int)) = _
      rw [Int.neg_fdiv_neg, fdiv_pp]
      rfl
  · have ec : c = (n : Int) := by omega
    rw [ec]
    have hd : decide ((n : Int) < 0) = false := by rw [decide_eq_false_iff_not]; omega
    rw [hd]
    cases X
    · show (p : Int).fdiv (n : Int) = _
      rw [fdiv_pp]
      rfl
    · show (-(p : Int)).fdiv (n : Int) = _
      rw [fdiv_np p n hn0]
      rfl

end Go.Proofs.Ytghfgabajdghiab
