/- Contracts: the reference's Times of numbers with their signs, and its Mul. -/
import Derived.Test.YtghfgabajdghiaaDoorWideU
namespace Go.Proofs.YtghfgabajdghiaaDoor
open Go.RowKit
set_option linter.unusedVariables false

theorem sign_mul (x y : Int) : ((decide (x < 0) != decide (y < 0)) && !decide (x.natAbs * y.natAbs = 0)) = decide (x * y < 0) := by
  rw [← Int.natAbs_mul]
  have hz : (x * y).natAbs = 0 ↔ x = 0 ∨ y = 0 := by rw [Int.natAbs_eq_zero, Int.mul_eq_zero]
  rcases Int.lt_trichotomy x 0 with hx | hx | hx
  · rcases Int.lt_trichotomy y 0 with hy | hy | hy
    · have h := Int.mul_pos_of_neg_of_neg hx hy
      rw [decide_eq_true hx, decide_eq_true hy, decide_eq_false (show ¬ x * y < 0 by omega)]; rfl
    · subst hy; simp
    · have h := Int.mul_neg_of_neg_of_pos hx hy
      rw [decide_eq_true hx, decide_eq_false (show ¬ y < 0 by omega), decide_eq_true h, decide_eq_false (show ¬ (x * y).natAbs = 0 by omega)]; rfl
  · subst hx; simp
  · rcases Int.lt_trichotomy y 0 with hy | hy | hy
    · have h := Int.mul_neg_of_pos_of_neg hx hy
      rw [decide_eq_true hy, decide_eq_false (show ¬ x < 0 by omega), decide_eq_true h, decide_eq_false (show ¬ (x * y).natAbs = 0 by omega)]; rfl
    · subst hy; simp
    · have h := Int.mul_pos hx hy
      rw [decide_eq_false (show ¬ x < 0 by omega), decide_eq_false (show ¬ y < 0 by omega), decide_eq_false (show ¬ x * y < 0 by omega)]; rfl

theorem wtimes (v u : Value) (x y : Int) (w : World) (hx : IsW w v x) (hy : IsW w u y) (h1 : x.natAbs < 18446744073709551616) (h2 : y.natAbs < 18446744073709551616) :
    Calls Tryd.prog 83 #[v, u] w fun e w' => ∃ v', e = .returned v' ∧ IsW w' v' (x * y) ∧ Below w.heap.size w w' := by
  obtain ⟨ba, rfl, ra⟩ := hx
  obtain ⟨bb, rfl, rb⟩ := hy
  refine (times_any _ _ ba bb _ _ w ra rb h1 h2).mono fun e w' ⟨b, he, hb, _, hr⟩ => ⟨_, he, ⟨b, by rw [sign_mul], ?_⟩, hb⟩
  rw [Int.natAbs_mul]; exact hr

end Go.Proofs.YtghfgabajdghiaaDoor
