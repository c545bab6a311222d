/- Contracts, more: the reference's Plus and Minus of numbers with their signs; Add, Sub, Neg of the reference, and num.Sub, num.Neg. -/
import Derived.Test.YtghfgabajdghiabWideE
import Derived.Test.YtghfgabajdghiabNumK
namespace Go.Proofs.Ytghfgabajdghiab
open Go.RowKit
set_option linter.unusedVariables false

/-- a number of 192 bits as a value: its sign (nought has none) and its row. -/
def IsW (w : World) (v : Value) (x : Int) : Prop := ∃ b, v = .agg #[.bool (decide (x < 0)), .slice (some ⟨b, 0, none⟩) 6 6] ∧ Row w b x.natAbs
theorem IsW.below {w w1 : World} {v : Value} {x : Int} (h : IsW w v x) (hb : Below w.heap.size w w1) : IsW w1 v x := by
  obtain ⟨b, hv, hr⟩ := h
  exact ⟨b, hv, hr.below hb hr.2.1⟩

theorem wof (n : Int) (h1 : -9223372036854775808 ≤ n) (h2 : n ≤ 9223372036854775807) (w : World) :
    Calls Try.prog 49 #[.int .i64 n] w fun e w' => ∃ v, e = .returned v ∧ IsW w' v n ∧ Below w.heap.size w w' :=
  (rof_any n h1 h2 w).mono fun e w' ⟨b, he, hb, _, hr⟩ => ⟨_, he, ⟨b, rfl, hr⟩, hb⟩

theorem wplus (v u : Value) (x y : Int) (w : World) (hx : IsW w v x) (hy : IsW w u y) (hs : x.natAbs + y.natAbs < 4294967296 ^ 6) :
    Calls Try.prog 42 #[v, u] w fun e w' => ∃ v', e = .returned v' ∧ IsW w' v' (x + y) ∧ Below w.heap.size w w' := by
  obtain ⟨ba, rfl, ra⟩ := hx
  obtain ⟨bb, rfl, rb⟩ := hy
  by_cases sx : x < 0
  · by_cases sy : y < 0
    · rw [decide_eq_true sx, decide_eq_true sy]
      refine (plus_same true ba bb _ _ w ra rb hs).mono fun e w' ⟨b, he, hb, _, hr⟩ => ⟨_, he, ⟨b, by rw [decide_eq_true (show x + y < 0 by omega)], ?_⟩, hb⟩
      rw [show (x + y).natAbs = x.natAbs + y.natAbs by omega]; exact hr
    · rw [decide_eq_true sx, decide_eq_false sy]
      by_cases hl : x.natAbs < y.natAbs
      · refine (plus_lt true false rfl ba bb _ _ w ra rb hl).mono fun e w' ⟨b, he, hb, _, hr⟩ => ⟨_, he, ⟨b, by rw [decide_eq_false (show ¬ x + y < 0 by omega)], ?_⟩, hb⟩
        rw [show (x + y).natAbs = y.natAbs - x.natAbs by omega]; exact hr
      · refine (plus_ge_true ba bb _ _ w ra rb (by omega)).mono fun e w' ⟨b, he, hb, _, hr⟩ => ⟨_, he, ⟨b, ?_, ?_⟩, hb⟩
        · by_cases he2 : x.natAbs = y.natAbs
          · rw [cmpV_eq he2, decide_eq_false (show ¬ x + y < 0 by omega)]; rfl
          · rw [cmpV_gt (show y.natAbs < x.natAbs by omega), decide_eq_true (show x + y < 0 by omega)]; rfl
        · rw [show (x + y).natAbs = x.natAbs - y.natAbs by omega]; exact hr
  · by_cases sy : y < 0
    · rw [decide_eq_false sx, decide_eq_true sy]
      by_cases hl : x.natAbs < y.natAbs
      · refine (plus_lt false true rfl ba bb _ _ w ra rb hl).mono fun e w' ⟨b, he, hb, _, hr⟩ => ⟨_, he, ⟨b, by rw [decide_eq_true (show x + y < 0 by omega)], ?_⟩, hb⟩
        rw [show (x + y).natAbs = y.natAbs - x.natAbs by omega]; exact hr
      · refine (plus_ge_false ba bb _ _ w ra rb (by omega)).mono fun e w' ⟨b, he, hb, _, hr⟩ => ⟨_, he, ⟨b, by rw [decide_eq_false (show ¬ x + y < 0 by omega)], ?_⟩, hb⟩
        rw [show (x + y).natAbs = x.natAbs - y.natAbs by omega]; exact hr
    · rw [decide_eq_false sx, decide_eq_false sy]
      refine (plus_same false ba bb _ _ w ra rb hs).mono fun e w' ⟨b, he, hb, _, hr⟩ => ⟨_, he, ⟨b, by rw [decide_eq_false (show ¬ x + y < 0 by omega)], ?_⟩, hb⟩
      rw [show (x + y).natAbs = x.natAbs + y.natAbs by omega]; exact hr

theorem wminus (v : Value) (x : Int) (w : World) (hx : IsW w v x) :
    Calls Try.prog 44 #[v] w fun e w' => ∃ v', e = .returned v' ∧ IsW w' v' (-x) ∧ Below w.heap.size w w' := by
  obtain ⟨ba, rfl, ra⟩ := hx
  by_cases sx : x < 0
  · rw [decide_eq_true sx]
    refine (minus_true ba _ w ra).mono fun e w' ⟨he, hb⟩ => ⟨_, he, ⟨ba, by rw [decide_eq_false (show ¬ -x < 0 by omega)], ?_⟩, hb⟩
    rw [Int.natAbs_neg]; exact ra.below hb ra.2.1
  · rw [decide_eq_false sx]
    refine (minus_false ba _ _ w ra (fun w h => rzero_any ba _ w h)).mono fun e w' ⟨he, hb⟩ => ⟨_, he, ⟨ba, ?_, ?_⟩, hb⟩
    · by_cases z : x = 0
      · subst z; rfl
      · rw [decide_eq_true (show -x < 0 by omega), decide_eq_false (show ¬ x.natAbs = 0 by omega)]; rfl
    · rw [Int.natAbs_neg]; exact ra.below hb ra.2.1

theorem wsmall (v : Value) (x : Int) (w : World) (hx : IsW w v x) :
    Calls Try.prog 48 #[v] w fun e w' => e = .returned (.tuple #[.int .i64 (smV x), .int .i64 (smE x)]) ∧ Below w.heap.size w w' := by
  obtain ⟨b, rfl, r⟩ := hx
  have h := small_any (decide (x < 0)) b x.natAbs w r
  have e : sgn (decide (x < 0)) x.natAbs = x := by unfold sgn; by_cases s : x < 0 <;> simp [s] <;> omega
  rw [e] at h
  exact h

end Go.Proofs.Ytghfgabajdghiab
