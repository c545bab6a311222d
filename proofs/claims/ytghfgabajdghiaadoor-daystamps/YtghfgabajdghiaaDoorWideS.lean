/- Contracts: the reference's Mod; num.Div and num.Mod for every two numbers. -/
import Derived.Test.YtghfgabajdghiaaDoorWideQ
namespace Go.Proofs.YtghfgabajdghiaaDoor
open Go.RowKit
set_option linter.unusedVariables false

theorem fdiv_abs (a b : Int) (h1 : -9223372036854775808 ≤ a) (h2 : a ≤ 9223372036854775807) (hb : b ≠ 0) : (a.fdiv b).natAbs ≤ 9223372036854775809 := by
  have hm := over_math a b hb
  have hq : a.natAbs / b.natAbs ≤ 9223372036854775808 := Nat.le_trans (Nat.div_le_self _ _) (by omega)
  generalize a.natAbs / b.natAbs = Q at *
  generalize a.natAbs % b.natAbs = R at *
  rw [hm]
  split
  · split <;> omega
  · omega
theorem fmod_abs (a b : Int) (h3 : -9223372036854775808 ≤ b) (h4 : b ≤ 9223372036854775807) (hb : b ≠ 0) : -9223372036854775808 ≤ a.fmod b ∧ a.fmod b ≤ 9223372036854775807 := by
  rcases Int.lt_or_gt_of_ne hb with h | h
  · have e := Int.neg_fmod_neg a b
    rw [Int.fmod_eq_emod_of_nonneg _ (show 0 ≤ -b by omega)] at e
    have l := Int.emod_nonneg (-a) (show -b ≠ 0 by omega)
    have g := Int.emod_lt_of_pos (-a) (show 0 < -b by omega)
    omega
  · rw [Int.fmod_eq_emod_of_nonneg _ (show 0 ≤ b by omega)]
    have l := Int.emod_nonneg a (show b ≠ 0 by omega)
    have g := Int.emod_lt_of_pos a (show 0 < b by omega)
    omega
theorem fdiv_in (a b : Int) (h1 : -9223372036854775808 ≤ a) (h2 : a ≤ 9223372036854775807) (hb : b ≠ 0) (h : a ≠ -9223372036854775808 ∨ b ≠ -1) : -9223372036854775808 ≤ a.fdiv b ∧ a.fdiv b ≤ 9223372036854775807 := by
  have hm := over_math a b hb
  by_cases o : b.natAbs = 1
  · rw [o, Nat.div_one, Nat.mod_one, if_pos rfl] at hm
    rw [hm]
    rcases (show b = 1 ∨ b = -1 by omega) with rfl | rfl
    · split
      · omega
      · rename_i hs
        have : ¬ a < 0 := fun hn => hs (by rw [decide_eq_true hn]; rfl)
        omega
    · split <;> omega
  · have hq : a.natAbs / b.natAbs ≤ a.natAbs / 2 := Nat.div_le_div_left (by omega) (by decide)
    generalize a.natAbs / b.natAbs = Q at *
    generalize a.natAbs % b.natAbs = R at *
    rw [hm]
    split
    · split <;> omega
    · omega
theorem fmod_is (a b : Int) : a + -(b * a.fdiv b) = a.fmod b := by
  have := Int.fmod_add_mul_fdiv a b
  omega

set_option maxRecDepth 100000 in
set_option maxHeartbeats 1000000 in
theorem refmod_any (a b : Int) (h1 : -9223372036854775808 ≤ a) (h2 : a ≤ 9223372036854775807) (h3 : -9223372036854775808 ≤ b) (h4 : b ≤ 9223372036854775807) (hb : b ≠ 0) (w : World) :
    Calls Tryd.prog 71 #[.int .i64 a, .int .i64 b] w fun e w' => e = .returned (.tuple #[.int .i64 (smV (a.fmod b)), .int .i64 (smE (a.fmod b))]) ∧ Below w.heap.size w w' := by
  have HS : Hid (∀ (v : Value) (w : World), IsW w v (a.fmod b) → Calls Tryd.prog 64 #[v] w fun e w' => e = .returned (.tuple #[.int .i64 (smV (a.fmod b)), .int .i64 (smE (a.fmod b))]) ∧ Below w.heap.size w w') := fun v w h => wsmall v _ w h
  have HF : Hid (a + -(b * a.fdiv b) = a.fmod b) := fmod_is a b
  have HQ : Hid ((a.fdiv b).natAbs ≤ 9223372036854775809) := fdiv_abs a b h1 h2 hb
  have HG : Hid (a.natAbs + (-(b * a.fdiv b)).natAbs < 4294967296 ^ 6) := by
    show _ < _
    rw [Int.natAbs_neg, Int.natAbs_mul]
    have h := Nat.mul_le_mul (show b.natAbs ≤ 9223372036854775808 by omega) HQ.out
    exact Nat.lt_of_le_of_lt (Nat.add_le_add (show a.natAbs ≤ 9223372036854775808 by omega) h) (by decide)
  generalize smV (a.fmod b) = V at *
  generalize smE (a.fmod b) = E at *
  have hb' : (b == 0) = false := by simpa using hb
  have la : a.natAbs < 4294967296 ^ 5 := Nat.lt_of_le_of_lt (show a.natAbs ≤ 18446744073709551616 by omega) (by decide)
  go_enter Tryd.func71, Tryd.ntmps71
  go_wp2_with fail
  refine (wof a h1 h2 _).mono ?_
  rintro e w1 ⟨v1, rfl, W1, B1⟩
  go_wp2_with fail
  refine (wof b h3 h4 _).mono ?_
  rintro e w2 ⟨v2, rfl, W2, b2⟩
  have W1' := W1.below b2
  have B2 := B1.trans (b2.mono B1.size)
  clear W1 b2 B1
  go_wp2_with fail
  refine (wof a h1 h2 _).mono ?_
  rintro e w3 ⟨v3, rfl, W3, b3⟩
  have W13 := W1'.below b3
  have W23 := W2.below b3
  have B3 := B2.trans (b3.mono B2.size)
  clear W1' W2 b3 B2
  go_wp2_with fail
  refine (wof b h3 h4 _).mono ?_
  rintro e w4 ⟨v4, rfl, W4, b4⟩
  have W14 := W13.below b4
  have W24 := W23.below b4
  have W34 := W3.below b4
  have B4 := B3.trans (b4.mono B3.size)
  clear W13 W23 W3 b4 B3
  go_wp2_with fail
  refine (wover v3 v4 a b _ W34 W4 hb la (by omega)).mono ?_
  rintro e w5 ⟨v5, rfl, W5, b5⟩
  have W15 := W14.below b5
  have W25 := W24.below b5
  have B5 := B4.trans (b5.mono B4.size)
  clear W14 W24 W34 W4 b5 B4
  go_wp2_with fail
  refine (wtimes v2 v5 b _ _ W25 W5 (by omega) (by have := HQ.out; omega)).mono ?_
  rintro e w6 ⟨v6, rfl, W6, b6⟩
  have W16 := W15.below b6
  have B6 := B5.trans (b6.mono B5.size)
  clear W15 W25 W5 b6 B5
  go_wp2_with fail
  refine (wminus v6 _ _ W6).mono ?_
  rintro e w7 ⟨v7, rfl, W7, b7⟩
  have W17 := W16.below b7
  have B7 := B6.trans (b7.mono B6.size)
  clear W16 W6 b7 B6
  go_wp2_with fail
  refine (wplus v1 v7 _ _ _ W17 W7 HG.out).mono ?_
  rintro e w8 ⟨v8, rfl, W8, b8⟩
  have B8 := B7.trans (b8.mono B7.size)
  rw [HF.out] at W8
  clear W17 W7 b8 B7
  go_wp2_with fail
  refine (HS.out v8 _ W8).mono ?_
  rintro e w9 ⟨rfl, b9⟩
  have B9 := B8.trans (b9.mono B8.size)
  go_wp2
  go_ret2
  exact ⟨rfl, B9⟩

theorem div_any (a b : Int) (h1 : -9223372036854775808 ≤ a) (h2 : a ≤ 9223372036854775807) (h3 : -9223372036854775808 ≤ b) (h4 : b ≤ 9223372036854775807) (hb : b ≠ 0) (w : World) :
    Calls Tryd.prog 68 #[.int .i64 a, .int .i64 b] w fun e w' => e = .returned (.tuple #[.int .i64 (smV (a.fdiv b)), .int .i64 (smE (a.fdiv b))]) ∧ w' = w := by
  by_cases h : a ≠ -9223372036854775808 ∨ b ≠ -1
  · obtain ⟨g1, g2⟩ := fdiv_in a b h1 h2 hb h
    rw [smV_in g1 g2, smE_in g1 g2]
    exact div_in a b h1 h2 h3 h4 hb h w
  · obtain ⟨rfl, rfl⟩ : a = -9223372036854775808 ∧ b = -1 := by omega
    have e : (-9223372036854775808 : Int).fdiv (-1) = 9223372036854775808 := by decide
    rw [e, smV_out (by omega), smE_out (by omega)]
    exact div_edge w

theorem mod_any (a b : Int) (h3 : -9223372036854775808 ≤ b) (h4 : b ≤ 9223372036854775807) (hb : b ≠ 0) (w : World) :
    Calls Tryd.prog 69 #[.int .i64 a, .int .i64 b] w fun e w' => e = .returned (.tuple #[.int .i64 (smV (a.fmod b)), .int .i64 (smE (a.fmod b))]) ∧ w' = w := by
  obtain ⟨g1, g2⟩ := fmod_abs a b h3 h4 hb
  rw [smV_in g1 g2, smE_in g1 g2]
  exact mod_in a b h3 h4 hb w

end Go.Proofs.YtghfgabajdghiaaDoor
