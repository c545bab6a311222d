/- Contracts of the reference's mod, div, Leap, Len, Right, start, day, and of civil.Leap, Len, Right, newYear: each answers the plain mathematics. -/
import Derived.Test.YtghfgabajdghiaaDoorRows
import Derived.Test.YtghfgabajdghiaaDoorNumMath
import Derived.Test.YtghfgabajdghiaaDoorCivMath
import Derived.WalkKit
import Derived.WalkSpells
import Derived.WalkLawsBesides
namespace Go.Proofs.YtghfgabajdghiaaDoor.Cvl
open Go.RowKit
set_option linter.unusedVariables false

theorem ret_int {k : IntKind} {a b : Int} (h : a = b) : Ending.returned (.int k a) = .returned (.int k b) := by rw [h]
theorem ret_bool {a b : Bool} (h : a = b) : Ending.returned (.bool a) = .returned (.bool b) := by rw [h]

theorem mod_up {a b : Int} (hb : 0 < b) (h : a.tmod b < 0) : a % b = a.tmod b + b := by
  have e := (Nm.down (a := a) (b := b) (by omega) (by omega) (by omega)).2
  rw [Int.fmod_eq_emod_of_nonneg _ (by omega)] at e
  exact e
theorem mod_same {a b : Int} (hb : 0 < b) (h : ¬ a.tmod b < 0) : a % b = a.tmod b := by
  have e := (Nm.keep (a := a) (b := b) (by omega) (by omega)).2
  rw [Int.fmod_eq_emod_of_nonneg _ (by omega)] at e
  exact e
theorem div_down {a b : Int} (hb : 0 < b) (h : a.tmod b < 0) : a / b = a.tdiv b - 1 := by
  have e := (Nm.down (a := a) (b := b) (by omega) (by omega) (by omega)).1
  rw [Int.fdiv_eq_ediv_of_nonneg _ (by omega)] at e
  exact e
theorem div_same {a b : Int} (hb : 0 < b) (h : ¬ a.tmod b < 0) : a / b = a.tdiv b := by
  have e := (Nm.keep (a := a) (b := b) (by omega) (by omega)).1
  rw [Int.fdiv_eq_ediv_of_nonneg _ (by omega)] at e
  exact e
theorem tz (y k : Int) (hk : 0 < k) : (y.tmod k == 0) = (y % k == 0) := by
  rw [Bool.eq_iff_iff, beq_iff_eq, beq_iff_eq]
  exact ⟨fun h => Int.emod_eq_zero_of_dvd (Int.dvd_of_tmod_eq_zero h), fun h => Int.tmod_eq_zero_of_dvd (Int.dvd_of_emod_eq_zero h)⟩

set_option maxHeartbeats 400000 in
theorem rmod_any (a b : Int) (hb : 0 < b) (hb2 : b ≤ 1000000) (w : World) :
    Calls Tryd.prog 60 #[.int .i64 a, .int .i64 b] w fun e w' => e = .returned (.int .i64 (a % b)) ∧ w' = w := by
  have bd := Nm.tmod_bd (a := a) (b := b) (by omega)
  have h0 : ¬ b = 0 := by omega
  by_cases h : a.tmod b < 0
  · have hq : Hid (a % b = a.tmod b + b) := mod_up hb h
    have l1 : -1000000 ≤ a.tmod b := by omega
    clear bd
    go_enter Tryd.func60, Tryd.ntmps60
    go_wp2
    go_ret
    exact ⟨ret_int hq.out.symm, rfl⟩
  · have hq : Hid (a % b = a.tmod b) := mod_same hb h
    clear bd
    go_enter Tryd.func60, Tryd.ntmps60
    go_wp2
    go_ret
    exact ⟨ret_int hq.out.symm, rfl⟩

set_option maxHeartbeats 400000 in
theorem rdiv_any (a b : Int) (h1 : -9223372036854775808 ≤ a) (h2 : a ≤ 9223372036854775807) (hb : 2 ≤ b) (hb2 : b ≤ 1000000) (w : World) :
    Calls Tryd.prog 59 #[.int .i64 a, .int .i64 b] w fun e w' => e = .returned (.int .i64 (a / b)) ∧ w' = w := by
  have bd := Nm.tdiv_half (a := a) (b := b) h1 h2 (by omega)
  obtain ⟨q1, q2⟩ := bd
  have h0 : ¬ b = 0 := by omega
  have hw : wrap64 (a.tdiv b) = a.tdiv b := by unfold wrap64; omega
  by_cases h : a.tmod b < 0
  · have hq : Hid (a / b = a.tdiv b - 1) := div_down (by omega) h
    go_enter Tryd.func59, Tryd.ntmps59
    go_wp2
    go_ret
    exact ⟨ret_int hq.out.symm, rfl⟩
  · have hq : Hid (a / b = a.tdiv b) := div_same (by omega) h
    go_enter Tryd.func59, Tryd.ntmps59
    go_wp2
    go_ret
    exact ⟨ret_int hq.out.symm, rfl⟩

theorem leap_of (y : Int) (a b c : Bool) (h4 : (y % 4 == 0) = a) (h100 : (y % 100 == 0) = b) (h400 : (y % 400 == 0) = c) : Cv.leap y = (a && (!b || c)) := by
  unfold Cv.leap bne; rw [h4, h100, h400]
theorem c400 (y : Int) (h4 : (y % 4 == 0) = false) : (y % 400 == 0) = false := by
  rw [beq_eq_false_iff_ne] at *; omega

set_option maxHeartbeats 400000 in
theorem leap_any (y : Int) (w : World) :
    Calls Tryd.prog 72 #[.int .i64 y] w fun e w' => e = .returned (.bool (Cv.leap y)) ∧ w' = w := by
  have t4 := tz y 4 (by decide)
  have t100 := tz y 100 (by decide)
  have t400 := tz y 400 (by decide)
  cases h4 : (y % 4 == 0) <;> cases h100 : (y % 100 == 0) <;> cases h400 : (y % 400 == 0)
  all_goals
    have hl : Hid (Cv.leap y = _) := leap_of y _ _ _ h4 h100 h400
    rw [h4] at t4
    rw [h100] at t100
    rw [h400] at t400
    have n100 : (y.tmod 100 != 0) = !(y.tmod 100 == 0) := rfl
    rw [t100] at n100
    have cc := c400 y
    go_enter Tryd.func72, Tryd.ntmps72
    go_wp2
    go_ret
    first
      | exact ⟨ret_bool (by rw [hl.out]; rfl), rfl⟩
      | exact absurd (cc h4) (by rw [h400]; decide)

end Go.Proofs.YtghfgabajdghiaaDoor.Cvl
