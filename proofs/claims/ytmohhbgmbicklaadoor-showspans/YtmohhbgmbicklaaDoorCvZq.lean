/- CivA, CivB, CivC, CivD, CivE, CivF, CivG, as one text. -/
import Derived.Test.YtmohhbgmbicklaaDoorRows
import Derived.Test.YtmohhbgmbicklaaDoorNmZq
import Derived.Test.YtmohhbgmbicklaaDoorNmZq
import Derived.WalkKit
import Derived.WalkSpells
import Derived.WalkLawsBesides
/- Contracts of the reference's mod, div, Leap, Len, Right, start, day, and of civil.Leap, Len, Right, newYear: each answers the plain mathematics. -/
namespace Go.Proofs.YtmohhbgmbicklaaDoor.Cvl
open Go.RowKit
set_option linter.unusedVariables false

theorem ret_int {k : IntKind} {a b : Int} (h : a = b) : Ending.returned (.int k a) = .returned (.int k b) := by rw [h]
theorem ret_bool {a b : Bool} (h : a = b) : Ending.returned (.bool a) = .returned (.bool b) := by rw [h]

theorem tz (y k : Int) (hk : 0 < k) : (y.tmod k == 0) = (y % k == 0) := by
  rw [Bool.eq_iff_iff, beq_iff_eq, beq_iff_eq]
  exact ⟨fun h => Int.emod_eq_zero_of_dvd (Int.dvd_of_tmod_eq_zero h), fun h => Int.tmod_eq_zero_of_dvd (Int.dvd_of_emod_eq_zero h)⟩

theorem leap_of (y : Int) (a b c : Bool) (h4 : (y % 4 == 0) = a) (h100 : (y % 100 == 0) = b) (h400 : (y % 400 == 0) = c) : Cv.leap y = (a && (!b || c)) := by
  unfold Cv.leap bne; rw [h4, h100, h400]
theorem c400 (y : Int) (h4 : (y % 4 == 0) = false) : (y % 400 == 0) = false := by
  rw [beq_eq_false_iff_ne] at *; omega

set_option maxHeartbeats 400000 in
theorem leap_any (y : Int) (w : World) :
    Calls Tryd.prog 79 #[.int .i64 y] w fun e w' => e = .returned (.bool (Cv.leap y)) ∧ w' = w := by
  have t4 := tz y 4 (by decide)
  have t100 := tz y 100 (by decide)
  have t400 := tz y 400 (by decide)
  cases h4 : (y % 4 == 0) <;> cases h100 : (y % 100 == 0) <;> cases h400 : (y % 400 == 0)
  all_goals
    have hl : Hid (Cv.leap y = _) := leap_of y _ _ _ h4 h100 h400
    rw [h4] at t4
    rw [h100] at t100
    rw [h400] at t400
    have n100 : (y.tmod 100 != 0) = !(y.tmod 100 == 0) := rfl
    rw [t100] at n100
    have cc := c400 y
    go_enter Tryd.func79, Tryd.ntmps79
    go_wp2
    go_ret
    first
      | exact ⟨ret_bool (by rw [hl.out]; rfl), rfl⟩
      | exact absurd (cc h4) (by rw [h400]; decide)

end Go.Proofs.YtmohhbgmbicklaaDoor.Cvl

/- Contracts, more: the reference's Leap, Len, Right, start, day; civil.Len, Right, newYear. -/
namespace Go.Proofs.YtmohhbgmbicklaaDoor.Cvl
open Go.RowKit
set_option linter.unusedVariables false

/-- the table of lengths, as it is laid. -/
def tabL : List Int := [31, 28, 31, 30, 31, 30, 31, 31, 30, 31, 30, 31]
def Lens (w : World) : Prop := ∀ i, i < 12 → w.cell? ⟨1, i, none⟩ = some (.int .i64 (tabL.getD i 0))
theorem tab_len (y m : Int) (h1 : 1 ≤ m) (h2 : m ≤ 12) (h : m ≠ 2 ∨ Cv.leap y = false) : tabL.getD (m.toNat - 1) 0 = Cv.len y m := by
  rcases Cv.twelve h1 h2 with rfl | rfl | rfl | rfl | rfl | rfl | rfl | rfl | rfl | rfl | rfl | rfl
  · rfl
  · have e : Cv.leap y = false := by rcases h with h | h; exact absurd rfl h; exact h
    have : Cv.lp y = 0 := by unfold Cv.lp; rw [e]; rfl
    show (28 : Int) = Cv.len y 2
    simp [Cv.len, this]
  all_goals rfl
theorem len_leap (y : Int) (h : Cv.leap y = true) : Cv.len y 2 = 29 := by
  have : Cv.lp y = 1 := by unfold Cv.lp; rw [h]; rfl
  simp [Cv.len, this]
theorem len_flat (y : Int) (h : Cv.leap y = false) : Cv.len y 2 = 28 := by
  have : Cv.lp y = 0 := by unfold Cv.lp; rw [h]; rfl
  simp [Cv.len, this]

set_option maxHeartbeats 400000 in
theorem len_any (y m : Int) (w : World) (hw : Lens w) :
    Calls Tryd.prog 68 #[.int .i64 y, .int .i64 m] w fun e w' => e = .returned (.int .i64 (Cv.len y m)) ∧ w' = w := by
  by_cases h1 : m < 1
  · have hl : Hid (Cv.len y m = 0) := Cv.len_out y m (.inl h1)
    go_enter Tryd.func68, Tryd.ntmps68
    go_wp2
    go_ret
    exact ⟨ret_int hl.out.symm, rfl⟩
  · by_cases h2 : 12 < m
    · have hl : Hid (Cv.len y m = 0) := Cv.len_out y m (.inr h2)
      go_enter Tryd.func68, Tryd.ntmps68
      go_wp2
      go_ret
      exact ⟨ret_int hl.out.symm, rfl⟩
    · by_cases h3 : m = 2
      · subst h3
        cases hl : Cv.leap y
        · have e : Hid (Cv.len y 2 = 28) := len_flat y hl
          have hc : w.cell? ⟨1, 1, none⟩ = some (.int .i64 28) := hw 1 (by decide)
          go_enter Tryd.func68, Tryd.ntmps68
          go_wp2_with (go_at_call 79; refine (leap_any _ _).mono ?_; rintro e w' ⟨rfl, rfl⟩)
          go_ret
          exact ⟨ret_int e.out.symm, rfl⟩
        · have e : Hid (Cv.len y 2 = 29) := len_leap y hl
          go_enter Tryd.func68, Tryd.ntmps68
          go_wp2_with (go_at_call 79; refine (leap_any _ _).mono ?_; rintro e w' ⟨rfl, rfl⟩)
          go_ret
          exact ⟨ret_int e.out.symm, rfl⟩
      · have hb : (m == 2) = false := by rw [beq_eq_false_iff_ne]; exact h3
        have e : Hid (tabL.getD (m.toNat - 1) 0 = Cv.len y m) := tab_len y m (by omega) (by omega) (.inl h3)
        have hc : w.cell? ⟨1, m.toNat - 1, none⟩ = some (.int .i64 (tabL.getD (m.toNat - 1) 0)) := hw (m.toNat - 1) (by omega)
        generalize tabL.getD (m.toNat - 1) 0 = t at *
        go_enter Tryd.func68, Tryd.ntmps68
        go_wp2
        go_ret
        exact ⟨ret_int e.out, rfl⟩

set_option maxHeartbeats 400000 in
theorem new_any (y : Int) (h1 : -4800 ≤ y) (h2 : y ≤ 1000000) (w : World) :
    Calls Tryd.prog 67 #[.int .i64 y] w fun e w' => e = .returned (.int .i64 (Cv.S y)) ∧ w' = w := by
  go_enter Tryd.func67, Tryd.ntmps67
  go_wp2
  go_ret
  exact ⟨ret_int (by unfold Cv.S; omega), rfl⟩

theorem S_bd (y : Int) (h1 : -1000000 ≤ y) (h2 : y ≤ 1000000) : -1000000000 ≤ Cv.S y ∧ Cv.S y ≤ 1000000000 := by unfold Cv.S; omega
end Go.Proofs.YtmohhbgmbicklaaDoor.Cvl

/- Contracts, more: the reference's day, First, Last, Can, Days, Date; civil.First, Last, canBe, yearOf, Days, Date. -/
namespace Go.Proofs.YtmohhbgmbicklaaDoor.Cvl
open Go.RowKit
set_option linter.unusedVariables false

theorem S_first : Cv.S (-4718) = -2453698 := by decide
theorem S_last : Cv.S 294283 = 106754174 := by decide

set_option maxHeartbeats 400000 in
theorem first_any (w : World) : Calls Tryd.prog 77 #[] w fun e w' => e = .returned (.int .i64 (-2453698)) ∧ w' = w := by
  have H1 : Hid (∀ w : World, Calls Tryd.prog 67 #[.int .i64 (-4718)] w fun e w' => e = .returned (.int .i64 (-2453698)) ∧ w' = w) := by
    intro w; rw [← S_first]; exact new_any (-4718) (by decide) (by decide) w
  go_enter Tryd.func77, Tryd.ntmps77
  go_wp2_with fail
  refine (H1.out _).mono ?_
  rintro e w' ⟨rfl, rfl⟩
  go_wp2
  go_ret
  exact ⟨rfl, rfl⟩

set_option maxHeartbeats 400000 in
theorem last_any (w : World) : Calls Tryd.prog 78 #[] w fun e w' => e = .returned (.int .i64 106754173) ∧ w' = w := by
  have H1 : Hid (∀ w : World, Calls Tryd.prog 67 #[.int .i64 294283] w fun e w' => e = .returned (.int .i64 106754174) ∧ w' = w) := by
    intro w; rw [← S_last]; exact new_any 294283 (by decide) (by decide) w
  go_enter Tryd.func78, Tryd.ntmps78
  go_wp2_with fail
  refine (H1.out _).mono ?_
  rintro e w' ⟨rfl, rfl⟩
  go_wp2
  go_ret
  exact ⟨rfl, rfl⟩

/-- can the day be? -/
def can (n : Int) : Bool := decide (-2453698 ≤ n ∧ n ≤ 106754173)
theorem can_yes {n : Int} (h1 : -2453698 ≤ n) (h2 : n ≤ 106754173) : can n = true := decide_eq_true ⟨h1, h2⟩
theorem can_no {n : Int} (h : n < -2453698 ∨ 106754173 < n) : can n = false := decide_eq_false (by omega)

set_option maxHeartbeats 400000 in
theorem can_any (n : Int) (w : World) : Calls Tryd.prog 65 #[.int .i64 n] w fun e w' => e = .returned (.bool (can n)) ∧ w' = w := by
  by_cases h1 : -2453698 ≤ n
  · by_cases h2 : n ≤ 106754173
    · have e : Hid (can n = true) := can_yes h1 h2
      go_enter Tryd.func65, Tryd.ntmps65
      go_wp2_with (first | (go_at_call 77; refine (first_any _).mono ?_; rintro e w' ⟨rfl, rfl⟩) | (go_at_call 78; refine (last_any _).mono ?_; rintro e w' ⟨rfl, rfl⟩))
      go_ret
      exact ⟨ret_bool e.out.symm, rfl⟩
    · have e : Hid (can n = false) := can_no (by omega)
      go_enter Tryd.func65, Tryd.ntmps65
      go_wp2_with (first | (go_at_call 77; refine (first_any _).mono ?_; rintro e w' ⟨rfl, rfl⟩) | (go_at_call 78; refine (last_any _).mono ?_; rintro e w' ⟨rfl, rfl⟩))
      go_ret
      exact ⟨ret_bool (by rw [e.out]; first | rfl | exact decide_eq_false (by omega)), rfl⟩
  · have e : Hid (can n = false) := can_no (by omega)
    go_enter Tryd.func65, Tryd.ntmps65
    go_wp2_with (first | (go_at_call 77; refine (first_any _).mono ?_; rintro e w' ⟨rfl, rfl⟩) | (go_at_call 78; refine (last_any _).mono ?_; rintro e w' ⟨rfl, rfl⟩))
    go_ret
    exact ⟨ret_bool (by rw [e.out]), rfl⟩

theorem guess2 (n y : Int) (h1 : -2453698 - 7 ≤ n) (h2 : n ≤ 106754173 + 7) (h3 : y = -4800 + (n + 2483649) * 400 / 146097) :
    Cv.S (y - 1) ≤ n ∧ n < Cv.S (y + 2) ∧ -4720 ≤ y ∧ y ≤ 294290 := by
  unfold Cv.S; omega

set_option maxHeartbeats 800000 in
theorem yearOf_any (n y : Int) (h1 : -2453698 - 7 ≤ n) (h2 : n ≤ 106754173 + 7) (y1 : Cv.S y ≤ n) (y2 : n < Cv.S (y + 1)) (w : World) :
    Calls Tryd.prog 66 #[.int .i64 n] w fun e w' => e = .returned (.int .i64 y) ∧ w' = w := by
  obtain ⟨z, hz⟩ : ∃ z, z = -4800 + (n + 2483649) * 400 / 146097 := ⟨_, rfl⟩
  obtain ⟨g1, g2, g3, g4⟩ := guess2 n z h1 h2 hz
  have e0 : Hid (z = -4800 + (n + 2483649) * 400 / 146097) := hz
  have e1 : -4800 + (n + 2483649) * 400 / 146097 = z := hz.symm
  clear hz
  by_cases a : n < Cv.S z
  · have ey : Hid (y = z - 1) := Cv.year_one y1 y2 g1 (by rw [show z - 1 + 1 = z by omega]; exact a)
    clear g1 g2 y1 y2
    go_enter Tryd.func66, Tryd.ntmps66
    go_wp2_with (go_at_call 67; refine (new_any _ (by omega) (by omega) _).mono ?_; rintro e w' ⟨rfl, rfl⟩)
    go_ret
    exact ⟨ret_int ey.out.symm, rfl⟩
  · by_cases b : Cv.S (z + 1) ≤ n
    · have ey : Hid (y = z + 1) := Cv.year_one y1 y2 b (by rw [show z + 1 + 1 = z + 2 by omega]; exact g2)
      clear g1 g2 y1 y2
      go_enter Tryd.func66, Tryd.ntmps66
      go_wp2_with (go_at_call 67; refine (new_any _ (by omega) (by omega) _).mono ?_; rintro e w' ⟨rfl, rfl⟩)
      go_ret
      exact ⟨ret_int ey.out.symm, rfl⟩
    · have ey : Hid (y = z) := Cv.year_one y1 y2 (by omega) (by omega)
      clear g1 g2 y1 y2
      go_enter Tryd.func66, Tryd.ntmps66
      go_wp2_with (go_at_call 67; refine (new_any _ (by omega) (by omega) _).mono ?_; rintro e w' ⟨rfl, rfl⟩)
      go_ret
      exact ⟨ret_int ey.out.symm, rfl⟩

end Go.Proofs.YtmohhbgmbicklaaDoor.Cvl

/- Contracts, more: Days and Date, of civil and of the reference. -/
namespace Go.Proofs.YtmohhbgmbicklaaDoor.Cvl
open Go.RowKit
set_option linter.unusedVariables false

theorem ret_four {a b c d a' b' c' d' : Int} (h1 : a = a') (h2 : b = b') (h3 : c = c') (h4 : d = d') : Ending.returned (.tuple #[.int .i64 a, .int .i64 b, .int .i64 c, .int .i64 d]) = .returned (.tuple #[.int .i64 a', .int .i64 b', .int .i64 c', .int .i64 d']) := by rw [h1, h2, h3, h4]

set_option maxHeartbeats 400000 in
theorem date_no (n : Int) (h : can n = false) (w : World) :
    Calls Tryd.prog 56 #[.int .i64 n] w fun e w' => e = .returned (.tuple #[.int .i64 0, .int .i64 0, .int .i64 0, .int .i64 10]) ∧ w' = w := by
  go_enter Tryd.func56, Tryd.ntmps56
  go_wp2_with (go_at_call 65; refine (can_any _ _).mono ?_; rintro e w' ⟨rfl, rfl⟩)
  exact bodyPost_ret (v := .tuple #[.int .i64 0, .int .i64 0, .int .i64 0, .int .i64 10]) (by simp [results, Tryd.results56, go_sem]) rfl ⟨rfl, rfl⟩

theorem of_can {n : Int} (h : can n = true) : -2453698 ≤ n ∧ n ≤ 106754173 := of_decide_eq_true h
theorem can_year {n y : Int} (h1 : -2453698 ≤ n) (h2 : n ≤ 106754173) (y1 : Cv.S y ≤ n) (y2 : n < Cv.S (y + 1)) : -4718 ≤ y ∧ y ≤ 294282 := by
  have a := S_first
  have b := S_last
  have c : -4718 < y + 1 := Cv.S_lt (by omega)
  have d : y < 294283 := Cv.S_lt (by omega)
  omega
theorem not_rest {n y m d k : Int} (h : Cv.Is n y m d) (k1 : 1 ≤ k) (k2 : k < m) : Cv.cum y (k + 1) ≤ n - Cv.S y := by
  obtain ⟨m1, m2, d1, d2, e⟩ := h
  have := Cv.cum_mono (y := y) (a := k + 1) (b := m) (by omega) (by omega) (by omega)
  omega
theorem is_rest {n y m d : Int} (h : Cv.Is n y m d) : n - Cv.S y < Cv.cum y (m + 1) := by
  obtain ⟨m1, m2, d1, d2, e⟩ := h
  have := Cv.cum_succ y m m1 m2
  omega

set_option maxHeartbeats 1000000 in
theorem date_yes (n y m d : Int) (h : can n = true) (hd : Cv.Is n y m d) (w : World) (hw : Lens w) :
    Calls Tryd.prog 56 #[.int .i64 n] w fun e w' => e = .returned (.tuple #[.int .i64 y, .int .i64 m, .int .i64 d, .int .i64 0]) ∧ w' = w := by
  obtain ⟨n1, n2⟩ := of_can h
  obtain ⟨a1, a2⟩ := Cv.is_year hd
  obtain ⟨y1, y2⟩ := can_year n1 n2 a1 a2
  obtain ⟨s1, s2⟩ := S_bd y (by omega) (by omega)
  have m1 := hd.1
  have m2 := hd.2.1
  have ed : Hid (n = Cv.S y + Cv.cum y m + d - 1) := hd.2.2.2.2
  have HD : Hid (Cv.Is n y m d) := hd
  have H1 : Hid (∀ w : World, Calls Tryd.prog 66 #[.int .i64 n] w fun e w' => e = .returned (.int .i64 y) ∧ w' = w) := fun w => yearOf_any n y (by omega) (by omega) a1 a2 w
  clear hd a2
  go_enter Tryd.func56, Tryd.ntmps56
  go_wp2_with (first | (go_at_call 65; refine (can_any _ _).mono ?_; rintro e w' ⟨rfl, rfl⟩) | (go_at_call 66; refine (H1.out _).mono ?_; rintro e w' ⟨rfl, rfl⟩) | (go_at_call 67; refine (new_any _ (by omega) (by omega) _).mono ?_; rintro e w' ⟨rfl, rfl⟩))
  go_loop [7, 8, 18] (fun p r i => ∃ k : Int, 1 ≤ k ∧ k ≤ m ∧ i = .int .i64 (k - 1) ∧ p = .int .i64 k ∧ r = .int .i64 (n - Cv.S y - Cv.cum y k)) (fun p _ _ => (m - intOf p).toNat)
  case atStart => exact ⟨1, by omega, m1, rfl, rfl, by rw [Cv.cum_one]; go_num⟩
  case round =>
    obtain ⟨k, k1, k2, rfl, rfl, rfl⟩ := hrel
    obtain ⟨c1, c2⟩ := Cv.cum_bd y k
    obtain ⟨l1, l2⟩ := Cv.len_bd y k
    have hc := Cv.cum_succ y k k1 (by omega)
    by_cases hlt : k < m
    · have g := not_rest HD.out k1 hlt
      have t1 : ¬ n - Cv.S y - Cv.cum y k < Cv.len y k := by omega
      have HC : Hid (Cv.cum y (k + 1) = Cv.cum y k + Cv.len y k) := hc
      clear hc g
      go_wp2_with (go_at_call 68; refine (len_any _ _ _ hw).mono ?_; rintro e w' ⟨rfl, rfl⟩)
      go_round
      case rel => exact ⟨k + 1, by omega, by omega, by go_num, rfl, by rw [HC.out]; go_num⟩
      case measure => simp [intOf]; omega
    · obtain rfl : k = m := by omega
      have g := is_rest HD.out
      have t1 : n - Cv.S y - Cv.cum y k < Cv.len y k := by omega
      clear hc g
      by_cases h12 : k - 1 < 11
      · go_wp2_with (go_at_call 68; refine (len_any _ _ _ hw).mono ?_; rintro e w' ⟨rfl, rfl⟩)
        refine bodyPost_ret (v := .tuple #[.int .i64 y, .int .i64 k, .int .i64 (n - Cv.S y - Cv.cum y k + 1), .int .i64 0]) (by simp [results, Tryd.results56, go_sem]) rfl ⟨?_, rfl⟩
        exact ret_four rfl rfl (by have := ed.out; omega) rfl
      · go_wp2
        refine bodyPost_ret (v := .tuple #[.int .i64 y, .int .i64 k, .int .i64 (n - Cv.S y - Cv.cum y k + 1), .int .i64 0]) (by simp [results, Tryd.results56, go_sem]) rfl ⟨?_, rfl⟩
        exact ret_four rfl rfl (by have := ed.out; omega) rfl

end Go.Proofs.YtmohhbgmbicklaaDoor.Cvl

/- Contracts, more: Weekday, YearDay, Week, of civil and of the reference. -/
namespace Go.Proofs.YtmohhbgmbicklaaDoor.Cvl
open Go.RowKit
set_option linter.unusedVariables false

end Go.Proofs.YtmohhbgmbicklaaDoor.Cvl

/- Contracts, more: Week and Shift, of civil and of the reference; what the laws' fixed calls come to. -/
namespace Go.Proofs.YtmohhbgmbicklaaDoor.Cvl
open Go.RowKit
set_option linter.unusedVariables false

end Go.Proofs.YtmohhbgmbicklaaDoor.Cvl

/- Contracts, more: Shift, of civil and of the reference; what the laws' fixed calls come to. -/
namespace Go.Proofs.YtmohhbgmbicklaaDoor.Cvl
open Go.RowKit
set_option linter.unusedVariables false

end Go.Proofs.YtmohhbgmbicklaaDoor.Cvl
