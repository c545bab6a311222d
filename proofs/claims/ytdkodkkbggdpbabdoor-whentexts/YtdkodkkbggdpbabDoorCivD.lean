/- Contracts, more: Days and Date, of civil and of the reference. -/
import Derived.Test.YtdkodkkbggdpbabDoorCivC
namespace Go.Proofs.YtdkodkkbggdpbabDoor.Cvl
open Go.RowKit
set_option linter.unusedVariables false

theorem of_right {y m d : Int} (h : right y m d = true) : -4718 ≤ y ∧ y ≤ 294282 ∧ 1 ≤ d ∧ d ≤ Cv.len y m := of_decide_eq_true h

set_option maxHeartbeats 400000 in
theorem days_no (y m d : Int) (h : right y m d = false) (w : World) (hw : Lens w) :
    Calls Tryd.prog 45 #[.int .i64 y, .int .i64 m, .int .i64 d] w fun e w' => e = .returned (.tuple #[.int .i64 0, .int .i64 10]) ∧ w' = w := by
  go_enter Tryd.func45, Tryd.ntmps45
  go_wp2_with (go_at_call 77; refine (right_any _ _ _ _ hw).mono ?_; rintro e w' ⟨rfl, rfl⟩)
  go_ret2
  exact ⟨rfl, rfl⟩

set_option maxHeartbeats 400000 in
theorem rdays_no (y m d : Int) (h : right y m d = false) (w : World) :
    Calls Tryd.prog 28 #[.int .i64 y, .int .i64 m, .int .i64 d] w fun e w' => e = .returned (.tuple #[.int .i64 0, .int .i64 10]) ∧ w' = w := by
  go_enter Tryd.func28, Tryd.ntmps28
  go_wp2_with (go_at_call 54; refine (rright_any _ _ _ _).mono ?_; rintro e w' ⟨rfl, rfl⟩)
  go_ret2
  exact ⟨rfl, rfl⟩

set_option maxHeartbeats 400000 in
theorem rdays_yes (y m d : Int) (h : right y m d = true) (w : World) :
    Calls Tryd.prog 28 #[.int .i64 y, .int .i64 m, .int .i64 d] w fun e w' => e = .returned (.tuple #[.int .i64 (Cv.S y + Cv.cum y m + d - 1), .int .i64 0]) ∧ w' = w := by
  obtain ⟨y1, y2, d1, d2⟩ := of_right h
  obtain ⟨m1, m2⟩ := right_mon ⟨y1, y2, d1, d2⟩
  have l := (Cv.len_bd y m).2
  have H1 : Hid (∀ w : World, Calls Tryd.prog 55 #[.int .i64 y, .int .i64 m, .int .i64 d] w fun e w' => e = .returned (.int .i64 (Cv.S y + Cv.cum y m + d - 1)) ∧ w' = w) := fun w => rday_any y m d (by omega) (by omega) m1 m2 d1 (by omega) w
  generalize Cv.S y + Cv.cum y m + d - 1 = n at *
  clear d2 l
  go_enter Tryd.func28, Tryd.ntmps28
  go_wp2_with (first | (go_at_call 54; refine (rright_any _ _ _ _).mono ?_; rintro e w' ⟨rfl, rfl⟩) | (go_at_call 55; refine (H1.out _).mono ?_; rintro e w' ⟨rfl, rfl⟩))
  go_ret2
  exact ⟨rfl, rfl⟩

set_option maxHeartbeats 800000 in
theorem days_yes (y m d : Int) (h : right y m d = true) (w : World) (hw : Lens w) :
    Calls Tryd.prog 45 #[.int .i64 y, .int .i64 m, .int .i64 d] w fun e w' => e = .returned (.tuple #[.int .i64 (Cv.S y + Cv.cum y m + d - 1), .int .i64 0]) ∧ w' = w := by
  obtain ⟨y1, y2, d1, d2⟩ := of_right h
  obtain ⟨m1, m2⟩ := right_mon ⟨y1, y2, d1, d2⟩
  have l := (Cv.len_bd y m).2
  have d3 : d ≤ 31 := by omega
  obtain ⟨s1, s2⟩ := S_bd y (by omega) (by omega)
  clear d2 l
  go_enter Tryd.func45, Tryd.ntmps45
  go_wp2_with (first | (go_at_call 77; refine (right_any _ _ _ _ hw).mono ?_; rintro e w' ⟨rfl, rfl⟩) | (go_at_call 78; refine (new_any _ (by omega) (by omega) _).mono ?_; rintro e w' ⟨rfl, rfl⟩))
  go_loop [8, 19] (fun n i => ∃ k : Int, 0 ≤ k ∧ k ≤ m - 1 ∧ i = .int .i64 k ∧ n = .int .i64 (Cv.S y + Cv.cum y (k + 1))) (fun _ i => (m - intOf i).toNat)
  case atStart => exact ⟨0, by omega, by omega, rfl, by rw [show (0 : Int) + 1 = 1 by omega, Cv.cum_one]; go_num⟩
  case round =>
    obtain ⟨k, k1, k2, rfl, rfl⟩ := hrel
    obtain ⟨c1, c2⟩ := Cv.cum_bd y (k + 1)
    by_cases hlt : k < m - 1
    · have hc : Hid (Cv.cum y (k + 1 + 1) = Cv.cum y (k + 1) + Cv.len y (k + 1)) := Cv.cum_succ y (k + 1) (by omega) (by omega)
      obtain ⟨l1, l2⟩ := Cv.len_bd y (k + 1)
      go_wp2_with (go_at_call 47; refine (len_any _ _ _ hw).mono ?_; rintro e w' ⟨rfl, rfl⟩)
      go_round
      case rel => exact ⟨k + 1, by omega, by omega, rfl, by rw [hc.out]; go_num⟩
      case measure => simp [intOf]; omega
    · have ek : Hid (k + 1 = m) := by show k + 1 = m; omega
      go_wp2
      go_ret2
      exact ⟨by rw [ek.out]; rfl, rfl⟩

theorem ret_four {a b c d a' b' c' d' : Int} (h1 : a = a') (h2 : b = b') (h3 : c = c') (h4 : d = d') : Ending.returned (.tuple #[.int .i64 a, .int .i64 b, .int .i64 c, .int .i64 d]) = .returned (.tuple #[.int .i64 a', .int .i64 b', .int .i64 c', .int .i64 d']) := by rw [h1, h2, h3, h4]

theorem of_can {n : Int} (h : can n = true) : -2453698 ≤ n ∧ n ≤ 106754173 := of_decide_eq_true h
theorem can_year {n y : Int} (h1 : -2453698 ≤ n) (h2 : n ≤ 106754173) (y1 : Cv.S y ≤ n) (y2 : n < Cv.S (y + 1)) : -4718 ≤ y ∧ y ≤ 294282 := by
  have a := S_first
  have b := S_last
  have c : -4718 < y + 1 := Cv.S_lt (by omega)
  have d : y < 294283 := Cv.S_lt (by omega)
  omega
theorem not_rest {n y m d k : Int} (h : Cv.Is n y m d) (k1 : 1 ≤ k) (k2 : k < m) : Cv.cum y (k + 1) ≤ n - Cv.S y := by
  obtain ⟨m1, m2, d1, d2, e⟩ := h
  have := Cv.cum_mono (y := y) (a := k + 1) (b := m) (by omega) (by omega) (by omega)
  omega
theorem is_rest {n y m d : Int} (h : Cv.Is n y m d) : n - Cv.S y < Cv.cum y (m + 1) := by
  obtain ⟨m1, m2, d1, d2, e⟩ := h
  have := Cv.cum_succ y m m1 m2
  omega

theorem S_zero (c : Int) : Cv.S (2000 + c * 400) = c * 146097 := by
  have := Cv.S_cycle 2000 c
  rw [S_2000, show 2000 + 400 * c = 2000 + c * 400 by omega] at this
  omega

end Go.Proofs.YtdkodkkbggdpbabDoor.Cvl
