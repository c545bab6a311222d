/- Contracts, more: Days and Date, of civil and of the reference. -/
import Derived.Test.YtghfgabajdghiaaDoorCivC
namespace Go.Proofs.YtghfgabajdghiaaDoor.Cvl
open Go.RowKit
set_option linter.unusedVariables false

theorem of_right {y m d : Int} (h : right y m d = true) : -4718 ≤ y ∧ y ≤ 294282 ∧ 1 ≤ d ∧ d ≤ Cv.len y m := of_decide_eq_true h

set_option maxHeartbeats 400000 in
theorem days_no (y m d : Int) (h : right y m d = false) (w : World) (hw : Lens w) :
    Calls Tryd.prog 34 #[.int .i64 y, .int .i64 m, .int .i64 d] w fun e w' => e = .returned (.tuple #[.int .i64 0, .int .i64 10]) ∧ w' = w := by
  go_enter Tryd.func34, Tryd.ntmps34
  go_wp2_with (go_at_call 51; refine (right_any _ _ _ _ hw).mono ?_; rintro e w' ⟨rfl, rfl⟩)
  go_ret2
  exact ⟨rfl, rfl⟩

set_option maxHeartbeats 400000 in
theorem rdays_no (y m d : Int) (h : right y m d = false) (w : World) :
    Calls Tryd.prog 36 #[.int .i64 y, .int .i64 m, .int .i64 d] w fun e w' => e = .returned (.tuple #[.int .i64 0, .int .i64 10]) ∧ w' = w := by
  go_enter Tryd.func36, Tryd.ntmps36
  go_wp2_with (go_at_call 54; refine (rright_any _ _ _ _).mono ?_; rintro e w' ⟨rfl, rfl⟩)
  go_ret2
  exact ⟨rfl, rfl⟩

set_option maxHeartbeats 400000 in
theorem rdays_yes (y m d : Int) (h : right y m d = true) (w : World) :
    Calls Tryd.prog 36 #[.int .i64 y, .int .i64 m, .int .i64 d] w fun e w' => e = .returned (.tuple #[.int .i64 (Cv.S y + Cv.cum y m + d - 1), .int .i64 0]) ∧ w' = w := by
  obtain ⟨y1, y2, d1, d2⟩ := of_right h
  obtain ⟨m1, m2⟩ := right_mon ⟨y1, y2, d1, d2⟩
  have l := (Cv.len_bd y m).2
  have H1 : Hid (∀ w : World, Calls Tryd.prog 55 #[.int .i64 y, .int .i64 m, .int .i64 d] w fun e w' => e = .returned (.int .i64 (Cv.S y + Cv.cum y m + d - 1)) ∧ w' = w) := fun w => rday_any y m d (by omega) (by omega) m1 m2 d1 (by omega) w
  generalize Cv.S y + Cv.cum y m + d - 1 = n at *
  clear d2 l
  go_enter Tryd.func36, Tryd.ntmps36
  go_wp2_with (first | (go_at_call 54; refine (rright_any _ _ _ _).mono ?_; rintro e w' ⟨rfl, rfl⟩) | (go_at_call 55; refine (H1.out _).mono ?_; rintro e w' ⟨rfl, rfl⟩))
  go_ret2
  exact ⟨rfl, rfl⟩

set_option maxHeartbeats 800000 in
theorem days_yes (y m d : Int) (h : right y m d = true) (w : World) (hw : Lens w) :
    Calls Tryd.prog 34 #[.int .i64 y, .int .i64 m, .int .i64 d] w fun e w' => e = .returned (.tuple #[.int .i64 (Cv.S y + Cv.cum y m + d - 1), .int .i64 0]) ∧ w' = w := by
  obtain ⟨y1, y2, d1, d2⟩ := of_right h
  obtain ⟨m1, m2⟩ := right_mon ⟨y1, y2, d1, d2⟩
  have l := (Cv.len_bd y m).2
  have d3 : d ≤ 31 := by omega
  obtain ⟨s1, s2⟩ := S_bd y (by omega) (by omega)
  clear d2 l
  go_enter Tryd.func34, Tryd.ntmps34
  go_wp2_with (first | (go_at_call 51; refine (right_any _ _ _ _ hw).mono ?_; rintro e w' ⟨rfl, rfl⟩) | (go_at_call 52; refine (new_any _ (by omega) (by omega) _).mono ?_; rintro e w' ⟨rfl, rfl⟩))
  go_loop [8, 19] (fun n i => ∃ k : Int, 0 ≤ k ∧ k ≤ m - 1 ∧ i = .int .i64 k ∧ n = .int .i64 (Cv.S y + Cv.cum y (k + 1))) (fun _ i => (m - intOf i).toNat)
  case atStart => exact ⟨0, by omega, by omega, rfl, by rw [show (0 : Int) + 1 = 1 by omega, Cv.cum_one]; go_num⟩
  case round =>
    obtain ⟨k, k1, k2, rfl, rfl⟩ := hrel
    obtain ⟨c1, c2⟩ := Cv.cum_bd y (k + 1)
    by_cases hlt : k < m - 1
    · have hc : Hid (Cv.cum y (k + 1 + 1) = Cv.cum y (k + 1) + Cv.len y (k + 1)) := Cv.cum_succ y (k + 1) (by omega) (by omega)
      obtain ⟨l1, l2⟩ := Cv.len_bd y (k + 1)
      go_wp2_with (go_at_call 53; refine (len_any _ _ _ hw).mono ?_; rintro e w' ⟨rfl, rfl⟩)
      go_round
      case rel => exact ⟨k + 1, by omega, by omega, rfl, by rw [hc.out]; go_num⟩
      case measure => simp [intOf]; omega
    · have ek : Hid (k + 1 = m) := by show k + 1 = m; omega
      go_wp2
      go_ret2
      exact ⟨by rw [ek.out]; rfl, rfl⟩

theorem ret_four {a b c d a' b' c' d' : Int} (h1 : a = a') (h2 : b = b') (h3 : c = c') (h4 : d = d') : Ending.returned (.tuple #[.int .i64 a, .int .i64 b, .int .i64 c, .int .i64 d]) = .returned (.tuple #[.int .i64 a', .int .i64 b', .int .i64 c', .int .i64 d']) := by rw [h1, h2, h3, h4]

set_option maxHeartbeats 400000 in
theorem date_no (n : Int) (h : can n = false) (w : World) :
    Calls Tryd.prog 38 #[.int .i64 n] w fun e w' => e = .returned (.tuple #[.int .i64 0, .int .i64 0, .int .i64 0, .int .i64 10]) ∧ w' = w := by
  go_enter Tryd.func38, Tryd.ntmps38
  go_wp2_with (go_at_call 56; refine (can_any _ _).mono ?_; rintro e w' ⟨rfl, rfl⟩)
  exact bodyPost_ret (v := .tuple #[.int .i64 0, .int .i64 0, .int .i64 0, .int .i64 10]) (by simp [results, Tryd.results38, go_sem]) rfl ⟨rfl, rfl⟩

set_option maxHeartbeats 400000 in
theorem rdate_no (n : Int) (h : can n = false) (w : World) :
    Calls Tryd.prog 39 #[.int .i64 n] w fun e w' => e = .returned (.tuple #[.int .i64 0, .int .i64 0, .int .i64 0, .int .i64 10]) ∧ w' = w := by
  go_enter Tryd.func39, Tryd.ntmps39
  go_wp2_with (go_at_call 58; refine (rcan_any _ _).mono ?_; rintro e w' ⟨rfl, rfl⟩)
  exact bodyPost_ret (v := .tuple #[.int .i64 0, .int .i64 0, .int .i64 0, .int .i64 10]) (by simp [results, Tryd.results39, go_sem]) rfl ⟨rfl, rfl⟩

theorem of_can {n : Int} (h : can n = true) : -2453698 ≤ n ∧ n ≤ 106754173 := of_decide_eq_true h
theorem can_year {n y : Int} (h1 : -2453698 ≤ n) (h2 : n ≤ 106754173) (y1 : Cv.S y ≤ n) (y2 : n < Cv.S (y + 1)) : -4718 ≤ y ∧ y ≤ 294282 := by
  have a := S_first
  have b := S_last
  have c : -4718 < y + 1 := Cv.S_lt (by omega)
  have d : y < 294283 := Cv.S_lt (by omega)
  omega
theorem not_rest {n y m d k : Int} (h : Cv.Is n y m d) (k1 : 1 ≤ k) (k2 : k < m) : Cv.cum y (k + 1) ≤ n - Cv.S y := by
  obtain ⟨m1, m2, d1, d2, e⟩ := h
  have := Cv.cum_mono (y := y) (a := k + 1) (b := m) (by omega) (by omega) (by omega)
  omega
theorem is_rest {n y m d : Int} (h : Cv.Is n y m d) : n - Cv.S y < Cv.cum y (m + 1) := by
  obtain ⟨m1, m2, d1, d2, e⟩ := h
  have := Cv.cum_succ y m m1 m2
  omega

set_option maxHeartbeats 1000000 in
theorem date_yes (n y m d : Int) (h : can n = true) (hd : Cv.Is n y m d) (w : World) (hw : Lens w) :
    Calls Tryd.prog 38 #[.int .i64 n] w fun e w' => e = .returned (.tuple #[.int .i64 y, .int .i64 m, .int .i64 d, .int .i64 0]) ∧ w' = w := by
  obtain ⟨n1, n2⟩ := of_can h
  obtain ⟨a1, a2⟩ := Cv.is_year hd
  obtain ⟨y1, y2⟩ := can_year n1 n2 a1 a2
  obtain ⟨s1, s2⟩ := S_bd y (by omega) (by omega)
  have m1 := hd.1
  have m2 := hd.2.1
  have ed : Hid (n = Cv.S y + Cv.cum y m + d - 1) := hd.2.2.2.2
  have HD : Hid (Cv.Is n y m d) := hd
  have H1 : Hid (∀ w : World, Calls Tryd.prog 57 #[.int .i64 n] w fun e w' => e = .returned (.int .i64 y) ∧ w' = w) := fun w => yearOf_any n y (by omega) (by omega) a1 a2 w
  clear hd a2
  go_enter Tryd.func38, Tryd.ntmps38
  go_wp2_with (first | (go_at_call 56; refine (can_any _ _).mono ?_; rintro e w' ⟨rfl, rfl⟩) | (go_at_call 57; refine (H1.out _).mono ?_; rintro e w' ⟨rfl, rfl⟩) | (go_at_call 52; refine (new_any _ (by omega) (by omega) _).mono ?_; rintro e w' ⟨rfl, rfl⟩))
  go_loop [7, 8, 18] (fun p r i => ∃ k : Int, 1 ≤ k ∧ k ≤ m ∧ i = .int .i64 (k - 1) ∧ p = .int .i64 k ∧ r = .int .i64 (n - Cv.S y - Cv.cum y k)) (fun p _ _ => (m - intOf p).toNat)
  case atStart => exact ⟨1, by omega, m1, rfl, rfl, by rw [Cv.cum_one]; go_num⟩
  case round =>
    obtain ⟨k, k1, k2, rfl, rfl, rfl⟩ := hrel
    obtain ⟨c1, c2⟩ := Cv.cum_bd y k
    obtain ⟨l1, l2⟩ := Cv.len_bd y k
    have hc := Cv.cum_succ y k k1 (by omega)
    by_cases hlt : k < m
    · have g := not_rest HD.out k1 hlt
      have t1 : ¬ n - Cv.S y - Cv.cum y k < Cv.len y k := by omega
      have HC : Hid (Cv.cum y (k + 1) = Cv.cum y k + Cv.len y k) := hc
      clear hc g
      go_wp2_with (go_at_call 53; refine (len_any _ _ _ hw).mono ?_; rintro e w' ⟨rfl, rfl⟩)
      go_round
      case rel => exact ⟨k + 1, by omega, by omega, by go_num, rfl, by rw [HC.out]; go_num⟩
      case measure => simp [intOf]; omega
    · obtain rfl : k = m := by omega
      have g := is_rest HD.out
      have t1 : n - Cv.S y - Cv.cum y k < Cv.len y k := by omega
      clear hc g
      by_cases h12 : k - 1 < 11
      · go_wp2_with (go_at_call 53; refine (len_any _ _ _ hw).mono ?_; rintro e w' ⟨rfl, rfl⟩)
        refine bodyPost_ret (v := .tuple #[.int .i64 y, .int .i64 k, .int .i64 (n - Cv.S y - Cv.cum y k + 1), .int .i64 0]) (by simp [results, Tryd.results38, go_sem]) rfl ⟨?_, rfl⟩
        exact ret_four rfl rfl (by have := ed.out; omega) rfl
      · go_wp2
        refine bodyPost_ret (v := .tuple #[.int .i64 y, .int .i64 k, .int .i64 (n - Cv.S y - Cv.cum y k + 1), .int .i64 0]) (by simp [results, Tryd.results38, go_sem]) rfl ⟨?_, rfl⟩
        exact ret_four rfl rfl (by have := ed.out; omega) rfl

theorem S_zero (c : Int) : Cv.S (2000 + c * 400) = c * 146097 := by
  have := Cv.S_cycle 2000 c
  rw [S_2000, show 2000 + 400 * c = 2000 + c * 400 by omega] at this
  omega

set_option maxHeartbeats 1000000 in
theorem rdate_yes (n y m d : Int) (h : can n = true) (hd : Cv.Is n y m d) (w : World) :
    Calls Tryd.prog 39 #[.int .i64 n] w fun e w' => e = .returned (.tuple #[.int .i64 y, .int .i64 m, .int .i64 d, .int .i64 0]) ∧ w' = w := by
  obtain ⟨n1, n2⟩ := of_can h
  obtain ⟨a1, a2⟩ := Cv.is_year hd
  obtain ⟨y1, y2⟩ := can_year n1 n2 a1 a2
  obtain ⟨s1, s2⟩ := S_bd y (by omega) (by omega)
  have m1 := hd.1
  have m2 := hd.2.1
  have ed : Hid (n = Cv.S y + Cv.cum y m + d - 1) := hd.2.2.2.2
  have HD : Hid (Cv.Is n y m d) := hd
  have A : Hid (Cv.S y ≤ n ∧ n < Cv.S (y + 1)) := ⟨a1, a2⟩
  have hz := S_zero (n / 146097)
  have hm : n % 146097 = n - Cv.S (2000 + n / 146097 * 400) := by omega
  have b0 : Cv.S (2000 + n / 146097 * 400) ≤ n := by omega
  have b1 : 2000 + n / 146097 * 400 ≤ y := by
    have := Cv.S_lt (y := 2000 + n / 146097 * 400) (z := y + 1) (by omega)
    omega
  have q1 : -20 ≤ n / 146097 := by omega
  have q2 : n / 146097 ≤ 800 := by omega
  have H1 : Hid (∀ w : World, Calls Tryd.prog 59 #[.int .i64 n, .int .i64 146097] w fun e w' => e = .returned (.int .i64 (n / 146097)) ∧ w' = w) := fun w => rdiv_any n 146097 (by omega) (by omega) (by decide) (by decide) w
  have H2 : Hid (∀ w : World, Calls Tryd.prog 60 #[.int .i64 n, .int .i64 146097] w fun e w' => e = .returned (.int .i64 (n - Cv.S (2000 + n / 146097 * 400))) ∧ w' = w) := by
    intro w; rw [← hm]; exact rmod_any n 146097 (by decide) (by decide) w
  generalize n / 146097 = c at *
  clear hd a1 a2 hz hm
  go_enter Tryd.func39, Tryd.ntmps39
  go_wp2_with (first | (go_at_call 58; refine (rcan_any _ _).mono ?_; rintro e w' ⟨rfl, rfl⟩) | (go_at_call 59; refine (H1.out _).mono ?_; rintro e w' ⟨rfl, rfl⟩) | (go_at_call 60; refine (H2.out _).mono ?_; rintro e w' ⟨rfl, rfl⟩))
  go_loop [6, 7] (fun p r => ∃ z : Int, -6000 ≤ z ∧ z ≤ y ∧ Cv.S z ≤ n ∧ p = .int .i64 z ∧ r = .int .i64 (n - Cv.S z)) (fun p _ => (y - intOf p).toNat)
  case atStart => exact ⟨2000 + c * 400, by omega, b1, b0, rfl, rfl⟩
  case round =>
    obtain ⟨z, z0, z1, z2, rfl, rfl⟩ := hrel
    clear b0 b1 q1 q2
    obtain ⟨t1, t2⟩ := S_bd z (by omega) (by omega)
    have hs := Cv.S_succ z
    by_cases hlt : z < y
    · have g : Cv.S (z + 1) ≤ n := Int.le_trans (Cv.S_mono (by omega)) A.out.1
      have HS : Hid (Cv.S (z + 1) = Cv.S z + 365 + Cv.lp z ∧ Cv.S (z + 1) ≤ n) := ⟨hs, g⟩
      cases hl : Cv.leap z
      · have e0 : Hid (Cv.lp z = 0) := lp_false hl
        have t3 : ¬ n - Cv.S z < 365 := by have := e0.out; omega
        clear hs g
        go_wp2_with (go_at_call 61; refine (rleap_any _ _).mono ?_; rintro e w' ⟨rfl, rfl⟩)
        go_round
        case rel => exact ⟨z + 1, by omega, by omega, HS.out.2, rfl, by rw [HS.out.1, e0.out]; go_num⟩
        case measure => simp [intOf]; omega
      · have e0 : Hid (Cv.lp z = 1) := lp_true hl
        have t3 : ¬ n - Cv.S z < 366 := by have := e0.out; omega
        clear hs g
        go_wp2_with (go_at_call 61; refine (rleap_any _ _).mono ?_; rintro e w' ⟨rfl, rfl⟩)
        go_round
        case rel => exact ⟨z + 1, by omega, by omega, HS.out.2, rfl, by rw [HS.out.1, e0.out]; go_num⟩
        case measure => simp [intOf]; omega
    · obtain rfl : z = y := by omega
      have g := A.out.2
      have t3 : n - Cv.S z < 365 + Cv.lp z := by omega
      have lb := Cv.lp_01 z
      cases hl : Cv.leap z
      all_goals
        first
          | (have e0 : Cv.lp z = 0 := lp_false hl; have t4 : n - Cv.S z < 365 := by omega
             clear e0)
          | (have e0 : Cv.lp z = 1 := lp_true hl; have t4 : n - Cv.S z < 366 := by omega
             clear e0)
        clear hs g t3 lb
        go_wp2_with (go_at_call 61; refine (rleap_any _ _).mono ?_; rintro e w' ⟨rfl, rfl⟩)
        go_loop [9, 7] (fun p r => ∃ k : Int, 1 ≤ k ∧ k ≤ m ∧ p = .int .i64 k ∧ r = .int .i64 (n - Cv.S z - Cv.cum z k)) (fun p _ => (m - intOf p).toNat)
        case atStart => exact ⟨1, by omega, m1, rfl, by rw [Cv.cum_one]; go_num⟩
        case round =>
          obtain ⟨k, k1, k2, rfl, rfl⟩ := hrel
          obtain ⟨c1, c2⟩ := Cv.cum_bd z k
          obtain ⟨l1, l2⟩ := Cv.len_bd z k
          have hc := Cv.cum_succ z k k1 (by omega)
          by_cases hlt : k < m
          · have g := not_rest HD.out k1 hlt
            have t5 : Cv.len z k ≤ n - Cv.S z - Cv.cum z k := by omega
            have HC : Hid (Cv.cum z (k + 1) = Cv.cum z k + Cv.len z k) := hc
            clear hc g
            go_wp2_with (go_at_call 62; refine (rlen_any _ _ _).mono ?_; rintro e w' ⟨rfl, rfl⟩)
            go_round
            case rel => exact ⟨k + 1, by omega, by omega, rfl, by rw [HC.out]; go_num⟩
            case measure => simp [intOf]; omega
          · obtain rfl : k = m := by omega
            have g := is_rest HD.out
            have t5 : ¬ Cv.len z k ≤ n - Cv.S z - Cv.cum z k := by omega
            clear hc g
            go_wp2_with (go_at_call 62; refine (rlen_any _ _ _).mono ?_; rintro e w' ⟨rfl, rfl⟩)
            refine bodyPost_ret (v := .tuple #[.int .i64 z, .int .i64 k, .int .i64 (n - Cv.S z - Cv.cum z k + 1), .int .i64 0]) (by simp [results, Tryd.results39, go_sem]) rfl ⟨?_, rfl⟩
            exact ret_four rfl rfl (by have := ed.out; omega) rfl

end Go.Proofs.YtghfgabajdghiaaDoor.Cvl
