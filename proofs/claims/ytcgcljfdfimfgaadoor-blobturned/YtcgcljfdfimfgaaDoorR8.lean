import Derived.Test.YtcgcljfdfimfgaaDoorR7
/- Contracts, more: the reference's day, First, Last, Can, Days, Date; civil.First, Last, canBe, yearOf, Days, Date. -/
namespace Go.Proofs.YtcgcljfdfimfgaaDoor.Cvl
open Go.RowKit
set_option linter.unusedVariables false

theorem S_first : Cv.S (-4718) = -2453698 := by decide
theorem S_last : Cv.S 294283 = 106754174 := by decide

set_option maxHeartbeats 400000 in
theorem first_any (w : World) : Calls Tryd.prog 57 #[] w fun e w' => e = .returned (.int .i64 (-2453698)) ∧ w' = w := by
  have H1 : Hid (∀ w : World, Calls Tryd.prog 51 #[.int .i64 (-4718)] w fun e w' => e = .returned (.int .i64 (-2453698)) ∧ w' = w) := by
    intro w; rw [← S_first]; exact new_any (-4718) (by decide) (by decide) w
  go_enter Tryd.func57, Tryd.ntmps57
  go_wp2_with fail
  refine (H1.out _).mono ?_
  rintro e w' ⟨rfl, rfl⟩
  go_wp2
  go_ret
  exact ⟨rfl, rfl⟩

set_option maxHeartbeats 400000 in
theorem last_any (w : World) : Calls Tryd.prog 58 #[] w fun e w' => e = .returned (.int .i64 106754173) ∧ w' = w := by
  have H1 : Hid (∀ w : World, Calls Tryd.prog 51 #[.int .i64 294283] w fun e w' => e = .returned (.int .i64 106754174) ∧ w' = w) := by
    intro w; rw [← S_last]; exact new_any 294283 (by decide) (by decide) w
  go_enter Tryd.func58, Tryd.ntmps58
  go_wp2_with fail
  refine (H1.out _).mono ?_
  rintro e w' ⟨rfl, rfl⟩
  go_wp2
  go_ret
  exact ⟨rfl, rfl⟩

/-- can the day be? -/
def can (n : Int) : Bool := decide (-2453698 ≤ n ∧ n ≤ 106754173)
theorem can_yes {n : Int} (h1 : -2453698 ≤ n) (h2 : n ≤ 106754173) : can n = true := decide_eq_true ⟨h1, h2⟩
theorem can_no {n : Int} (h : n < -2453698 ∨ 106754173 < n) : can n = false := decide_eq_false (by omega)

set_option maxHeartbeats 400000 in
theorem can_any (n : Int) (w : World) : Calls Tryd.prog 49 #[.int .i64 n] w fun e w' => e = .returned (.bool (can n)) ∧ w' = w := by
  by_cases h1 : -2453698 ≤ n
  · by_cases h2 : n ≤ 106754173
    · have e : Hid (can n = true) := can_yes h1 h2
      go_enter Tryd.func49, Tryd.ntmps49
      go_wp2_with (first | (go_at_call 57; refine (first_any _).mono ?_; rintro e w' ⟨rfl, rfl⟩) | (go_at_call 58; refine (last_any _).mono ?_; rintro e w' ⟨rfl, rfl⟩))
      go_ret
      exact ⟨ret_bool e.out.symm, rfl⟩
    · have e : Hid (can n = false) := can_no (by omega)
      go_enter Tryd.func49, Tryd.ntmps49
      go_wp2_with (first | (go_at_call 57; refine (first_any _).mono ?_; rintro e w' ⟨rfl, rfl⟩) | (go_at_call 58; refine (last_any _).mono ?_; rintro e w' ⟨rfl, rfl⟩))
      go_ret
      exact ⟨ret_bool (by rw [e.out]; first | rfl | exact decide_eq_false (by omega)), rfl⟩
  · have e : Hid (can n = false) := can_no (by omega)
    go_enter Tryd.func49, Tryd.ntmps49
    go_wp2_with (first | (go_at_call 57; refine (first_any _).mono ?_; rintro e w' ⟨rfl, rfl⟩) | (go_at_call 58; refine (last_any _).mono ?_; rintro e w' ⟨rfl, rfl⟩))
    go_ret
    exact ⟨ret_bool (by rw [e.out]), rfl⟩

theorem guess2 (n y : Int) (h1 : -2453698 - 7 ≤ n) (h2 : n ≤ 106754173 + 7) (h3 : y = -4800 + (n + 2483649) * 400 / 146097) :
    Cv.S (y - 1) ≤ n ∧ n < Cv.S (y + 2) ∧ -4720 ≤ y ∧ y ≤ 294290 := by
  unfold Cv.S; omega

set_option maxHeartbeats 800000 in
theorem yearOf_any (n y : Int) (h1 : -2453698 - 7 ≤ n) (h2 : n ≤ 106754173 + 7) (y1 : Cv.S y ≤ n) (y2 : n < Cv.S (y + 1)) (w : World) :
    Calls Tryd.prog 50 #[.int .i64 n] w fun e w' => e = .returned (.int .i64 y) ∧ w' = w := by
  obtain ⟨z, hz⟩ : ∃ z, z = -4800 + (n + 2483649) * 400 / 146097 := ⟨_, rfl⟩
  obtain ⟨g1, g2, g3, g4⟩ := guess2 n z h1 h2 hz
  have e0 : Hid (z = -4800 + (n + 2483649) * 400 / 146097) := hz
  have e1 : -4800 + (n + 2483649) * 400 / 146097 = z := hz.symm
  clear hz
  by_cases a : n < Cv.S z
  · have ey : Hid (y = z - 1) := Cv.year_one y1 y2 g1 (by rw [show z - 1 + 1 = z by omega]; exact a)
    clear g1 g2 y1 y2
    go_enter Tryd.func50, Tryd.ntmps50
    go_wp2_with (go_at_call 51; refine (new_any _ (by omega) (by omega) _).mono ?_; rintro e w' ⟨rfl, rfl⟩)
    go_ret
    exact ⟨ret_int ey.out.symm, rfl⟩
  · by_cases b : Cv.S (z + 1) ≤ n
    · have ey : Hid (y = z + 1) := Cv.year_one y1 y2 b (by rw [show z + 1 + 1 = z + 2 by omega]; exact g2)
      clear g1 g2 y1 y2
      go_enter Tryd.func50, Tryd.ntmps50
      go_wp2_with (go_at_call 51; refine (new_any _ (by omega) (by omega) _).mono ?_; rintro e w' ⟨rfl, rfl⟩)
      go_ret
      exact ⟨ret_int ey.out.symm, rfl⟩
    · have ey : Hid (y = z) := Cv.year_one y1 y2 (by omega) (by omega)
      clear g1 g2 y1 y2
      go_enter Tryd.func50, Tryd.ntmps50
      go_wp2_with (go_at_call 51; refine (new_any _ (by omega) (by omega) _).mono ?_; rintro e w' ⟨rfl, rfl⟩)
      go_ret
      exact ⟨ret_int ey.out.symm, rfl⟩

end Go.Proofs.YtcgcljfdfimfgaaDoor.Cvl
/- Contracts, more: Days and Date, of civil and of the reference. -/
namespace Go.Proofs.YtcgcljfdfimfgaaDoor.Cvl
open Go.RowKit
set_option linter.unusedVariables false

theorem of_right {y m d : Int} (h : right y m d = true) : -4718 ≤ y ∧ y ≤ 294282 ∧ 1 ≤ d ∧ d ≤ Cv.len y m := of_decide_eq_true h

set_option maxHeartbeats 800000 in
theorem days_yes (y m d : Int) (h : right y m d = true) (w : World) (hw : Lens w) :
    Calls Tryd.prog 69 #[.int .i64 y, .int .i64 m, .int .i64 d] w fun e w' => e = .returned (.tuple #[.int .i64 (Cv.S y + Cv.cum y m + d - 1), .int .i64 0]) ∧ w' = w := by
  obtain ⟨y1, y2, d1, d2⟩ := of_right h
  obtain ⟨m1, m2⟩ := right_mon ⟨y1, y2, d1, d2⟩
  have l := (Cv.len_bd y m).2
  have d3 : d ≤ 31 := by omega
  obtain ⟨s1, s2⟩ := S_bd y (by omega) (by omega)
  clear d2 l
  go_enter Tryd.func69, Tryd.ntmps69
  go_wp2_with (first | (go_at_call 75; refine (right_any _ _ _ _ hw).mono ?_; rintro e w' ⟨rfl, rfl⟩) | (go_at_call 51; refine (new_any _ (by omega) (by omega) _).mono ?_; rintro e w' ⟨rfl, rfl⟩))
  go_loop [8, 19] (fun n i => ∃ k : Int, 0 ≤ k ∧ k ≤ m - 1 ∧ i = .int .i64 k ∧ n = .int .i64 (Cv.S y + Cv.cum y (k + 1))) (fun _ i => (m - intOf i).toNat)
  case atStart => exact ⟨0, by omega, by omega, rfl, by rw [show (0 : Int) + 1 = 1 by omega, Cv.cum_one]; go_num⟩
  case round =>
    obtain ⟨k, k1, k2, rfl, rfl⟩ := hrel
    obtain ⟨c1, c2⟩ := Cv.cum_bd y (k + 1)
    by_cases hlt : k < m - 1
    · have hc : Hid (Cv.cum y (k + 1 + 1) = Cv.cum y (k + 1) + Cv.len y (k + 1)) := Cv.cum_succ y (k + 1) (by omega) (by omega)
      obtain ⟨l1, l2⟩ := Cv.len_bd y (k + 1)
      go_wp2_with (go_at_call 52; refine (len_any _ _ _ hw).mono ?_; rintro e w' ⟨rfl, rfl⟩)
      go_round
      case rel => exact ⟨k + 1, by omega, by omega, rfl, by rw [hc.out]; go_num⟩
      case measure => simp [intOf]; omega
    · have ek : Hid (k + 1 = m) := by show k + 1 = m; omega
      go_wp2
      go_ret2
      exact ⟨by rw [ek.out]; rfl, rfl⟩

theorem ret_four {a b c d a' b' c' d' : Int} (h1 : a = a') (h2 : b = b') (h3 : c = c') (h4 : d = d') : Ending.returned (.tuple #[.int .i64 a, .int .i64 b, .int .i64 c, .int .i64 d]) = .returned (.tuple #[.int .i64 a', .int .i64 b', .int .i64 c', .int .i64 d']) := by rw [h1, h2, h3, h4]

set_option maxHeartbeats 400000 in
theorem date_no (n : Int) (h : can n = false) (w : World) :
    Calls Tryd.prog 43 #[.int .i64 n] w fun e w' => e = .returned (.tuple #[.int .i64 0, .int .i64 0, .int .i64 0, .int .i64 10]) ∧ w' = w := by
  go_enter Tryd.func43, Tryd.ntmps43
  go_wp2_with (go_at_call 49; refine (can_any _ _).mono ?_; rintro e w' ⟨rfl, rfl⟩)
  exact bodyPost_ret (v := .tuple #[.int .i64 0, .int .i64 0, .int .i64 0, .int .i64 10]) (by simp [results, Tryd.results43, go_sem]) rfl ⟨rfl, rfl⟩

theorem of_can {n : Int} (h : can n = true) : -2453698 ≤ n ∧ n ≤ 106754173 := of_decide_eq_true h
theorem can_year {n y : Int} (h1 : -2453698 ≤ n) (h2 : n ≤ 106754173) (y1 : Cv.S y ≤ n) (y2 : n < Cv.S (y + 1)) : -4718 ≤ y ∧ y ≤ 294282 := by
  have a := S_first
  have b := S_last
  have c : -4718 < y + 1 := Cv.S_lt (by omega)
  have d : y < 294283 := Cv.S_lt (by omega)
  omega
theorem not_rest {n y m d k : Int} (h : Cv.Is n y m d) (k1 : 1 ≤ k) (k2 : k < m) : Cv.cum y (k + 1) ≤ n - Cv.S y := by
  obtain ⟨m1, m2, d1, d2, e⟩ := h
  have := Cv.cum_mono (y := y) (a := k + 1) (b := m) (by omega) (by omega) (by omega)
  omega
theorem is_rest {n y m d : Int} (h : Cv.Is n y m d) : n - Cv.S y < Cv.cum y (m + 1) := by
  obtain ⟨m1, m2, d1, d2, e⟩ := h
  have := Cv.cum_succ y m m1 m2
  omega

set_option maxHeartbeats 1000000 in
theorem date_yes (n y m d : Int) (h : can n = true) (hd : Cv.Is n y m d) (w : World) (hw : Lens w) :
    Calls Tryd.prog 43 #[.int .i64 n] w fun e w' => e = .returned (.tuple #[.int .i64 y, .int .i64 m, .int .i64 d, .int .i64 0]) ∧ w' = w := by
  obtain ⟨n1, n2⟩ := of_can h
  obtain ⟨a1, a2⟩ := Cv.is_year hd
  obtain ⟨y1, y2⟩ := can_year n1 n2 a1 a2
  obtain ⟨s1, s2⟩ := S_bd y (by omega) (by omega)
  have m1 := hd.1
  have m2 := hd.2.1
  have ed : Hid (n = Cv.S y + Cv.cum y m + d - 1) := hd.2.2.2.2
  have HD : Hid (Cv.Is n y m d) := hd
  have H1 : Hid (∀ w : World, Calls Tryd.prog 50 #[.int .i64 n] w fun e w' => e = .returned (.int .i64 y) ∧ w' = w) := fun w => yearOf_any n y (by omega) (by omega) a1 a2 w
  clear hd a2
  go_enter Tryd.func43, Tryd.ntmps43
  go_wp2_with (first | (go_at_call 49; refine (can_any _ _).mono ?_; rintro e w' ⟨rfl, rfl⟩) | (go_at_call 50; refine (H1.out _).mono ?_; rintro e w' ⟨rfl, rfl⟩) | (go_at_call 51; refine (new_any _ (by omega) (by omega) _).mono ?_; rintro e w' ⟨rfl, rfl⟩))
  go_loop [7, 8, 18] (fun p r i => ∃ k : Int, 1 ≤ k ∧ k ≤ m ∧ i = .int .i64 (k - 1) ∧ p = .int .i64 k ∧ r = .int .i64 (n - Cv.S y - Cv.cum y k)) (fun p _ _ => (m - intOf p).toNat)
  case atStart => exact ⟨1, by omega, m1, rfl, rfl, by rw [Cv.cum_one]; go_num⟩
  case round =>
    obtain ⟨k, k1, k2, rfl, rfl, rfl⟩ := hrel
    obtain ⟨c1, c2⟩ := Cv.cum_bd y k
    obtain ⟨l1, l2⟩ := Cv.len_bd y k
    have hc := Cv.cum_succ y k k1 (by omega)
    by_cases hlt : k < m
    · have g := not_rest HD.out k1 hlt
      have t1 : ¬ n - Cv.S y - Cv.cum y k < Cv.len y k := by omega
      have HC : Hid (Cv.cum y (k + 1) = Cv.cum y k + Cv.len y k) := hc
      clear hc g
      go_wp2_with (go_at_call 52; refine (len_any _ _ _ hw).mono ?_; rintro e w' ⟨rfl, rfl⟩)
      go_round
      case rel => exact ⟨k + 1, by omega, by omega, by go_num, rfl, by rw [HC.out]; go_num⟩
      case measure => simp [intOf]; omega
    · obtain rfl : k = m := by omega
      have g := is_rest HD.out
      have t1 : n - Cv.S y - Cv.cum y k < Cv.len y k := by omega
      clear hc g
      by_cases h12 : k - 1 < 11
      · go_wp2_with (go_at_call 52; refine (len_any _ _ _ hw).mono ?_; rintro e w' ⟨rfl, rfl⟩)
        refine bodyPost_ret (v := .tuple #[.int .i64 y, .int .i64 k, .int .i64 (n - Cv.S y - Cv.cum y k + 1), .int .i64 0]) (by simp [results, Tryd.results43, go_sem]) rfl ⟨?_, rfl⟩
        exact ret_four rfl rfl (by have := ed.out; omega) rfl
      · go_wp2
        refine bodyPost_ret (v := .tuple #[.int .i64 y, .int .i64 k, .int .i64 (n - Cv.S y - Cv.cum y k + 1), .int .i64 0]) (by simp [results, Tryd.results43, go_sem]) rfl ⟨?_, rfl⟩
        exact ret_four rfl rfl (by have := ed.out; omega) rfl

end Go.Proofs.YtcgcljfdfimfgaaDoor.Cvl
/- Contracts, more: Weekday, YearDay, Week, of civil and of the reference. -/
namespace Go.Proofs.YtcgcljfdfimfgaaDoor.Cvl
open Go.RowKit
set_option linter.unusedVariables false

theorem wd_t (n : Int) : (n.tmod 7 + 7 + 6) % 7 = (n + 6) % 7 ∧ -6 ≤ n.tmod 7 ∧ n.tmod 7 ≤ 6 := by
  have bd := Nm.tmod_bd (a := n) (b := 7) (by decide)
  by_cases h : n.tmod 7 < 0
  · have := mod_up (a := n) (b := 7) (by decide) h; omega
  · have := mod_same (a := n) (b := 7) (by decide) h; omega

set_option maxHeartbeats 400000 in
theorem weekday_any (n : Int) (w : World) :
    Calls Tryd.prog 80 #[.int .i64 n] w fun e w' => e = .returned (.int .i64 ((n + 6) % 7)) ∧ w' = w := by
  obtain ⟨e1, l1, l2⟩ := wd_t n
  have E1 : Hid ((n.tmod 7 + 7 + 6) % 7 = (n + 6) % 7) := e1
  clear e1
  go_enter Tryd.func80, Tryd.ntmps80
  go_wp2
  go_ret
  exact ⟨ret_int (by have := E1.out; omega), rfl⟩

end Go.Proofs.YtcgcljfdfimfgaaDoor.Cvl
