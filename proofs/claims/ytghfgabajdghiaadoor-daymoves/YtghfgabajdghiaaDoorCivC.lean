/- Contracts, more: the reference's day, First, Last, Can, Days, Date; civil.First, Last, canBe, yearOf, Days, Date. -/
import Derived.Test.YtghfgabajdghiaaDoorCivB
namespace Go.Proofs.YtghfgabajdghiaaDoor.Cvl
open Go.RowKit
set_option linter.unusedVariables false

set_option maxHeartbeats 800000 in
theorem rday_any (y m d : Int) (h1 : -1000000 ≤ y) (h2 : y ≤ 1000000) (m1 : 1 ≤ m) (m2 : m ≤ 12) (d1 : 1 ≤ d) (d2 : d ≤ 31) (w : World) :
    Calls Tryd.prog 55 #[.int .i64 y, .int .i64 m, .int .i64 d] w fun e w' => e = .returned (.int .i64 (Cv.S y + Cv.cum y m + d - 1)) ∧ w' = w := by
  obtain ⟨s1, s2⟩ := S_bd y h1 h2
  go_enter Tryd.func55, Tryd.ntmps55
  go_wp2_with fail
  refine (start_any y h1 h2 _).mono ?_
  rintro e w1 ⟨rfl, rfl⟩
  go_wp2_with fail
  go_loop [7, 8] (fun n i => ∃ k : Int, 1 ≤ k ∧ k ≤ m ∧ i = .int .i64 k ∧ n = .int .i64 (Cv.S y + Cv.cum y k + d - 1)) (fun _ i => (m - intOf i).toNat)
  case atStart => exact ⟨1, by omega, m1, rfl, by rw [Cv.cum_one]; go_num⟩
  case round =>
    obtain ⟨k, k1, k2, rfl, rfl⟩ := hrel
    obtain ⟨c1, c2⟩ := Cv.cum_bd y k
    by_cases hlt : k < m
    · have hc : Hid (Cv.cum y (k + 1) = Cv.cum y k + Cv.len y k) := Cv.cum_succ y k k1 (by omega)
      obtain ⟨l1, l2⟩ := Cv.len_bd y k
      go_wp2_with (go_at_call 62; refine (rlen_any _ _ _).mono ?_; rintro e w' ⟨rfl, rfl⟩)
      go_round
      case rel => exact ⟨k + 1, by omega, by omega, rfl, by rw [hc.out]; go_num⟩
      case measure => simp [intOf]; omega
    · have ek : Hid (k = m) := by show k = m; omega
      go_wp2
      go_ret
      exact ⟨ret_int (by rw [← ek.out]), rfl⟩

theorem S_first : Cv.S (-4718) = -2453698 := by decide
theorem S_last : Cv.S 294283 = 106754174 := by decide

set_option maxHeartbeats 400000 in
theorem first_any (w : World) : Calls Tryd.prog 74 #[] w fun e w' => e = .returned (.int .i64 (-2453698)) ∧ w' = w := by
  have H1 : Hid (∀ w : World, Calls Tryd.prog 52 #[.int .i64 (-4718)] w fun e w' => e = .returned (.int .i64 (-2453698)) ∧ w' = w) := by
    intro w; rw [← S_first]; exact new_any (-4718) (by decide) (by decide) w
  go_enter Tryd.func74, Tryd.ntmps74
  go_wp2_with fail
  refine (H1.out _).mono ?_
  rintro e w' ⟨rfl, rfl⟩
  go_wp2
  go_ret
  exact ⟨rfl, rfl⟩

set_option maxHeartbeats 400000 in
theorem last_any (w : World) : Calls Tryd.prog 75 #[] w fun e w' => e = .returned (.int .i64 106754173) ∧ w' = w := by
  have H1 : Hid (∀ w : World, Calls Tryd.prog 52 #[.int .i64 294283] w fun e w' => e = .returned (.int .i64 106754174) ∧ w' = w) := by
    intro w; rw [← S_last]; exact new_any 294283 (by decide) (by decide) w
  go_enter Tryd.func75, Tryd.ntmps75
  go_wp2_with fail
  refine (H1.out _).mono ?_
  rintro e w' ⟨rfl, rfl⟩
  go_wp2
  go_ret
  exact ⟨rfl, rfl⟩

theorem d_first : Cv.S (-4718) + Cv.cum (-4718) 1 + 1 - 1 = -2453698 := by decide
theorem d_last : Cv.S 294282 + Cv.cum 294282 12 + 31 - 1 = 106754173 := by decide

set_option maxHeartbeats 400000 in
theorem rfirst_any (w : World) : Calls Tryd.prog 76 #[] w fun e w' => e = .returned (.int .i64 (-2453698)) ∧ w' = w := by
  have H1 : Hid (∀ w : World, Calls Tryd.prog 55 #[.int .i64 (-4718), .int .i64 1, .int .i64 1] w fun e w' => e = .returned (.int .i64 (-2453698)) ∧ w' = w) := by
    intro w; rw [← d_first]; exact rday_any (-4718) 1 1 (by decide) (by decide) (by decide) (by decide) (by decide) (by decide) w
  go_enter Tryd.func76, Tryd.ntmps76
  go_wp2_with fail
  refine (H1.out _).mono ?_
  rintro e w' ⟨rfl, rfl⟩
  go_wp2
  go_ret
  exact ⟨rfl, rfl⟩

set_option maxHeartbeats 400000 in
theorem rlast_any (w : World) : Calls Tryd.prog 77 #[] w fun e w' => e = .returned (.int .i64 106754173) ∧ w' = w := by
  have H1 : Hid (∀ w : World, Calls Tryd.prog 55 #[.int .i64 294282, .int .i64 12, .int .i64 31] w fun e w' => e = .returned (.int .i64 106754173) ∧ w' = w) := by
    intro w; rw [← d_last]; exact rday_any 294282 12 31 (by decide) (by decide) (by decide) (by decide) (by decide) (by decide) w
  go_enter Tryd.func77, Tryd.ntmps77
  go_wp2_with fail
  refine (H1.out _).mono ?_
  rintro e w' ⟨rfl, rfl⟩
  go_wp2
  go_ret
  exact ⟨rfl, rfl⟩

/-- can the day be? -/
def can (n : Int) : Bool := decide (-2453698 ≤ n ∧ n ≤ 106754173)
theorem can_yes {n : Int} (h1 : -2453698 ≤ n) (h2 : n ≤ 106754173) : can n = true := decide_eq_true ⟨h1, h2⟩
theorem can_no {n : Int} (h : n < -2453698 ∨ 106754173 < n) : can n = false := decide_eq_false (by omega)

set_option maxHeartbeats 400000 in
theorem can_any (n : Int) (w : World) : Calls Tryd.prog 56 #[.int .i64 n] w fun e w' => e = .returned (.bool (can n)) ∧ w' = w := by
  by_cases h1 : -2453698 ≤ n
  · by_cases h2 : n ≤ 106754173
    · have e : Hid (can n = true) := can_yes h1 h2
      go_enter Tryd.func56, Tryd.ntmps56
      go_wp2_with (first | (go_at_call 74; refine (first_any _).mono ?_; rintro e w' ⟨rfl, rfl⟩) | (go_at_call 75; refine (last_any _).mono ?_; rintro e w' ⟨rfl, rfl⟩))
      go_ret
      exact ⟨ret_bool e.out.symm, rfl⟩
    · have e : Hid (can n = false) := can_no (by omega)
      go_enter Tryd.func56, Tryd.ntmps56
      go_wp2_with (first | (go_at_call 74; refine (first_any _).mono ?_; rintro e w' ⟨rfl, rfl⟩) | (go_at_call 75; refine (last_any _).mono ?_; rintro e w' ⟨rfl, rfl⟩))
      go_ret
      exact ⟨ret_bool (by rw [e.out]; first | rfl | exact decide_eq_false (by omega)), rfl⟩
  · have e : Hid (can n = false) := can_no (by omega)
    go_enter Tryd.func56, Tryd.ntmps56
    go_wp2_with (first | (go_at_call 74; refine (first_any _).mono ?_; rintro e w' ⟨rfl, rfl⟩) | (go_at_call 75; refine (last_any _).mono ?_; rintro e w' ⟨rfl, rfl⟩))
    go_ret
    exact ⟨ret_bool (by rw [e.out]), rfl⟩

set_option maxHeartbeats 400000 in
theorem rcan_any (n : Int) (w : World) : Calls Tryd.prog 58 #[.int .i64 n] w fun e w' => e = .returned (.bool (can n)) ∧ w' = w := by
  by_cases h1 : -2453698 ≤ n
  · by_cases h2 : n ≤ 106754173
    · have e : Hid (can n = true) := can_yes h1 h2
      go_enter Tryd.func58, Tryd.ntmps58
      go_wp2_with (first | (go_at_call 76; refine (rfirst_any _).mono ?_; rintro e w' ⟨rfl, rfl⟩) | (go_at_call 77; refine (rlast_any _).mono ?_; rintro e w' ⟨rfl, rfl⟩))
      go_ret
      exact ⟨ret_bool e.out.symm, rfl⟩
    · have e : Hid (can n = false) := can_no (by omega)
      go_enter Tryd.func58, Tryd.ntmps58
      go_wp2_with (first | (go_at_call 76; refine (rfirst_any _).mono ?_; rintro e w' ⟨rfl, rfl⟩) | (go_at_call 77; refine (rlast_any _).mono ?_; rintro e w' ⟨rfl, rfl⟩))
      go_ret
      exact ⟨ret_bool (by rw [e.out]; first | rfl | exact decide_eq_false (by omega)), rfl⟩
  · have e : Hid (can n = false) := can_no (by omega)
    go_enter Tryd.func58, Tryd.ntmps58
    go_wp2_with (first | (go_at_call 76; refine (rfirst_any _).mono ?_; rintro e w' ⟨rfl, rfl⟩) | (go_at_call 77; refine (rlast_any _).mono ?_; rintro e w' ⟨rfl, rfl⟩))
    go_ret
    exact ⟨ret_bool (by rw [e.out]), rfl⟩

theorem guess2 (n y : Int) (h1 : -2453698 - 7 ≤ n) (h2 : n ≤ 106754173 + 7) (h3 : y = -4800 + (n + 2483649) * 400 / 146097) :
    Cv.S (y - 1) ≤ n ∧ n < Cv.S (y + 2) ∧ -4720 ≤ y ∧ y ≤ 294290 := by
  unfold Cv.S; omega

set_option maxHeartbeats 800000 in
theorem yearOf_any (n y : Int) (h1 : -2453698 - 7 ≤ n) (h2 : n ≤ 106754173 + 7) (y1 : Cv.S y ≤ n) (y2 : n < Cv.S (y + 1)) (w : World) :
    Calls Tryd.prog 57 #[.int .i64 n] w fun e w' => e = .returned (.int .i64 y) ∧ w' = w := by
  obtain ⟨z, hz⟩ : ∃ z, z = -4800 + (n + 2483649) * 400 / 146097 := ⟨_, rfl⟩
  obtain ⟨g1, g2, g3, g4⟩ := guess2 n z h1 h2 hz
  have e0 : Hid (z = -4800 + (n + 2483649) * 400 / 146097) := hz
  have e1 : -4800 + (n + 2483649) * 400 / 146097 = z := hz.symm
  clear hz
  by_cases a : n < Cv.S z
  · have ey : Hid (y = z - 1) := Cv.year_one y1 y2 g1 (by rw [show z - 1 + 1 = z by omega]; exact a)
    clear g1 g2 y1 y2
    go_enter Tryd.func57, Tryd.ntmps57
    go_wp2_with (go_at_call 52; refine (new_any _ (by omega) (by omega) _).mono ?_; rintro e w' ⟨rfl, rfl⟩)
    go_ret
    exact ⟨ret_int ey.out.symm, rfl⟩
  · by_cases b : Cv.S (z + 1) ≤ n
    · have ey : Hid (y = z + 1) := Cv.year_one y1 y2 b (by rw [show z + 1 + 1 = z + 2 by omega]; exact g2)
      clear g1 g2 y1 y2
      go_enter Tryd.func57, Tryd.ntmps57
      go_wp2_with (go_at_call 52; refine (new_any _ (by omega) (by omega) _).mono ?_; rintro e w' ⟨rfl, rfl⟩)
      go_ret
      exact ⟨ret_int ey.out.symm, rfl⟩
    · have ey : Hid (y = z) := Cv.year_one y1 y2 (by omega) (by omega)
      clear g1 g2 y1 y2
      go_enter Tryd.func57, Tryd.ntmps57
      go_wp2_with (go_at_call 52; refine (new_any _ (by omega) (by omega) _).mono ?_; rintro e w' ⟨rfl, rfl⟩)
      go_ret
      exact ⟨ret_int ey.out.symm, rfl⟩

end Go.Proofs.YtghfgabajdghiaaDoor.Cvl
