/- Contracts, more: Week and Shift, of civil and of the reference; what the laws' fixed calls come to. -/
import Derived.Test.YtncpihfpfieahabDoorCivE
namespace Go.Proofs.YtncpihfpfieahabDoor
open Go.RowKit
set_option linter.unusedVariables false

/-- the Thursday of a day's week. -/
def thu (n : Int) : Int := n - ((n + 6) % 7 + 6) % 7 + 3
theorem thu_eq (n : Int) : thu n = n - ((n + 6) % 7 + 6) % 7 + 3 := rfl
theorem thu_bd (n : Int) : n - 3 ≤ thu n ∧ thu n ≤ n + 3 := by unfold thu; omega
theorem week_bd {n y : Int} (n1 : -2453698 ≤ n) (n2 : n ≤ 106754173) (a1 : Cv.S y ≤ thu n) (a2 : thu n < Cv.S (y + 1)) : -4720 ≤ y ∧ y ≤ 294284 := by
  have b := thu_bd n
  have c := S_first
  have d := S_last
  have e : Cv.S (-4719) = -2454063 := by decide
  have f : Cv.S 294284 = 106754539 := by decide
  have g : -4719 < y + 1 := Cv.S_lt (by omega)
  have h : y < 294284 := Cv.S_lt (by omega)
  omega
theorem S_in {t y : Int} (a1 : Cv.S y ≤ t) (a2 : t < Cv.S (y + 1)) : 0 ≤ t - Cv.S y ∧ t - Cv.S y ≤ 366 := by
  have := Cv.S_succ y
  have := Cv.lp_01 y
  omega

set_option maxHeartbeats 400000 in
theorem week_no (n : Int) (h : can n = false) (w : World) :
    Calls Tryd.prog 24 #[.int .i64 n] w fun e w' => e = .returned (.tuple #[.int .i64 0, .int .i64 0, .int .i64 10]) ∧ w' = w := by
  go_enter Tryd.func24, Tryd.ntmps24
  go_wp2_with (go_at_call 33; refine (can_any _ _).mono ?_; rintro e w' ⟨rfl, rfl⟩)
  go_ret3
  exact ⟨rfl, rfl⟩

set_option maxHeartbeats 400000 in
theorem rweek_no (n : Int) (h : can n = false) (w : World) :
    Calls Tryd.prog 25 #[.int .i64 n] w fun e w' => e = .returned (.tuple #[.int .i64 0, .int .i64 0, .int .i64 10]) ∧ w' = w := by
  go_enter Tryd.func25, Tryd.ntmps25
  go_wp2_with (go_at_call 21; refine (rdate_no n h _).mono ?_; rintro e w' ⟨rfl, rfl⟩)
  go_ret3
  exact ⟨rfl, rfl⟩

theorem ret_three {a b c a' b' c' : Int} (h1 : a = a') (h2 : b = b') (h3 : c = c') : Ending.returned (.tuple #[.int .i64 a, .int .i64 b, .int .i64 c]) = .returned (.tuple #[.int .i64 a', .int .i64 b', .int .i64 c']) := by rw [h1, h2, h3]

set_option maxHeartbeats 800000 in
theorem week_yes (n y : Int) (h : can n = true) (a1 : Cv.S y ≤ thu n) (a2 : thu n < Cv.S (y + 1)) (w : World) :
    Calls Tryd.prog 24 #[.int .i64 n] w fun e w' => e = .returned (.tuple #[.int .i64 y, .int .i64 ((thu n - Cv.S y) / 7 + 1), .int .i64 0]) ∧ w' = w := by
  obtain ⟨n1, n2⟩ := of_can h
  obtain ⟨y1, y2⟩ := week_bd n1 n2 a1 a2
  obtain ⟨s1, s2⟩ := S_bd y (by omega) (by omega)
  obtain ⟨t1, t2⟩ := thu_bd n
  obtain ⟨r1, r2⟩ := S_in a1 a2
  have H1 : Hid (∀ w : World, Calls Tryd.prog 34 #[.int .i64 (thu n)] w fun e w' => e = .returned (.int .i64 y) ∧ w' = w) := fun w => yearOf_any (thu n) y (by omega) (by omega) a1 a2 w
  obtain ⟨d, hd⟩ : ∃ d, d = (n + 6) % 7 := ⟨_, rfl⟩
  have W1 : Hid (∀ w : World, Calls Tryd.prog 26 #[.int .i64 n] w fun e w' => e = .returned (.int .i64 d) ∧ w' = w) := by
    intro w; rw [hd]; exact weekday_any n w
  have d1 : 0 ≤ d := by omega
  have d2 : d < 7 := by omega
  have et : n - (d + 7 - 1) % 7 + 3 = thu n := by rw [thu_eq, ← hd]; omega
  generalize thu n = t at *
  clear a1 a2 hd
  go_enter Tryd.func24, Tryd.ntmps24
  go_wp2_with fail
  refine (can_any _ _).mono ?_
  rintro e w1 ⟨rfl, rfl⟩
  go_wp2_with fail
  refine (W1.out _).mono ?_
  rintro e w1 ⟨rfl, rfl⟩
  go_wp2_with fail
  refine (H1.out _).mono ?_
  rintro e w1 ⟨rfl, rfl⟩
  go_wp2_with fail
  refine (new_any _ (by omega) (by omega) _).mono ?_
  rintro e w1 ⟨rfl, rfl⟩
  go_wp2
  go_ret3
  exact ⟨rfl, rfl⟩

set_option maxHeartbeats 1000000 in
theorem rweek_yes (n y m d q : Int) (h : can n = true) (hd : Cv.Is n y m d) (a1 : Cv.S q ≤ thu n) (a2 : thu n < Cv.S (q + 1)) (w : World) :
    Calls Tryd.prog 25 #[.int .i64 n] w fun e w' => e = .returned (.tuple #[.int .i64 q, .int .i64 ((thu n - Cv.S q) / 7 + 1), .int .i64 0]) ∧ w' = w := by
  obtain ⟨n1, n2⟩ := of_can h
  obtain ⟨b1, b2⟩ := Cv.is_year hd
  obtain ⟨y1, y2⟩ := can_year n1 n2 b1 b2
  obtain ⟨q1, q2⟩ := week_bd n1 n2 a1 a2
  obtain ⟨s1, s2⟩ := S_bd q (by omega) (by omega)
  obtain ⟨t1, t2⟩ := thu_bd n
  obtain ⟨r1, r2⟩ := S_in a1 a2
  have D1 : Hid (∀ w : World, Calls Tryd.prog 21 #[.int .i64 n] w fun e w' => e = .returned (.tuple #[.int .i64 y, .int .i64 m, .int .i64 d, .int .i64 0]) ∧ w' = w) := fun w => rdate_yes n y m d h hd w
  obtain ⟨v, hv⟩ : ∃ v, v = (n + 6) % 7 := ⟨_, rfl⟩
  have W1 : Hid (∀ w : World, Calls Tryd.prog 27 #[.int .i64 n] w fun e w' => e = .returned (.int .i64 v) ∧ w' = w) := by
    intro w; rw [hv]; exact rweekday_any n w
  have v1 : 0 ≤ v := by omega
  have v2 : v < 7 := by omega
  have u1 : 0 ≤ (v + 6) % 7 := by omega
  have u2 : (v + 6) % 7 < 7 := by omega
  have et : n - (v + 6) % 7 + 3 = thu n := by rw [thu_eq, ← hv]
  have A : Hid (Cv.S q ≤ thu n ∧ thu n < Cv.S (q + 1)) := ⟨a1, a2⟩
  generalize thu n = t at *
  clear a1 a2 hv hd b1 b2
  go_enter Tryd.func25, Tryd.ntmps25
  go_wp2_with fail
  refine (D1.out _).mono ?_
  rintro e w1 ⟨rfl, rfl⟩
  go_wp2_with fail
  refine (W1.out _).mono ?_
  rintro e w1 ⟨rfl, rfl⟩
  go_wp2_with fail
  refine (rmod_any _ _ (by decide) (by decide) _).mono ?_
  rintro e w1 ⟨rfl, rfl⟩
  go_wp2_with fail
  go_loop [5] (fun p => ∃ z : Int, -4730 ≤ z ∧ z ≤ 294290 ∧ (q ≤ z ∨ z = y) ∧ p = .int .i64 z) (fun p => (intOf p + 5000).toNat)
  case atStart => exact ⟨y, by omega, by omega, .inr rfl, rfl⟩
  case round =>
    obtain ⟨z, z1, z2, z3, rfl⟩ := hrel
    have Z3 : Hid (q ≤ z ∨ z = y) := z3
    clear z3
    by_cases hg : t < Cv.S z
    · have g1 : q < z := Cv.S_lt (by have := A.out.1; omega)
      go_wp2_with (go_at_call 37; refine (start_any _ (by omega) (by omega) _).mono ?_; rintro e w' ⟨rfl, rfl⟩)
      go_round
      case rel => exact ⟨z - 1, by omega, by omega, .inl (by omega), rfl⟩
      case measure => simp [intOf]; omega
    · have g1 : z ≤ q := by
        have := Cv.S_lt (y := z) (z := q + 1) (by have := A.out.2; omega)
        omega
      go_wp2_with (go_at_call 37; refine (start_any _ (by omega) (by omega) _).mono ?_; rintro e w' ⟨rfl, rfl⟩)
      go_loop [5] (fun p => ∃ x : Int, -4730 ≤ x ∧ x ≤ q ∧ p = .int .i64 x) (fun p => (q - intOf p).toNat)
      case atStart => exact ⟨z, by omega, g1, rfl⟩
      case round =>
        obtain ⟨x, x1, x2, rfl⟩ := hrel
        by_cases hk : Cv.S (x + 1) ≤ t
        · have g2 : x < q := by
            have := Cv.S_lt (y := x + 1) (z := q + 1) (by have := A.out.2; omega)
            omega
          go_wp2_with (go_at_call 37; refine (start_any _ (by omega) (by omega) _).mono ?_; rintro e w' ⟨rfl, rfl⟩)
          go_round
          case rel => exact ⟨x + 1, by omega, by omega, rfl⟩
          case measure => simp [intOf]; omega
        · have g2 : q = x := by
            have := Cv.S_lt (y := q) (z := x + 1) (by have := A.out.1; omega)
            omega
          subst g2
          go_wp2_with (go_at_call 37; refine (start_any _ (by omega) (by omega) _).mono ?_; rintro e w' ⟨rfl, rfl⟩)
          go_ret3
          exact ⟨rfl, rfl⟩

end Go.Proofs.YtncpihfpfieahabDoor
