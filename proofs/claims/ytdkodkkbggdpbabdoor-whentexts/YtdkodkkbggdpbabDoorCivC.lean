/- Contracts, more: the reference's day, First, Last, Can, Days, Date; civil.First, Last, canBe, yearOf, Days, Date. -/
import Derived.Test.YtdkodkkbggdpbabDoorCivB
namespace Go.Proofs.YtdkodkkbggdpbabDoor.Cvl
open Go.RowKit
set_option linter.unusedVariables false

set_option maxHeartbeats 800000 in
theorem rday_any (y m d : Int) (h1 : -1000000 ≤ y) (h2 : y ≤ 1000000) (m1 : 1 ≤ m) (m2 : m ≤ 12) (d1 : 1 ≤ d) (d2 : d ≤ 31) (w : World) :
    Calls Tryd.prog 55 #[.int .i64 y, .int .i64 m, .int .i64 d] w fun e w' => e = .returned (.int .i64 (Cv.S y + Cv.cum y m + d - 1)) ∧ w' = w := by
  obtain ⟨s1, s2⟩ := S_bd y h1 h2
  go_enter Tryd.func55, Tryd.ntmps55
  go_wp2_with fail
  refine (start_any y h1 h2 _).mono ?_
  rintro e w1 ⟨rfl, rfl⟩
  go_wp2_with fail
  go_loop [7, 8] (fun n i => ∃ k : Int, 1 ≤ k ∧ k ≤ m ∧ i = .int .i64 k ∧ n = .int .i64 (Cv.S y + Cv.cum y k + d - 1)) (fun _ i => (m - intOf i).toNat)
  case atStart => exact ⟨1, by omega, m1, rfl, by rw [Cv.cum_one]; go_num⟩
  case round =>
    obtain ⟨k, k1, k2, rfl, rfl⟩ := hrel
    obtain ⟨c1, c2⟩ := Cv.cum_bd y k
    by_cases hlt : k < m
    · have hc : Hid (Cv.cum y (k + 1) = Cv.cum y k + Cv.len y k) := Cv.cum_succ y k k1 (by omega)
      obtain ⟨l1, l2⟩ := Cv.len_bd y k
      go_wp2_with (go_at_call 29; refine (rlen_any _ _ _).mono ?_; rintro e w' ⟨rfl, rfl⟩)
      go_round
      case rel => exact ⟨k + 1, by omega, by omega, rfl, by rw [hc.out]; go_num⟩
      case measure => simp [intOf]; omega
    · have ek : Hid (k = m) := by show k = m; omega
      go_wp2
      go_ret
      exact ⟨ret_int (by rw [← ek.out]), rfl⟩

theorem S_first : Cv.S (-4718) = -2453698 := by decide
theorem S_last : Cv.S 294283 = 106754174 := by decide

theorem d_first : Cv.S (-4718) + Cv.cum (-4718) 1 + 1 - 1 = -2453698 := by decide
theorem d_last : Cv.S 294282 + Cv.cum 294282 12 + 31 - 1 = 106754173 := by decide

/-- can the day be? -/
def can (n : Int) : Bool := decide (-2453698 ≤ n ∧ n ≤ 106754173)
theorem can_yes {n : Int} (h1 : -2453698 ≤ n) (h2 : n ≤ 106754173) : can n = true := decide_eq_true ⟨h1, h2⟩
theorem can_no {n : Int} (h : n < -2453698 ∨ 106754173 < n) : can n = false := decide_eq_false (by omega)

theorem guess2 (n y : Int) (h1 : -2453698 - 7 ≤ n) (h2 : n ≤ 106754173 + 7) (h3 : y = -4800 + (n + 2483649) * 400 / 146097) :
    Cv.S (y - 1) ≤ n ∧ n < Cv.S (y + 2) ∧ -4720 ≤ y ∧ y ≤ 294290 := by
  unfold Cv.S; omega

end Go.Proofs.YtdkodkkbggdpbabDoor.Cvl
