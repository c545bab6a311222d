/- Contracts, more: Weekday, YearDay, Week, of civil and of the reference. -/
import Derived.Test.YtncpihfpfieahacDoorCivD
namespace Go.Proofs.YtncpihfpfieahacDoor
open Go.RowKit
set_option linter.unusedVariables false

theorem wd_fold (n : Int) : (n % 7 + 6) % 7 = (n + 6) % 7 := by omega
theorem wd_t (n : Int) : (n.tmod 7 + 7 + 6) % 7 = (n + 6) % 7 ∧ -6 ≤ n.tmod 7 ∧ n.tmod 7 ≤ 6 := by
  have bd := Nm.tmod_bd (a := n) (b := 7) (by decide)
  by_cases h : n.tmod 7 < 0
  · have := mod_up (a := n) (b := 7) (by decide) h; omega
  · have := mod_same (a := n) (b := 7) (by decide) h; omega

set_option maxHeartbeats 400000 in
theorem weekday_any (n : Int) (w : World) :
    Calls Tryd.prog 14 #[.int .i64 n] w fun e w' => e = .returned (.int .i64 ((n + 6) % 7)) ∧ w' = w := by
  obtain ⟨e1, l1, l2⟩ := wd_t n
  have E1 : Hid ((n.tmod 7 + 7 + 6) % 7 = (n + 6) % 7) := e1
  clear e1
  go_enter Tryd.func14, Tryd.ntmps14
  go_wp2
  go_ret
  exact ⟨ret_int (by have := E1.out; omega), rfl⟩

set_option maxHeartbeats 400000 in
theorem yday_no (n : Int) (h : can n = false) (w : World) :
    Calls Tryd.prog 18 #[.int .i64 n] w fun e w' => e = .returned (.tuple #[.int .i64 0, .int .i64 10]) ∧ w' = w := by
  go_enter Tryd.func18, Tryd.ntmps18
  go_wp2_with (go_at_call 21; refine (can_any _ _).mono ?_; rintro e w' ⟨rfl, rfl⟩)
  go_ret2
  exact ⟨rfl, rfl⟩

set_option maxHeartbeats 400000 in
theorem yday_yes (n y : Int) (h : can n = true) (a1 : Cv.S y ≤ n) (a2 : n < Cv.S (y + 1)) (w : World) :
    Calls Tryd.prog 18 #[.int .i64 n] w fun e w' => e = .returned (.tuple #[.int .i64 (n - Cv.S y + 1), .int .i64 0]) ∧ w' = w := by
  obtain ⟨n1, n2⟩ := of_can h
  obtain ⟨y1, y2⟩ := can_year n1 n2 a1 a2
  obtain ⟨s1, s2⟩ := S_bd y (by omega) (by omega)
  have H1 : Hid (∀ w : World, Calls Tryd.prog 22 #[.int .i64 n] w fun e w' => e = .returned (.int .i64 y) ∧ w' = w) := fun w => yearOf_any n y (by omega) (by omega) a1 a2 w
  clear a2
  go_enter Tryd.func18, Tryd.ntmps18
  go_wp2_with (first | (go_at_call 21; refine (can_any _ _).mono ?_; rintro e w' ⟨rfl, rfl⟩) | (go_at_call 22; refine (H1.out _).mono ?_; rintro e w' ⟨rfl, rfl⟩) | (go_at_call 23; refine (new_any _ (by omega) (by omega) _).mono ?_; rintro e w' ⟨rfl, rfl⟩))
  go_ret2
  exact ⟨rfl, rfl⟩

end Go.Proofs.YtncpihfpfieahacDoor
