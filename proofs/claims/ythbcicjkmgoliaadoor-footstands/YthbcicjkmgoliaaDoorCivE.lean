/- Contracts, more: Weekday, YearDay, Week, of civil and of the reference. -/
import Derived.Test.YthbcicjkmgoliaaDoorCivD
namespace Go.Proofs.YthbcicjkmgoliaaDoor.Cvl
open Go.RowKit
set_option linter.unusedVariables false

theorem wd_fold (n : Int) : (n % 7 + 6) % 7 = (n + 6) % 7 := by omega
theorem wd_t (n : Int) : (n.tmod 7 + 7 + 6) % 7 = (n + 6) % 7 ∧ -6 ≤ n.tmod 7 ∧ n.tmod 7 ≤ 6 := by
  have bd := Nm.tmod_bd (a := n) (b := 7) (by decide)
  by_cases h : n.tmod 7 < 0
  · have := mod_up (a := n) (b := 7) (by decide) h; omega
  · have := mod_same (a := n) (b := 7) (by decide) h; omega

set_option maxHeartbeats 400000 in
theorem weekday_any (n : Int) (w : World) :
    Calls Tryd.prog 73 #[.int .i64 n] w fun e w' => e = .returned (.int .i64 ((n + 6) % 7)) ∧ w' = w := by
  obtain ⟨e1, l1, l2⟩ := wd_t n
  have E1 : Hid ((n.tmod 7 + 7 + 6) % 7 = (n + 6) % 7) := e1
  clear e1
  go_enter Tryd.func73, Tryd.ntmps73
  go_wp2
  go_ret
  exact ⟨ret_int (by have := E1.out; omega), rfl⟩

set_option maxHeartbeats 400000 in
theorem rweekday_any (n : Int) (w : World) :
    Calls Tryd.prog 44 #[.int .i64 n] w fun e w' => e = .returned (.int .i64 ((n + 6) % 7)) ∧ w' = w := by
  have l1 : 0 ≤ n % 7 := by omega
  have l2 : n % 7 < 7 := by omega
  have E1 : Hid ((n % 7 + 6) % 7 = (n + 6) % 7) := wd_fold n
  go_enter Tryd.func44, Tryd.ntmps44
  go_wp2_with (go_at_call 27; refine (rmod_any _ _ (by decide) (by decide) _).mono ?_; rintro e w' ⟨rfl, rfl⟩)
  go_ret
  exact ⟨ret_int (by have := E1.out; omega), rfl⟩

end Go.Proofs.YthbcicjkmgoliaaDoor.Cvl
