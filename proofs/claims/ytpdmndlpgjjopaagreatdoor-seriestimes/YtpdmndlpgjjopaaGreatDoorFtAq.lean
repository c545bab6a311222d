/- Contracts: fire.Instant, fire.YearAt, foot.apart, and the reference's. -/
import Derived.Test.YtpdmndlpgjjopaaGreatDoorCvZq
namespace Go.Proofs.YtpdmndlpgjjopaaGreatDoor.Fn
open Go.RowKit
set_option linter.unusedVariables false

/-- the year of an instant. -/
def YAt (t y : Int) : Prop :=
  (Cvl.can (t / 86400 - 10957) = true ∧ Cv.S y ≤ t / 86400 - 10957 ∧ t / 86400 - 10957 < Cv.S (y + 1)) ∨ (Cvl.can (t / 86400 - 10957) = false ∧ t < 0 ∧ y = -4718) ∨ (Cvl.can (t / 86400 - 10957) = false ∧ 0 ≤ t ∧ y = 294282)

theorem yat_is (t : Int) : ∃ y, YAt t y := by
  cases h : Cvl.can (t / 86400 - 10957)
  · by_cases h0 : t < 0
    · exact ⟨_, .inr (.inl ⟨h, h0, rfl⟩)⟩
    · exact ⟨_, .inr (.inr ⟨h, by omega, rfl⟩)⟩
  · obtain ⟨y, h1, h2⟩ := Cv.year_is (t / 86400 - 10957)
    exact ⟨y, .inl ⟨h, h1, h2⟩⟩

set_option maxHeartbeats 4000000 in
theorem yat_run (t q y : Int) (ms : Value) (ds : Value) (er : Int) (h1 : -9223372036854775808 ≤ t) (h2 : t ≤ 9223372036854775807) (hq : q = t / 86400)
    (D : Hid (∀ w : World, Cvl.Lens w → Calls Tryz.prog 60 #[.int .i64 (q - 10957)] w fun e w' => e = .returned (.tuple #[.int .i64 y, ms, ds, .int .i64 er]) ∧ w' = w))
    (x : Int) (hx : (er = 0 ∧ x = y) ∨ (er = 10 ∧ t < 0 ∧ x = -4718) ∨ (er = 10 ∧ 0 ≤ t ∧ x = 294282)) (w : World) (hL : Hid (Cvl.Lens w)) :
    Calls Tryz.prog 56 #[.int .i64 t] w fun e w' => e = .returned (.int .i64 x) ∧ w' = w := by
  have q1 : -200000000000000 ≤ q := by omega
  have q2 : q ≤ 200000000000000 := by omega
  by_cases hm : t.tmod 86400 < 0
  · have e1 := Cvl.div_down (a := t) (b := 86400) (by decide) hm
    have e2 : t.tdiv 86400 = q + 1 := by omega
    clear e1 hq
    rcases hx with ⟨rfl, rfl⟩ | ⟨rfl, h0, rfl⟩ | ⟨rfl, h0, rfl⟩
    · go_enter Tryz.func56, Tryz.ntmps56
      go_wp2_with fail
      refine (D.out _ hL.out).mono ?_
      rintro e w1 ⟨rfl, rfl⟩
      go_wp2
      go_ret
      exact ⟨rfl, rfl⟩
    · go_enter Tryz.func56, Tryz.ntmps56
      go_wp2_with fail
      refine (D.out _ hL.out).mono ?_
      rintro e w1 ⟨rfl, rfl⟩
      go_wp2
      go_ret
      exact ⟨rfl, rfl⟩
    · have h0' : ¬ t < 0 := by omega
      exact absurd hm (by have := Int.tmod_nonneg 86400 h0; omega)
  · have e1 := Cvl.div_same (a := t) (b := 86400) (by decide) hm
    have e2 : t.tdiv 86400 = q := by omega
    clear e1 hq
    rcases hx with ⟨rfl, rfl⟩ | ⟨rfl, h0, rfl⟩ | ⟨rfl, h0, rfl⟩
    · go_enter Tryz.func56, Tryz.ntmps56
      go_wp2_with fail
      refine (D.out _ hL.out).mono ?_
      rintro e w1 ⟨rfl, rfl⟩
      go_wp2
      go_ret
      exact ⟨rfl, rfl⟩
    · go_enter Tryz.func56, Tryz.ntmps56
      go_wp2_with fail
      refine (D.out _ hL.out).mono ?_
      rintro e w1 ⟨rfl, rfl⟩
      go_wp2
      go_ret
      exact ⟨rfl, rfl⟩
    · have h0' : ¬ t < 0 := by omega
      go_enter Tryz.func56, Tryz.ntmps56
      go_wp2_with fail
      refine (D.out _ hL.out).mono ?_
      rintro e w1 ⟨rfl, rfl⟩
      go_wp2
      go_ret
      exact ⟨rfl, rfl⟩

theorem yat_any (t y : Int) (h : YAt t y) (h1 : -9223372036854775808 ≤ t) (h2 : t ≤ 9223372036854775807) (w : World) (hL : Cvl.Lens w) :
    Calls Tryz.prog 56 #[.int .i64 t] w fun e w' => e = .returned (.int .i64 y) ∧ w' = w := by
  rcases h with ⟨a, b, c⟩ | ⟨a, b, c⟩ | ⟨a, b, c⟩
  · obtain ⟨y', m, d, hd⟩ := Cv.is_date (t / 86400 - 10957)
    obtain ⟨i1, i2⟩ := Cv.is_year hd
    obtain rfl := Cv.year_one b c i1 i2
    exact yat_run t (t / 86400) y (.int .i64 m) (.int .i64 d) 0 h1 h2 rfl (fun w hw => Cvl.date_yes _ y m d a hd w hw) y (.inl ⟨rfl, rfl⟩) w hL
  · exact yat_run t (t / 86400) 0 (.int .i64 0) (.int .i64 0) 10 h1 h2 rfl (fun w hw => Cvl.date_no _ a w) y (.inr (.inl ⟨rfl, b, c⟩)) w hL
  · exact yat_run t (t / 86400) 0 (.int .i64 0) (.int .i64 0) 10 h1 h2 rfl (fun w hw => Cvl.date_no _ a w) y (.inr (.inr ⟨rfl, b, c⟩)) w hL

end Go.Proofs.YtpdmndlpgjjopaaGreatDoor.Fn
