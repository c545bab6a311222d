/- Contracts: fire.Instant, fire.YearAt, foot.apart, and the reference's. -/
import Derived.Test.YthbcicjkmgoliaaDoorWhnD
namespace Go.Proofs.YthbcicjkmgoliaaDoor
open Go.RowKit
set_option linter.unusedVariables false

/-- the instant of so many seconds of a day by a clock. -/
def inst (d s k o v : Int) : Int := if k = 117 then (d + 10957) * 86400 + s else if k = 115 then (d + 10957) * 86400 + s - o else (d + 10957) * 86400 + s - o - v

set_option maxHeartbeats 1000000 in
theorem inst_any (d s k o v : Int) (d1 : -1000000000 ≤ d) (d2 : d ≤ 1000000000) (s1 : 0 ≤ s) (s2 : s ≤ 86400) (o1 : -50400 ≤ o) (o2 : o ≤ 50400) (v1 : 0 ≤ v) (v2 : v ≤ 7200) (w : World) :
    Calls Tryd.prog 68 #[.int .i64 d, .int .i64 s, .int .u8 k, .int .i64 o, .int .i64 v] w fun e w' => e = .returned (.int .i64 (inst d s k o v)) ∧ w' = w := by
  by_cases h1 : k = 117
  · subst h1
    go_enter Tryd.func68, Tryd.ntmps68
    go_wp2
    go_ret
    exact ⟨Cvl.ret_int (by unfold inst; simp), rfl⟩
  · by_cases h2 : k = 115
    · subst h2
      go_enter Tryd.func68, Tryd.ntmps68
      go_wp2
      go_ret
      exact ⟨Cvl.ret_int (by unfold inst; simp), rfl⟩
    · go_enter Tryd.func68, Tryd.ntmps68
      go_wp2
      go_ret
      exact ⟨Cvl.ret_int (by unfold inst; rw [if_neg h1, if_neg h2]), rfl⟩

set_option maxHeartbeats 1000000 in
theorem rinst_any (d s k o v : Int) (d1 : -1000000000 ≤ d) (d2 : d ≤ 1000000000) (s1 : 0 ≤ s) (s2 : s ≤ 86400) (o1 : -50400 ≤ o) (o2 : o ≤ 50400) (v1 : 0 ≤ v) (v2 : v ≤ 7200) (w : World) :
    Calls Tryd.prog 34 #[.int .i64 d, .int .i64 s, .int .u8 k, .int .i64 o, .int .i64 v] w fun e w' => e = .returned (.int .i64 (inst d s k o v)) ∧ w' = w := by
  by_cases h1 : k = 117
  · subst h1
    go_enter Tryd.func34, Tryd.ntmps34
    go_wp2
    go_ret
    exact ⟨Cvl.ret_int (by unfold inst; simp), rfl⟩
  · by_cases h2 : k = 115
    · subst h2
      go_enter Tryd.func34, Tryd.ntmps34
      go_wp2
      go_ret
      exact ⟨Cvl.ret_int (by unfold inst; simp), rfl⟩
    · go_enter Tryd.func34, Tryd.ntmps34
      go_wp2
      go_ret
      exact ⟨Cvl.ret_int (by unfold inst; rw [if_neg h1, if_neg h2]), rfl⟩

/-- the year of an instant. -/
def YAt (t y : Int) : Prop :=
  (Cvl.can (t / 86400 - 10957) = true ∧ Cv.S y ≤ t / 86400 - 10957 ∧ t / 86400 - 10957 < Cv.S (y + 1)) ∨ (Cvl.can (t / 86400 - 10957) = false ∧ t < 0 ∧ y = -4718) ∨ (Cvl.can (t / 86400 - 10957) = false ∧ 0 ≤ t ∧ y = 294282)

theorem yat_is (t : Int) : ∃ y, YAt t y := by
  cases h : Cvl.can (t / 86400 - 10957)
  · by_cases h0 : t < 0
    · exact ⟨_, .inr (.inl ⟨h, h0, rfl⟩)⟩
    · exact ⟨_, .inr (.inr ⟨h, by omega, rfl⟩)⟩
  · obtain ⟨y, h1, h2⟩ := Cv.year_is (t / 86400 - 10957)
    exact ⟨y, .inl ⟨h, h1, h2⟩⟩

theorem yat_bd {t y : Int} (h : YAt t y) : -4718 ≤ y ∧ y ≤ 294282 := by
  rcases h with ⟨a, b, c⟩ | ⟨_, _, rfl⟩ | ⟨_, _, rfl⟩
  · obtain ⟨n1, n2⟩ := Cvl.of_can a
    exact Cvl.can_year n1 n2 b c
  · omega
  · omega

set_option maxHeartbeats 4000000 in
theorem yat_run (t q y : Int) (ms : Value) (ds : Value) (er : Int) (h1 : -9223372036854775808 ≤ t) (h2 : t ≤ 9223372036854775807) (hq : q = t / 86400)
    (D : Hid (∀ w : World, Cvl.Lens w → Calls Tryd.prog 45 #[.int .i64 (q - 10957)] w fun e w' => e = .returned (.tuple #[.int .i64 y, ms, ds, .int .i64 er]) ∧ w' = w))
    (x : Int) (hx : (er = 0 ∧ x = y) ∨ (er = 10 ∧ t < 0 ∧ x = -4718) ∨ (er = 10 ∧ 0 ≤ t ∧ x = 294282)) (w : World) (hL : Hid (Cvl.Lens w)) :
    Calls Tryd.prog 35 #[.int .i64 t] w fun e w' => e = .returned (.int .i64 x) ∧ w' = w := by
  have q1 : -200000000000000 ≤ q := by omega
  have q2 : q ≤ 200000000000000 := by omega
  by_cases hm : t.tmod 86400 < 0
  · have e1 := Cvl.div_down (a := t) (b := 86400) (by decide) hm
    have e2 : t.tdiv 86400 = q + 1 := by omega
    clear e1 hq
    rcases hx with ⟨rfl, rfl⟩ | ⟨rfl, h0, rfl⟩ | ⟨rfl, h0, rfl⟩
    · go_enter Tryd.func35, Tryd.ntmps35
      go_wp2_with fail
      refine (D.out _ hL.out).mono ?_
      rintro e w1 ⟨rfl, rfl⟩
      go_wp2
      go_ret
      exact ⟨rfl, rfl⟩
    · go_enter Tryd.func35, Tryd.ntmps35
      go_wp2_with fail
      refine (D.out _ hL.out).mono ?_
      rintro e w1 ⟨rfl, rfl⟩
      go_wp2
      go_ret
      exact ⟨rfl, rfl⟩
    · have h0' : ¬ t < 0 := by omega
      exact absurd hm (by have := Int.tmod_nonneg 86400 h0; omega)
  · have e1 := Cvl.div_same (a := t) (b := 86400) (by decide) hm
    have e2 : t.tdiv 86400 = q := by omega
    clear e1 hq
    rcases hx with ⟨rfl, rfl⟩ | ⟨rfl, h0, rfl⟩ | ⟨rfl, h0, rfl⟩
    · go_enter Tryd.func35, Tryd.ntmps35
      go_wp2_with fail
      refine (D.out _ hL.out).mono ?_
      rintro e w1 ⟨rfl, rfl⟩
      go_wp2
      go_ret
      exact ⟨rfl, rfl⟩
    · go_enter Tryd.func35, Tryd.ntmps35
      go_wp2_with fail
      refine (D.out _ hL.out).mono ?_
      rintro e w1 ⟨rfl, rfl⟩
      go_wp2
      go_ret
      exact ⟨rfl, rfl⟩
    · have h0' : ¬ t < 0 := by omega
      go_enter Tryd.func35, Tryd.ntmps35
      go_wp2_with fail
      refine (D.out _ hL.out).mono ?_
      rintro e w1 ⟨rfl, rfl⟩
      go_wp2
      go_ret
      exact ⟨rfl, rfl⟩

theorem yat_any (t y : Int) (h : YAt t y) (h1 : -9223372036854775808 ≤ t) (h2 : t ≤ 9223372036854775807) (w : World) (hL : Cvl.Lens w) :
    Calls Tryd.prog 35 #[.int .i64 t] w fun e w' => e = .returned (.int .i64 y) ∧ w' = w := by
  rcases h with ⟨a, b, c⟩ | ⟨a, b, c⟩ | ⟨a, b, c⟩
  · obtain ⟨y', m, d, hd⟩ := Cv.is_date (t / 86400 - 10957)
    obtain ⟨i1, i2⟩ := Cv.is_year hd
    obtain rfl := Cv.year_one b c i1 i2
    exact yat_run t (t / 86400) y (.int .i64 m) (.int .i64 d) 0 h1 h2 rfl (fun w hw => Cvl.date_yes _ y m d a hd w hw) y (.inl ⟨rfl, rfl⟩) w hL
  · exact yat_run t (t / 86400) 0 (.int .i64 0) (.int .i64 0) 10 h1 h2 rfl (fun w hw => Cvl.date_no _ a w) y (.inr (.inl ⟨rfl, b, c⟩)) w hL
  · exact yat_run t (t / 86400) 0 (.int .i64 0) (.int .i64 0) 10 h1 h2 rfl (fun w hw => Cvl.date_no _ a w) y (.inr (.inr ⟨rfl, b, c⟩)) w hL

set_option maxHeartbeats 4000000 in
theorem ryat_run (t q y : Int) (ms : Value) (ds : Value) (er : Int) (h1 : -9223372036854775808 ≤ t) (h2 : t ≤ 9223372036854775807) (hq : q = t / 86400)
    (D : Hid (∀ w : World, Calls Tryd.prog 47 #[.int .i64 (q - 10957)] w fun e w' => e = .returned (.tuple #[.int .i64 y, ms, ds, .int .i64 er]) ∧ w' = w))
    (x : Int) (hx : (er = 0 ∧ x = y ∧ ¬ q - 10957 < -2453698) ∨ (q - 10957 < -2453698 ∧ x = -4718) ∨ (er = 10 ∧ ¬ q - 10957 < -2453698 ∧ x = 294282)) (w : World) :
    Calls Tryd.prog 36 #[.int .i64 t] w fun e w' => e = .returned (.int .i64 x) ∧ w' = w := by
  have q1 : -200000000000000 ≤ q := by omega
  have q2 : q ≤ 200000000000000 := by omega
  by_cases hm : t.tmod 86400 < 0
  · have e1 := Cvl.div_down (a := t) (b := 86400) (by decide) hm
    have e2 : t.tdiv 86400 = q + 1 := by omega
    clear e1 hq
    rcases hx with ⟨rfl, rfl, h0⟩ | ⟨h0, rfl⟩ | ⟨rfl, h0, rfl⟩ <;>
    · go_enter Tryd.func36, Tryd.ntmps36
      go_wp2_with (first | (go_at_call 46; refine (Cvl.rfirst_any _).mono ?_; rintro e w1 ⟨rfl, rfl⟩) | (go_at_call 47; refine (D.out _).mono ?_; rintro e w1 ⟨rfl, rfl⟩))
      go_ret
      exact ⟨rfl, rfl⟩
  · have e1 := Cvl.div_same (a := t) (b := 86400) (by decide) hm
    have e2 : t.tdiv 86400 = q := by omega
    clear e1 hq
    rcases hx with ⟨rfl, rfl, h0⟩ | ⟨h0, rfl⟩ | ⟨rfl, h0, rfl⟩ <;>
    · go_enter Tryd.func36, Tryd.ntmps36
      go_wp2_with (first | (go_at_call 46; refine (Cvl.rfirst_any _).mono ?_; rintro e w1 ⟨rfl, rfl⟩) | (go_at_call 47; refine (D.out _).mono ?_; rintro e w1 ⟨rfl, rfl⟩))
      go_ret
      exact ⟨rfl, rfl⟩

theorem ryat_any (t y : Int) (h : YAt t y) (h1 : -9223372036854775808 ≤ t) (h2 : t ≤ 9223372036854775807) (w : World) :
    Calls Tryd.prog 36 #[.int .i64 t] w fun e w' => e = .returned (.int .i64 y) ∧ w' = w := by
  rcases h with ⟨a, b, c⟩ | ⟨a, b, c⟩ | ⟨a, b, c⟩
  · obtain ⟨y', m, d, hd⟩ := Cv.is_date (t / 86400 - 10957)
    obtain ⟨i1, i2⟩ := Cv.is_year hd
    obtain rfl := Cv.year_one b c i1 i2
    have := (Cvl.of_can a).1
    exact ryat_run t (t / 86400) y (.int .i64 m) (.int .i64 d) 0 h1 h2 rfl (fun w => Cvl.rdate_yes _ y m d a hd w) y (.inl ⟨rfl, rfl, by omega⟩) w
  · have : t / 86400 - 10957 < -2453698 := by
      have hc := of_decide_eq_false a
      omega
    exact ryat_run t (t / 86400) 0 (.int .i64 0) (.int .i64 0) 10 h1 h2 rfl (fun w => Cvl.rdate_no _ a w) y (.inr (.inl ⟨this, c⟩)) w
  · have : ¬ t / 86400 - 10957 < -2453698 := by omega
    exact ryat_run t (t / 86400) 0 (.int .i64 0) (.int .i64 0) 10 h1 h2 rfl (fun w => Cvl.rdate_no _ a w) y (.inr (.inr ⟨rfl, this, c⟩)) w

/-- months that are far enough from each other. -/
def far (m n : Int) : Bool := decide (2 ≤ (if n ≤ m then m - n else n - m) ∧ (if n ≤ m then m - n else n - m) ≤ 10)

set_option maxHeartbeats 1000000 in
theorem apart_any (m n : Int) (m1 : 1 ≤ m) (m2 : m ≤ 12) (n1 : 1 ≤ n) (n2 : n ≤ 12) (w : World) :
    Calls Tryd.prog 29 #[.int .i64 m, .int .i64 n] w fun e w' => e = .returned (.bool (far m n)) ∧ w' = w := by
  go_enter Tryd.func29, Tryd.ntmps29
  go_wp2
  all_goals go_ret
  all_goals refine ⟨Cvl.ret_bool ?_, rfl⟩
  all_goals unfold far
  all_goals first | exact (decide_eq_false (by split <;> omega)).symm | exact decide_eq_decide.2 (by split <;> omega)

end Go.Proofs.YthbcicjkmgoliaaDoor
