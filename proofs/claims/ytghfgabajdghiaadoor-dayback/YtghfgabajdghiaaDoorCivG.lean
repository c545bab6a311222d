/- Contracts, more: Shift, of civil and of the reference; what the laws' fixed calls come to. -/
import Derived.Test.YtghfgabajdghiaaDoorCivF
namespace Go.Proofs.YtghfgabajdghiaaDoor.Cvl
open Go.RowKit
set_option linter.unusedVariables false

/-- a date's day as an answer. -/
def dayV (y m d : Int) : Int := if right y m d = true then Cv.S y + Cv.cum y m + d - 1 else 0
def dayE (y m d : Int) : Int := if right y m d = true then 0 else 10
theorem day_no {y m d : Int} (h : right y m d = false) : dayV y m d = 0 ∧ dayE y m d = 10 := by unfold dayV dayE; rw [h]; exact ⟨rfl, rfl⟩
theorem day_yes {y m d : Int} (h : right y m d = true) : dayV y m d = Cv.S y + Cv.cum y m + d - 1 ∧ dayE y m d = 0 := by unfold dayV dayE; rw [h]; exact ⟨rfl, rfl⟩

theorem days_any (y m d : Int) (w : World) (hw : Lens w) :
    Calls Tryd.prog 34 #[.int .i64 y, .int .i64 m, .int .i64 d] w fun e w' => e = .returned (.tuple #[.int .i64 (dayV y m d), .int .i64 (dayE y m d)]) ∧ w' = w := by
  cases h : right y m d
  · rw [(day_no h).1, (day_no h).2]; exact days_no y m d h w hw
  · rw [(day_yes h).1, (day_yes h).2]; exact days_yes y m d h w hw

theorem rdays_any (y m d : Int) (w : World) :
    Calls Tryd.prog 36 #[.int .i64 y, .int .i64 m, .int .i64 d] w fun e w' => e = .returned (.tuple #[.int .i64 (dayV y m d), .int .i64 (dayE y m d)]) ∧ w' = w := by
  cases h : right y m d
  · rw [(day_no h).1, (day_no h).2]; exact rdays_no y m d h w
  · rw [(day_yes h).1, (day_yes h).2]; exact rdays_yes y m d h w

/-- the day of the month that is kept, or the month's last one. -/
def cut (d l : Int) : Int := if d ≤ l then d else l
theorem cut_le {d l : Int} (h : d ≤ l) : cut d l = d := if_pos h
theorem cut_gt {d l : Int} (h : ¬ d ≤ l) : cut d l = l := if_neg h
/-- a date so many months on: its day as an answer. -/
def shV (y m d k : Int) : Int := dayV ((12 * y + m - 1 + k) / 12) ((12 * y + m - 1 + k) % 12 + 1) (cut d (Cv.len ((12 * y + m - 1 + k) / 12) ((12 * y + m - 1 + k) % 12 + 1)))
def shE (y m d k : Int) : Int := dayE ((12 * y + m - 1 + k) / 12) ((12 * y + m - 1 + k) % 12 + 1) (cut d (Cv.len ((12 * y + m - 1 + k) / 12) ((12 * y + m - 1 + k) % 12 + 1)))
theorem sh_out {y m d k : Int} (h : (12 * y + m - 1 + k) / 12 < -4718 ∨ 294282 < (12 * y + m - 1 + k) / 12) : shV y m d k = 0 ∧ shE y m d k = 10 := by
  unfold shV shE
  exact day_no (right_no (by omega))

set_option maxHeartbeats 400000 in
theorem shift_no (n k : Int) (h : can n = false) (w : World) :
    Calls Tryd.prog 67 #[.int .i64 n, .int .i64 k] w fun e w' => e = .returned (.tuple #[.int .i64 0, .int .i64 10]) ∧ w' = w := by
  go_enter Tryd.func67, Tryd.ntmps67
  go_wp2_with (go_at_call 38; refine (date_no n h _).mono ?_; rintro e w' ⟨rfl, rfl⟩)
  go_ret2
  exact ⟨rfl, rfl⟩

set_option maxHeartbeats 400000 in
theorem rshift_no (n k : Int) (h : can n = false) (w : World) :
    Calls Tryd.prog 47 #[.int .i64 n, .int .i64 k] w fun e w' => e = .returned (.tuple #[.int .i64 0, .int .i64 10]) ∧ w' = w := by
  go_enter Tryd.func47, Tryd.ntmps47
  go_wp2_with (go_at_call 39; refine (rdate_no n h _).mono ?_; rintro e w' ⟨rfl, rfl⟩)
  go_ret2
  exact ⟨rfl, rfl⟩

set_option maxHeartbeats 800000 in
theorem shift_far (n y m d k : Int) (h : can n = true) (hd : Cv.Is n y m d) (k1 : k ≤ -3588012 ∨ 3588012 ≤ k) (w : World) (hw : Lens w) :
    Calls Tryd.prog 67 #[.int .i64 n, .int .i64 k] w fun e w' => e = .returned (.tuple #[.int .i64 0, .int .i64 10]) ∧ w' = w := by
  have H1 : Hid (∀ w : World, Lens w → Calls Tryd.prog 38 #[.int .i64 n] w fun e w' => e = .returned (.tuple #[.int .i64 y, .int .i64 m, .int .i64 d, .int .i64 0]) ∧ w' = w) := fun w hw => date_yes n y m d h hd w hw
  clear hd h
  rcases k1 with k1 | k1
  · go_enter Tryd.func67, Tryd.ntmps67
    go_wp2_with fail
    refine (H1.out _ hw).mono ?_
    rintro e w1 ⟨rfl, rfl⟩
    go_wp2
    go_ret2
    exact ⟨rfl, rfl⟩
  · have k2 : ¬ k ≤ -3588012 := by omega
    go_enter Tryd.func67, Tryd.ntmps67
    go_wp2_with fail
    refine (H1.out _ hw).mono ?_
    rintro e w1 ⟨rfl, rfl⟩
    go_wp2
    go_ret2
    exact ⟨rfl, rfl⟩

set_option maxHeartbeats 800000 in
theorem shift_low (n y m d k : Int) (h : can n = true) (hd : Cv.Is n y m d) (k1 : ¬ k ≤ -3588012) (k2 : ¬ 3588012 ≤ k) (k3 : (y + 4718) * 12 + m - 1 + k < 0) (w : World) (hw : Lens w) :
    Calls Tryd.prog 67 #[.int .i64 n, .int .i64 k] w fun e w' => e = .returned (.tuple #[.int .i64 0, .int .i64 10]) ∧ w' = w := by
  obtain ⟨n1, n2⟩ := of_can h
  obtain ⟨b1, b2⟩ := Cv.is_year hd
  obtain ⟨y1, y2⟩ := can_year n1 n2 b1 b2
  have m1 := hd.1
  have m2 := hd.2.1
  have H1 : Hid (∀ w : World, Lens w → Calls Tryd.prog 38 #[.int .i64 n] w fun e w' => e = .returned (.tuple #[.int .i64 y, .int .i64 m, .int .i64 d, .int .i64 0]) ∧ w' = w) := fun w hw => date_yes n y m d h hd w hw
  clear b1 b2 hd h
  go_enter Tryd.func67, Tryd.ntmps67
  go_wp2_with fail
  refine (H1.out _ hw).mono ?_
  rintro e w1 ⟨rfl, rfl⟩
  go_wp2_with fail
  go_ret2
  exact ⟨rfl, rfl⟩

set_option maxHeartbeats 800000 in
theorem shift_in (n y m d k Y M : Int) (h : can n = true) (hd : Cv.Is n y m d) (k1 : ¬ k ≤ -3588012) (k2 : ¬ 3588012 ≤ k) (k3 : ¬ (y + 4718) * 12 + m - 1 + k < 0)
    (eY : -4718 + ((y + 4718) * 12 + m - 1 + k) / 12 = Y) (eM : ((y + 4718) * 12 + m - 1 + k) % 12 + 1 = M) (w : World) (hw : Lens w) :
    Calls Tryd.prog 67 #[.int .i64 n, .int .i64 k] w fun e w' => e = .returned (.tuple #[.int .i64 (dayV Y M (cut d (Cv.len Y M))), .int .i64 (dayE Y M (cut d (Cv.len Y M)))]) ∧ w' = w := by
  obtain ⟨n1, n2⟩ := of_can h
  obtain ⟨b1, b2⟩ := Cv.is_year hd
  obtain ⟨y1, y2⟩ := can_year n1 n2 b1 b2
  have m1 := hd.1
  have m2 := hd.2.1
  have H1 : Hid (∀ w : World, Lens w → Calls Tryd.prog 38 #[.int .i64 n] w fun e w' => e = .returned (.tuple #[.int .i64 y, .int .i64 m, .int .i64 d, .int .i64 0]) ∧ w' = w) := fun w hw => date_yes n y m d h hd w hw
  clear b1 b2 hd h
  by_cases hc : d ≤ Cv.len Y M
  · rw [cut_le hc]
    go_enter Tryd.func67, Tryd.ntmps67
    go_wp2_with fail
    refine (H1.out _ hw).mono ?_
    rintro e w1 ⟨rfl, rfl⟩
    go_wp2_with fail
    refine (len_any _ _ _ hw).mono ?_
    rintro e w1 ⟨rfl, rfl⟩
    go_wp2_with fail
    refine (days_any _ _ _ _ hw).mono ?_
    rintro e w1 ⟨rfl, rfl⟩
    go_wp2
    go_ret2
    exact ⟨rfl, rfl⟩
  · rw [cut_gt hc]
    go_enter Tryd.func67, Tryd.ntmps67
    go_wp2_with fail
    refine (H1.out _ hw).mono ?_
    rintro e w1 ⟨rfl, rfl⟩
    go_wp2_with fail
    refine (len_any _ _ _ hw).mono ?_
    rintro e w1 ⟨rfl, rfl⟩
    go_wp2_with fail
    refine (days_any _ _ _ _ hw).mono ?_
    rintro e w1 ⟨rfl, rfl⟩
    go_wp2
    go_ret2
    exact ⟨rfl, rfl⟩

theorem shift_any (n y m d k : Int) (h : can n = true) (hd : Cv.Is n y m d) (w : World) (hw : Lens w) :
    Calls Tryd.prog 67 #[.int .i64 n, .int .i64 k] w fun e w' => e = .returned (.tuple #[.int .i64 (shV y m d k), .int .i64 (shE y m d k)]) ∧ w' = w := by
  obtain ⟨n1, n2⟩ := of_can h
  obtain ⟨b1, b2⟩ := Cv.is_year hd
  obtain ⟨y1, y2⟩ := can_year n1 n2 b1 b2
  have m1 := hd.1
  have m2 := hd.2.1
  by_cases k1 : k ≤ -3588012 ∨ 3588012 ≤ k
  · have o := sh_out (y := y) (m := m) (d := d) (k := k) (by omega)
    rw [o.1, o.2]; exact shift_far n y m d k h hd k1 w hw
  · by_cases k3 : (y + 4718) * 12 + m - 1 + k < 0
    · have o := sh_out (y := y) (m := m) (d := d) (k := k) (by omega)
      rw [o.1, o.2]; exact shift_low n y m d k h hd (by omega) (by omega) k3 w hw
    · exact shift_in n y m d k _ _ h hd (by omega) (by omega) k3 (by omega) (by omega) w hw

set_option maxHeartbeats 800000 in
theorem rshift_far (n y m d k : Int) (h : can n = true) (hd : Cv.Is n y m d) (k1 : k < -3600000 ∨ 3600000 < k) (w : World) :
    Calls Tryd.prog 47 #[.int .i64 n, .int .i64 k] w fun e w' => e = .returned (.tuple #[.int .i64 0, .int .i64 10]) ∧ w' = w := by
  have H1 : Hid (∀ w : World, Calls Tryd.prog 39 #[.int .i64 n] w fun e w' => e = .returned (.tuple #[.int .i64 y, .int .i64 m, .int .i64 d, .int .i64 0]) ∧ w' = w) := fun w => rdate_yes n y m d h hd w
  clear hd h
  rcases k1 with k1 | k1
  · have k2 : ¬ 3600000 < k := by omega
    go_enter Tryd.func47, Tryd.ntmps47
    go_wp2_with fail
    refine (H1.out _).mono ?_
    rintro e w1 ⟨rfl, rfl⟩
    go_wp2
    go_ret2
    exact ⟨rfl, rfl⟩
  · go_enter Tryd.func47, Tryd.ntmps47
    go_wp2_with fail
    refine (H1.out _).mono ?_
    rintro e w1 ⟨rfl, rfl⟩
    go_wp2
    go_ret2
    exact ⟨rfl, rfl⟩

set_option maxHeartbeats 800000 in
theorem rshift_in (n y m d k Y M : Int) (h : can n = true) (hd : Cv.Is n y m d) (k1 : ¬ k < -3600000) (k2 : ¬ 3600000 < k)
    (eY : Hid ((12 * y + m - 1 + k) / 12 = Y)) (eM : Hid ((12 * y + m - 1 + k) % 12 + 1 = M)) (w : World) :
    Calls Tryd.prog 47 #[.int .i64 n, .int .i64 k] w fun e w' => e = .returned (.tuple #[.int .i64 (dayV Y M (cut d (Cv.len Y M))), .int .i64 (dayE Y M (cut d (Cv.len Y M)))]) ∧ w' = w := by
  obtain ⟨n1, n2⟩ := of_can h
  obtain ⟨b1, b2⟩ := Cv.is_year hd
  obtain ⟨y1, y2⟩ := can_year n1 n2 b1 b2
  have m1 := hd.1
  have m2 := hd.2.1
  have H1 : Hid (∀ w : World, Calls Tryd.prog 39 #[.int .i64 n] w fun e w' => e = .returned (.tuple #[.int .i64 y, .int .i64 m, .int .i64 d, .int .i64 0]) ∧ w' = w) := fun w => rdate_yes n y m d h hd w
  obtain ⟨r, hr⟩ : ∃ r, r = (12 * y + m - 1 + k) % 12 := ⟨_, rfl⟩
  have r1 : 0 ≤ r := by omega
  have r2 : r < 12 := by omega
  have H2 : Hid (∀ w : World, Calls Tryd.prog 59 #[.int .i64 (12 * y + m - 1 + k), .int .i64 12] w fun e w' => e = .returned (.int .i64 Y) ∧ w' = w) := by
    intro w; rw [← eY.out]; exact rdiv_any _ _ (by omega) (by omega) (by decide) (by decide) w
  have H3 : Hid (∀ w : World, Calls Tryd.prog 60 #[.int .i64 (12 * y + m - 1 + k), .int .i64 12] w fun e w' => e = .returned (.int .i64 r) ∧ w' = w) := by
    intro w; rw [hr]; exact rmod_any _ _ (by decide) (by decide) w
  have eM' : r + 1 = M := by rw [hr]; exact eM.out
  clear b1 b2 hd h hr
  by_cases hc : d ≤ Cv.len Y M
  · rw [cut_le hc]
    have hc' : ¬ Cv.len Y M < d := by omega
    go_enter Tryd.func47, Tryd.ntmps47
    go_wp2_with fail
    refine (H1.out _).mono ?_
    rintro e w1 ⟨rfl, rfl⟩
    go_wp2_with fail
    refine (H2.out _).mono ?_
    rintro e w1 ⟨rfl, rfl⟩
    go_wp2_with fail
    refine (H3.out _).mono ?_
    rintro e w1 ⟨rfl, rfl⟩
    go_wp2_with fail
    refine (rlen_any _ _ _).mono ?_
    rintro e w1 ⟨rfl, rfl⟩
    go_wp2_with fail
    refine (rdays_any _ _ _ _).mono ?_
    rintro e w1 ⟨rfl, rfl⟩
    go_wp2
    go_ret2
    exact ⟨rfl, rfl⟩
  · rw [cut_gt hc]
    have hc' : Cv.len Y M < d := by omega
    go_enter Tryd.func47, Tryd.ntmps47
    go_wp2_with fail
    refine (H1.out _).mono ?_
    rintro e w1 ⟨rfl, rfl⟩
    go_wp2_with fail
    refine (H2.out _).mono ?_
    rintro e w1 ⟨rfl, rfl⟩
    go_wp2_with fail
    refine (H3.out _).mono ?_
    rintro e w1 ⟨rfl, rfl⟩
    go_wp2_with fail
    refine (rlen_any _ _ _).mono ?_
    rintro e w1 ⟨rfl, rfl⟩
    go_wp2_with fail
    refine (rlen_any _ _ _).mono ?_
    rintro e w1 ⟨rfl, rfl⟩
    go_wp2_with fail
    refine (rdays_any _ _ _ _).mono ?_
    rintro e w1 ⟨rfl, rfl⟩
    go_wp2
    go_ret2
    exact ⟨rfl, rfl⟩

theorem rshift_any (n y m d k : Int) (h : can n = true) (hd : Cv.Is n y m d) (w : World) :
    Calls Tryd.prog 47 #[.int .i64 n, .int .i64 k] w fun e w' => e = .returned (.tuple #[.int .i64 (shV y m d k), .int .i64 (shE y m d k)]) ∧ w' = w := by
  obtain ⟨n1, n2⟩ := of_can h
  obtain ⟨b1, b2⟩ := Cv.is_year hd
  obtain ⟨y1, y2⟩ := can_year n1 n2 b1 b2
  have m1 := hd.1
  have m2 := hd.2.1
  by_cases k1 : k < -3600000 ∨ 3600000 < k
  · have o := sh_out (y := y) (m := m) (d := d) (k := k) (by omega)
    rw [o.1, o.2]; exact rshift_far n y m d k h hd k1 w
  · exact rshift_in n y m d k _ _ h hd (by omega) (by omega) rfl rfl w

end Go.Proofs.YtghfgabajdghiaaDoor.Cvl
