/- Contracts, more: the reference's Leap, Len, Right, start, day; civil.Len, Right, newYear. -/
import Derived.Test.YtghfgabajdghiaaDoorCivA
namespace Go.Proofs.YtghfgabajdghiaaDoor.Cvl
open Go.RowKit
set_option linter.unusedVariables false

set_option maxHeartbeats 400000 in
theorem rleap_any (y : Int) (w : World) :
    Calls Tryd.prog 61 #[.int .i64 y] w fun e w' => e = .returned (.bool (Cv.leap y)) ∧ w' = w := by
  cases h4 : (y % 4 == 0) <;> cases h100 : (y % 100 == 0) <;> cases h400 : (y % 400 == 0)
  all_goals
    have hl : Hid (Cv.leap y = _) := leap_of y _ _ _ h4 h100 h400
    have n100 : (y % 100 != 0) = !(y % 100 == 0) := rfl
    rw [h100] at n100
    go_enter Tryd.func61, Tryd.ntmps61
    go_wp2_with (go_at_call 60; refine (rmod_any _ _ (by decide) (by decide) _).mono ?_; rintro e w' ⟨rfl, rfl⟩)
    go_ret
    exact ⟨ret_bool (by rw [hl.out]; rfl), rfl⟩

/-- the table of lengths, as it is laid. -/
def tabL : List Int := [31, 28, 31, 30, 31, 30, 31, 31, 30, 31, 30, 31]
def Lens (w : World) : Prop := ∀ i, i < 12 → w.cell? ⟨0, i, none⟩ = some (.int .i64 (tabL.getD i 0))
theorem tab_len (y m : Int) (h1 : 1 ≤ m) (h2 : m ≤ 12) (h : m ≠ 2 ∨ Cv.leap y = false) : tabL.getD (m.toNat - 1) 0 = Cv.len y m := by
  rcases Cv.twelve h1 h2 with rfl | rfl | rfl | rfl | rfl | rfl | rfl | rfl | rfl | rfl | rfl | rfl
  · rfl
  · have e : Cv.leap y = false := by rcases h with h | h; exact absurd rfl h; exact h
    have : Cv.lp y = 0 := by unfold Cv.lp; rw [e]; rfl
    show (28 : Int) = Cv.len y 2
    simp [Cv.len, this]
  all_goals rfl
theorem len_leap (y : Int) (h : Cv.leap y = true) : Cv.len y 2 = 29 := by
  have : Cv.lp y = 1 := by unfold Cv.lp; rw [h]; rfl
  simp [Cv.len, this]
theorem len_flat (y : Int) (h : Cv.leap y = false) : Cv.len y 2 = 28 := by
  have : Cv.lp y = 0 := by unfold Cv.lp; rw [h]; rfl
  simp [Cv.len, this]

set_option maxHeartbeats 400000 in
theorem len_any (y m : Int) (w : World) (hw : Lens w) :
    Calls Tryd.prog 53 #[.int .i64 y, .int .i64 m] w fun e w' => e = .returned (.int .i64 (Cv.len y m)) ∧ w' = w := by
  by_cases h1 : m < 1
  · have hl : Hid (Cv.len y m = 0) := Cv.len_out y m (.inl h1)
    go_enter Tryd.func53, Tryd.ntmps53
    go_wp2
    go_ret
    exact ⟨ret_int hl.out.symm, rfl⟩
  · by_cases h2 : 12 < m
    · have hl : Hid (Cv.len y m = 0) := Cv.len_out y m (.inr h2)
      go_enter Tryd.func53, Tryd.ntmps53
      go_wp2
      go_ret
      exact ⟨ret_int hl.out.symm, rfl⟩
    · by_cases h3 : m = 2
      · subst h3
        cases hl : Cv.leap y
        · have e : Hid (Cv.len y 2 = 28) := len_flat y hl
          have hc : w.cell? ⟨0, 1, none⟩ = some (.int .i64 28) := hw 1 (by decide)
          go_enter Tryd.func53, Tryd.ntmps53
          go_wp2_with (go_at_call 72; refine (leap_any _ _).mono ?_; rintro e w' ⟨rfl, rfl⟩)
          go_ret
          exact ⟨ret_int e.out.symm, rfl⟩
        · have e : Hid (Cv.len y 2 = 29) := len_leap y hl
          go_enter Tryd.func53, Tryd.ntmps53
          go_wp2_with (go_at_call 72; refine (leap_any _ _).mono ?_; rintro e w' ⟨rfl, rfl⟩)
          go_ret
          exact ⟨ret_int e.out.symm, rfl⟩
      · have hb : (m == 2) = false := by rw [beq_eq_false_iff_ne]; exact h3
        have e : Hid (tabL.getD (m.toNat - 1) 0 = Cv.len y m) := tab_len y m (by omega) (by omega) (.inl h3)
        have hc : w.cell? ⟨0, m.toNat - 1, none⟩ = some (.int .i64 (tabL.getD (m.toNat - 1) 0)) := hw (m.toNat - 1) (by omega)
        generalize tabL.getD (m.toNat - 1) 0 = t at *
        go_enter Tryd.func53, Tryd.ntmps53
        go_wp2
        go_ret
        exact ⟨ret_int e.out, rfl⟩

set_option maxHeartbeats 400000 in
theorem rlen_any (y m : Int) (w : World) :
    Calls Tryd.prog 62 #[.int .i64 y, .int .i64 m] w fun e w' => e = .returned (.int .i64 (Cv.len y m)) ∧ w' = w := by
  by_cases h : 1 ≤ m ∧ m ≤ 12
  · rcases Cv.twelve h.1 h.2 with rfl | rfl | rfl | rfl | rfl | rfl | rfl | rfl | rfl | rfl | rfl | rfl
    case inr.inl =>
      cases hl : Cv.leap y
      · have e : Hid (Cv.len y 2 = 28) := len_flat y hl
        go_enter Tryd.func62, Tryd.ntmps62
        go_wp2_with (go_at_call 61; refine (rleap_any _ _).mono ?_; rintro e w' ⟨rfl, rfl⟩)
        go_ret
        exact ⟨ret_int e.out.symm, rfl⟩
      · have e : Hid (Cv.len y 2 = 29) := len_leap y hl
        go_enter Tryd.func62, Tryd.ntmps62
        go_wp2_with (go_at_call 61; refine (rleap_any _ _).mono ?_; rintro e w' ⟨rfl, rfl⟩)
        go_ret
        exact ⟨ret_int e.out.symm, rfl⟩
    all_goals
      clear h
      go_enter Tryd.func62, Tryd.ntmps62
      go_wp2
      go_ret
      exact ⟨ret_int rfl, rfl⟩
  · have e : Hid (Cv.len y m = 0) := Cv.len_out y m (by omega)
    have n1 : (m == 1) = false := by rw [beq_eq_false_iff_ne]; omega
    have n2 : (m == 2) = false := by rw [beq_eq_false_iff_ne]; omega
    have n3 : (m == 3) = false := by rw [beq_eq_false_iff_ne]; omega
    have n4 : (m == 4) = false := by rw [beq_eq_false_iff_ne]; omega
    have n5 : (m == 5) = false := by rw [beq_eq_false_iff_ne]; omega
    have n6 : (m == 6) = false := by rw [beq_eq_false_iff_ne]; omega
    have n7 : (m == 7) = false := by rw [beq_eq_false_iff_ne]; omega
    have n8 : (m == 8) = false := by rw [beq_eq_false_iff_ne]; omega
    have n9 : (m == 9) = false := by rw [beq_eq_false_iff_ne]; omega
    have n10 : (m == 10) = false := by rw [beq_eq_false_iff_ne]; omega
    have n11 : (m == 11) = false := by rw [beq_eq_false_iff_ne]; omega
    have n12 : (m == 12) = false := by rw [beq_eq_false_iff_ne]; omega
    clear h
    go_enter Tryd.func62, Tryd.ntmps62
    go_wp2
    go_ret
    exact ⟨ret_int e.out.symm, rfl⟩

/-- can the date be? -/
def right (y m d : Int) : Bool := decide (-4718 ≤ y ∧ y ≤ 294282 ∧ 1 ≤ d ∧ d ≤ Cv.len y m)
theorem right_no {y m d : Int} (h : ¬ (-4718 ≤ y ∧ y ≤ 294282 ∧ 1 ≤ d ∧ d ≤ Cv.len y m)) : right y m d = false := decide_eq_false h
theorem right_yes {y m d : Int} (h : -4718 ≤ y ∧ y ≤ 294282 ∧ 1 ≤ d ∧ d ≤ Cv.len y m) : right y m d = true := decide_eq_true h
theorem right_mon {y m d : Int} (h : -4718 ≤ y ∧ y ≤ 294282 ∧ 1 ≤ d ∧ d ≤ Cv.len y m) : 1 ≤ m ∧ m ≤ 12 := by
  by_cases g : m < 1 ∨ 12 < m
  · have := Cv.len_out y m g; omega
  · omega

set_option maxHeartbeats 400000 in
theorem right_any (y m d : Int) (w : World) (hw : Lens w) :
    Calls Tryd.prog 51 #[.int .i64 y, .int .i64 m, .int .i64 d] w fun e w' => e = .returned (.bool (right y m d)) ∧ w' = w := by
  have H1 : Hid (∀ m, Calls Tryd.prog 53 #[.int .i64 y, .int .i64 m] w fun e w' => e = .returned (.int .i64 (Cv.len y m)) ∧ w' = w) := fun m => len_any y m w hw
  by_cases h1 : -4718 ≤ y
  · by_cases h2 : y ≤ 294282
    · by_cases h3 : 1 ≤ d
      · by_cases h4 : d ≤ Cv.len y m
        · have e : Hid (right y m d = true) := right_yes ⟨h1, h2, h3, h4⟩
          go_enter Tryd.func51, Tryd.ntmps51
          go_wp2_with fail
          refine (H1.out _).mono ?_
          rintro e w' ⟨rfl, rfl⟩
          go_wp2
          go_ret
          exact ⟨ret_bool e.out.symm, rfl⟩
        · have e : Hid (right y m d = false) := right_no (fun h => h4 h.2.2.2)
          go_enter Tryd.func51, Tryd.ntmps51
          go_wp2_with fail
          refine (H1.out _).mono ?_
          rintro e w' ⟨rfl, rfl⟩
          go_wp2
          go_ret
          exact ⟨ret_bool (by rw [e.out]; exact decide_eq_false (by omega)), rfl⟩
      · have e : Hid (right y m d = false) := right_no (fun h => h3 h.2.2.1)
        go_enter Tryd.func51, Tryd.ntmps51
        go_wp2
        go_ret
        exact ⟨ret_bool e.out.symm, rfl⟩
    · have e : Hid (right y m d = false) := right_no (fun h => h2 h.2.1)
      go_enter Tryd.func51, Tryd.ntmps51
      go_wp2
      go_ret
      exact ⟨ret_bool e.out.symm, rfl⟩
  · have e : Hid (right y m d = false) := right_no (fun h => h1 h.1)
    go_enter Tryd.func51, Tryd.ntmps51
    go_wp2
    go_ret
    exact ⟨ret_bool e.out.symm, rfl⟩

set_option maxHeartbeats 400000 in
theorem rright_any (y m d : Int) (w : World) :
    Calls Tryd.prog 54 #[.int .i64 y, .int .i64 m, .int .i64 d] w fun e w' => e = .returned (.bool (right y m d)) ∧ w' = w := by
  have H1 : Hid (∀ m, Calls Tryd.prog 62 #[.int .i64 y, .int .i64 m] w fun e w' => e = .returned (.int .i64 (Cv.len y m)) ∧ w' = w) := fun m => rlen_any y m w
  by_cases h1 : -4718 ≤ y
  · by_cases h2 : y ≤ 294282
    · by_cases h5 : 1 ≤ m
      · by_cases h6 : m ≤ 12
        · by_cases h3 : 1 ≤ d
          · by_cases h4 : d ≤ Cv.len y m
            · have e : Hid (right y m d = true) := right_yes ⟨h1, h2, h3, h4⟩
              go_enter Tryd.func54, Tryd.ntmps54
              go_wp2_with fail
              refine (H1.out _).mono ?_
              rintro e w' ⟨rfl, rfl⟩
              go_wp2
              go_ret
              exact ⟨ret_bool e.out.symm, rfl⟩
            · have e : Hid (right y m d = false) := right_no (fun h => h4 h.2.2.2)
              go_enter Tryd.func54, Tryd.ntmps54
              go_wp2_with fail
              refine (H1.out _).mono ?_
              rintro e w' ⟨rfl, rfl⟩
              go_wp2
              go_ret
              exact ⟨ret_bool (by rw [e.out]; exact decide_eq_false (by omega)), rfl⟩
          · have e : Hid (right y m d = false) := right_no (fun h => h3 h.2.2.1)
            go_enter Tryd.func54, Tryd.ntmps54
            go_wp2
            go_ret
            exact ⟨ret_bool e.out.symm, rfl⟩
        · have e : Hid (right y m d = false) := right_no (fun h => h6 (right_mon h).2)
          go_enter Tryd.func54, Tryd.ntmps54
          go_wp2
          go_ret
          exact ⟨ret_bool e.out.symm, rfl⟩
      · have e : Hid (right y m d = false) := right_no (fun h => h5 (right_mon h).1)
        go_enter Tryd.func54, Tryd.ntmps54
        go_wp2
        go_ret
        exact ⟨ret_bool e.out.symm, rfl⟩
    · have e : Hid (right y m d = false) := right_no (fun h => h2 h.2.1)
      go_enter Tryd.func54, Tryd.ntmps54
      go_wp2
      go_ret
      exact ⟨ret_bool e.out.symm, rfl⟩
  · have e : Hid (right y m d = false) := right_no (fun h => h1 h.1)
    go_enter Tryd.func54, Tryd.ntmps54
    go_wp2
    go_ret
    exact ⟨ret_bool e.out.symm, rfl⟩

set_option maxHeartbeats 400000 in
theorem new_any (y : Int) (h1 : -4800 ≤ y) (h2 : y ≤ 1000000) (w : World) :
    Calls Tryd.prog 52 #[.int .i64 y] w fun e w' => e = .returned (.int .i64 (Cv.S y)) ∧ w' = w := by
  go_enter Tryd.func52, Tryd.ntmps52
  go_wp2
  go_ret
  exact ⟨ret_int (by unfold Cv.S; omega), rfl⟩

theorem S_part (y k : Int) : Cv.S (2000 + (y - 2000) % 400) = Cv.S y - (y - 2000) / 400 * 146097 := by
  have := Cv.S_cycle (2000 + (y - 2000) % 400) ((y - 2000) / 400)
  rw [show 2000 + (y - 2000) % 400 + 400 * ((y - 2000) / 400) = y by omega] at this
  omega
theorem S_2000 : Cv.S 2000 = 0 := by decide
theorem S_bd (y : Int) (h1 : -1000000 ≤ y) (h2 : y ≤ 1000000) : -1000000000 ≤ Cv.S y ∧ Cv.S y ≤ 1000000000 := by unfold Cv.S; omega
theorem lp_true {y : Int} (h : Cv.leap y = true) : Cv.lp y = 1 := by unfold Cv.lp; rw [h]; rfl
theorem lp_false {y : Int} (h : Cv.leap y = false) : Cv.lp y = 0 := by unfold Cv.lp; rw [h]; rfl

set_option maxHeartbeats 800000 in
theorem start_any (y : Int) (h1 : -1000000 ≤ y) (h2 : y ≤ 1000000) (w : World) :
    Calls Tryd.prog 73 #[.int .i64 y] w fun e w' => e = .returned (.int .i64 (Cv.S y)) ∧ w' = w := by
  have hp : Hid (Cv.S (2000 + (y - 2000) % 400) = Cv.S y - (y - 2000) / 400 * 146097) := S_part y 0
  have H1 : Hid (∀ w : World, Calls Tryd.prog 59 #[.int .i64 (y - 2000), .int .i64 400] w fun e w' => e = .returned (.int .i64 ((y - 2000) / 400)) ∧ w' = w) := fun w => rdiv_any (y - 2000) 400 (by omega) (by omega) (by decide) (by decide) w
  have H2 : Hid (∀ w : World, Calls Tryd.prog 60 #[.int .i64 (y - 2000), .int .i64 400] w fun e w' => e = .returned (.int .i64 ((y - 2000) % 400)) ∧ w' = w) := fun w => rmod_any (y - 2000) 400 (by decide) (by decide) w
  have c1 : -3000 ≤ (y - 2000) / 400 := by omega
  have c2 : (y - 2000) / 400 ≤ 3000 := by omega
  have m1 : 0 ≤ (y - 2000) % 400 := by omega
  have m2 : (y - 2000) % 400 < 400 := by omega
  generalize (y - 2000) / 400 = c at *
  generalize (y - 2000) % 400 = m at *
  go_enter Tryd.func73, Tryd.ntmps73
  go_wp2_with fail
  refine (H1.out _).mono ?_
  rintro e w1 ⟨rfl, rfl⟩
  go_wp2_with fail
  go_loop [3, 4] (fun n i => ∃ k : Int, 0 ≤ k ∧ k ≤ m ∧ i = .int .i64 k ∧ n = .int .i64 (c * 146097 + Cv.S (2000 + k))) (fun _ i => (m - intOf i).toNat)
  case atStart => exact ⟨0, by omega, m1, rfl, by rw [show (2000 : Int) + 0 = 2000 by omega, S_2000]; go_num⟩
  case round =>
    obtain ⟨k, k1, k2, rfl, rfl⟩ := hrel
    have hS := Cv.S_succ (2000 + k)
    obtain ⟨s1, s2⟩ := S_bd (2000 + k) (by omega) (by omega)
    have HS : Hid (Cv.S (2000 + k + 1) = Cv.S (2000 + k) + 365 + Cv.lp (2000 + k)) := hS
    clear hS
    by_cases hlt : k < m
    · cases hl : Cv.leap (2000 + k)
      · have hp0 : Hid (Cv.lp (2000 + k) = 0) := lp_false hl
        go_wp2_with (first | (go_at_call 60; refine (H2.out _).mono ?_; rintro e w' ⟨rfl, rfl⟩) | (go_at_call 61; refine (rleap_any _ _).mono ?_; rintro e w' ⟨rfl, rfl⟩))
        go_round
        case rel => exact ⟨k + 1, by omega, by omega, rfl, by rw [show 2000 + (k + 1) = 2000 + k + 1 by omega, HS.out, hp0.out]; go_num⟩
        case measure => simp [intOf]; omega
      · have hp1 : Hid (Cv.lp (2000 + k) = 1) := lp_true hl
        go_wp2_with (first | (go_at_call 60; refine (H2.out _).mono ?_; rintro e w' ⟨rfl, rfl⟩) | (go_at_call 61; refine (rleap_any _ _).mono ?_; rintro e w' ⟨rfl, rfl⟩))
        go_round
        case rel => exact ⟨k + 1, by omega, by omega, rfl, by rw [show 2000 + (k + 1) = 2000 + k + 1 by omega, HS.out, hp1.out]; go_num⟩
        case measure => simp [intOf]; omega
    · have ek : Hid (k = m) := by show k = m; omega
      go_wp2_with (go_at_call 60; refine (H2.out _).mono ?_; rintro e w' ⟨rfl, rfl⟩)
      go_ret
      exact ⟨ret_int (by have := hp.out; rw [← ek.out] at this; omega), rfl⟩

end Go.Proofs.YtghfgabajdghiaaDoor.Cvl
