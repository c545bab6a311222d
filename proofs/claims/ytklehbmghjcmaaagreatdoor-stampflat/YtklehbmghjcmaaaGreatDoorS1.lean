import Derived.Test.YtklehbmghjcmaaaGreatDoorSz
import Derived.Test.YtklehbmghjcmaaaGreatDoorRows
import Derived.Test.YtklehbmghjcmaaaGreatDoorS0
import Derived.WalkKit
import Derived.WalkSpells
import Derived.WalkLawsBesides
open Go.Value renaming int → vi
open Go.IntKind renaming i64 → ki
open List renaming setIfInBounds_toArray → zb, set_cons_zero → zc, set_cons_succ → zd
open Go.Act renaming put → za
open Go.Ending renaming returned → zr
set_option maxRecDepth 100000
set_option maxHeartbeats 16000000
set_option linter.unusedVariables false
namespace Go.Proofs.YtklehbmghjcmaaaGreatDoor.Cvl
open Go.RowKit
theorem ret_int {k : IntKind} {a b : Int} (h : a = b) : Ending.returned (.int k a) = zr (.int k b) := by rw [h]
theorem ret_bool {a b : Bool} (h : a = b) : Ending.returned (.bool a) = zr (.bool b) := by rw [h]
theorem mod_up {a b : Int} (hb : 0 < b) (h : a.tmod b < 0) : a % b = a.tmod b + b := by
  have e := (Nm.down (a := a) (b := b) (by omega) (by omega) (by omega)).2
  rw [Int.fmod_eq_emod_of_nonneg _ (by omega)] at e
  exact e
theorem mod_same {a b : Int} (hb : 0 < b) (h : ¬ a.tmod b < 0) : a % b = a.tmod b := by
  have e := (Nm.keep (a := a) (b := b) (by omega) (by omega)).2
  rw [Int.fmod_eq_emod_of_nonneg _ (by omega)] at e
  exact e
theorem div_down {a b : Int} (hb : 0 < b) (h : a.tmod b < 0) : a / b = a.tdiv b - 1 := by
  have e := (Nm.down (a := a) (b := b) (by omega) (by omega) (by omega)).1
  rw [Int.fdiv_eq_ediv_of_nonneg _ (by omega)] at e
  exact e
theorem div_same {a b : Int} (hb : 0 < b) (h : ¬ a.tmod b < 0) : a / b = a.tdiv b := by
  have e := (Nm.keep (a := a) (b := b) (by omega) (by omega)).1
  rw [Int.fdiv_eq_ediv_of_nonneg _ (by omega)] at e
  exact e
theorem tz (y k : Int) (hk : 0 < k) : (y.tmod k == 0) = (y % k == 0) := by
  rw [Bool.eq_iff_iff, beq_iff_eq, beq_iff_eq]
  exact ⟨fun h => Int.emod_eq_zero_of_dvd (Int.dvd_of_tmod_eq_zero h), fun h => Int.tmod_eq_zero_of_dvd (Int.dvd_of_emod_eq_zero h)⟩
theorem rmod_any (a b : Int) (hb : 0 < b) (hb2 : b ≤ 1000000) (w : World) :
    Calls Tryz.prog 112 #[vi ki a, vi ki b] w fun e w' => e = zr (vi ki (a % b)) ∧ w' = w := by
  have bd := Nm.tmod_bd (a := a) (b := b) (by omega)
  have h0 : ¬ b = 0 := by omega
  by_cases h : a.tmod b < 0
  · have hq : Hid (a % b = a.tmod b + b) := mod_up hb h
    have l1 : -1000000 ≤ a.tmod b := by omega
    clear bd
    go_enter Tryz.func112, Tryz.ntmps112
    go_wp2
    go_ret
    exact ⟨ret_int hq.out.symm, rfl⟩
  · have hq : Hid (a % b = a.tmod b) := mod_same hb h
    clear bd
    go_enter Tryz.func112, Tryz.ntmps112
    go_wp2
    go_ret
    exact ⟨ret_int hq.out.symm, rfl⟩
theorem rdiv_any (a b : Int) (h1 : -9223372036854775808 ≤ a) (h2 : a ≤ 9223372036854775807) (hb : 2 ≤ b) (hb2 : b ≤ 1000000) (w : World) :
    Calls Tryz.prog 148 #[vi ki a, vi ki b] w fun e w' => e = zr (vi ki (a / b)) ∧ w' = w := by
  have bd := Nm.tdiv_half (a := a) (b := b) h1 h2 (by omega)
  obtain ⟨q1, q2⟩ := bd
  have h0 : ¬ b = 0 := by omega
  have hw : wrap64 (a.tdiv b) = a.tdiv b := by unfold wrap64; omega
  by_cases h : a.tmod b < 0
  · have hq : Hid (a / b = a.tdiv b - 1) := div_down (by omega) h
    go_enter Tryz.func148, Tryz.ntmps148
    go_wp2
    go_ret
    exact ⟨ret_int hq.out.symm, rfl⟩
  · have hq : Hid (a / b = a.tdiv b) := div_same (by omega) h
    go_enter Tryz.func148, Tryz.ntmps148
    go_wp2
    go_ret
    exact ⟨ret_int hq.out.symm, rfl⟩
theorem leap_of (y : Int) (a b c : Bool) (h4 : (y % 4 == 0) = a) (h100 : (y % 100 == 0) = b) (h400 : (y % 400 == 0) = c) : Cv.leap y = (a && (!b || c)) := by
  unfold Cv.leap bne; rw [h4, h100, h400]
theorem c400 (y : Int) (h4 : (y % 4 == 0) = false) : (y % 400 == 0) = false := by
  rw [beq_eq_false_iff_ne] at *; omega
theorem leap_any (y : Int) (w : World) :
    Calls Tryz.prog 204 #[vi ki y] w fun e w' => e = zr (.bool (Cv.leap y)) ∧ w' = w := by
  have t4 := tz y 4 (by decide)
  have t100 := tz y 100 (by decide)
  have t400 := tz y 400 (by decide)
  cases h4 : (y % 4 == 0) <;> cases h100 : (y % 100 == 0) <;> cases h400 : (y % 400 == 0)
  all_goals
    have hl : Hid (Cv.leap y = _) := leap_of y _ _ _ h4 h100 h400
    rw [h4] at t4
    rw [h100] at t100
    rw [h400] at t400
    have n100 : (y.tmod 100 != 0) = !(y.tmod 100 == 0) := rfl
    rw [t100] at n100
    have cc := c400 y
    go_enter Tryz.func204, Tryz.ntmps204
    go_wp2
    go_ret
    first
      | exact ⟨ret_bool (by rw [hl.out]; rfl), rfl⟩
      | exact absurd (cc h4) (by rw [h400]; decide)
end Go.Proofs.YtklehbmghjcmaaaGreatDoor.Cvl
namespace Go.Proofs.YtklehbmghjcmaaaGreatDoor.Cvl
open Go.RowKit
theorem rleap_any (y : Int) (w : World) :
    Calls Tryz.prog 149 #[vi ki y] w fun e w' => e = zr (.bool (Cv.leap y)) ∧ w' = w := by
  cases h4 : (y % 4 == 0) <;> cases h100 : (y % 100 == 0) <;> cases h400 : (y % 400 == 0)
  all_goals
    have hl : Hid (Cv.leap y = _) := leap_of y _ _ _ h4 h100 h400
    have n100 : (y % 100 != 0) = !(y % 100 == 0) := rfl
    rw [h100] at n100
    go_enter Tryz.func149, Tryz.ntmps149
    go_wp2_with (go_at_call 112; refine (rmod_any _ _ (by decide) (by decide) _).mono ?_; rintro e w' ⟨rfl, rfl⟩)
    go_ret
    exact ⟨ret_bool (by rw [hl.out]; rfl), rfl⟩
def tabL : List Int := [31, 28, 31, 30, 31, 30, 31, 31, 30, 31, 30, 31]
def Lens (w : World) : Prop := ∀ i, i < 12 → w.cell? ⟨1, i, none⟩ = some (vi ki (tabL.getD i 0))
theorem tab_len (y m : Int) (h1 : 1 ≤ m) (h2 : m ≤ 12) (h : m ≠ 2 ∨ Cv.leap y = false) : tabL.getD (m.toNat - 1) 0 = Cv.len y m := by
  rcases Cv.twelve h1 h2 with rfl | rfl | rfl | rfl | rfl | rfl | rfl | rfl | rfl | rfl | rfl | rfl
  · rfl
  · have e : Cv.leap y = false := by rcases h with h | h; exact absurd rfl h; exact h
    have : Cv.lp y = 0 := by unfold Cv.lp; rw [e]; rfl
    show (28 : Int) = Cv.len y 2
    simp [Cv.len, this]
  all_goals rfl
theorem len_leap (y : Int) (h : Cv.leap y = true) : Cv.len y 2 = 29 := by
  have : Cv.lp y = 1 := by unfold Cv.lp; rw [h]; rfl
  simp [Cv.len, this]
theorem len_flat (y : Int) (h : Cv.leap y = false) : Cv.len y 2 = 28 := by
  have : Cv.lp y = 0 := by unfold Cv.lp; rw [h]; rfl
  simp [Cv.len, this]
theorem len_any (y m : Int) (w : World) (hw : Lens w) :
    Calls Tryz.prog 172 #[vi ki y, vi ki m] w fun e w' => e = zr (vi ki (Cv.len y m)) ∧ w' = w := by
  by_cases h1 : m < 1
  · have hl : Hid (Cv.len y m = 0) := Cv.len_out y m (.inl h1)
    go_enter Tryz.func172, Tryz.ntmps172
    go_wp2
    go_ret
    exact ⟨ret_int hl.out.symm, rfl⟩
  · by_cases h2 : 12 < m
    · have hl : Hid (Cv.len y m = 0) := Cv.len_out y m (.inr h2)
      go_enter Tryz.func172, Tryz.ntmps172
      go_wp2
      go_ret
      exact ⟨ret_int hl.out.symm, rfl⟩
    · by_cases h3 : m = 2
      · subst h3
        cases hl : Cv.leap y
        · have e : Hid (Cv.len y 2 = 28) := len_flat y hl
          have hc : w.cell? ⟨1, 1, none⟩ = some (vi ki 28) := hw 1 (by decide)
          go_enter Tryz.func172, Tryz.ntmps172
          go_wp2_with (go_at_call 204; refine (leap_any _ _).mono ?_; rintro e w' ⟨rfl, rfl⟩)
          go_ret
          exact ⟨ret_int e.out.symm, rfl⟩
        · have e : Hid (Cv.len y 2 = 29) := len_leap y hl
          go_enter Tryz.func172, Tryz.ntmps172
          go_wp2_with (go_at_call 204; refine (leap_any _ _).mono ?_; rintro e w' ⟨rfl, rfl⟩)
          go_ret
          exact ⟨ret_int e.out.symm, rfl⟩
      · have hb : (m == 2) = false := by rw [beq_eq_false_iff_ne]; exact h3
        have e : Hid (tabL.getD (m.toNat - 1) 0 = Cv.len y m) := tab_len y m (by omega) (by omega) (.inl h3)
        have hc : w.cell? ⟨1, m.toNat - 1, none⟩ = some (vi ki (tabL.getD (m.toNat - 1) 0)) := hw (m.toNat - 1) (by omega)
        generalize tabL.getD (m.toNat - 1) 0 = t at *
        go_enter Tryz.func172, Tryz.ntmps172
        go_wp2
        go_ret
        exact ⟨ret_int e.out, rfl⟩
theorem rlen_any (y m : Int) (w : World) :
    Calls Tryz.prog 150 #[vi ki y, vi ki m] w fun e w' => e = zr (vi ki (Cv.len y m)) ∧ w' = w := by
  by_cases h : 1 ≤ m ∧ m ≤ 12
  · rcases Cv.twelve h.1 h.2 with rfl | rfl | rfl | rfl | rfl | rfl | rfl | rfl | rfl | rfl | rfl | rfl
    case inr.inl =>
      cases hl : Cv.leap y
      · have e : Hid (Cv.len y 2 = 28) := len_flat y hl
        go_enter Tryz.func150, Tryz.ntmps150
        go_wp2_with (go_at_call 149; refine (rleap_any _ _).mono ?_; rintro e w' ⟨rfl, rfl⟩)
        go_ret
        exact ⟨ret_int e.out.symm, rfl⟩
      · have e : Hid (Cv.len y 2 = 29) := len_leap y hl
        go_enter Tryz.func150, Tryz.ntmps150
        go_wp2_with (go_at_call 149; refine (rleap_any _ _).mono ?_; rintro e w' ⟨rfl, rfl⟩)
        go_ret
        exact ⟨ret_int e.out.symm, rfl⟩
    all_goals
      clear h
      go_enter Tryz.func150, Tryz.ntmps150
      go_wp2
      go_ret
      exact ⟨ret_int rfl, rfl⟩
  · have e : Hid (Cv.len y m = 0) := Cv.len_out y m (by omega)
    have n1 : (m == 1) = false := by rw [beq_eq_false_iff_ne]; omega
    have n2 : (m == 2) = false := by rw [beq_eq_false_iff_ne]; omega
    have n3 : (m == 3) = false := by rw [beq_eq_false_iff_ne]; omega
    have n4 : (m == 4) = false := by rw [beq_eq_false_iff_ne]; omega
    have n5 : (m == 5) = false := by rw [beq_eq_false_iff_ne]; omega
    have n6 : (m == 6) = false := by rw [beq_eq_false_iff_ne]; omega
    have n7 : (m == 7) = false := by rw [beq_eq_false_iff_ne]; omega
    have n8 : (m == 8) = false := by rw [beq_eq_false_iff_ne]; omega
    have n9 : (m == 9) = false := by rw [beq_eq_false_iff_ne]; omega
    have n10 : (m == 10) = false := by rw [beq_eq_false_iff_ne]; omega
    have n11 : (m == 11) = false := by rw [beq_eq_false_iff_ne]; omega
    have n12 : (m == 12) = false := by rw [beq_eq_false_iff_ne]; omega
    clear h
    go_enter Tryz.func150, Tryz.ntmps150
    go_wp2
    go_ret
    exact ⟨ret_int e.out.symm, rfl⟩
def right (y m d : Int) : Bool := decide (-4718 ≤ y ∧ y ≤ 294282 ∧ 1 ≤ d ∧ d ≤ Cv.len y m)
theorem right_no {y m d : Int} (h : ¬ (-4718 ≤ y ∧ y ≤ 294282 ∧ 1 ≤ d ∧ d ≤ Cv.len y m)) : right y m d = false := decide_eq_false h
theorem right_yes {y m d : Int} (h : -4718 ≤ y ∧ y ≤ 294282 ∧ 1 ≤ d ∧ d ≤ Cv.len y m) : right y m d = true := decide_eq_true h
theorem right_mon {y m d : Int} (h : -4718 ≤ y ∧ y ≤ 294282 ∧ 1 ≤ d ∧ d ≤ Cv.len y m) : 1 ≤ m ∧ m ≤ 12 := by
  by_cases g : m < 1 ∨ 12 < m
  · have := Cv.len_out y m g; omega
  · omega
theorem right_any (y m d : Int) (w : World) (hw : Lens w) :
    Calls Tryz.prog 213 #[vi ki y, vi ki m, vi ki d] w fun e w' => e = zr (.bool (right y m d)) ∧ w' = w := by
  have H1 : Hid (∀ m, Calls Tryz.prog 172 #[vi ki y, vi ki m] w fun e w' => e = zr (vi ki (Cv.len y m)) ∧ w' = w) := fun m => len_any y m w hw
  by_cases h1 : -4718 ≤ y
  · by_cases h2 : y ≤ 294282
    · by_cases h3 : 1 ≤ d
      · by_cases h4 : d ≤ Cv.len y m
        · have e : Hid (right y m d = true) := right_yes ⟨h1, h2, h3, h4⟩
          go_enter Tryz.func213, Tryz.ntmps213
          go_wp2_with fail
          refine (H1.out _).mono ?_
          rintro e w' ⟨rfl, rfl⟩
          go_wp2
          go_ret
          exact ⟨ret_bool e.out.symm, rfl⟩
        · have e : Hid (right y m d = false) := right_no (fun h => h4 h.2.2.2)
          go_enter Tryz.func213, Tryz.ntmps213
          go_wp2_with fail
          refine (H1.out _).mono ?_
          rintro e w' ⟨rfl, rfl⟩
          go_wp2
          go_ret
          exact ⟨ret_bool (by rw [e.out]; exact decide_eq_false (by omega)), rfl⟩
      · have e : Hid (right y m d = false) := right_no (fun h => h3 h.2.2.1)
        go_enter Tryz.func213, Tryz.ntmps213
        go_wp2
        go_ret
        exact ⟨ret_bool e.out.symm, rfl⟩
    · have e : Hid (right y m d = false) := right_no (fun h => h2 h.2.1)
      go_enter Tryz.func213, Tryz.ntmps213
      go_wp2
      go_ret
      exact ⟨ret_bool e.out.symm, rfl⟩
  · have e : Hid (right y m d = false) := right_no (fun h => h1 h.1)
    go_enter Tryz.func213, Tryz.ntmps213
    go_wp2
    go_ret
    exact ⟨ret_bool e.out.symm, rfl⟩
theorem rright_any (y m d : Int) (w : World) :
    Calls Tryz.prog 159 #[vi ki y, vi ki m, vi ki d] w fun e w' => e = zr (.bool (right y m d)) ∧ w' = w := by
  have H1 : Hid (∀ m, Calls Tryz.prog 150 #[vi ki y, vi ki m] w fun e w' => e = zr (vi ki (Cv.len y m)) ∧ w' = w) := fun m => rlen_any y m w
  by_cases h1 : -4718 ≤ y
  · by_cases h2 : y ≤ 294282
    · by_cases h5 : 1 ≤ m
      · by_cases h6 : m ≤ 12
        · by_cases h3 : 1 ≤ d
          · by_cases h4 : d ≤ Cv.len y m
            · have e : Hid (right y m d = true) := right_yes ⟨h1, h2, h3, h4⟩
              go_enter Tryz.func159, Tryz.ntmps159
              go_wp2_with fail
              refine (H1.out _).mono ?_
              rintro e w' ⟨rfl, rfl⟩
              go_wp2
              go_ret
              exact ⟨ret_bool e.out.symm, rfl⟩
            · have e : Hid (right y m d = false) := right_no (fun h => h4 h.2.2.2)
              go_enter Tryz.func159, Tryz.ntmps159
              go_wp2_with fail
              refine (H1.out _).mono ?_
              rintro e w' ⟨rfl, rfl⟩
              go_wp2
              go_ret
              exact ⟨ret_bool (by rw [e.out]; exact decide_eq_false (by omega)), rfl⟩
          · have e : Hid (right y m d = false) := right_no (fun h => h3 h.2.2.1)
            go_enter Tryz.func159, Tryz.ntmps159
            go_wp2
            go_ret
            exact ⟨ret_bool e.out.symm, rfl⟩
        · have e : Hid (right y m d = false) := right_no (fun h => h6 (right_mon h).2)
          go_enter Tryz.func159, Tryz.ntmps159
          go_wp2
          go_ret
          exact ⟨ret_bool e.out.symm, rfl⟩
      · have e : Hid (right y m d = false) := right_no (fun h => h5 (right_mon h).1)
        go_enter Tryz.func159, Tryz.ntmps159
        go_wp2
        go_ret
        exact ⟨ret_bool e.out.symm, rfl⟩
    · have e : Hid (right y m d = false) := right_no (fun h => h2 h.2.1)
      go_enter Tryz.func159, Tryz.ntmps159
      go_wp2
      go_ret
      exact ⟨ret_bool e.out.symm, rfl⟩
  · have e : Hid (right y m d = false) := right_no (fun h => h1 h.1)
    go_enter Tryz.func159, Tryz.ntmps159
    go_wp2
    go_ret
    exact ⟨ret_bool e.out.symm, rfl⟩
theorem new_any (y : Int) (h1 : -4800 ≤ y) (h2 : y ≤ 1000000) (w : World) :
    Calls Tryz.prog 171 #[vi ki y] w fun e w' => e = zr (vi ki (Cv.S y)) ∧ w' = w := by
  go_enter Tryz.func171, Tryz.ntmps171
  go_wp2
  go_ret
  exact ⟨ret_int (by unfold Cv.S; omega), rfl⟩
theorem S_part (y k : Int) : Cv.S (2000 + (y - 2000) % 400) = Cv.S y - (y - 2000) / 400 * 146097 := by
  have := Cv.S_cycle (2000 + (y - 2000) % 400) ((y - 2000) / 400)
  rw [show 2000 + (y - 2000) % 400 + 400 * ((y - 2000) / 400) = y by omega] at this
  omega
theorem S_2000 : Cv.S 2000 = 0 := by decide
theorem S_bd (y : Int) (h1 : -1000000 ≤ y) (h2 : y ≤ 1000000) : -1000000000 ≤ Cv.S y ∧ Cv.S y ≤ 1000000000 := by unfold Cv.S; omega
theorem lp_true {y : Int} (h : Cv.leap y = true) : Cv.lp y = 1 := by unfold Cv.lp; rw [h]; rfl
theorem lp_false {y : Int} (h : Cv.leap y = false) : Cv.lp y = 0 := by unfold Cv.lp; rw [h]; rfl
theorem start_any (y : Int) (h1 : -1000000 ≤ y) (h2 : y ≤ 1000000) (w : World) :
    Calls Tryz.prog 188 #[vi ki y] w fun e w' => e = zr (vi ki (Cv.S y)) ∧ w' = w := by
  have hp : Hid (Cv.S (2000 + (y - 2000) % 400) = Cv.S y - (y - 2000) / 400 * 146097) := S_part y 0
  have H1 : Hid (∀ w : World, Calls Tryz.prog 148 #[vi ki (y - 2000), vi ki 400] w fun e w' => e = zr (vi ki ((y - 2000) / 400)) ∧ w' = w) := fun w => rdiv_any (y - 2000) 400 (by omega) (by omega) (by decide) (by decide) w
  have H2 : Hid (∀ w : World, Calls Tryz.prog 112 #[vi ki (y - 2000), vi ki 400] w fun e w' => e = zr (vi ki ((y - 2000) % 400)) ∧ w' = w) := fun w => rmod_any (y - 2000) 400 (by decide) (by decide) w
  have c1 : -3000 ≤ (y - 2000) / 400 := by omega
  have c2 : (y - 2000) / 400 ≤ 3000 := by omega
  have m1 : 0 ≤ (y - 2000) % 400 := by omega
  have m2 : (y - 2000) % 400 < 400 := by omega
  generalize (y - 2000) / 400 = c at *
  generalize (y - 2000) % 400 = m at *
  go_enter Tryz.func188, Tryz.ntmps188
  go_wp2_with fail
  refine (H1.out _).mono ?_
  rintro e w1 ⟨rfl, rfl⟩
  go_wp2_with fail
  go_loop [3, 4] (fun n i => ∃ k : Int, 0 ≤ k ∧ k ≤ m ∧ i = vi ki k ∧ n = vi ki (c * 146097 + Cv.S (2000 + k))) (fun _ i => (m - intOf i).toNat)
  case atStart => exact ⟨0, by omega, m1, rfl, by rw [show (2000 : Int) + 0 = 2000 by omega, S_2000]; go_num⟩
  case round =>
    obtain ⟨k, k1, k2, rfl, rfl⟩ := hrel
    have hS := Cv.S_succ (2000 + k)
    obtain ⟨s1, s2⟩ := S_bd (2000 + k) (by omega) (by omega)
    have HS : Hid (Cv.S (2000 + k + 1) = Cv.S (2000 + k) + 365 + Cv.lp (2000 + k)) := hS
    clear hS
    by_cases hlt : k < m
    · cases hl : Cv.leap (2000 + k)
      · have hp0 : Hid (Cv.lp (2000 + k) = 0) := lp_false hl
        go_wp2_with (first | (go_at_call 112; refine (H2.out _).mono ?_; rintro e w' ⟨rfl, rfl⟩) | (go_at_call 149; refine (rleap_any _ _).mono ?_; rintro e w' ⟨rfl, rfl⟩))
        go_round
        case rel => exact ⟨k + 1, by omega, by omega, rfl, by rw [show 2000 + (k + 1) = 2000 + k + 1 by omega, HS.out, hp0.out]; go_num⟩
        case measure => simp [intOf]; omega
      · have hp1 : Hid (Cv.lp (2000 + k) = 1) := lp_true hl
        go_wp2_with (first | (go_at_call 112; refine (H2.out _).mono ?_; rintro e w' ⟨rfl, rfl⟩) | (go_at_call 149; refine (rleap_any _ _).mono ?_; rintro e w' ⟨rfl, rfl⟩))
        go_round
        case rel => exact ⟨k + 1, by omega, by omega, rfl, by rw [show 2000 + (k + 1) = 2000 + k + 1 by omega, HS.out, hp1.out]; go_num⟩
        case measure => simp [intOf]; omega
    · have ek : Hid (k = m) := by show k = m; omega
      go_wp2_with (go_at_call 112; refine (H2.out _).mono ?_; rintro e w' ⟨rfl, rfl⟩)
      go_ret
      exact ⟨ret_int (by have := hp.out; rw [← ek.out] at this; omega), rfl⟩
end Go.Proofs.YtklehbmghjcmaaaGreatDoor.Cvl
namespace Go.Proofs.YtklehbmghjcmaaaGreatDoor.Cvl
open Go.RowKit
theorem rday_any (y m d : Int) (h1 : -1000000 ≤ y) (h2 : y ≤ 1000000) (m1 : 1 ≤ m) (m2 : m ≤ 12) (d1 : 1 ≤ d) (d2 : d ≤ 31) (w : World) :
    Calls Tryz.prog 146 #[vi ki y, vi ki m, vi ki d] w fun e w' => e = zr (vi ki (Cv.S y + Cv.cum y m + d - 1)) ∧ w' = w := by
  obtain ⟨s1, s2⟩ := S_bd y h1 h2
  go_enter Tryz.func146, Tryz.ntmps146
  go_wp2_with fail
  refine (start_any y h1 h2 _).mono ?_
  rintro e w1 ⟨rfl, rfl⟩
  go_wp2_with fail
  go_loop [7, 8] (fun n i => ∃ k : Int, 1 ≤ k ∧ k ≤ m ∧ i = vi ki k ∧ n = vi ki (Cv.S y + Cv.cum y k + d - 1)) (fun _ i => (m - intOf i).toNat)
  case atStart => exact ⟨1, by omega, m1, rfl, by rw [Cv.cum_one]; go_num⟩
  case round =>
    obtain ⟨k, k1, k2, rfl, rfl⟩ := hrel
    obtain ⟨c1, c2⟩ := Cv.cum_bd y k
    by_cases hlt : k < m
    · have hc : Hid (Cv.cum y (k + 1) = Cv.cum y k + Cv.len y k) := Cv.cum_succ y k k1 (by omega)
      obtain ⟨l1, l2⟩ := Cv.len_bd y k
      go_wp2_with (go_at_call 150; refine (rlen_any _ _ _).mono ?_; rintro e w' ⟨rfl, rfl⟩)
      go_round
      case rel => exact ⟨k + 1, by omega, by omega, rfl, by rw [hc.out]; go_num⟩
      case measure => simp [intOf]; omega
    · have ek : Hid (k = m) := by show k = m; omega
      go_wp2
      go_ret
      exact ⟨ret_int (by rw [← ek.out]), rfl⟩
theorem S_first : Cv.S (-4718) = -2453698 := by decide
theorem S_last : Cv.S 294283 = 106754174 := by decide
theorem first_any (w : World) : Calls Tryz.prog 202 #[] w fun e w' => e = zr (vi ki (-2453698)) ∧ w' = w := by
  have H1 : Hid (∀ w : World, Calls Tryz.prog 171 #[vi ki (-4718)] w fun e w' => e = zr (vi ki (-2453698)) ∧ w' = w) := by
    intro w; rw [← S_first]; exact new_any (-4718) (by decide) (by decide) w
  go_enter Tryz.func202, Tryz.ntmps202
  go_wp2_with fail
  refine (H1.out _).mono ?_
  rintro e w' ⟨rfl, rfl⟩
  go_wp2
  go_ret
  exact ⟨rfl, rfl⟩
theorem last_any (w : World) : Calls Tryz.prog 203 #[] w fun e w' => e = zr (vi ki 106754173) ∧ w' = w := by
  have H1 : Hid (∀ w : World, Calls Tryz.prog 171 #[vi ki 294283] w fun e w' => e = zr (vi ki 106754174) ∧ w' = w) := by
    intro w; rw [← S_last]; exact new_any 294283 (by decide) (by decide) w
  go_enter Tryz.func203, Tryz.ntmps203
  go_wp2_with fail
  refine (H1.out _).mono ?_
  rintro e w' ⟨rfl, rfl⟩
  go_wp2
  go_ret
  exact ⟨rfl, rfl⟩
theorem d_first : Cv.S (-4718) + Cv.cum (-4718) 1 + 1 - 1 = -2453698 := by decide
theorem d_last : Cv.S 294282 + Cv.cum 294282 12 + 31 - 1 = 106754173 := by decide
theorem rfirst_any (w : World) : Calls Tryz.prog 105 #[] w fun e w' => e = zr (vi ki (-2453698)) ∧ w' = w := by
  have H1 : Hid (∀ w : World, Calls Tryz.prog 146 #[vi ki (-4718), vi ki 1, vi ki 1] w fun e w' => e = zr (vi ki (-2453698)) ∧ w' = w) := by
    intro w; rw [← d_first]; exact rday_any (-4718) 1 1 (by decide) (by decide) (by decide) (by decide) (by decide) (by decide) w
  go_enter Tryz.func105, Tryz.ntmps105
  go_wp2_with fail
  refine (H1.out _).mono ?_
  rintro e w' ⟨rfl, rfl⟩
  go_wp2
  go_ret
  exact ⟨rfl, rfl⟩
theorem rlast_any (w : World) : Calls Tryz.prog 189 #[] w fun e w' => e = zr (vi ki 106754173) ∧ w' = w := by
  have H1 : Hid (∀ w : World, Calls Tryz.prog 146 #[vi ki 294282, vi ki 12, vi ki 31] w fun e w' => e = zr (vi ki 106754173) ∧ w' = w) := by
    intro w; rw [← d_last]; exact rday_any 294282 12 31 (by decide) (by decide) (by decide) (by decide) (by decide) (by decide) w
  go_enter Tryz.func189, Tryz.ntmps189
  go_wp2_with fail
  refine (H1.out _).mono ?_
  rintro e w' ⟨rfl, rfl⟩
  go_wp2
  go_ret
  exact ⟨rfl, rfl⟩
def can (n : Int) : Bool := decide (-2453698 ≤ n ∧ n ≤ 106754173)
theorem can_yes {n : Int} (h1 : -2453698 ≤ n) (h2 : n ≤ 106754173) : can n = true := decide_eq_true ⟨h1, h2⟩
theorem can_no {n : Int} (h : n < -2453698 ∨ 106754173 < n) : can n = false := decide_eq_false (by omega)
theorem can_any (n : Int) (w : World) : Calls Tryz.prog 169 #[vi ki n] w fun e w' => e = zr (.bool (can n)) ∧ w' = w := by
  by_cases h1 : -2453698 ≤ n
  · by_cases h2 : n ≤ 106754173
    · have e : Hid (can n = true) := can_yes h1 h2
      go_enter Tryz.func169, Tryz.ntmps169
      go_wp2_with (first | (go_at_call 202; refine (first_any _).mono ?_; rintro e w' ⟨rfl, rfl⟩) | (go_at_call 203; refine (last_any _).mono ?_; rintro e w' ⟨rfl, rfl⟩))
      go_ret
      exact ⟨ret_bool e.out.symm, rfl⟩
    · have e : Hid (can n = false) := can_no (by omega)
      go_enter Tryz.func169, Tryz.ntmps169
      go_wp2_with (first | (go_at_call 202; refine (first_any _).mono ?_; rintro e w' ⟨rfl, rfl⟩) | (go_at_call 203; refine (last_any _).mono ?_; rintro e w' ⟨rfl, rfl⟩))
      go_ret
      exact ⟨ret_bool (by rw [e.out]; first | rfl | exact decide_eq_false (by omega)), rfl⟩
  · have e : Hid (can n = false) := can_no (by omega)
    go_enter Tryz.func169, Tryz.ntmps169
    go_wp2_with (first | (go_at_call 202; refine (first_any _).mono ?_; rintro e w' ⟨rfl, rfl⟩) | (go_at_call 203; refine (last_any _).mono ?_; rintro e w' ⟨rfl, rfl⟩))
    go_ret
    exact ⟨ret_bool (by rw [e.out]), rfl⟩
theorem rcan_any (n : Int) (w : World) : Calls Tryz.prog 147 #[vi ki n] w fun e w' => e = zr (.bool (can n)) ∧ w' = w := by
  by_cases h1 : -2453698 ≤ n
  · by_cases h2 : n ≤ 106754173
    · have e : Hid (can n = true) := can_yes h1 h2
      go_enter Tryz.func147, Tryz.ntmps147
      go_wp2_with (first | (go_at_call 105; refine (rfirst_any _).mono ?_; rintro e w' ⟨rfl, rfl⟩) | (go_at_call 189; refine (rlast_any _).mono ?_; rintro e w' ⟨rfl, rfl⟩))
      go_ret
      exact ⟨ret_bool e.out.symm, rfl⟩
    · have e : Hid (can n = false) := can_no (by omega)
      go_enter Tryz.func147, Tryz.ntmps147
      go_wp2_with (first | (go_at_call 105; refine (rfirst_any _).mono ?_; rintro e w' ⟨rfl, rfl⟩) | (go_at_call 189; refine (rlast_any _).mono ?_; rintro e w' ⟨rfl, rfl⟩))
      go_ret
      exact ⟨ret_bool (by rw [e.out]; first | rfl | exact decide_eq_false (by omega)), rfl⟩
  · have e : Hid (can n = false) := can_no (by omega)
    go_enter Tryz.func147, Tryz.ntmps147
    go_wp2_with (first | (go_at_call 105; refine (rfirst_any _).mono ?_; rintro e w' ⟨rfl, rfl⟩) | (go_at_call 189; refine (rlast_any _).mono ?_; rintro e w' ⟨rfl, rfl⟩))
    go_ret
    exact ⟨ret_bool (by rw [e.out]), rfl⟩
theorem guess2 (n y : Int) (h1 : -2453698 - 7 ≤ n) (h2 : n ≤ 106754173 + 7) (h3 : y = -4800 + (n + 2483649) * 400 / 146097) :
    Cv.S (y - 1) ≤ n ∧ n < Cv.S (y + 2) ∧ -4720 ≤ y ∧ y ≤ 294290 := by
  unfold Cv.S; omega
theorem yearOf_any (n y : Int) (h1 : -2453698 - 7 ≤ n) (h2 : n ≤ 106754173 + 7) (y1 : Cv.S y ≤ n) (y2 : n < Cv.S (y + 1)) (w : World) :
    Calls Tryz.prog 170 #[vi ki n] w fun e w' => e = zr (vi ki y) ∧ w' = w := by
  obtain ⟨z, hz⟩ : ∃ z, z = -4800 + (n + 2483649) * 400 / 146097 := ⟨_, rfl⟩
  obtain ⟨g1, g2, g3, g4⟩ := guess2 n z h1 h2 hz
  have e0 : Hid (z = -4800 + (n + 2483649) * 400 / 146097) := hz
  have e1 : -4800 + (n + 2483649) * 400 / 146097 = z := hz.symm
  clear hz
  by_cases a : n < Cv.S z
  · have ey : Hid (y = z - 1) := Cv.year_one y1 y2 g1 (by rw [show z - 1 + 1 = z by omega]; exact a)
    clear g1 g2 y1 y2
    go_enter Tryz.func170, Tryz.ntmps170
    go_wp2_with (go_at_call 171; refine (new_any _ (by omega) (by omega) _).mono ?_; rintro e w' ⟨rfl, rfl⟩)
    go_ret
    exact ⟨ret_int ey.out.symm, rfl⟩
  · by_cases b : Cv.S (z + 1) ≤ n
    · have ey : Hid (y = z + 1) := Cv.year_one y1 y2 b (by rw [show z + 1 + 1 = z + 2 by omega]; exact g2)
      clear g1 g2 y1 y2
      go_enter Tryz.func170, Tryz.ntmps170
      go_wp2_with (go_at_call 171; refine (new_any _ (by omega) (by omega) _).mono ?_; rintro e w' ⟨rfl, rfl⟩)
      go_ret
      exact ⟨ret_int ey.out.symm, rfl⟩
    · have ey : Hid (y = z) := Cv.year_one y1 y2 (by omega) (by omega)
      clear g1 g2 y1 y2
      go_enter Tryz.func170, Tryz.ntmps170
      go_wp2_with (go_at_call 171; refine (new_any _ (by omega) (by omega) _).mono ?_; rintro e w' ⟨rfl, rfl⟩)
      go_ret
      exact ⟨ret_int ey.out.symm, rfl⟩
end Go.Proofs.YtklehbmghjcmaaaGreatDoor.Cvl
namespace Go.Proofs.YtklehbmghjcmaaaGreatDoor.Cvl
open Go.RowKit
theorem of_right {y m d : Int} (h : right y m d = true) : -4718 ≤ y ∧ y ≤ 294282 ∧ 1 ≤ d ∧ d ≤ Cv.len y m := of_decide_eq_true h
theorem days_no (y m d : Int) (h : right y m d = false) (w : World) (hw : Lens w) :
    Calls Tryz.prog 192 #[vi ki y, vi ki m, vi ki d] w fun e w' => e = zr (.tuple #[vi ki 0, vi ki 10]) ∧ w' = w := by
  go_enter Tryz.func192, Tryz.ntmps192
  go_wp2_with (go_at_call 213; refine (right_any _ _ _ _ hw).mono ?_; rintro e w' ⟨rfl, rfl⟩)
  go_ret2
  exact ⟨rfl, rfl⟩
theorem rdays_no (y m d : Int) (h : right y m d = false) (w : World) :
    Calls Tryz.prog 114 #[vi ki y, vi ki m, vi ki d] w fun e w' => e = zr (.tuple #[vi ki 0, vi ki 10]) ∧ w' = w := by
  go_enter Tryz.func114, Tryz.ntmps114
  go_wp2_with (go_at_call 159; refine (rright_any _ _ _ _).mono ?_; rintro e w' ⟨rfl, rfl⟩)
  go_ret2
  exact ⟨rfl, rfl⟩
theorem rdays_yes (y m d : Int) (h : right y m d = true) (w : World) :
    Calls Tryz.prog 114 #[vi ki y, vi ki m, vi ki d] w fun e w' => e = zr (.tuple #[vi ki (Cv.S y + Cv.cum y m + d - 1), vi ki 0]) ∧ w' = w := by
  obtain ⟨y1, y2, d1, d2⟩ := of_right h
  obtain ⟨m1, m2⟩ := right_mon ⟨y1, y2, d1, d2⟩
  have l := (Cv.len_bd y m).2
  have H1 : Hid (∀ w : World, Calls Tryz.prog 146 #[vi ki y, vi ki m, vi ki d] w fun e w' => e = zr (vi ki (Cv.S y + Cv.cum y m + d - 1)) ∧ w' = w) := fun w => rday_any y m d (by omega) (by omega) m1 m2 d1 (by omega) w
  generalize Cv.S y + Cv.cum y m + d - 1 = n at *
  clear d2 l
  go_enter Tryz.func114, Tryz.ntmps114
  go_wp2_with (first | (go_at_call 159; refine (rright_any _ _ _ _).mono ?_; rintro e w' ⟨rfl, rfl⟩) | (go_at_call 146; refine (H1.out _).mono ?_; rintro e w' ⟨rfl, rfl⟩))
  go_ret2
  exact ⟨rfl, rfl⟩
theorem days_yes (y m d : Int) (h : right y m d = true) (w : World) (hw : Lens w) :
    Calls Tryz.prog 192 #[vi ki y, vi ki m, vi ki d] w fun e w' => e = zr (.tuple #[vi ki (Cv.S y + Cv.cum y m + d - 1), vi ki 0]) ∧ w' = w := by
  obtain ⟨y1, y2, d1, d2⟩ := of_right h
  obtain ⟨m1, m2⟩ := right_mon ⟨y1, y2, d1, d2⟩
  have l := (Cv.len_bd y m).2
  have d3 : d ≤ 31 := by omega
  obtain ⟨s1, s2⟩ := S_bd y (by omega) (by omega)
  clear d2 l
  go_enter Tryz.func192, Tryz.ntmps192
  go_wp2_with (first | (go_at_call 213; refine (right_any _ _ _ _ hw).mono ?_; rintro e w' ⟨rfl, rfl⟩) | (go_at_call 171; refine (new_any _ (by omega) (by omega) _).mono ?_; rintro e w' ⟨rfl, rfl⟩))
  go_loop [8, 19] (fun n i => ∃ k : Int, 0 ≤ k ∧ k ≤ m - 1 ∧ i = vi ki k ∧ n = vi ki (Cv.S y + Cv.cum y (k + 1))) (fun _ i => (m - intOf i).toNat)
  case atStart => exact ⟨0, by omega, by omega, rfl, by rw [show (0 : Int) + 1 = 1 by omega, Cv.cum_one]; go_num⟩
  case round =>
    obtain ⟨k, k1, k2, rfl, rfl⟩ := hrel
    obtain ⟨c1, c2⟩ := Cv.cum_bd y (k + 1)
    by_cases hlt : k < m - 1
    · have hc : Hid (Cv.cum y (k + 1 + 1) = Cv.cum y (k + 1) + Cv.len y (k + 1)) := Cv.cum_succ y (k + 1) (by omega) (by omega)
      obtain ⟨l1, l2⟩ := Cv.len_bd y (k + 1)
      go_wp2_with (go_at_call 172; refine (len_any _ _ _ hw).mono ?_; rintro e w' ⟨rfl, rfl⟩)
      go_round
      case rel => exact ⟨k + 1, by omega, by omega, rfl, by rw [hc.out]; go_num⟩
      case measure => simp [intOf]; omega
    · have ek : Hid (k + 1 = m) := by show k + 1 = m; omega
      go_wp2
      go_ret2
      exact ⟨by rw [ek.out]; rfl, rfl⟩
theorem ret_four {a b c d a' b' c' d' : Int} (h1 : a = a') (h2 : b = b') (h3 : c = c') (h4 : d = d') : Ending.returned (.tuple #[vi ki a, vi ki b, vi ki c, vi ki d]) = zr (.tuple #[vi ki a', vi ki b', vi ki c', vi ki d']) := by rw [h1, h2, h3, h4]
theorem date_no (n : Int) (h : can n = false) (w : World) :
    Calls Tryz.prog 126 #[vi ki n] w fun e w' => e = zr (.tuple #[vi ki 0, vi ki 0, vi ki 0, vi ki 10]) ∧ w' = w := by
  go_enter Tryz.func126, Tryz.ntmps126
  go_wp2_with (go_at_call 169; refine (can_any _ _).mono ?_; rintro e w' ⟨rfl, rfl⟩)
  exact bodyPost_ret (v := .tuple #[vi ki 0, vi ki 0, vi ki 0, vi ki 10]) (by simp [results, Tryz.results126, go_sem]) rfl ⟨rfl, rfl⟩
theorem rdate_no (n : Int) (h : can n = false) (w : World) :
    Calls Tryz.prog 106 #[vi ki n] w fun e w' => e = zr (.tuple #[vi ki 0, vi ki 0, vi ki 0, vi ki 10]) ∧ w' = w := by
  go_enter Tryz.func106, Tryz.ntmps106
  go_wp2_with (go_at_call 147; refine (rcan_any _ _).mono ?_; rintro e w' ⟨rfl, rfl⟩)
  exact bodyPost_ret (v := .tuple #[vi ki 0, vi ki 0, vi ki 0, vi ki 10]) (by simp [results, Tryz.results106, go_sem]) rfl ⟨rfl, rfl⟩
theorem of_can {n : Int} (h : can n = true) : -2453698 ≤ n ∧ n ≤ 106754173 := of_decide_eq_true h
theorem can_year {n y : Int} (h1 : -2453698 ≤ n) (h2 : n ≤ 106754173) (y1 : Cv.S y ≤ n) (y2 : n < Cv.S (y + 1)) : -4718 ≤ y ∧ y ≤ 294282 := by
  have a := S_first
  have b := S_last
  have c : -4718 < y + 1 := Cv.S_lt (by omega)
  have d : y < 294283 := Cv.S_lt (by omega)
  omega
theorem not_rest {n y m d k : Int} (h : Cv.Is n y m d) (k1 : 1 ≤ k) (k2 : k < m) : Cv.cum y (k + 1) ≤ n - Cv.S y := by
  obtain ⟨m1, m2, d1, d2, e⟩ := h
  have := Cv.cum_mono (y := y) (a := k + 1) (b := m) (by omega) (by omega) (by omega)
  omega
theorem is_rest {n y m d : Int} (h : Cv.Is n y m d) : n - Cv.S y < Cv.cum y (m + 1) := by
  obtain ⟨m1, m2, d1, d2, e⟩ := h
  have := Cv.cum_succ y m m1 m2
  omega
theorem date_yes (n y m d : Int) (h : can n = true) (hd : Cv.Is n y m d) (w : World) (hw : Lens w) :
    Calls Tryz.prog 126 #[vi ki n] w fun e w' => e = zr (.tuple #[vi ki y, vi ki m, vi ki d, vi ki 0]) ∧ w' = w := by
  obtain ⟨n1, n2⟩ := of_can h
  obtain ⟨a1, a2⟩ := Cv.is_year hd
  obtain ⟨y1, y2⟩ := can_year n1 n2 a1 a2
  obtain ⟨s1, s2⟩ := S_bd y (by omega) (by omega)
  have m1 := hd.1
  have m2 := hd.2.1
  have ed : Hid (n = Cv.S y + Cv.cum y m + d - 1) := hd.2.2.2.2
  have HD : Hid (Cv.Is n y m d) := hd
  have H1 : Hid (∀ w : World, Calls Tryz.prog 170 #[vi ki n] w fun e w' => e = zr (vi ki y) ∧ w' = w) := fun w => yearOf_any n y (by omega) (by omega) a1 a2 w
  clear hd a2
  go_enter Tryz.func126, Tryz.ntmps126
  go_wp2_with (first | (go_at_call 169; refine (can_any _ _).mono ?_; rintro e w' ⟨rfl, rfl⟩) | (go_at_call 170; refine (H1.out _).mono ?_; rintro e w' ⟨rfl, rfl⟩) | (go_at_call 171; refine (new_any _ (by omega) (by omega) _).mono ?_; rintro e w' ⟨rfl, rfl⟩))
  go_loop [7, 8, 18] (fun p r i => ∃ k : Int, 1 ≤ k ∧ k ≤ m ∧ i = vi ki (k - 1) ∧ p = vi ki k ∧ r = vi ki (n - Cv.S y - Cv.cum y k)) (fun p _ _ => (m - intOf p).toNat)
  case atStart => exact ⟨1, by omega, m1, rfl, rfl, by rw [Cv.cum_one]; go_num⟩
  case round =>
    obtain ⟨k, k1, k2, rfl, rfl, rfl⟩ := hrel
    obtain ⟨c1, c2⟩ := Cv.cum_bd y k
    obtain ⟨l1, l2⟩ := Cv.len_bd y k
    have hc := Cv.cum_succ y k k1 (by omega)
    by_cases hlt : k < m
    · have g := not_rest HD.out k1 hlt
      have t1 : ¬ n - Cv.S y - Cv.cum y k < Cv.len y k := by omega
      have HC : Hid (Cv.cum y (k + 1) = Cv.cum y k + Cv.len y k) := hc
      clear hc g
      go_wp2_with (go_at_call 172; refine (len_any _ _ _ hw).mono ?_; rintro e w' ⟨rfl, rfl⟩)
      go_round
      case rel => exact ⟨k + 1, by omega, by omega, by go_num, rfl, by rw [HC.out]; go_num⟩
      case measure => simp [intOf]; omega
    · obtain rfl : k = m := by omega
      have g := is_rest HD.out
      have t1 : n - Cv.S y - Cv.cum y k < Cv.len y k := by omega
      clear hc g
      by_cases h12 : k - 1 < 11
      · go_wp2_with (go_at_call 172; refine (len_any _ _ _ hw).mono ?_; rintro e w' ⟨rfl, rfl⟩)
        refine bodyPost_ret (v := .tuple #[vi ki y, vi ki k, vi ki (n - Cv.S y - Cv.cum y k + 1), vi ki 0]) (by simp [results, Tryz.results126, go_sem]) rfl ⟨?_, rfl⟩
        exact ret_four rfl rfl (by have := ed.out; omega) rfl
      · go_wp2
        refine bodyPost_ret (v := .tuple #[vi ki y, vi ki k, vi ki (n - Cv.S y - Cv.cum y k + 1), vi ki 0]) (by simp [results, Tryz.results126, go_sem]) rfl ⟨?_, rfl⟩
        exact ret_four rfl rfl (by have := ed.out; omega) rfl
theorem S_zero (c : Int) : Cv.S (2000 + c * 400) = c * 146097 := by
  have := Cv.S_cycle 2000 c
  rw [S_2000, show 2000 + 400 * c = 2000 + c * 400 by omega] at this
  omega
theorem rdate_yes (n y m d : Int) (h : can n = true) (hd : Cv.Is n y m d) (w : World) :
    Calls Tryz.prog 106 #[vi ki n] w fun e w' => e = zr (.tuple #[vi ki y, vi ki m, vi ki d, vi ki 0]) ∧ w' = w := by
  obtain ⟨n1, n2⟩ := of_can h
  obtain ⟨a1, a2⟩ := Cv.is_year hd
  obtain ⟨y1, y2⟩ := can_year n1 n2 a1 a2
  obtain ⟨s1, s2⟩ := S_bd y (by omega) (by omega)
  have m1 := hd.1
  have m2 := hd.2.1
  have ed : Hid (n = Cv.S y + Cv.cum y m + d - 1) := hd.2.2.2.2
  have HD : Hid (Cv.Is n y m d) := hd
  have A : Hid (Cv.S y ≤ n ∧ n < Cv.S (y + 1)) := ⟨a1, a2⟩
  have hz := S_zero (n / 146097)
  have hm : n % 146097 = n - Cv.S (2000 + n / 146097 * 400) := by omega
  have b0 : Cv.S (2000 + n / 146097 * 400) ≤ n := by omega
  have b1 : 2000 + n / 146097 * 400 ≤ y := by
    have := Cv.S_lt (y := 2000 + n / 146097 * 400) (z := y + 1) (by omega)
    omega
  have q1 : -20 ≤ n / 146097 := by omega
  have q2 : n / 146097 ≤ 800 := by omega
  have H1 : Hid (∀ w : World, Calls Tryz.prog 148 #[vi ki n, vi ki 146097] w fun e w' => e = zr (vi ki (n / 146097)) ∧ w' = w) := fun w => rdiv_any n 146097 (by omega) (by omega) (by decide) (by decide) w
  have H2 : Hid (∀ w : World, Calls Tryz.prog 112 #[vi ki n, vi ki 146097] w fun e w' => e = zr (vi ki (n - Cv.S (2000 + n / 146097 * 400))) ∧ w' = w) := by
    intro w; rw [← hm]; exact rmod_any n 146097 (by decide) (by decide) w
  generalize n / 146097 = c at *
  clear hd a1 a2 hz hm
  go_enter Tryz.func106, Tryz.ntmps106
  go_wp2_with (first | (go_at_call 147; refine (rcan_any _ _).mono ?_; rintro e w' ⟨rfl, rfl⟩) | (go_at_call 148; refine (H1.out _).mono ?_; rintro e w' ⟨rfl, rfl⟩) | (go_at_call 112; refine (H2.out _).mono ?_; rintro e w' ⟨rfl, rfl⟩))
  go_loop [6, 7] (fun p r => ∃ z : Int, -6000 ≤ z ∧ z ≤ y ∧ Cv.S z ≤ n ∧ p = vi ki z ∧ r = vi ki (n - Cv.S z)) (fun p _ => (y - intOf p).toNat)
  case atStart => exact ⟨2000 + c * 400, by omega, b1, b0, rfl, rfl⟩
  case round =>
    obtain ⟨z, z0, z1, z2, rfl, rfl⟩ := hrel
    clear b0 b1 q1 q2
    obtain ⟨t1, t2⟩ := S_bd z (by omega) (by omega)
    have hs := Cv.S_succ z
    by_cases hlt : z < y
    · have g : Cv.S (z + 1) ≤ n := Int.le_trans (Cv.S_mono (by omega)) A.out.1
      have HS : Hid (Cv.S (z + 1) = Cv.S z + 365 + Cv.lp z ∧ Cv.S (z + 1) ≤ n) := ⟨hs, g⟩
      cases hl : Cv.leap z
      · have e0 : Hid (Cv.lp z = 0) := lp_false hl
        have t3 : ¬ n - Cv.S z < 365 := by have := e0.out; omega
        clear hs g
        go_wp2_with (go_at_call 149; refine (rleap_any _ _).mono ?_; rintro e w' ⟨rfl, rfl⟩)
        go_round
        case rel => exact ⟨z + 1, by omega, by omega, HS.out.2, rfl, by rw [HS.out.1, e0.out]; go_num⟩
        case measure => simp [intOf]; omega
      · have e0 : Hid (Cv.lp z = 1) := lp_true hl
        have t3 : ¬ n - Cv.S z < 366 := by have := e0.out; omega
        clear hs g
        go_wp2_with (go_at_call 149; refine (rleap_any _ _).mono ?_; rintro e w' ⟨rfl, rfl⟩)
        go_round
        case rel => exact ⟨z + 1, by omega, by omega, HS.out.2, rfl, by rw [HS.out.1, e0.out]; go_num⟩
        case measure => simp [intOf]; omega
    · obtain rfl : z = y := by omega
      have g := A.out.2
      have t3 : n - Cv.S z < 365 + Cv.lp z := by omega
      have lb := Cv.lp_01 z
      cases hl : Cv.leap z
      all_goals
        first
          | (have e0 : Cv.lp z = 0 := lp_false hl; have t4 : n - Cv.S z < 365 := by omega
             clear e0)
          | (have e0 : Cv.lp z = 1 := lp_true hl; have t4 : n - Cv.S z < 366 := by omega
             clear e0)
        clear hs g t3 lb
        go_wp2_with (go_at_call 149; refine (rleap_any _ _).mono ?_; rintro e w' ⟨rfl, rfl⟩)
        go_loop [9, 7] (fun p r => ∃ k : Int, 1 ≤ k ∧ k ≤ m ∧ p = vi ki k ∧ r = vi ki (n - Cv.S z - Cv.cum z k)) (fun p _ => (m - intOf p).toNat)
        case atStart => exact ⟨1, by omega, m1, rfl, by rw [Cv.cum_one]; go_num⟩
        case round =>
          obtain ⟨k, k1, k2, rfl, rfl⟩ := hrel
          obtain ⟨c1, c2⟩ := Cv.cum_bd z k
          obtain ⟨l1, l2⟩ := Cv.len_bd z k
          have hc := Cv.cum_succ z k k1 (by omega)
          by_cases hlt : k < m
          · have g := not_rest HD.out k1 hlt
            have t5 : Cv.len z k ≤ n - Cv.S z - Cv.cum z k := by omega
            have HC : Hid (Cv.cum z (k + 1) = Cv.cum z k + Cv.len z k) := hc
            clear hc g
            go_wp2_with (go_at_call 150; refine (rlen_any _ _ _).mono ?_; rintro e w' ⟨rfl, rfl⟩)
            go_round
            case rel => exact ⟨k + 1, by omega, by omega, rfl, by rw [HC.out]; go_num⟩
            case measure => simp [intOf]; omega
          · obtain rfl : k = m := by omega
            have g := is_rest HD.out
            have t5 : ¬ Cv.len z k ≤ n - Cv.S z - Cv.cum z k := by omega
            clear hc g
            go_wp2_with (go_at_call 150; refine (rlen_any _ _ _).mono ?_; rintro e w' ⟨rfl, rfl⟩)
            refine bodyPost_ret (v := .tuple #[vi ki z, vi ki k, vi ki (n - Cv.S z - Cv.cum z k + 1), vi ki 0]) (by simp [results, Tryz.results106, go_sem]) rfl ⟨?_, rfl⟩
            exact ret_four rfl rfl (by have := ed.out; omega) rfl
end Go.Proofs.YtklehbmghjcmaaaGreatDoor.Cvl
namespace Go.Proofs.YtklehbmghjcmaaaGreatDoor.Cvl
open Go.RowKit
theorem wd_fold (n : Int) : (n % 7 + 6) % 7 = (n + 6) % 7 := by omega
theorem wd_t (n : Int) : (n.tmod 7 + 7 + 6) % 7 = (n + 6) % 7 ∧ -6 ≤ n.tmod 7 ∧ n.tmod 7 ≤ 6 := by
  have bd := Nm.tmod_bd (a := n) (b := 7) (by decide)
  by_cases h : n.tmod 7 < 0
  · have := mod_up (a := n) (b := 7) (by decide) h; omega
  · have := mod_same (a := n) (b := 7) (by decide) h; omega
theorem weekday_any (n : Int) (w : World) :
    Calls Tryz.prog 191 #[vi ki n] w fun e w' => e = zr (vi ki ((n + 6) % 7)) ∧ w' = w := by
  obtain ⟨e1, l1, l2⟩ := wd_t n
  have E1 : Hid ((n.tmod 7 + 7 + 6) % 7 = (n + 6) % 7) := e1
  clear e1
  go_enter Tryz.func191, Tryz.ntmps191
  go_wp2
  go_ret
  exact ⟨ret_int (by have := E1.out; omega), rfl⟩
theorem rweekday_any (n : Int) (w : World) :
    Calls Tryz.prog 64 #[vi ki n] w fun e w' => e = zr (vi ki ((n + 6) % 7)) ∧ w' = w := by
  have l1 : 0 ≤ n % 7 := by omega
  have l2 : n % 7 < 7 := by omega
  have E1 : Hid ((n % 7 + 6) % 7 = (n + 6) % 7) := wd_fold n
  go_enter Tryz.func64, Tryz.ntmps64
  go_wp2_with (go_at_call 112; refine (rmod_any _ _ (by decide) (by decide) _).mono ?_; rintro e w' ⟨rfl, rfl⟩)
  go_ret
  exact ⟨ret_int (by have := E1.out; omega), rfl⟩
end Go.Proofs.YtklehbmghjcmaaaGreatDoor.Cvl
namespace Go.Proofs.YtklehbmghjcmaaaGreatDoor.Cvl
open Go.RowKit
end Go.Proofs.YtklehbmghjcmaaaGreatDoor.Cvl
namespace Go.Proofs.YtklehbmghjcmaaaGreatDoor.Cvl
open Go.RowKit
def dayV (y m d : Int) : Int := if right y m d = true then Cv.S y + Cv.cum y m + d - 1 else 0
def dayE (y m d : Int) : Int := if right y m d = true then 0 else 10
theorem day_no {y m d : Int} (h : right y m d = false) : dayV y m d = 0 ∧ dayE y m d = 10 := by unfold dayV dayE; rw [h]; exact ⟨rfl, rfl⟩
theorem day_yes {y m d : Int} (h : right y m d = true) : dayV y m d = Cv.S y + Cv.cum y m + d - 1 ∧ dayE y m d = 0 := by unfold dayV dayE; rw [h]; exact ⟨rfl, rfl⟩
theorem days_any (y m d : Int) (w : World) (hw : Lens w) :
    Calls Tryz.prog 192 #[vi ki y, vi ki m, vi ki d] w fun e w' => e = zr (.tuple #[vi ki (dayV y m d), vi ki (dayE y m d)]) ∧ w' = w := by
  cases h : right y m d
  · rw [(day_no h).1, (day_no h).2]; exact days_no y m d h w hw
  · rw [(day_yes h).1, (day_yes h).2]; exact days_yes y m d h w hw
theorem rdays_any (y m d : Int) (w : World) :
    Calls Tryz.prog 114 #[vi ki y, vi ki m, vi ki d] w fun e w' => e = zr (.tuple #[vi ki (dayV y m d), vi ki (dayE y m d)]) ∧ w' = w := by
  cases h : right y m d
  · rw [(day_no h).1, (day_no h).2]; exact rdays_no y m d h w
  · rw [(day_yes h).1, (day_yes h).2]; exact rdays_yes y m d h w
def cut (d l : Int) : Int := if d ≤ l then d else l
theorem cut_le {d l : Int} (h : d ≤ l) : cut d l = d := if_pos h
theorem cut_gt {d l : Int} (h : ¬ d ≤ l) : cut d l = l := if_neg h
def shV (y m d k : Int) : Int := dayV ((12 * y + m - 1 + k) / 12) ((12 * y + m - 1 + k) % 12 + 1) (cut d (Cv.len ((12 * y + m - 1 + k) / 12) ((12 * y + m - 1 + k) % 12 + 1)))
def shE (y m d k : Int) : Int := dayE ((12 * y + m - 1 + k) / 12) ((12 * y + m - 1 + k) % 12 + 1) (cut d (Cv.len ((12 * y + m - 1 + k) / 12) ((12 * y + m - 1 + k) % 12 + 1)))
theorem sh_out {y m d k : Int} (h : (12 * y + m - 1 + k) / 12 < -4718 ∨ 294282 < (12 * y + m - 1 + k) / 12) : shV y m d k = 0 ∧ shE y m d k = 10 := by
  unfold shV shE
  exact day_no (right_no (by omega))
theorem shift_far (n y m d k : Int) (h : can n = true) (hd : Cv.Is n y m d) (k1 : k ≤ -3588012 ∨ 3588012 ≤ k) (w : World) (hw : Lens w) :
    Calls Tryz.prog 187 #[vi ki n, vi ki k] w fun e w' => e = zr (.tuple #[vi ki 0, vi ki 10]) ∧ w' = w := by
  have H1 : Hid (∀ w : World, Lens w → Calls Tryz.prog 126 #[vi ki n] w fun e w' => e = zr (.tuple #[vi ki y, vi ki m, vi ki d, vi ki 0]) ∧ w' = w) := fun w hw => date_yes n y m d h hd w hw
  clear hd h
  rcases k1 with k1 | k1
  · go_enter Tryz.func187, Tryz.ntmps187
    go_wp2_with fail
    refine (H1.out _ hw).mono ?_
    rintro e w1 ⟨rfl, rfl⟩
    go_wp2
    go_ret2
    exact ⟨rfl, rfl⟩
  · have k2 : ¬ k ≤ -3588012 := by omega
    go_enter Tryz.func187, Tryz.ntmps187
    go_wp2_with fail
    refine (H1.out _ hw).mono ?_
    rintro e w1 ⟨rfl, rfl⟩
    go_wp2
    go_ret2
    exact ⟨rfl, rfl⟩
theorem shift_low (n y m d k : Int) (h : can n = true) (hd : Cv.Is n y m d) (k1 : ¬ k ≤ -3588012) (k2 : ¬ 3588012 ≤ k) (k3 : (y + 4718) * 12 + m - 1 + k < 0) (w : World) (hw : Lens w) :
    Calls Tryz.prog 187 #[vi ki n, vi ki k] w fun e w' => e = zr (.tuple #[vi ki 0, vi ki 10]) ∧ w' = w := by
  obtain ⟨n1, n2⟩ := of_can h
  obtain ⟨b1, b2⟩ := Cv.is_year hd
  obtain ⟨y1, y2⟩ := can_year n1 n2 b1 b2
  have m1 := hd.1
  have m2 := hd.2.1
  have H1 : Hid (∀ w : World, Lens w → Calls Tryz.prog 126 #[vi ki n] w fun e w' => e = zr (.tuple #[vi ki y, vi ki m, vi ki d, vi ki 0]) ∧ w' = w) := fun w hw => date_yes n y m d h hd w hw
  clear b1 b2 hd h
  go_enter Tryz.func187, Tryz.ntmps187
  go_wp2_with fail
  refine (H1.out _ hw).mono ?_
  rintro e w1 ⟨rfl, rfl⟩
  go_wp2_with fail
  go_ret2
  exact ⟨rfl, rfl⟩
theorem shift_in (n y m d k Y M : Int) (h : can n = true) (hd : Cv.Is n y m d) (k1 : ¬ k ≤ -3588012) (k2 : ¬ 3588012 ≤ k) (k3 : ¬ (y + 4718) * 12 + m - 1 + k < 0)
    (eY : -4718 + ((y + 4718) * 12 + m - 1 + k) / 12 = Y) (eM : ((y + 4718) * 12 + m - 1 + k) % 12 + 1 = M) (w : World) (hw : Lens w) :
    Calls Tryz.prog 187 #[vi ki n, vi ki k] w fun e w' => e = zr (.tuple #[vi ki (dayV Y M (cut d (Cv.len Y M))), vi ki (dayE Y M (cut d (Cv.len Y M)))]) ∧ w' = w := by
  obtain ⟨n1, n2⟩ := of_can h
  obtain ⟨b1, b2⟩ := Cv.is_year hd
  obtain ⟨y1, y2⟩ := can_year n1 n2 b1 b2
  have m1 := hd.1
  have m2 := hd.2.1
  have H1 : Hid (∀ w : World, Lens w → Calls Tryz.prog 126 #[vi ki n] w fun e w' => e = zr (.tuple #[vi ki y, vi ki m, vi ki d, vi ki 0]) ∧ w' = w) := fun w hw => date_yes n y m d h hd w hw
  clear b1 b2 hd h
  by_cases hc : d ≤ Cv.len Y M
  · rw [cut_le hc]
    have hmn : min d (Cv.len Y M) = d := Int.min_eq_left hc
    go_enter Tryz.func187, Tryz.ntmps187
    go_wp2_with fail
    refine (H1.out _ hw).mono ?_
    rintro e w1 ⟨rfl, rfl⟩
    go_wp2_with fail
    refine (len_any _ _ _ hw).mono ?_
    rintro e w1 ⟨rfl, rfl⟩
    go_wp2_with fail
    refine (days_any _ _ _ _ hw).mono ?_
    rintro e w1 ⟨rfl, rfl⟩
    go_wp2
    go_ret2
    exact ⟨rfl, rfl⟩
  · rw [cut_gt hc]
    have hmn : min d (Cv.len Y M) = Cv.len Y M := Int.min_eq_right (by omega)
    go_enter Tryz.func187, Tryz.ntmps187
    go_wp2_with fail
    refine (H1.out _ hw).mono ?_
    rintro e w1 ⟨rfl, rfl⟩
    go_wp2_with fail
    refine (len_any _ _ _ hw).mono ?_
    rintro e w1 ⟨rfl, rfl⟩
    go_wp2_with fail
    refine (days_any _ _ _ _ hw).mono ?_
    rintro e w1 ⟨rfl, rfl⟩
    go_wp2
    go_ret2
    exact ⟨rfl, rfl⟩
theorem shift_any (n y m d k : Int) (h : can n = true) (hd : Cv.Is n y m d) (w : World) (hw : Lens w) :
    Calls Tryz.prog 187 #[vi ki n, vi ki k] w fun e w' => e = zr (.tuple #[vi ki (shV y m d k), vi ki (shE y m d k)]) ∧ w' = w := by
  obtain ⟨n1, n2⟩ := of_can h
  obtain ⟨b1, b2⟩ := Cv.is_year hd
  obtain ⟨y1, y2⟩ := can_year n1 n2 b1 b2
  have m1 := hd.1
  have m2 := hd.2.1
  by_cases k1 : k ≤ -3588012 ∨ 3588012 ≤ k
  · have o := sh_out (y := y) (m := m) (d := d) (k := k) (by omega)
    rw [o.1, o.2]; exact shift_far n y m d k h hd k1 w hw
  · by_cases k3 : (y + 4718) * 12 + m - 1 + k < 0
    · have o := sh_out (y := y) (m := m) (d := d) (k := k) (by omega)
      rw [o.1, o.2]; exact shift_low n y m d k h hd (by omega) (by omega) k3 w hw
    · exact shift_in n y m d k _ _ h hd (by omega) (by omega) k3 (by omega) (by omega) w hw
theorem rshift_far (n y m d k : Int) (h : can n = true) (hd : Cv.Is n y m d) (k1 : k < -3600000 ∨ 3600000 < k) (w : World) :
    Calls Tryz.prog 145 #[vi ki n, vi ki k] w fun e w' => e = zr (.tuple #[vi ki 0, vi ki 10]) ∧ w' = w := by
  have H1 : Hid (∀ w : World, Calls Tryz.prog 106 #[vi ki n] w fun e w' => e = zr (.tuple #[vi ki y, vi ki m, vi ki d, vi ki 0]) ∧ w' = w) := fun w => rdate_yes n y m d h hd w
  clear hd h
  rcases k1 with k1 | k1
  · have k2 : ¬ 3600000 < k := by omega
    go_enter Tryz.func145, Tryz.ntmps145
    go_wp2_with fail
    refine (H1.out _).mono ?_
    rintro e w1 ⟨rfl, rfl⟩
    go_wp2
    go_ret2
    exact ⟨rfl, rfl⟩
  · go_enter Tryz.func145, Tryz.ntmps145
    go_wp2_with fail
    refine (H1.out _).mono ?_
    rintro e w1 ⟨rfl, rfl⟩
    go_wp2
    go_ret2
    exact ⟨rfl, rfl⟩
theorem rshift_in (n y m d k Y M : Int) (h : can n = true) (hd : Cv.Is n y m d) (k1 : ¬ k < -3600000) (k2 : ¬ 3600000 < k)
    (eY : Hid ((12 * y + m - 1 + k) / 12 = Y)) (eM : Hid ((12 * y + m - 1 + k) % 12 + 1 = M)) (w : World) :
    Calls Tryz.prog 145 #[vi ki n, vi ki k] w fun e w' => e = zr (.tuple #[vi ki (dayV Y M (cut d (Cv.len Y M))), vi ki (dayE Y M (cut d (Cv.len Y M)))]) ∧ w' = w := by
  obtain ⟨n1, n2⟩ := of_can h
  obtain ⟨b1, b2⟩ := Cv.is_year hd
  obtain ⟨y1, y2⟩ := can_year n1 n2 b1 b2
  have m1 := hd.1
  have m2 := hd.2.1
  have H1 : Hid (∀ w : World, Calls Tryz.prog 106 #[vi ki n] w fun e w' => e = zr (.tuple #[vi ki y, vi ki m, vi ki d, vi ki 0]) ∧ w' = w) := fun w => rdate_yes n y m d h hd w
  obtain ⟨r, hr⟩ : ∃ r, r = (12 * y + m - 1 + k) % 12 := ⟨_, rfl⟩
  have r1 : 0 ≤ r := by omega
  have r2 : r < 12 := by omega
  have H2 : Hid (∀ w : World, Calls Tryz.prog 148 #[vi ki (12 * y + m - 1 + k), vi ki 12] w fun e w' => e = zr (vi ki Y) ∧ w' = w) := by
    intro w; rw [← eY.out]; exact rdiv_any _ _ (by omega) (by omega) (by decide) (by decide) w
  have H3 : Hid (∀ w : World, Calls Tryz.prog 112 #[vi ki (12 * y + m - 1 + k), vi ki 12] w fun e w' => e = zr (vi ki r) ∧ w' = w) := by
    intro w; rw [hr]; exact rmod_any _ _ (by decide) (by decide) w
  have eM' : r + 1 = M := by rw [hr]; exact eM.out
  clear b1 b2 hd h hr
  by_cases hc : d ≤ Cv.len Y M
  · rw [cut_le hc]
    have hc' : ¬ Cv.len Y M < d := by omega
    go_enter Tryz.func145, Tryz.ntmps145
    go_wp2_with fail
    refine (H1.out _).mono ?_
    rintro e w1 ⟨rfl, rfl⟩
    go_wp2_with fail
    refine (H2.out _).mono ?_
    rintro e w1 ⟨rfl, rfl⟩
    go_wp2_with fail
    refine (H3.out _).mono ?_
    rintro e w1 ⟨rfl, rfl⟩
    go_wp2_with fail
    refine (rlen_any _ _ _).mono ?_
    rintro e w1 ⟨rfl, rfl⟩
    go_wp2_with fail
    refine (rdays_any _ _ _ _).mono ?_
    rintro e w1 ⟨rfl, rfl⟩
    go_wp2
    go_ret2
    exact ⟨rfl, rfl⟩
  · rw [cut_gt hc]
    have hc' : Cv.len Y M < d := by omega
    go_enter Tryz.func145, Tryz.ntmps145
    go_wp2_with fail
    refine (H1.out _).mono ?_
    rintro e w1 ⟨rfl, rfl⟩
    go_wp2_with fail
    refine (H2.out _).mono ?_
    rintro e w1 ⟨rfl, rfl⟩
    go_wp2_with fail
    refine (H3.out _).mono ?_
    rintro e w1 ⟨rfl, rfl⟩
    go_wp2_with fail
    refine (rlen_any _ _ _).mono ?_
    rintro e w1 ⟨rfl, rfl⟩
    go_wp2_with fail
    refine (rlen_any _ _ _).mono ?_
    rintro e w1 ⟨rfl, rfl⟩
    go_wp2_with fail
    refine (rdays_any _ _ _ _).mono ?_
    rintro e w1 ⟨rfl, rfl⟩
    go_wp2
    go_ret2
    exact ⟨rfl, rfl⟩
theorem rshift_any (n y m d k : Int) (h : can n = true) (hd : Cv.Is n y m d) (w : World) :
    Calls Tryz.prog 145 #[vi ki n, vi ki k] w fun e w' => e = zr (.tuple #[vi ki (shV y m d k), vi ki (shE y m d k)]) ∧ w' = w := by
  obtain ⟨n1, n2⟩ := of_can h
  obtain ⟨b1, b2⟩ := Cv.is_year hd
  obtain ⟨y1, y2⟩ := can_year n1 n2 b1 b2
  have m1 := hd.1
  have m2 := hd.2.1
  by_cases k1 : k < -3600000 ∨ 3600000 < k
  · have o := sh_out (y := y) (m := m) (d := d) (k := k) (by omega)
    rw [o.1, o.2]; exact rshift_far n y m d k h hd k1 w
  · exact rshift_in n y m d k _ _ h hd (by omega) (by omega) rfl rfl w
end Go.Proofs.YtklehbmghjcmaaaGreatDoor.Cvl
