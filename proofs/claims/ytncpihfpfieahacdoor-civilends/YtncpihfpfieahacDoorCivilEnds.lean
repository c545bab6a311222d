/- The last day of a year is its 365th or 366th and the next one the first of the next year; a month's first day less one is the last one of the month ahead: CivilEnds returns true for every two int64s, where the table of lengths is as the program's text lays it. -/
import Derived.Test.YtncpihfpfieahacDoorRows
import Derived.Test.YtncpihfpfieahacDoorCards
import Derived.Test.YtncpihfpfieahacDoorTie
import Derived.WalkKit
import Derived.ProofKit
import Derived.LaidMore
import Derived.OpenShut
import Derived.Stop.Joined
import Derived.Lib.LaidTab
import Derived.SevenTiedAt
import Derived.Test.YtncpihfpfieahacDoorCivK
import Derived.Test.YtncpihfpfieahacDoorCivH
namespace Go.Proofs.YtncpihfpfieahacDoor.civilEnds
open Go.ChangeShapes Go.WideShapes Go.ChangeAt Go.WideMaps Go.WideElems Go.RowKit
set_option linter.unusedVariables false

theorem own : ownKnob Tryd.prog.godebug = none := by kernel_rfl

theorem gLen : Tryd.prog.globalNamed "computus/civil.lengths" = some 0 := by kernel_rfl
theorem tLen : (Tryd.prog.globals[0]?).map (·.type) = some 40 := by kernel_rfl
theorem uLen : Tryd.prog.underlying 40 = some (.array 12 2) := by kernel_rfl
/-- what the listed variable gives the walks: the twelve lengths. -/
theorem of_laid {W : World} (h : laidMetH Tryd.prog Rows.civilEndsRow.laid W) : Lens W := by
  rw [MakeChecks.laidMetH_plain _ _ _ (by kernel_rfl)] at h
  have ht := Lib.tabIs_of_head (k := .i64) (zs := tabL) (rest := []) gLen tLen uLen Tryd.underlying2 (by kernel_rfl) (by kernel_rfl) h
  exact fun i hi => ht.cell gLen i hi

theorem door_met (os : Os) (args : Array Value) : laidMetH Tryd.prog Rows.civilEndsRow.laid ((World.doorLaid Tryd.prog 400 os).forCall (fun _ _ => 0) ⟨#[], args, []⟩).memory :=
  laidMetH_of_parts3 (fuel := 8) (laidMet_of_run' 8 (by kernel_rfl) (by kernel_rfl)) (by kernel_rfl) (by kernel_rfl)

set_option maxHeartbeats 1000000 in
theorem walk_out (y m : Int) (w : World) (hw : Lens w) (h : y < -4718 ∨ 294282 ≤ y ∨ m < 1 ∨ 12 < m) :
    Calls Tryd.prog 6 #[.int .i64 y, .int .i64 m] w fun e w' => e = .returned (.bool true) ∧ Below w.heap.size w w' := by
  by_cases h1 : y < -4718
  · clear h
    go_enter Tryd.func6, Tryd.ntmps6
    go_wp2_with fail
    refine (known_any _ hw).mono ?_
    rintro e w1 ⟨rfl, rfl⟩
    go_wp2
    go_ret
    exact ⟨rfl, Below.refl _ _⟩
  · by_cases h2 : 294282 ≤ y
    · clear h
      go_enter Tryd.func6, Tryd.ntmps6
      go_wp2_with fail
      refine (known_any _ hw).mono ?_
      rintro e w1 ⟨rfl, rfl⟩
      go_wp2
      go_ret
      exact ⟨rfl, Below.refl _ _⟩
    · by_cases h3 : m < 1
      · clear h
        go_enter Tryd.func6, Tryd.ntmps6
        go_wp2_with fail
        refine (known_any _ hw).mono ?_
        rintro e w1 ⟨rfl, rfl⟩
        go_wp2
        go_ret
        exact ⟨rfl, Below.refl _ _⟩
      · have h4 : 12 < m := by omega
        clear h
        go_enter Tryd.func6, Tryd.ntmps6
        go_wp2_with fail
        refine (known_any _ hw).mono ?_
        rintro e w1 ⟨rfl, rfl⟩
        go_wp2
        go_ret
        exact ⟨rfl, Below.refl _ _⟩

set_option maxHeartbeats 1000000 in
theorem walk_first (y m a b long : Int) (hy : y = -4718) (hm : m = 1)
    (y1 : -4718 ≤ y) (y2 : y < 294282) (m1 : 1 ≤ m) (m2 : m ≤ 12) (a1 : -3000000 ≤ a) (a2 : a ≤ 200000000) (b1 : -3000000 ≤ b) (b2 : b ≤ 200000000) (hl : Hid (365 + Cv.lp y = long)) (w : World) (hw : Lens w)
    (H1 : Hid (∀ w : World, Lens w → Calls Tryd.prog 10 #[.int .i64 y, .int .i64 12, .int .i64 31] w fun x w' => x = .returned (.tuple #[.int .i64 a, .int .i64 0]) ∧ w' = w))
    (H2 : Hid (∀ w : World, Calls Tryd.prog 18 #[.int .i64 a] w fun x w' => x = .returned (.tuple #[.int .i64 long, .int .i64 0]) ∧ w' = w))
    (H3 : Hid (∀ w : World, Calls Tryd.prog 18 #[.int .i64 (a + 1)] w fun x w' => x = .returned (.tuple #[.int .i64 1, .int .i64 0]) ∧ w' = w))
    (H4 : Hid (∀ w : World, Lens w → Calls Tryd.prog 10 #[.int .i64 y, .int .i64 m, .int .i64 1] w fun x w' => x = .returned (.tuple #[.int .i64 b, .int .i64 0]) ∧ w' = w))
    (H5 : Hid (∀ w : World, Calls Tryd.prog 7 #[.int .i64 (b - 1)] w fun e w' => e = .returned (.tuple #[.int .i64 0, .int .i64 0, .int .i64 0, .int .i64 10]) ∧ w' = w)) :
    Calls Tryd.prog 6 #[.int .i64 y, .int .i64 m] w fun e w' => e = .returned (.bool true) ∧ Below w.heap.size w w' := by
  subst hy hm
  cases hlp : Cv.leap (-4718)
  · obtain rfl : long = 365 := by have := lp_false hlp; have := hl.out; omega
    clear hl
    go_enter Tryd.func6, Tryd.ntmps6
    go_wp2_with fail
    refine (H1.out _ hw).mono ?_
    rintro e w1 ⟨rfl, rfl⟩
    go_wp2_with fail
    refine (H2.out _).mono ?_
    rintro e w1 ⟨rfl, rfl⟩
    go_wp2_with fail
    refine (H3.out _).mono ?_
    rintro e w1 ⟨rfl, rfl⟩
    go_wp2_with fail
    refine (leap_any _ _).mono ?_
    rintro e w1 ⟨rfl, rfl⟩
    go_wp2_with fail
    refine (H4.out _ hw).mono ?_
    rintro e w1 ⟨rfl, rfl⟩
    go_wp2_with fail
    refine (H5.out _).mono ?_
    rintro e w1 ⟨rfl, rfl⟩
    go_wp2_with fail
    refine (known_any _ hw).mono ?_
    rintro e w1 ⟨rfl, rfl⟩
    go_wp2
    go_ret
    exact ⟨rfl, Below.refl _ _⟩
  · obtain rfl : long = 366 := by have := lp_true hlp; have := hl.out; omega
    clear hl
    go_enter Tryd.func6, Tryd.ntmps6
    go_wp2_with fail
    refine (H1.out _ hw).mono ?_
    rintro e w1 ⟨rfl, rfl⟩
    go_wp2_with fail
    refine (H2.out _).mono ?_
    rintro e w1 ⟨rfl, rfl⟩
    go_wp2_with fail
    refine (H3.out _).mono ?_
    rintro e w1 ⟨rfl, rfl⟩
    go_wp2_with fail
    refine (leap_any _ _).mono ?_
    rintro e w1 ⟨rfl, rfl⟩
    go_wp2_with fail
    refine (H4.out _ hw).mono ?_
    rintro e w1 ⟨rfl, rfl⟩
    go_wp2_with fail
    refine (H5.out _).mono ?_
    rintro e w1 ⟨rfl, rfl⟩
    go_wp2_with fail
    refine (known_any _ hw).mono ?_
    rintro e w1 ⟨rfl, rfl⟩
    go_wp2
    go_ret
    exact ⟨rfl, Below.refl _ _⟩

set_option maxHeartbeats 1000000 in
theorem walk_mon (y m a b long r : Int) (hm : 1 < m) (hr : Hid (r = Cv.len y (m - 1)))
    (y1 : -4718 ≤ y) (y2 : y < 294282) (m1 : 1 ≤ m) (m2 : m ≤ 12) (a1 : -3000000 ≤ a) (a2 : a ≤ 200000000) (b1 : -3000000 ≤ b) (b2 : b ≤ 200000000) (hl : Hid (365 + Cv.lp y = long)) (w : World) (hw : Lens w)
    (H1 : Hid (∀ w : World, Lens w → Calls Tryd.prog 10 #[.int .i64 y, .int .i64 12, .int .i64 31] w fun x w' => x = .returned (.tuple #[.int .i64 a, .int .i64 0]) ∧ w' = w))
    (H2 : Hid (∀ w : World, Calls Tryd.prog 18 #[.int .i64 a] w fun x w' => x = .returned (.tuple #[.int .i64 long, .int .i64 0]) ∧ w' = w))
    (H3 : Hid (∀ w : World, Calls Tryd.prog 18 #[.int .i64 (a + 1)] w fun x w' => x = .returned (.tuple #[.int .i64 1, .int .i64 0]) ∧ w' = w))
    (H4 : Hid (∀ w : World, Lens w → Calls Tryd.prog 10 #[.int .i64 y, .int .i64 m, .int .i64 1] w fun x w' => x = .returned (.tuple #[.int .i64 b, .int .i64 0]) ∧ w' = w))
    (H5 : Hid (∀ w : World, Lens w → Calls Tryd.prog 7 #[.int .i64 (b - 1)] w fun e w' => e = .returned (.tuple #[.int .i64 y, .int .i64 (m - 1), .int .i64 r, .int .i64 0]) ∧ w' = w)) :
    Calls Tryd.prog 6 #[.int .i64 y, .int .i64 m] w fun e w' => e = .returned (.bool true) ∧ Below w.heap.size w w' := by
  have H6 : Hid (∀ w : World, Lens w → Calls Tryd.prog 13 #[.int .i64 y, .int .i64 (m - 1)] w fun x w' => x = .returned (.int .i64 r) ∧ w' = w) := by
    intro w hw; rw [hr.out]; exact len_any _ _ w hw
  cases hlp : Cv.leap y
  · obtain rfl : long = 365 := by have := lp_false hlp; have := hl.out; omega
    clear hl
    go_enter Tryd.func6, Tryd.ntmps6
    go_wp2_with fail
    refine (H1.out _ hw).mono ?_
    rintro e w1 ⟨rfl, rfl⟩
    go_wp2_with fail
    refine (H2.out _).mono ?_
    rintro e w1 ⟨rfl, rfl⟩
    go_wp2_with fail
    refine (H3.out _).mono ?_
    rintro e w1 ⟨rfl, rfl⟩
    go_wp2_with fail
    refine (leap_any _ _).mono ?_
    rintro e w1 ⟨rfl, rfl⟩
    go_wp2_with fail
    refine (H4.out _ hw).mono ?_
    rintro e w1 ⟨rfl, rfl⟩
    go_wp2_with fail
    refine (H5.out _ hw).mono ?_
    rintro e w1 ⟨rfl, rfl⟩
    go_wp2_with fail
    refine (H6.out _ hw).mono ?_
    rintro e w1 ⟨rfl, rfl⟩
    go_wp2_with fail
    refine (known_any _ hw).mono ?_
    rintro e w1 ⟨rfl, rfl⟩
    go_wp2
    go_ret
    exact ⟨rfl, Below.refl _ _⟩
  · obtain rfl : long = 366 := by have := lp_true hlp; have := hl.out; omega
    clear hl
    go_enter Tryd.func6, Tryd.ntmps6
    go_wp2_with fail
    refine (H1.out _ hw).mono ?_
    rintro e w1 ⟨rfl, rfl⟩
    go_wp2_with fail
    refine (H2.out _).mono ?_
    rintro e w1 ⟨rfl, rfl⟩
    go_wp2_with fail
    refine (H3.out _).mono ?_
    rintro e w1 ⟨rfl, rfl⟩
    go_wp2_with fail
    refine (leap_any _ _).mono ?_
    rintro e w1 ⟨rfl, rfl⟩
    go_wp2_with fail
    refine (H4.out _ hw).mono ?_
    rintro e w1 ⟨rfl, rfl⟩
    go_wp2_with fail
    refine (H5.out _ hw).mono ?_
    rintro e w1 ⟨rfl, rfl⟩
    go_wp2_with fail
    refine (H6.out _ hw).mono ?_
    rintro e w1 ⟨rfl, rfl⟩
    go_wp2_with fail
    refine (known_any _ hw).mono ?_
    rintro e w1 ⟨rfl, rfl⟩
    go_wp2
    go_ret
    exact ⟨rfl, Below.refl _ _⟩

set_option maxHeartbeats 1000000 in
theorem walk_year (y m a b long r : Int) (hy : -4718 < y) (hm : m = 1) (hr : Hid (r = Cv.len (y - 1) 12))
    (y1 : -4718 ≤ y) (y2 : y < 294282) (m1 : 1 ≤ m) (m2 : m ≤ 12) (a1 : -3000000 ≤ a) (a2 : a ≤ 200000000) (b1 : -3000000 ≤ b) (b2 : b ≤ 200000000) (hl : Hid (365 + Cv.lp y = long)) (w : World) (hw : Lens w)
    (H1 : Hid (∀ w : World, Lens w → Calls Tryd.prog 10 #[.int .i64 y, .int .i64 12, .int .i64 31] w fun x w' => x = .returned (.tuple #[.int .i64 a, .int .i64 0]) ∧ w' = w))
    (H2 : Hid (∀ w : World, Calls Tryd.prog 18 #[.int .i64 a] w fun x w' => x = .returned (.tuple #[.int .i64 long, .int .i64 0]) ∧ w' = w))
    (H3 : Hid (∀ w : World, Calls Tryd.prog 18 #[.int .i64 (a + 1)] w fun x w' => x = .returned (.tuple #[.int .i64 1, .int .i64 0]) ∧ w' = w))
    (H4 : Hid (∀ w : World, Lens w → Calls Tryd.prog 10 #[.int .i64 y, .int .i64 m, .int .i64 1] w fun x w' => x = .returned (.tuple #[.int .i64 b, .int .i64 0]) ∧ w' = w))
    (H5 : Hid (∀ w : World, Lens w → Calls Tryd.prog 7 #[.int .i64 (b - 1)] w fun e w' => e = .returned (.tuple #[.int .i64 (y - 1), .int .i64 12, .int .i64 r, .int .i64 0]) ∧ w' = w)) :
    Calls Tryd.prog 6 #[.int .i64 y, .int .i64 m] w fun e w' => e = .returned (.bool true) ∧ Below w.heap.size w w' := by
  have H6 : Hid (∀ w : World, Lens w → Calls Tryd.prog 13 #[.int .i64 (y - 1), .int .i64 12] w fun x w' => x = .returned (.int .i64 r) ∧ w' = w) := by
    intro w hw; rw [hr.out]; exact len_any _ _ w hw
  subst hm
  have t1 : ((12 : Int) == 0) = false := rfl
  cases hlp : Cv.leap y
  · obtain rfl : long = 365 := by have := lp_false hlp; have := hl.out; omega
    clear hl
    go_enter Tryd.func6, Tryd.ntmps6
    go_wp2_with fail
    refine (H1.out _ hw).mono ?_
    rintro e w1 ⟨rfl, rfl⟩
    go_wp2_with fail
    refine (H2.out _).mono ?_
    rintro e w1 ⟨rfl, rfl⟩
    go_wp2_with fail
    refine (H3.out _).mono ?_
    rintro e w1 ⟨rfl, rfl⟩
    go_wp2_with fail
    refine (leap_any _ _).mono ?_
    rintro e w1 ⟨rfl, rfl⟩
    go_wp2_with fail
    refine (H4.out _ hw).mono ?_
    rintro e w1 ⟨rfl, rfl⟩
    go_wp2_with fail
    refine (H5.out _ hw).mono ?_
    rintro e w1 ⟨rfl, rfl⟩
    go_wp2_with fail
    refine (H6.out _ hw).mono ?_
    rintro e w1 ⟨rfl, rfl⟩
    go_wp2_with fail
    refine (known_any _ hw).mono ?_
    rintro e w1 ⟨rfl, rfl⟩
    go_wp2
    go_ret
    exact ⟨rfl, Below.refl _ _⟩
  · obtain rfl : long = 366 := by have := lp_true hlp; have := hl.out; omega
    clear hl
    go_enter Tryd.func6, Tryd.ntmps6
    go_wp2_with fail
    refine (H1.out _ hw).mono ?_
    rintro e w1 ⟨rfl, rfl⟩
    go_wp2_with fail
    refine (H2.out _).mono ?_
    rintro e w1 ⟨rfl, rfl⟩
    go_wp2_with fail
    refine (H3.out _).mono ?_
    rintro e w1 ⟨rfl, rfl⟩
    go_wp2_with fail
    refine (leap_any _ _).mono ?_
    rintro e w1 ⟨rfl, rfl⟩
    go_wp2_with fail
    refine (H4.out _ hw).mono ?_
    rintro e w1 ⟨rfl, rfl⟩
    go_wp2_with fail
    refine (H5.out _ hw).mono ?_
    rintro e w1 ⟨rfl, rfl⟩
    go_wp2_with fail
    refine (H6.out _ hw).mono ?_
    rintro e w1 ⟨rfl, rfl⟩
    go_wp2_with fail
    refine (known_any _ hw).mono ?_
    rintro e w1 ⟨rfl, rfl⟩
    go_wp2
    go_ret
    exact ⟨rfl, Below.refl _ _⟩

theorem walk (a0 a1 : Int) (w0 : (Lit.int .i64 a0).wf = true) (w1 : (Lit.int .i64 a1).wf = true) (w : World) (hw : Lens w) :
    Calls Tryd.prog 6 #[.int .i64 a0, .int .i64 a1] w fun e w' => e = .returned (.bool true) ∧ Below w.heap.size w w' := by
  by_cases h : a0 < -4718 ∨ 294282 ≤ a0 ∨ a1 < 1 ∨ 12 < a1
  · exact walk_out a0 a1 w hw h
  · have y1 : -4718 ≤ a0 := by omega
    have y2 : a0 < 294282 := by omega
    have m1 : 1 ≤ a1 := by omega
    have m2 : a1 ≤ 12 := by omega
    have l12 : Cv.len a0 12 = 31 := by simp [Cv.len]
    have r12 : right a0 12 31 = true := right_yes ⟨y1, by omega, by omega, by omega⟩
    have lm := Cv.len_01 a0 a1 m1 m2
    have rm : right a0 a1 1 = true := right_yes ⟨y1, by omega, by omega, by omega⟩
    obtain ⟨i12, c12⟩ := right_is r12
    obtain ⟨im, cm⟩ := right_is rm
    have s := Cv.S_succ a0
    have lp := Cv.lp_01 a0
    have cs := Cv.cum_succ a0 12 (by omega) (by omega)
    rw [show (12 : Int) + 1 = 13 by omega, Cv.cum_all, l12] at cs
    have e12 : Cv.S a0 + Cv.cum a0 12 + 31 - 1 = Cv.S (a0 + 1) - 1 := by omega
    obtain ⟨a, ha⟩ : ∃ a, Cv.S a0 + Cv.cum a0 12 + 31 - 1 = a := ⟨_, rfl⟩
    obtain ⟨b, hb⟩ : ∃ b, Cv.S a0 + Cv.cum a0 a1 + 1 - 1 = b := ⟨_, rfl⟩
    rw [ha] at i12 c12 e12
    rw [hb] at im cm
    have s1 := Cv.S_succ (a0 + 1)
    have lp1 := Cv.lp_01 (a0 + 1)
    obtain ⟨n1, n2⟩ := of_can c12
    obtain ⟨n3, n4⟩ := of_can cm
    have ca : can (a + 1) = true := by
      have := Cv.S_mono (y := a0 + 1 + 1) (z := 294283) (by omega)
      rw [S_last] at this
      exact can_yes (by omega) (by omega)
    have H1 := fun (w : World) (hw : Lens w) => kd a0 12 31 a r12 ha w hw
    have H2 : ∀ w : World, Calls Tryd.prog 18 #[.int .i64 a] w fun x w' => x = .returned (.tuple #[.int .i64 (365 + Cv.lp a0), .int .i64 0]) ∧ w' = w := by
      intro w
      have := yday_yes a a0 c12 (by omega) (by omega) w
      rw [show a - Cv.S a0 + 1 = 365 + Cv.lp a0 by omega] at this
      exact this
    have H3 : ∀ w : World, Calls Tryd.prog 18 #[.int .i64 (a + 1)] w fun x w' => x = .returned (.tuple #[.int .i64 1, .int .i64 0]) ∧ w' = w := by
      intro w
      have := yday_yes (a + 1) (a0 + 1) ca (by omega) (by omega) w
      rw [show a + 1 - Cv.S (a0 + 1) + 1 = 1 by omega] at this
      exact this
    have H4 := fun (w : World) (hw : Lens w) => kd a0 a1 1 b rm hb w hw
    by_cases hm : 1 < a1
    · have c := Cv.cum_succ a0 (a1 - 1) (by omega) (by omega)
      rw [show a1 - 1 + 1 = a1 by omega] at c
      have l := Cv.len_01 a0 (a1 - 1) (by omega) (by omega)
      have cu := Cv.cum_bd a0 (a1 - 1)
      have hi : Cv.Is (b - 1) a0 (a1 - 1) (Cv.len a0 (a1 - 1)) := ⟨by omega, by omega, by omega, by omega, by omega⟩
      have f := Cv.S_mono (y := -4718) (z := a0) y1
      rw [S_first] at f
      have cb : can (b - 1) = true := can_yes (by omega) (by omega)
      exact walk_mon a0 a1 a b _ _ hm rfl y1 y2 m1 m2 (by omega) (by omega) (by omega) (by omega) rfl w hw H1 H2 H3 H4 (fun w hw => date_yes _ _ _ _ cb hi w hw)
    · have hm1 : a1 = 1 := by omega
      have c1 := Cv.cum_one a0
      rw [hm1, c1] at hb
      by_cases hy : -4718 < a0
      · have sy := Cv.S_succ (a0 - 1)
        rw [show a0 - 1 + 1 = a0 by omega] at sy
        have l : Cv.len (a0 - 1) 12 = 31 := by simp [Cv.len]
        have c := Cv.cum_succ (a0 - 1) 12 (by omega) (by omega)
        rw [show (12 : Int) + 1 = 13 by omega, Cv.cum_all, l] at c
        have hi : Cv.Is (b - 1) (a0 - 1) 12 (Cv.len (a0 - 1) 12) := ⟨by omega, by omega, by omega, by omega, by omega⟩
        have f := Cv.S_mono (y := -4718) (z := a0 - 1) (by omega)
        rw [S_first] at f
        have lp0 := Cv.lp_01 (a0 - 1)
        have cb : can (b - 1) = true := can_yes (by omega) (by omega)
        exact walk_year a0 a1 a b _ _ hy hm1 rfl y1 y2 m1 m2 (by omega) (by omega) (by omega) (by omega) rfl w hw H1 H2 H3 H4 (fun w hw => date_yes _ _ _ _ cb hi w hw)
      · have hy1 : a0 = -4718 := by omega
        rw [hy1, S_first] at hb
        exact walk_first a0 a1 a b _ hy1 hm1 y1 y2 m1 m2 (by omega) (by omega) (by omega) (by omega) rfl w hw H1 H2 H3 H4 (fun w => date_no _ (can_no (by omega)) w)

set_option maxRecDepth 100000 in
theorem lifted (os : Os) (started : os.Started) (H : Type) (enc : TypeId × Value → H) :
    ReturnsInHanded {} Tryd.checked os 6 .any (fun w args => (Rows.civilEndsSpec.pre enc Tryd.prog Tryd.f6 [] false w args ∧ laidMetH Tryd.prog Rows.civilEndsRow.laid w) ∧ sizedMet enc Tryd.prog Tryd.f6 (OpenSpec.ofChange Rows.civilEndsSpec) false w args)
      (Rows.civilEndsSpec.post enc Tryd.prog Tryd.f6 false true false false) := by
  refine returnsInHanded_of_change_and (C := Tryd.checked) (X := fun w _ => laidMetH Tryd.prog Rows.civilEndsRow.laid w) (fun _ _ _ hh h => h.of_heap hh) own started (by kernel_rfl) Tryd.func6
    (ChangeSpec.witness_shaped (enc := enc) (C := Tryd.checked) (os := os) (X := fun w _ => laidMetH Tryd.prog Rows.civilEndsRow.laid w) false (World.doorLaid Tryd.prog 400 os) #[.int .i64 0, .int .i64 0] 8 rfl (World.shaped_of_RefB (by kernel_rfl) (by kernel_rfl)) (by kernel_rfl) (by kernel_rfl) (by kernel_rfl) (door_met os _)) ?_
  intro W base args ds gs before hval0 hW _ _ hL _
  have hval : ∀ (j : Nat) t v, Tryd.f6.params[j]? = some t → args[j]? = some v → Value.okWide Tryd.prog W .any base t v := hval0
  have hW' := hW
  obtain ⟨p, q, hA0, hV, rfl, hfz, hnd⟩ := hW
  have hA : DataW.TrodAll enc Tryd.prog W 0 (fun _ => true) true Tryd.f6.params.toList args.toList ds p := hA0
  rw [Tryd.params6] at hA hval
  obtain ⟨v0, vs0, d0, ds0, p0, q0, hargs, rfl, rfl, h0, r0⟩ := trodAll_cons hA
  obtain ⟨v1, vs1, d1, ds1, p1, q1, rfl, rfl, rfl, h1, r1⟩ := trodAll_cons r0
  obtain ⟨rfl, rfl, rfl⟩ := trodAll_nil r1
  obtain rfl : args = #[v0, v1] := by cases args; simp_all
  obtain ⟨rfl, rfl⟩ := trodVars_none hV
  obtain ⟨a0, rfl, rfl, rfl, w0⟩ := open_int Tryd.underlying2 (hval 0 2 v0 rfl rfl) h0
  obtain ⟨a1, rfl, rfl, rfl, w1⟩ := open_int Tryd.underlying2 (hval 1 2 v1 rfl rfl) h1
  clear hA0 hval0
  simp only [List.append_nil] at hW'
  refine (walk a0 a1 w0 w1 W (of_laid hL)).mono fun e W' ⟨he, hg⟩ => ?_
  subst he
  exact ⟨_, rfl, _, _, _, [], [], [], hW', (trodAll_cons_mk (shut_bool Tryd.underlying4 _) trodAll_mk0), (trodAll_cons_mk (shut_int Tryd.underlying2 w0) (trodAll_cons_mk (shut_int Tryd.underlying2 w1) trodAll_mk0)), rfl, hg.frame _, fun h => by cases h⟩

theorem over : Rows.civilEndsRow.holds Tryd.pinned (OpenSpec.ofChange Rows.civilEndsSpec) :=
  OpenClaim.holds_of_wide 6 Tryd.f6 rfl rfl rfl rfl rfl rfl rfl ⟨rfl, rfl, rfl, rfl, rfl⟩ rfl rfl rfl rfl rfl (by kernel_rfl) Tryd.func6 (by kernel_rfl)
    (of_decide_eq_true (by kernel_rfl)) (by unfold Func.isWrapper; first | (rw [if_pos (by decide +kernel)]; kernel_rfl) | (rw [if_neg (by decide +kernel)]; exact ⟨rfl, rfl⟩))
    (fun os started H enc _ => lifted os started H enc)


theorem proved : Rows.CivilEndsCardSaid :=
  Claim7.holds_tied_plain_at .later [] [.data] true (true, "31f9e0f5730f06514bb473ce12f11faffe47c9f6893aaa077d8ff4a673a2002e") false
    over (fun _ h => by cases h) (by kernel_rfl) (fun _ h => by cases h) civilEnds_row_tie rfl ⟨rfl, rfl⟩ (by kernel_rfl) rfl
    (fun f fn hf hfn => by
      obtain rfl : f = 6 := Option.some.inj ((show Tryd.prog.funcNamed Rows.civilEndsRow.func = some 6 by kernel_rfl).symm.trans hf) |>.symm
      obtain rfl : fn = Tryd.f6 := (Option.some.inj (Tryd.func6.symm.trans hfn)).symm
      exact ⟨by kernel_rfl, fun j t ht => by
        rw [Tryd.params6] at ht
        have hm : t ∈ [2] := by simpa using Array.mem_of_getElem? ht
        have hall : ([2].all fun u => !Tryd.prog.wantsStandIn u) = true := by kernel_rfl
        exact (show Tryd.prog.wantsStandIn t = false by simpa using List.all_eq_true.1 hall t hm)⟩)
    (by kernel_rfl)
end Go.Proofs.YtncpihfpfieahacDoor.civilEnds
