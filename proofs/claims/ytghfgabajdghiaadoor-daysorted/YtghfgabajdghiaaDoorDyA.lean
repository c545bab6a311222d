/- Days that a date may have; day.canBe, and the reference's inside. -/
import Derived.Test.YtghfgabajdghiaaDoorBxA
import Derived.Test.YtghfgabajdghiaaDoorCivG
namespace Go.Proofs.YtghfgabajdghiaaDoor
open Go.RowKit
set_option linter.unusedVariables false

/-- is it a day of a year from -4712 to 294276? -/
def dok (n : Int) : Bool := decide (-2451507 ≤ n ∧ n ≤ 106751982)
theorem dok_yes {n : Int} (h : dok n = true) : -2451507 ≤ n ∧ n ≤ 106751982 := of_decide_eq_true h
theorem dok_no {n : Int} (h : dok n = false) : ¬ (-2451507 ≤ n ∧ n ≤ 106751982) := of_decide_eq_false h
theorem dok_can {n : Int} (h : Cvl.can n = false) : dok n = false := by
  have := of_decide_eq_false h
  exact decide_eq_false (by omega)
theorem can_dok {n : Int} (h : dok n = true) : Cvl.can n = true := by
  have := dok_yes h
  exact Cvl.can_yes (by omega) (by omega)
theorem dok_year {n y m d : Int} (h : Cv.Is n y m d) : dok n = decide (-4712 ≤ y ∧ y ≤ 294276) := by
  obtain ⟨a, b⟩ := Cv.is_year h
  have s1 : Cv.S (-4712) = -2451507 := by decide
  have s2 : Cv.S 294277 = 106751983 := by decide
  unfold dok
  apply decide_eq_decide.2
  constructor
  · rintro ⟨p, q⟩
    constructor
    · by_cases k : -4712 ≤ y
      · exact k
      · have := Cv.S_mono (show y + 1 ≤ -4712 by omega); omega
    · by_cases k : y ≤ 294276
      · exact k
      · have := Cv.S_mono (show 294277 ≤ y by omega); omega
  · rintro ⟨p, q⟩
    have h1 := Cv.S_mono p
    have h2 := Cv.S_mono (show y + 1 ≤ 294277 by omega)
    omega

set_option maxHeartbeats 1000000 in
theorem canBe_any (n : Int) (w : World) (hL : Cvl.Lens w) :
    Calls Tryd.prog 40 #[.int .i64 n] w fun e w' => e = .returned (.bool (dok n)) ∧ w' = w := by
  cases hc : Cvl.can n
  · rw [dok_can hc]
    have D : Hid (∀ w : World, Calls Tryd.prog 38 #[.int .i64 n] w fun e w' => e = .returned (.tuple #[.int .i64 0, .int .i64 0, .int .i64 0, .int .i64 10]) ∧ w' = w) := fun w => Cvl.date_no n hc w
    clear hc hL
    go_enter Tryd.func40, Tryd.ntmps40
    go_wp2_with fail
    refine (D.out _).mono ?_
    rintro e w1 ⟨rfl, rfl⟩
    go_wp2
    go_ret
    exact ⟨rfl, rfl⟩
  · obtain ⟨y, m, d, hd⟩ := Cv.is_date n
    have D : Hid (∀ w : World, Cvl.Lens w → Calls Tryd.prog 38 #[.int .i64 n] w fun e w' => e = .returned (.tuple #[.int .i64 y, .int .i64 m, .int .i64 d, .int .i64 0]) ∧ w' = w) := fun w hw => Cvl.date_yes n y m d hc hd w hw
    rw [dok_year hd]
    have hL' : Hid (Cvl.Lens w) := hL
    clear hc hL hd
    by_cases h1 : -4712 ≤ y
    · by_cases h2 : y ≤ 294276
      · rw [decide_eq_true ⟨h1, h2⟩]
        go_enter Tryd.func40, Tryd.ntmps40
        go_wp2_with fail
        refine (D.out _ hL'.out).mono ?_
        rintro e w1 ⟨rfl, rfl⟩
        go_wp2
        go_ret
        exact ⟨rfl, rfl⟩
      · rw [decide_eq_false (fun k => h2 k.2)]
        go_enter Tryd.func40, Tryd.ntmps40
        go_wp2_with fail
        refine (D.out _ hL'.out).mono ?_
        rintro e w1 ⟨rfl, rfl⟩
        go_wp2
        go_ret
        exact ⟨Cvl.ret_bool (by simp; omega), rfl⟩
    · rw [decide_eq_false (fun k => h1 k.1)]
      go_enter Tryd.func40, Tryd.ntmps40
      go_wp2_with fail
      refine (D.out _ hL'.out).mono ?_
      rintro e w1 ⟨rfl, rfl⟩
      go_wp2
      go_ret
      exact ⟨rfl, rfl⟩

set_option maxHeartbeats 1000000 in
theorem inside_any (n : Int) (w : World) :
    Calls Tryd.prog 37 #[.int .i64 n] w fun e w' => e = .returned (.bool (dok n)) ∧ w' = w := by
  cases hc : Cvl.can n
  · rw [dok_can hc]
    have D : Hid (∀ w : World, Calls Tryd.prog 39 #[.int .i64 n] w fun e w' => e = .returned (.tuple #[.int .i64 0, .int .i64 0, .int .i64 0, .int .i64 10]) ∧ w' = w) := fun w => Cvl.rdate_no n hc w
    clear hc
    go_enter Tryd.func37, Tryd.ntmps37
    go_wp2_with fail
    refine (D.out _).mono ?_
    rintro e w1 ⟨rfl, rfl⟩
    go_wp2
    go_ret
    exact ⟨rfl, rfl⟩
  · obtain ⟨y, m, d, hd⟩ := Cv.is_date n
    have D : Hid (∀ w : World, Calls Tryd.prog 39 #[.int .i64 n] w fun e w' => e = .returned (.tuple #[.int .i64 y, .int .i64 m, .int .i64 d, .int .i64 0]) ∧ w' = w) := fun w => Cvl.rdate_yes n y m d hc hd w
    rw [dok_year hd]
    clear hc hd
    by_cases h1 : -4712 ≤ y
    · by_cases h2 : y ≤ 294276
      · rw [decide_eq_true ⟨h1, h2⟩]
        go_enter Tryd.func37, Tryd.ntmps37
        go_wp2_with fail
        refine (D.out _).mono ?_
        rintro e w1 ⟨rfl, rfl⟩
        go_wp2
        go_ret
        exact ⟨rfl, rfl⟩
      · rw [decide_eq_false (fun k => h2 k.2)]
        go_enter Tryd.func37, Tryd.ntmps37
        go_wp2_with fail
        refine (D.out _).mono ?_
        rintro e w1 ⟨rfl, rfl⟩
        go_wp2
        go_ret
        exact ⟨Cvl.ret_bool (by simp; omega), rfl⟩
    · rw [decide_eq_false (fun k => h1 k.1)]
      go_enter Tryd.func37, Tryd.ntmps37
      go_wp2_with fail
      refine (D.out _).mono ?_
      rintro e w1 ⟨rfl, rfl⟩
      go_wp2
      go_ret
      exact ⟨rfl, rfl⟩

end Go.Proofs.YtghfgabajdghiaaDoor
