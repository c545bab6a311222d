/- DyA, DyB, DyC, as one text. -/
import Derived.Test.YtmohhbgmbicklaaDoorBxZq
import Derived.Test.YtmohhbgmbicklaaDoorCvZq
import Derived.Test.YtmohhbgmbicklaaDoorBxZq
import Derived.Test.YtmohhbgmbicklaaDoorNmZq
import Derived.Test.YtmohhbgmbicklaaDoorBxCq
import Derived.Test.YtmohhbgmbicklaaDoorWiZq
/- Days that a date may have; day.canBe, and the reference's inside. -/
namespace Go.Proofs.YtmohhbgmbicklaaDoor.Dy
open Go.RowKit
set_option linter.unusedVariables false

/-- is it a day of a year from -4712 to 294276? -/
def dok (n : Int) : Bool := decide (-2451507 ≤ n ∧ n ≤ 106751982)
theorem dok_yes {n : Int} (h : dok n = true) : -2451507 ≤ n ∧ n ≤ 106751982 := of_decide_eq_true h
theorem dok_can {n : Int} (h : Cvl.can n = false) : dok n = false := by
  have := of_decide_eq_false h
  exact decide_eq_false (by omega)
theorem can_dok {n : Int} (h : dok n = true) : Cvl.can n = true := by
  have := dok_yes h
  exact Cvl.can_yes (by omega) (by omega)
theorem dok_year {n y m d : Int} (h : Cv.Is n y m d) : dok n = decide (-4712 ≤ y ∧ y ≤ 294276) := by
  obtain ⟨a, b⟩ := Cv.is_year h
  have s1 : Cv.S (-4712) = -2451507 := by decide
  have s2 : Cv.S 294277 = 106751983 := by decide
  unfold dok
  apply decide_eq_decide.2
  constructor
  · rintro ⟨p, q⟩
    constructor
    · by_cases k : -4712 ≤ y
      · exact k
      · have := Cv.S_mono (show y + 1 ≤ -4712 by omega); omega
    · by_cases k : y ≤ 294276
      · exact k
      · have := Cv.S_mono (show 294277 ≤ y by omega); omega
  · rintro ⟨p, q⟩
    have h1 := Cv.S_mono p
    have h2 := Cv.S_mono (show y + 1 ≤ 294277 by omega)
    omega

set_option maxHeartbeats 1000000 in
theorem canBe_any (n : Int) (w : World) (hL : Cvl.Lens w) :
    Calls Tryd.prog 48 #[.int .i64 n] w fun e w' => e = .returned (.bool (dok n)) ∧ w' = w := by
  cases hc : Cvl.can n
  · rw [dok_can hc]
    have D : Hid (∀ w : World, Calls Tryd.prog 56 #[.int .i64 n] w fun e w' => e = .returned (.tuple #[.int .i64 0, .int .i64 0, .int .i64 0, .int .i64 10]) ∧ w' = w) := fun w => Cvl.date_no n hc w
    clear hc hL
    go_enter Tryd.func48, Tryd.ntmps48
    go_wp2_with fail
    refine (D.out _).mono ?_
    rintro e w1 ⟨rfl, rfl⟩
    go_wp2
    go_ret
    exact ⟨rfl, rfl⟩
  · obtain ⟨y, m, d, hd⟩ := Cv.is_date n
    have D : Hid (∀ w : World, Cvl.Lens w → Calls Tryd.prog 56 #[.int .i64 n] w fun e w' => e = .returned (.tuple #[.int .i64 y, .int .i64 m, .int .i64 d, .int .i64 0]) ∧ w' = w) := fun w hw => Cvl.date_yes n y m d hc hd w hw
    rw [dok_year hd]
    have hL' : Hid (Cvl.Lens w) := hL
    clear hc hL hd
    by_cases h1 : -4712 ≤ y
    · by_cases h2 : y ≤ 294276
      · rw [decide_eq_true ⟨h1, h2⟩]
        go_enter Tryd.func48, Tryd.ntmps48
        go_wp2_with fail
        refine (D.out _ hL'.out).mono ?_
        rintro e w1 ⟨rfl, rfl⟩
        go_wp2
        go_ret
        exact ⟨rfl, rfl⟩
      · rw [decide_eq_false (fun k => h2 k.2)]
        go_enter Tryd.func48, Tryd.ntmps48
        go_wp2_with fail
        refine (D.out _ hL'.out).mono ?_
        rintro e w1 ⟨rfl, rfl⟩
        go_wp2
        go_ret
        exact ⟨Cvl.ret_bool (by simp; omega), rfl⟩
    · rw [decide_eq_false (fun k => h1 k.1)]
      go_enter Tryd.func48, Tryd.ntmps48
      go_wp2_with fail
      refine (D.out _ hL'.out).mono ?_
      rintro e w1 ⟨rfl, rfl⟩
      go_wp2
      go_ret
      exact ⟨rfl, rfl⟩

end Go.Proofs.YtmohhbgmbicklaaDoor.Dy

/- day.Right and RightStamp, and the reference's: way by way. -/
namespace Go.Proofs.YtmohhbgmbicklaaDoor.Dy
open Go.RowKit
set_option linter.unusedVariables false

theorem lens_of {w : World} (h : Cvl.Lens w) : Hid (∀ W : World, Below w.heap.size w W → Cvl.Lens W) := fun W hb => Lens_below h hb (Lens_lt h)
theorem ret_bool {a b : Bool} (h : a = b) : Ending.returned (.bool a) = .returned (.bool b) := by rw [h]
/-- can a date be? can a stamp be? -/
def dR (i d : Int) : Bool := if i = 0 then dok d else decide ((i = -1 ∨ i = 1) ∧ d = 0)
theorem dR_0 (d : Int) : dR 0 d = dok d := rfl
theorem dR_1 {i : Int} (h : i ≠ 0) (d : Int) : dR i d = decide ((i = -1 ∨ i = 1) ∧ d = 0) := if_neg h
set_option maxRecDepth 100000 in
set_option maxHeartbeats 4000000 in
theorem right_0 (d : Int) (c : Bool)
    (C : Hid (∀ w : World, Cvl.Lens w → Calls Tryd.prog 48 #[.int .i64 d] w fun r' w' => r' = .returned (.bool c) ∧ w' = w))
    (w : World) (hL : Hid (∀ W : World, Below w.heap.size w W → Cvl.Lens W)) :
    Calls Tryd.prog 41 #[.agg #[.int .i64 0, .int .i64 d]] w fun r' w' => r' = .returned (.bool c) ∧ Below w.heap.size w w' := by
  have K0 : Hid (BS w [(w.heap.size, [.int .i64 0, .int .i64 d])] (w.alloc (.cells #[.int .i64 0, .int .i64 d] 37))) := ((BS.start w).new [.int .i64 0, .int .i64 d] 37 rfl)
  go_enter Tryd.func41, Tryd.ntmps41
  go_wp2_with fail
  refine (C.out _ (hL.out _ K0.out.1)).mono ?_
  rintro e W1 ⟨rfl, rfl⟩
  go_wp2
  go_ret
  exact ⟨rfl, K0.out.1⟩

set_option maxRecDepth 100000 in
set_option maxHeartbeats 4000000 in
theorem right_m0 (d : Int) (hd : d = 0)
    (w : World) :
    Calls Tryd.prog 41 #[.agg #[.int .i64 (-1), .int .i64 0]] w fun r' w' => r' = .returned (.bool true) ∧ Below w.heap.size w w' := by
  have K0 : Hid (BS w [(w.heap.size, [.int .i64 (-1), .int .i64 0])] (w.alloc (.cells #[.int .i64 (-1), .int .i64 0] 37))) := ((BS.start w).new [.int .i64 (-1), .int .i64 0] 37 rfl)
  go_enter Tryd.func41, Tryd.ntmps41
  go_wp2
  go_ret
  exact ⟨rfl, K0.out.1⟩

set_option maxRecDepth 100000 in
set_option maxHeartbeats 4000000 in
theorem right_p0 (d : Int) (hd : d = 0)
    (w : World) :
    Calls Tryd.prog 41 #[.agg #[.int .i64 1, .int .i64 0]] w fun r' w' => r' = .returned (.bool true) ∧ Below w.heap.size w w' := by
  have K0 : Hid (BS w [(w.heap.size, [.int .i64 1, .int .i64 0])] (w.alloc (.cells #[.int .i64 1, .int .i64 0] 37))) := ((BS.start w).new [.int .i64 1, .int .i64 0] 37 rfl)
  go_enter Tryd.func41, Tryd.ntmps41
  go_wp2
  go_ret
  exact ⟨rfl, K0.out.1⟩

set_option maxRecDepth 100000 in
set_option maxHeartbeats 4000000 in
theorem right_m1 (d : Int) (hd : d ≠ 0)
    (w : World) :
    Calls Tryd.prog 41 #[.agg #[.int .i64 (-1), .int .i64 d]] w fun r' w' => r' = .returned (.bool false) ∧ Below w.heap.size w w' := by
  have d0 : (d == 0) = false := by simpa using hd
  have K0 : Hid (BS w [(w.heap.size, [.int .i64 (-1), .int .i64 d])] (w.alloc (.cells #[.int .i64 (-1), .int .i64 d] 37))) := ((BS.start w).new [.int .i64 (-1), .int .i64 d] 37 rfl)
  go_enter Tryd.func41, Tryd.ntmps41
  go_wp2
  go_ret
  exact ⟨rfl, K0.out.1⟩

set_option maxRecDepth 100000 in
set_option maxHeartbeats 4000000 in
theorem right_p1 (d : Int) (hd : d ≠ 0)
    (w : World) :
    Calls Tryd.prog 41 #[.agg #[.int .i64 1, .int .i64 d]] w fun r' w' => r' = .returned (.bool false) ∧ Below w.heap.size w w' := by
  have d0 : (d == 0) = false := by simpa using hd
  have K0 : Hid (BS w [(w.heap.size, [.int .i64 1, .int .i64 d])] (w.alloc (.cells #[.int .i64 1, .int .i64 d] 37))) := ((BS.start w).new [.int .i64 1, .int .i64 d] 37 rfl)
  go_enter Tryd.func41, Tryd.ntmps41
  go_wp2
  go_ret
  exact ⟨rfl, K0.out.1⟩

set_option maxRecDepth 100000 in
set_option maxHeartbeats 4000000 in
theorem right_x (i d : Int) (h0 : i ≠ 0) (h1 : i ≠ -1) (h2 : i ≠ 1)
    (w : World) :
    Calls Tryd.prog 41 #[.agg #[.int .i64 i, .int .i64 d]] w fun r' w' => r' = .returned (.bool false) ∧ Below w.heap.size w w' := by
  have g0 : (i == 0) = false := by simpa using h0
  have g1 : (i == -1) = false := by simpa using h1
  have g2 : (i == 1) = false := by simpa using h2
  have K0 : Hid (BS w [(w.heap.size, [.int .i64 i, .int .i64 d])] (w.alloc (.cells #[.int .i64 i, .int .i64 d] 37))) := ((BS.start w).new [.int .i64 i, .int .i64 d] 37 rfl)
  go_enter Tryd.func41, Tryd.ntmps41
  go_wp2
  go_ret
  exact ⟨rfl, K0.out.1⟩


end Go.Proofs.YtmohhbgmbicklaaDoor.Dy

/- day.Right, RightStamp, of and the reference's, whole; what moves a day. -/
namespace Go.Proofs.YtmohhbgmbicklaaDoor.Dy
open Go.RowKit
set_option linter.unusedVariables false

theorem right_any (i d : Int) (w : World) (hL : Cvl.Lens w) :
    Calls Tryd.prog 41 #[.agg #[.int .i64 i, .int .i64 d]] w fun e w' => e = .returned (.bool (dR i d)) ∧ Below w.heap.size w w' := by
  by_cases h0 : i = 0
  · subst h0
    rw [dR_0]
    exact right_0 d _ (fun w h => canBe_any _ w h) w (lens_of hL)
  · rw [dR_1 h0]
    by_cases g1 : i = -1
    · subst g1
      by_cases k : d = 0
      · rw [decide_eq_true ⟨.inl rfl, k⟩]; subst k; exact right_m0 0 rfl w
      · rw [decide_eq_false (fun q => k q.2)]; exact right_m1 d k w
    · by_cases g2 : i = 1
      · subst g2
        by_cases k : d = 0
        · rw [decide_eq_true ⟨.inr rfl, k⟩]; subst k; exact right_p0 0 rfl w
        · rw [decide_eq_false (fun q => k q.2)]; exact right_p1 d k w
      · rw [decide_eq_false (fun q => q.1.elim g1 g2)]; exact right_x i d h0 g1 g2 w

end Go.Proofs.YtmohhbgmbicklaaDoor.Dy
