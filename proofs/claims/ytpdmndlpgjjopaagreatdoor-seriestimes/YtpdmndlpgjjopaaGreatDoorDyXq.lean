/- DyA, DyB, DyC, as one text. -/
import Derived.Test.YtpdmndlpgjjopaaGreatDoorBxZq
import Derived.Test.YtpdmndlpgjjopaaGreatDoorCvZq
import Derived.Test.YtpdmndlpgjjopaaGreatDoorBxZq
import Derived.Test.YtpdmndlpgjjopaaGreatDoorNmZq
import Derived.Test.YtpdmndlpgjjopaaGreatDoorBxCq
import Derived.Test.YtpdmndlpgjjopaaGreatDoorWiZq
/- Days that a date may have; day.canBe, and the reference's inside. -/
namespace Go.Proofs.YtpdmndlpgjjopaaGreatDoor.Dy
open Go.RowKit
set_option linter.unusedVariables false

/-- is it a day of a year from -4712 to 294276? -/
def dok (n : Int) : Bool := decide (-2451507 ≤ n ∧ n ≤ 106751982)
theorem dok_yes {n : Int} (h : dok n = true) : -2451507 ≤ n ∧ n ≤ 106751982 := of_decide_eq_true h
theorem dok_can {n : Int} (h : Cvl.can n = false) : dok n = false := by
  have := of_decide_eq_false h
  exact decide_eq_false (by omega)
theorem can_dok {n : Int} (h : dok n = true) : Cvl.can n = true := by
  have := dok_yes h
  exact Cvl.can_yes (by omega) (by omega)
theorem dok_year {n y m d : Int} (h : Cv.Is n y m d) : dok n = decide (-4712 ≤ y ∧ y ≤ 294276) := by
  obtain ⟨a, b⟩ := Cv.is_year h
  have s1 : Cv.S (-4712) = -2451507 := by decide
  have s2 : Cv.S 294277 = 106751983 := by decide
  unfold dok
  apply decide_eq_decide.2
  constructor
  · rintro ⟨p, q⟩
    constructor
    · by_cases k : -4712 ≤ y
      · exact k
      · have := Cv.S_mono (show y + 1 ≤ -4712 by omega); omega
    · by_cases k : y ≤ 294276
      · exact k
      · have := Cv.S_mono (show 294277 ≤ y by omega); omega
  · rintro ⟨p, q⟩
    have h1 := Cv.S_mono p
    have h2 := Cv.S_mono (show y + 1 ≤ 294277 by omega)
    omega

set_option maxHeartbeats 1000000 in
theorem canBe_any (n : Int) (w : World) (hL : Cvl.Lens w) :
    Calls Tryz.prog 35 #[.int .i64 n] w fun e w' => e = .returned (.bool (dok n)) ∧ w' = w := by
  cases hc : Cvl.can n
  · rw [dok_can hc]
    have D : Hid (∀ w : World, Calls Tryz.prog 60 #[.int .i64 n] w fun e w' => e = .returned (.tuple #[.int .i64 0, .int .i64 0, .int .i64 0, .int .i64 10]) ∧ w' = w) := fun w => Cvl.date_no n hc w
    clear hc hL
    go_enter Tryz.func35, Tryz.ntmps35
    go_wp2_with fail
    refine (D.out _).mono ?_
    rintro e w1 ⟨rfl, rfl⟩
    go_wp2
    go_ret
    exact ⟨rfl, rfl⟩
  · obtain ⟨y, m, d, hd⟩ := Cv.is_date n
    have D : Hid (∀ w : World, Cvl.Lens w → Calls Tryz.prog 60 #[.int .i64 n] w fun e w' => e = .returned (.tuple #[.int .i64 y, .int .i64 m, .int .i64 d, .int .i64 0]) ∧ w' = w) := fun w hw => Cvl.date_yes n y m d hc hd w hw
    rw [dok_year hd]
    have hL' : Hid (Cvl.Lens w) := hL
    clear hc hL hd
    by_cases h1 : -4712 ≤ y
    · by_cases h2 : y ≤ 294276
      · rw [decide_eq_true ⟨h1, h2⟩]
        go_enter Tryz.func35, Tryz.ntmps35
        go_wp2_with fail
        refine (D.out _ hL'.out).mono ?_
        rintro e w1 ⟨rfl, rfl⟩
        go_wp2
        go_ret
        exact ⟨rfl, rfl⟩
      · rw [decide_eq_false (fun k => h2 k.2)]
        go_enter Tryz.func35, Tryz.ntmps35
        go_wp2_with fail
        refine (D.out _ hL'.out).mono ?_
        rintro e w1 ⟨rfl, rfl⟩
        go_wp2
        go_ret
        exact ⟨Cvl.ret_bool (by simp; omega), rfl⟩
    · rw [decide_eq_false (fun k => h1 k.1)]
      go_enter Tryz.func35, Tryz.ntmps35
      go_wp2_with fail
      refine (D.out _ hL'.out).mono ?_
      rintro e w1 ⟨rfl, rfl⟩
      go_wp2
      go_ret
      exact ⟨rfl, rfl⟩

set_option maxHeartbeats 1000000 in
theorem inside_any (n : Int) (w : World) :
    Calls Tryz.prog 49 #[.int .i64 n] w fun e w' => e = .returned (.bool (dok n)) ∧ w' = w := by
  cases hc : Cvl.can n
  · rw [dok_can hc]
    have D : Hid (∀ w : World, Calls Tryz.prog 76 #[.int .i64 n] w fun e w' => e = .returned (.tuple #[.int .i64 0, .int .i64 0, .int .i64 0, .int .i64 10]) ∧ w' = w) := fun w => Cvl.rdate_no n hc w
    clear hc
    go_enter Tryz.func49, Tryz.ntmps49
    go_wp2_with fail
    refine (D.out _).mono ?_
    rintro e w1 ⟨rfl, rfl⟩
    go_wp2
    go_ret
    exact ⟨rfl, rfl⟩
  · obtain ⟨y, m, d, hd⟩ := Cv.is_date n
    have D : Hid (∀ w : World, Calls Tryz.prog 76 #[.int .i64 n] w fun e w' => e = .returned (.tuple #[.int .i64 y, .int .i64 m, .int .i64 d, .int .i64 0]) ∧ w' = w) := fun w => Cvl.rdate_yes n y m d hc hd w
    rw [dok_year hd]
    clear hc hd
    by_cases h1 : -4712 ≤ y
    · by_cases h2 : y ≤ 294276
      · rw [decide_eq_true ⟨h1, h2⟩]
        go_enter Tryz.func49, Tryz.ntmps49
        go_wp2_with fail
        refine (D.out _).mono ?_
        rintro e w1 ⟨rfl, rfl⟩
        go_wp2
        go_ret
        exact ⟨rfl, rfl⟩
      · rw [decide_eq_false (fun k => h2 k.2)]
        go_enter Tryz.func49, Tryz.ntmps49
        go_wp2_with fail
        refine (D.out _).mono ?_
        rintro e w1 ⟨rfl, rfl⟩
        go_wp2
        go_ret
        exact ⟨Cvl.ret_bool (by simp; omega), rfl⟩
    · rw [decide_eq_false (fun k => h1 k.1)]
      go_enter Tryz.func49, Tryz.ntmps49
      go_wp2_with fail
      refine (D.out _).mono ?_
      rintro e w1 ⟨rfl, rfl⟩
      go_wp2
      go_ret
      exact ⟨rfl, rfl⟩

end Go.Proofs.YtpdmndlpgjjopaaGreatDoor.Dy

/- day.Right and RightStamp, and the reference's: way by way. -/
namespace Go.Proofs.YtpdmndlpgjjopaaGreatDoor.Dy
open Go.RowKit
set_option linter.unusedVariables false

theorem lens_of {w : World} (h : Cvl.Lens w) : Hid (∀ W : World, Below w.heap.size w W → Cvl.Lens W) := fun W hb => Lens_below h hb (Lens_lt h)
theorem ret_bool {a b : Bool} (h : a = b) : Ending.returned (.bool a) = .returned (.bool b) := by rw [h]
/-- can a date be? can a stamp be? -/
def dR (i d : Int) : Bool := if i = 0 then dok d else decide ((i = -1 ∨ i = 1) ∧ d = 0)
def sR (i u : Int) : Bool := if i = 0 then dok (u / 86400000000) else decide ((i = -1 ∨ i = 1) ∧ u = 0)
theorem dR_0 (d : Int) : dR 0 d = dok d := rfl
theorem sR_0 (u : Int) : sR 0 u = dok (u / 86400000000) := rfl
theorem dR_1 {i : Int} (h : i ≠ 0) (d : Int) : dR i d = decide ((i = -1 ∨ i = 1) ∧ d = 0) := if_neg h
theorem sR_1 {i : Int} (h : i ≠ 0) (u : Int) : sR i u = decide ((i = -1 ∨ i = 1) ∧ u = 0) := if_neg h

set_option maxRecDepth 100000 in
set_option maxHeartbeats 4000000 in
theorem right_0 (d : Int) (c : Bool)
    (C : Hid (∀ w : World, Cvl.Lens w → Calls Tryz.prog 35 #[.int .i64 d] w fun r' w' => r' = .returned (.bool c) ∧ w' = w))
    (w : World) (hL : Hid (∀ W : World, Below w.heap.size w W → Cvl.Lens W)) :
    Calls Tryz.prog 117 #[.agg #[.int .i64 0, .int .i64 d]] w fun r' w' => r' = .returned (.bool c) ∧ Below w.heap.size w w' := by
  have K0 : Hid (BS w [(w.heap.size, [.int .i64 0, .int .i64 d])] (w.alloc (.cells #[.int .i64 0, .int .i64 d] 95))) := ((BS.start w).new [.int .i64 0, .int .i64 d] 95 rfl)
  go_enter Tryz.func117, Tryz.ntmps117
  go_wp2_with fail
  refine (C.out _ (hL.out _ K0.out.1)).mono ?_
  rintro e W1 ⟨rfl, rfl⟩
  go_wp2
  go_ret
  exact ⟨rfl, K0.out.1⟩

set_option maxRecDepth 100000 in
set_option maxHeartbeats 4000000 in
theorem right_m0 (d : Int) (hd : d = 0)
    (w : World) :
    Calls Tryz.prog 117 #[.agg #[.int .i64 (-1), .int .i64 0]] w fun r' w' => r' = .returned (.bool true) ∧ Below w.heap.size w w' := by
  have K0 : Hid (BS w [(w.heap.size, [.int .i64 (-1), .int .i64 0])] (w.alloc (.cells #[.int .i64 (-1), .int .i64 0] 95))) := ((BS.start w).new [.int .i64 (-1), .int .i64 0] 95 rfl)
  go_enter Tryz.func117, Tryz.ntmps117
  go_wp2
  go_ret
  exact ⟨rfl, K0.out.1⟩

set_option maxRecDepth 100000 in
set_option maxHeartbeats 4000000 in
theorem right_p0 (d : Int) (hd : d = 0)
    (w : World) :
    Calls Tryz.prog 117 #[.agg #[.int .i64 1, .int .i64 0]] w fun r' w' => r' = .returned (.bool true) ∧ Below w.heap.size w w' := by
  have K0 : Hid (BS w [(w.heap.size, [.int .i64 1, .int .i64 0])] (w.alloc (.cells #[.int .i64 1, .int .i64 0] 95))) := ((BS.start w).new [.int .i64 1, .int .i64 0] 95 rfl)
  go_enter Tryz.func117, Tryz.ntmps117
  go_wp2
  go_ret
  exact ⟨rfl, K0.out.1⟩

set_option maxRecDepth 100000 in
set_option maxHeartbeats 4000000 in
theorem right_m1 (d : Int) (hd : d ≠ 0)
    (w : World) :
    Calls Tryz.prog 117 #[.agg #[.int .i64 (-1), .int .i64 d]] w fun r' w' => r' = .returned (.bool false) ∧ Below w.heap.size w w' := by
  have d0 : (d == 0) = false := by simpa using hd
  have K0 : Hid (BS w [(w.heap.size, [.int .i64 (-1), .int .i64 d])] (w.alloc (.cells #[.int .i64 (-1), .int .i64 d] 95))) := ((BS.start w).new [.int .i64 (-1), .int .i64 d] 95 rfl)
  go_enter Tryz.func117, Tryz.ntmps117
  go_wp2
  go_ret
  exact ⟨rfl, K0.out.1⟩

set_option maxRecDepth 100000 in
set_option maxHeartbeats 4000000 in
theorem right_p1 (d : Int) (hd : d ≠ 0)
    (w : World) :
    Calls Tryz.prog 117 #[.agg #[.int .i64 1, .int .i64 d]] w fun r' w' => r' = .returned (.bool false) ∧ Below w.heap.size w w' := by
  have d0 : (d == 0) = false := by simpa using hd
  have K0 : Hid (BS w [(w.heap.size, [.int .i64 1, .int .i64 d])] (w.alloc (.cells #[.int .i64 1, .int .i64 d] 95))) := ((BS.start w).new [.int .i64 1, .int .i64 d] 95 rfl)
  go_enter Tryz.func117, Tryz.ntmps117
  go_wp2
  go_ret
  exact ⟨rfl, K0.out.1⟩

set_option maxRecDepth 100000 in
set_option maxHeartbeats 4000000 in
theorem right_x (i d : Int) (h0 : i ≠ 0) (h1 : i ≠ -1) (h2 : i ≠ 1)
    (w : World) :
    Calls Tryz.prog 117 #[.agg #[.int .i64 i, .int .i64 d]] w fun r' w' => r' = .returned (.bool false) ∧ Below w.heap.size w w' := by
  have g0 : (i == 0) = false := by simpa using h0
  have g1 : (i == -1) = false := by simpa using h1
  have g2 : (i == 1) = false := by simpa using h2
  have K0 : Hid (BS w [(w.heap.size, [.int .i64 i, .int .i64 d])] (w.alloc (.cells #[.int .i64 i, .int .i64 d] 95))) := ((BS.start w).new [.int .i64 i, .int .i64 d] 95 rfl)
  go_enter Tryz.func117, Tryz.ntmps117
  go_wp2
  go_ret
  exact ⟨rfl, K0.out.1⟩

set_option maxRecDepth 100000 in
set_option maxHeartbeats 4000000 in
theorem rright_0 (d : Int) (c : Bool)
    (C : Hid (∀ w : World, Calls Tryz.prog 49 #[.int .i64 d] w fun r' w' => r' = .returned (.bool c) ∧ w' = w))
    (w : World) :
    Calls Tryz.prog 88 #[.agg #[.int .i64 0, .int .i64 d]] w fun r' w' => r' = .returned (.bool c) ∧ Below w.heap.size w w' := by
  have K0 : Hid (BS w [(w.heap.size, [.int .i64 0, .int .i64 d])] (w.alloc (.cells #[.int .i64 0, .int .i64 d] 95))) := ((BS.start w).new [.int .i64 0, .int .i64 d] 95 rfl)
  go_enter Tryz.func88, Tryz.ntmps88
  go_wp2_with fail
  refine (C.out _).mono ?_
  rintro e W1 ⟨rfl, rfl⟩
  go_wp2
  go_ret
  exact ⟨rfl, K0.out.1⟩

set_option maxRecDepth 100000 in
set_option maxHeartbeats 4000000 in
theorem rright_m0 (d : Int) (hd : d = 0)
    (w : World) :
    Calls Tryz.prog 88 #[.agg #[.int .i64 (-1), .int .i64 0]] w fun r' w' => r' = .returned (.bool true) ∧ Below w.heap.size w w' := by
  have K0 : Hid (BS w [(w.heap.size, [.int .i64 (-1), .int .i64 0])] (w.alloc (.cells #[.int .i64 (-1), .int .i64 0] 95))) := ((BS.start w).new [.int .i64 (-1), .int .i64 0] 95 rfl)
  go_enter Tryz.func88, Tryz.ntmps88
  go_wp2
  go_ret
  exact ⟨rfl, K0.out.1⟩

set_option maxRecDepth 100000 in
set_option maxHeartbeats 4000000 in
theorem rright_p0 (d : Int) (hd : d = 0)
    (w : World) :
    Calls Tryz.prog 88 #[.agg #[.int .i64 1, .int .i64 0]] w fun r' w' => r' = .returned (.bool true) ∧ Below w.heap.size w w' := by
  have K0 : Hid (BS w [(w.heap.size, [.int .i64 1, .int .i64 0])] (w.alloc (.cells #[.int .i64 1, .int .i64 0] 95))) := ((BS.start w).new [.int .i64 1, .int .i64 0] 95 rfl)
  go_enter Tryz.func88, Tryz.ntmps88
  go_wp2
  go_ret
  exact ⟨rfl, K0.out.1⟩

set_option maxRecDepth 100000 in
set_option maxHeartbeats 4000000 in
theorem rright_m1 (d : Int) (hd : d ≠ 0)
    (w : World) :
    Calls Tryz.prog 88 #[.agg #[.int .i64 (-1), .int .i64 d]] w fun r' w' => r' = .returned (.bool false) ∧ Below w.heap.size w w' := by
  have d0 : (d == 0) = false := by simpa using hd
  have K0 : Hid (BS w [(w.heap.size, [.int .i64 (-1), .int .i64 d])] (w.alloc (.cells #[.int .i64 (-1), .int .i64 d] 95))) := ((BS.start w).new [.int .i64 (-1), .int .i64 d] 95 rfl)
  go_enter Tryz.func88, Tryz.ntmps88
  go_wp2
  go_ret
  exact ⟨rfl, K0.out.1⟩

set_option maxRecDepth 100000 in
set_option maxHeartbeats 4000000 in
theorem rright_p1 (d : Int) (hd : d ≠ 0)
    (w : World) :
    Calls Tryz.prog 88 #[.agg #[.int .i64 1, .int .i64 d]] w fun r' w' => r' = .returned (.bool false) ∧ Below w.heap.size w w' := by
  have d0 : (d == 0) = false := by simpa using hd
  have K0 : Hid (BS w [(w.heap.size, [.int .i64 1, .int .i64 d])] (w.alloc (.cells #[.int .i64 1, .int .i64 d] 95))) := ((BS.start w).new [.int .i64 1, .int .i64 d] 95 rfl)
  go_enter Tryz.func88, Tryz.ntmps88
  go_wp2
  go_ret
  exact ⟨rfl, K0.out.1⟩

set_option maxRecDepth 100000 in
set_option maxHeartbeats 4000000 in
theorem rright_x (i d : Int) (h0 : i ≠ 0) (h1 : i ≠ -1) (h2 : i ≠ 1)
    (w : World) :
    Calls Tryz.prog 88 #[.agg #[.int .i64 i, .int .i64 d]] w fun r' w' => r' = .returned (.bool false) ∧ Below w.heap.size w w' := by
  have g0 : (i == 0) = false := by simpa using h0
  have g1 : (i == -1) = false := by simpa using h1
  have g2 : (i == 1) = false := by simpa using h2
  have K0 : Hid (BS w [(w.heap.size, [.int .i64 i, .int .i64 d])] (w.alloc (.cells #[.int .i64 i, .int .i64 d] 95))) := ((BS.start w).new [.int .i64 i, .int .i64 d] 95 rfl)
  go_enter Tryz.func88, Tryz.ntmps88
  go_wp2
  go_ret
  exact ⟨rfl, K0.out.1⟩

set_option maxRecDepth 100000 in
set_option maxHeartbeats 4000000 in
theorem rst_0 (d N R : Int) (c : Bool)
    (SP : Hid (∀ w : World, Calls Tryz.prog 34 #[.int .i64 d] w fun r' w' => r' = .returned (.tuple #[.int .i64 N, .int .i64 R]) ∧ w' = w))
    (C : Hid (∀ w : World, Cvl.Lens w → Calls Tryz.prog 35 #[.int .i64 N] w fun r' w' => r' = .returned (.bool c) ∧ w' = w))
    (w : World) (hL : Hid (∀ W : World, Below w.heap.size w W → Cvl.Lens W)) :
    Calls Tryz.prog 17 #[.agg #[.int .i64 0, .int .i64 d]] w fun r' w' => r' = .returned (.bool c) ∧ Below w.heap.size w w' := by
  have K0 : Hid (BS w [(w.heap.size, [.int .i64 0, .int .i64 d])] (w.alloc (.cells #[.int .i64 0, .int .i64 d] 36))) := ((BS.start w).new [.int .i64 0, .int .i64 d] 36 rfl)
  go_enter Tryz.func17, Tryz.ntmps17
  go_wp2_with fail
  refine (SP.out _).mono ?_
  rintro e W1 ⟨rfl, rfl⟩
  go_wp2_with fail
  refine (C.out _ (hL.out _ K0.out.1)).mono ?_
  rintro e W2 ⟨rfl, rfl⟩
  go_wp2
  go_ret
  exact ⟨rfl, K0.out.1⟩

set_option maxRecDepth 100000 in
set_option maxHeartbeats 4000000 in
theorem rst_m0 (d : Int) (hd : d = 0)
    (w : World) :
    Calls Tryz.prog 17 #[.agg #[.int .i64 (-1), .int .i64 0]] w fun r' w' => r' = .returned (.bool true) ∧ Below w.heap.size w w' := by
  have K0 : Hid (BS w [(w.heap.size, [.int .i64 (-1), .int .i64 0])] (w.alloc (.cells #[.int .i64 (-1), .int .i64 0] 36))) := ((BS.start w).new [.int .i64 (-1), .int .i64 0] 36 rfl)
  go_enter Tryz.func17, Tryz.ntmps17
  go_wp2
  go_ret
  exact ⟨rfl, K0.out.1⟩

set_option maxRecDepth 100000 in
set_option maxHeartbeats 4000000 in
theorem rst_p0 (d : Int) (hd : d = 0)
    (w : World) :
    Calls Tryz.prog 17 #[.agg #[.int .i64 1, .int .i64 0]] w fun r' w' => r' = .returned (.bool true) ∧ Below w.heap.size w w' := by
  have K0 : Hid (BS w [(w.heap.size, [.int .i64 1, .int .i64 0])] (w.alloc (.cells #[.int .i64 1, .int .i64 0] 36))) := ((BS.start w).new [.int .i64 1, .int .i64 0] 36 rfl)
  go_enter Tryz.func17, Tryz.ntmps17
  go_wp2
  go_ret
  exact ⟨rfl, K0.out.1⟩

set_option maxRecDepth 100000 in
set_option maxHeartbeats 4000000 in
theorem rst_m1 (d : Int) (hd : d ≠ 0)
    (w : World) :
    Calls Tryz.prog 17 #[.agg #[.int .i64 (-1), .int .i64 d]] w fun r' w' => r' = .returned (.bool false) ∧ Below w.heap.size w w' := by
  have d0 : (d == 0) = false := by simpa using hd
  have K0 : Hid (BS w [(w.heap.size, [.int .i64 (-1), .int .i64 d])] (w.alloc (.cells #[.int .i64 (-1), .int .i64 d] 36))) := ((BS.start w).new [.int .i64 (-1), .int .i64 d] 36 rfl)
  go_enter Tryz.func17, Tryz.ntmps17
  go_wp2
  go_ret
  exact ⟨rfl, K0.out.1⟩

set_option maxRecDepth 100000 in
set_option maxHeartbeats 4000000 in
theorem rst_p1 (d : Int) (hd : d ≠ 0)
    (w : World) :
    Calls Tryz.prog 17 #[.agg #[.int .i64 1, .int .i64 d]] w fun r' w' => r' = .returned (.bool false) ∧ Below w.heap.size w w' := by
  have d0 : (d == 0) = false := by simpa using hd
  have K0 : Hid (BS w [(w.heap.size, [.int .i64 1, .int .i64 d])] (w.alloc (.cells #[.int .i64 1, .int .i64 d] 36))) := ((BS.start w).new [.int .i64 1, .int .i64 d] 36 rfl)
  go_enter Tryz.func17, Tryz.ntmps17
  go_wp2
  go_ret
  exact ⟨rfl, K0.out.1⟩

set_option maxRecDepth 100000 in
set_option maxHeartbeats 4000000 in
theorem rst_x (i d : Int) (h0 : i ≠ 0) (h1 : i ≠ -1) (h2 : i ≠ 1)
    (w : World) :
    Calls Tryz.prog 17 #[.agg #[.int .i64 i, .int .i64 d]] w fun r' w' => r' = .returned (.bool false) ∧ Below w.heap.size w w' := by
  have g0 : (i == 0) = false := by simpa using h0
  have g1 : (i == -1) = false := by simpa using h1
  have g2 : (i == 1) = false := by simpa using h2
  have K0 : Hid (BS w [(w.heap.size, [.int .i64 i, .int .i64 d])] (w.alloc (.cells #[.int .i64 i, .int .i64 d] 36))) := ((BS.start w).new [.int .i64 i, .int .i64 d] 36 rfl)
  go_enter Tryz.func17, Tryz.ntmps17
  go_wp2
  go_ret
  exact ⟨rfl, K0.out.1⟩

end Go.Proofs.YtpdmndlpgjjopaaGreatDoor.Dy

/- day.Right, RightStamp, of and the reference's, whole; what moves a day. -/
namespace Go.Proofs.YtpdmndlpgjjopaaGreatDoor.Dy
open Go.RowKit
set_option linter.unusedVariables false

theorem right_any (i d : Int) (w : World) (hL : Cvl.Lens w) :
    Calls Tryz.prog 117 #[.agg #[.int .i64 i, .int .i64 d]] w fun e w' => e = .returned (.bool (dR i d)) ∧ Below w.heap.size w w' := by
  by_cases h0 : i = 0
  · subst h0
    rw [dR_0]
    exact right_0 d _ (fun w h => canBe_any _ w h) w (lens_of hL)
  · rw [dR_1 h0]
    by_cases g1 : i = -1
    · subst g1
      by_cases k : d = 0
      · rw [decide_eq_true ⟨.inl rfl, k⟩]; subst k; exact right_m0 0 rfl w
      · rw [decide_eq_false (fun q => k q.2)]; exact right_m1 d k w
    · by_cases g2 : i = 1
      · subst g2
        by_cases k : d = 0
        · rw [decide_eq_true ⟨.inr rfl, k⟩]; subst k; exact right_p0 0 rfl w
        · rw [decide_eq_false (fun q => k q.2)]; exact right_p1 d k w
      · rw [decide_eq_false (fun q => q.1.elim g1 g2)]; exact right_x i d h0 g1 g2 w

theorem rright_any (i d : Int) (w : World) :
    Calls Tryz.prog 88 #[.agg #[.int .i64 i, .int .i64 d]] w fun e w' => e = .returned (.bool (dR i d)) ∧ Below w.heap.size w w' := by
  by_cases h0 : i = 0
  · subst h0
    rw [dR_0]
    exact rright_0 d _ (fun w => inside_any _ w) w
  · rw [dR_1 h0]
    by_cases g1 : i = -1
    · subst g1
      by_cases k : d = 0
      · rw [decide_eq_true ⟨.inl rfl, k⟩]; subst k; exact rright_m0 0 rfl w
      · rw [decide_eq_false (fun q => k q.2)]; exact rright_m1 d k w
    · by_cases g2 : i = 1
      · subst g2
        by_cases k : d = 0
        · rw [decide_eq_true ⟨.inr rfl, k⟩]; subst k; exact rright_p0 0 rfl w
        · rw [decide_eq_false (fun q => k q.2)]; exact rright_p1 d k w
      · rw [decide_eq_false (fun q => q.1.elim g1 g2)]; exact rright_x i d h0 g1 g2 w

theorem rst_any (i d : Int) (h1 : -9223372036854775808 ≤ d) (h2 : d ≤ 9223372036854775807) (w : World) (hL : Cvl.Lens w) :
    Calls Tryz.prog 17 #[.agg #[.int .i64 i, .int .i64 d]] w fun e w' => e = .returned (.bool (sR i d)) ∧ Below w.heap.size w w' := by
  by_cases h0 : i = 0
  · subst h0
    rw [sR_0]
    exact rst_0 d _ _ _ (fun w => split_any d h1 h2 w) (fun w h => canBe_any _ w h) w (lens_of hL)
  · rw [sR_1 h0]
    by_cases g1 : i = -1
    · subst g1
      by_cases k : d = 0
      · rw [decide_eq_true ⟨.inl rfl, k⟩]; subst k; exact rst_m0 0 rfl w
      · rw [decide_eq_false (fun q => k q.2)]; exact rst_m1 d k w
    · by_cases g2 : i = 1
      · subst g2
        by_cases k : d = 0
        · rw [decide_eq_true ⟨.inr rfl, k⟩]; subst k; exact rst_p0 0 rfl w
        · rw [decide_eq_false (fun q => k q.2)]; exact rst_p1 d k w
      · rw [decide_eq_false (fun q => q.1.elim g1 g2)]; exact rst_x i d h0 g1 g2 w

/-- the date of a day that was reckoned, if there is one. -/
def oV (n e : Int) : Int := if e = 0 ∧ dok n = true then n else 0
def oE (n e : Int) : Int := if e = 0 ∧ dok n = true then 0 else 10
theorem o_yes {n : Int} (h : dok n = true) : oV n 0 = n ∧ oE n 0 = 0 := ⟨if_pos ⟨rfl, h⟩, if_pos ⟨rfl, h⟩⟩
theorem o_no {n e : Int} (h : e ≠ 0 ∨ dok n = false) : oV n e = 0 ∧ oE n e = 10 := by
  have k : ¬ (e = 0 ∧ dok n = true) := fun q => h.elim (fun z => z q.1) (fun z => by rw [z] at q; exact absurd q.2 (by decide))
  exact ⟨if_neg k, if_neg k⟩

set_option maxRecDepth 100000 in
set_option maxHeartbeats 4000000 in
theorem of_bad (n e : Int) (he : e ≠ 0)
    (w : World) :
    Calls Tryz.prog 126 #[.int .i64 n, .int .i64 e] w fun r' w' => r' = .returned (.tuple #[.agg #[.int .i64 0, .int .i64 0], .int .i64 10]) ∧ Below w.heap.size w w' := by
  have e1 : (e != 0) = true := bne_iff_ne.2 he
  have K0 : Hid (BS w [(w.heap.size, [.int .i64 0, .int .i64 0])] (w.alloc (.cells #[.int .i64 0, .int .i64 0] 95))) := ((BS.start w).new [.int .i64 0, .int .i64 0] 95 rfl)
  go_enter Tryz.func126, Tryz.ntmps126
  go_wp2
  exact bodyPost_ret (v := .tuple #[.agg #[.int .i64 0, .int .i64 0], .int .i64 10]) (by simp [results, Tryz.results126, go_sem]) rfl ⟨rfl, (by repeat' (first | assumption | exact Below.refl _ _ | exact Nat.le_refl _ | refine Below.alloc ?_ ?_ _ | (simp; done) | (simp; omega) | omega))⟩

set_option maxRecDepth 100000 in
set_option maxHeartbeats 4000000 in
theorem of_true (n : Int)
    (C : Hid (∀ w : World, Cvl.Lens w → Calls Tryz.prog 35 #[.int .i64 n] w fun r' w' => r' = .returned (.bool true) ∧ w' = w))
    (w : World) (hL : Hid (∀ W : World, Below w.heap.size w W → Cvl.Lens W)) :
    Calls Tryz.prog 126 #[.int .i64 n, .int .i64 0] w fun r' w' => r' = .returned (.tuple #[.agg #[.int .i64 0, .int .i64 n], .int .i64 0]) ∧ Below w.heap.size w w' := by
  have K0 : Hid (BS w [(w.heap.size, [.int .i64 0, .int .i64 0])] (w.alloc (.cells #[.int .i64 0, .int .i64 0] 95))) := ((BS.start w).new [.int .i64 0, .int .i64 0] 95 rfl)
  go_enter Tryz.func126, Tryz.ntmps126
  go_wp2_with fail
  refine (C.out _ (hL.out _ K0.out.1)).mono ?_
  rintro e W1 ⟨rfl, rfl⟩
  go_wp2
  exact bodyPost_ret (v := .tuple #[.agg #[.int .i64 0, .int .i64 n], .int .i64 0]) (by simp [results, Tryz.results126, go_sem]) rfl ⟨rfl, (by repeat' (first | assumption | exact Below.refl _ _ | exact Nat.le_refl _ | refine Below.alloc ?_ ?_ _ | (simp; done) | (simp; omega) | omega))⟩

set_option maxRecDepth 100000 in
set_option maxHeartbeats 4000000 in
theorem of_false (n : Int)
    (C : Hid (∀ w : World, Cvl.Lens w → Calls Tryz.prog 35 #[.int .i64 n] w fun r' w' => r' = .returned (.bool false) ∧ w' = w))
    (w : World) (hL : Hid (∀ W : World, Below w.heap.size w W → Cvl.Lens W)) :
    Calls Tryz.prog 126 #[.int .i64 n, .int .i64 0] w fun r' w' => r' = .returned (.tuple #[.agg #[.int .i64 0, .int .i64 0], .int .i64 10]) ∧ Below w.heap.size w w' := by
  have K0 : Hid (BS w [(w.heap.size, [.int .i64 0, .int .i64 0])] (w.alloc (.cells #[.int .i64 0, .int .i64 0] 95))) := ((BS.start w).new [.int .i64 0, .int .i64 0] 95 rfl)
  go_enter Tryz.func126, Tryz.ntmps126
  go_wp2_with fail
  refine (C.out _ (hL.out _ K0.out.1)).mono ?_
  rintro e W1 ⟨rfl, rfl⟩
  go_wp2
  exact bodyPost_ret (v := .tuple #[.agg #[.int .i64 0, .int .i64 0], .int .i64 10]) (by simp [results, Tryz.results126, go_sem]) rfl ⟨rfl, (by repeat' (first | assumption | exact Below.refl _ _ | exact Nat.le_refl _ | refine Below.alloc ?_ ?_ _ | (simp; done) | (simp; omega) | omega))⟩

theorem of_any (n e : Int) (w : World) (hL : Cvl.Lens w) :
    Calls Tryz.prog 126 #[.int .i64 n, .int .i64 e] w fun r w' => r = .returned (.tuple #[.agg #[.int .i64 0, .int .i64 (oV n e)], .int .i64 (oE n e)]) ∧ Below w.heap.size w w' := by
  by_cases he : e = 0
  · subst he
    cases h : dok n
    · rw [(o_no (.inr h)).1, (o_no (.inr h)).2]; exact of_false n (fun w hh => by rw [← h]; exact canBe_any n w hh) w (lens_of hL)
    · rw [(o_yes h).1, (o_yes h).2]; exact of_true n (fun w hh => by rw [← h]; exact canBe_any n w hh) w (lens_of hL)
  · rw [(o_no (.inl he)).1, (o_no (.inl he)).2]; exact of_bad n e he w

set_option maxRecDepth 100000 in
set_option maxHeartbeats 4000000 in
theorem days_meth (b n v e : Int)
    (A : Hid (∀ w : World, Calls Tryz.prog 55 #[.int .i64 n, .int .i64 b] w fun r' w' => r' = .returned (.tuple #[.int .i64 v, .int .i64 e]) ∧ w' = w))
    (w : World) :
    Calls Tryz.prog 116 #[.int .i64 b, .int .i64 n] w fun r' w' => r' = .returned (.tuple #[.int .i64 v, .int .i64 e]) ∧ w' = w := by
  go_enter Tryz.func116, Tryz.ntmps116
  go_wp2_with fail
  refine (A.out _).mono ?_
  rintro e W1 ⟨rfl, rfl⟩
  go_wp2
  go_ret2
  exact ⟨rfl, rfl⟩

set_option maxRecDepth 100000 in
set_option maxHeartbeats 4000000 in
theorem months_meth (b n v e : Int)
    (A : Hid (∀ w : World, Cvl.Lens w → Calls Tryz.prog 127 #[.int .i64 n, .int .i64 b] w fun r' w' => r' = .returned (.tuple #[.int .i64 v, .int .i64 e]) ∧ w' = w))
    (w : World) (hL : Hid (∀ W : World, Below w.heap.size w W → Cvl.Lens W)) :
    Calls Tryz.prog 115 #[.int .i64 b, .int .i64 n] w fun r' w' => r' = .returned (.tuple #[.int .i64 v, .int .i64 e]) ∧ w' = w := by
  have K0 : Hid (BS w [] w) := (BS.start w)
  go_enter Tryz.func115, Tryz.ntmps115
  go_wp2_with fail
  refine (A.out _ (hL.out _ K0.out.1)).mono ?_
  rintro e W1 ⟨rfl, rfl⟩
  go_wp2
  go_ret2
  exact ⟨rfl, rfl⟩


end Go.Proofs.YtpdmndlpgjjopaaGreatDoor.Dy
