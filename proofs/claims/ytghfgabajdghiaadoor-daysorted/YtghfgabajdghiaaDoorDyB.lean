/- day.Right and RightStamp, and the reference's: way by way. -/
import Derived.Test.YtghfgabajdghiaaDoorDyA
import Derived.Test.YtghfgabajdghiaaDoorLnsA
import Derived.Test.YtghfgabajdghiaaDoorNumC
namespace Go.Proofs.YtghfgabajdghiaaDoor
open Go.RowKit
set_option linter.unusedVariables false

theorem lens_of {w : World} (h : Cvl.Lens w) : Hid (∀ W : World, Below w.heap.size w W → Cvl.Lens W) := fun W hb => Lens_below h hb (Lens_lt h)
theorem ret_bool {a b : Bool} (h : a = b) : Ending.returned (.bool a) = .returned (.bool b) := by rw [h]
/-- can a date be? can a stamp be? -/
def dR (i d : Int) : Bool := if i = 0 then dok d else decide ((i = -1 ∨ i = 1) ∧ d = 0)
def sR (i u : Int) : Bool := if i = 0 then dok (u / 86400000000) else decide ((i = -1 ∨ i = 1) ∧ u = 0)
theorem dR_0 (d : Int) : dR 0 d = dok d := rfl
theorem sR_0 (u : Int) : sR 0 u = dok (u / 86400000000) := rfl
theorem dR_1 {i : Int} (h : i ≠ 0) (d : Int) : dR i d = decide ((i = -1 ∨ i = 1) ∧ d = 0) := if_neg h
theorem sR_1 {i : Int} (h : i ≠ 0) (u : Int) : sR i u = decide ((i = -1 ∨ i = 1) ∧ u = 0) := if_neg h

set_option maxRecDepth 100000 in
set_option maxHeartbeats 4000000 in
theorem right_0 (d : Int) (c : Bool)
    (C : Hid (∀ w : World, Cvl.Lens w → Calls Tryd.prog 40 #[.int .i64 d] w fun r' w' => r' = .returned (.bool c) ∧ w' = w))
    (w : World) (hL : Hid (∀ W : World, Below w.heap.size w W → Cvl.Lens W)) :
    Calls Tryd.prog 13 #[.agg #[.int .i64 0, .int .i64 d]] w fun r' w' => r' = .returned (.bool c) ∧ Below w.heap.size w w' := by
  have K0 : Hid (BS w [(w.heap.size, [.int .i64 0, .int .i64 d])] (w.alloc (.cells #[.int .i64 0, .int .i64 d] 23))) := ((BS.start w).new [.int .i64 0, .int .i64 d] 23 rfl)
  go_enter Tryd.func13, Tryd.ntmps13
  go_wp2_with fail
  refine (C.out _ (hL.out _ K0.out.1)).mono ?_
  rintro e W1 ⟨rfl, rfl⟩
  go_wp2
  go_ret
  exact ⟨rfl, K0.out.1⟩

set_option maxRecDepth 100000 in
set_option maxHeartbeats 4000000 in
theorem right_m0 (d : Int) (hd : d = 0)
    (w : World) :
    Calls Tryd.prog 13 #[.agg #[.int .i64 (-1), .int .i64 0]] w fun r' w' => r' = .returned (.bool true) ∧ Below w.heap.size w w' := by
  have K0 : Hid (BS w [(w.heap.size, [.int .i64 (-1), .int .i64 0])] (w.alloc (.cells #[.int .i64 (-1), .int .i64 0] 23))) := ((BS.start w).new [.int .i64 (-1), .int .i64 0] 23 rfl)
  go_enter Tryd.func13, Tryd.ntmps13
  go_wp2
  go_ret
  exact ⟨rfl, K0.out.1⟩

set_option maxRecDepth 100000 in
set_option maxHeartbeats 4000000 in
theorem right_p0 (d : Int) (hd : d = 0)
    (w : World) :
    Calls Tryd.prog 13 #[.agg #[.int .i64 1, .int .i64 0]] w fun r' w' => r' = .returned (.bool true) ∧ Below w.heap.size w w' := by
  have K0 : Hid (BS w [(w.heap.size, [.int .i64 1, .int .i64 0])] (w.alloc (.cells #[.int .i64 1, .int .i64 0] 23))) := ((BS.start w).new [.int .i64 1, .int .i64 0] 23 rfl)
  go_enter Tryd.func13, Tryd.ntmps13
  go_wp2
  go_ret
  exact ⟨rfl, K0.out.1⟩

set_option maxRecDepth 100000 in
set_option maxHeartbeats 4000000 in
theorem right_m1 (d : Int) (hd : d ≠ 0)
    (w : World) :
    Calls Tryd.prog 13 #[.agg #[.int .i64 (-1), .int .i64 d]] w fun r' w' => r' = .returned (.bool false) ∧ Below w.heap.size w w' := by
  have d0 : (d == 0) = false := by simpa using hd
  have K0 : Hid (BS w [(w.heap.size, [.int .i64 (-1), .int .i64 d])] (w.alloc (.cells #[.int .i64 (-1), .int .i64 d] 23))) := ((BS.start w).new [.int .i64 (-1), .int .i64 d] 23 rfl)
  go_enter Tryd.func13, Tryd.ntmps13
  go_wp2
  go_ret
  exact ⟨rfl, K0.out.1⟩

set_option maxRecDepth 100000 in
set_option maxHeartbeats 4000000 in
theorem right_p1 (d : Int) (hd : d ≠ 0)
    (w : World) :
    Calls Tryd.prog 13 #[.agg #[.int .i64 1, .int .i64 d]] w fun r' w' => r' = .returned (.bool false) ∧ Below w.heap.size w w' := by
  have d0 : (d == 0) = false := by simpa using hd
  have K0 : Hid (BS w [(w.heap.size, [.int .i64 1, .int .i64 d])] (w.alloc (.cells #[.int .i64 1, .int .i64 d] 23))) := ((BS.start w).new [.int .i64 1, .int .i64 d] 23 rfl)
  go_enter Tryd.func13, Tryd.ntmps13
  go_wp2
  go_ret
  exact ⟨rfl, K0.out.1⟩

set_option maxRecDepth 100000 in
set_option maxHeartbeats 4000000 in
theorem right_x (i d : Int) (h0 : i ≠ 0) (h1 : i ≠ -1) (h2 : i ≠ 1)
    (w : World) :
    Calls Tryd.prog 13 #[.agg #[.int .i64 i, .int .i64 d]] w fun r' w' => r' = .returned (.bool false) ∧ Below w.heap.size w w' := by
  have g0 : (i == 0) = false := by simpa using h0
  have g1 : (i == -1) = false := by simpa using h1
  have g2 : (i == 1) = false := by simpa using h2
  have K0 : Hid (BS w [(w.heap.size, [.int .i64 i, .int .i64 d])] (w.alloc (.cells #[.int .i64 i, .int .i64 d] 23))) := ((BS.start w).new [.int .i64 i, .int .i64 d] 23 rfl)
  go_enter Tryd.func13, Tryd.ntmps13
  go_wp2
  go_ret
  exact ⟨rfl, K0.out.1⟩

set_option maxRecDepth 100000 in
set_option maxHeartbeats 4000000 in
theorem rright_0 (d : Int) (c : Bool)
    (C : Hid (∀ w : World, Calls Tryd.prog 37 #[.int .i64 d] w fun r' w' => r' = .returned (.bool c) ∧ w' = w))
    (w : World) :
    Calls Tryd.prog 14 #[.agg #[.int .i64 0, .int .i64 d]] w fun r' w' => r' = .returned (.bool c) ∧ Below w.heap.size w w' := by
  have K0 : Hid (BS w [(w.heap.size, [.int .i64 0, .int .i64 d])] (w.alloc (.cells #[.int .i64 0, .int .i64 d] 23))) := ((BS.start w).new [.int .i64 0, .int .i64 d] 23 rfl)
  go_enter Tryd.func14, Tryd.ntmps14
  go_wp2_with fail
  refine (C.out _).mono ?_
  rintro e W1 ⟨rfl, rfl⟩
  go_wp2
  go_ret
  exact ⟨rfl, K0.out.1⟩

set_option maxRecDepth 100000 in
set_option maxHeartbeats 4000000 in
theorem rright_m0 (d : Int) (hd : d = 0)
    (w : World) :
    Calls Tryd.prog 14 #[.agg #[.int .i64 (-1), .int .i64 0]] w fun r' w' => r' = .returned (.bool true) ∧ Below w.heap.size w w' := by
  have K0 : Hid (BS w [(w.heap.size, [.int .i64 (-1), .int .i64 0])] (w.alloc (.cells #[.int .i64 (-1), .int .i64 0] 23))) := ((BS.start w).new [.int .i64 (-1), .int .i64 0] 23 rfl)
  go_enter Tryd.func14, Tryd.ntmps14
  go_wp2
  go_ret
  exact ⟨rfl, K0.out.1⟩

set_option maxRecDepth 100000 in
set_option maxHeartbeats 4000000 in
theorem rright_p0 (d : Int) (hd : d = 0)
    (w : World) :
    Calls Tryd.prog 14 #[.agg #[.int .i64 1, .int .i64 0]] w fun r' w' => r' = .returned (.bool true) ∧ Below w.heap.size w w' := by
  have K0 : Hid (BS w [(w.heap.size, [.int .i64 1, .int .i64 0])] (w.alloc (.cells #[.int .i64 1, .int .i64 0] 23))) := ((BS.start w).new [.int .i64 1, .int .i64 0] 23 rfl)
  go_enter Tryd.func14, Tryd.ntmps14
  go_wp2
  go_ret
  exact ⟨rfl, K0.out.1⟩

set_option maxRecDepth 100000 in
set_option maxHeartbeats 4000000 in
theorem rright_m1 (d : Int) (hd : d ≠ 0)
    (w : World) :
    Calls Tryd.prog 14 #[.agg #[.int .i64 (-1), .int .i64 d]] w fun r' w' => r' = .returned (.bool false) ∧ Below w.heap.size w w' := by
  have d0 : (d == 0) = false := by simpa using hd
  have K0 : Hid (BS w [(w.heap.size, [.int .i64 (-1), .int .i64 d])] (w.alloc (.cells #[.int .i64 (-1), .int .i64 d] 23))) := ((BS.start w).new [.int .i64 (-1), .int .i64 d] 23 rfl)
  go_enter Tryd.func14, Tryd.ntmps14
  go_wp2
  go_ret
  exact ⟨rfl, K0.out.1⟩

set_option maxRecDepth 100000 in
set_option maxHeartbeats 4000000 in
theorem rright_p1 (d : Int) (hd : d ≠ 0)
    (w : World) :
    Calls Tryd.prog 14 #[.agg #[.int .i64 1, .int .i64 d]] w fun r' w' => r' = .returned (.bool false) ∧ Below w.heap.size w w' := by
  have d0 : (d == 0) = false := by simpa using hd
  have K0 : Hid (BS w [(w.heap.size, [.int .i64 1, .int .i64 d])] (w.alloc (.cells #[.int .i64 1, .int .i64 d] 23))) := ((BS.start w).new [.int .i64 1, .int .i64 d] 23 rfl)
  go_enter Tryd.func14, Tryd.ntmps14
  go_wp2
  go_ret
  exact ⟨rfl, K0.out.1⟩

set_option maxRecDepth 100000 in
set_option maxHeartbeats 4000000 in
theorem rright_x (i d : Int) (h0 : i ≠ 0) (h1 : i ≠ -1) (h2 : i ≠ 1)
    (w : World) :
    Calls Tryd.prog 14 #[.agg #[.int .i64 i, .int .i64 d]] w fun r' w' => r' = .returned (.bool false) ∧ Below w.heap.size w w' := by
  have g0 : (i == 0) = false := by simpa using h0
  have g1 : (i == -1) = false := by simpa using h1
  have g2 : (i == 1) = false := by simpa using h2
  have K0 : Hid (BS w [(w.heap.size, [.int .i64 i, .int .i64 d])] (w.alloc (.cells #[.int .i64 i, .int .i64 d] 23))) := ((BS.start w).new [.int .i64 i, .int .i64 d] 23 rfl)
  go_enter Tryd.func14, Tryd.ntmps14
  go_wp2
  go_ret
  exact ⟨rfl, K0.out.1⟩

set_option maxRecDepth 100000 in
set_option maxHeartbeats 4000000 in
theorem rst_0 (d N R : Int) (c : Bool)
    (SP : Hid (∀ w : World, Calls Tryd.prog 49 #[.int .i64 d] w fun r' w' => r' = .returned (.tuple #[.int .i64 N, .int .i64 R]) ∧ w' = w))
    (C : Hid (∀ w : World, Cvl.Lens w → Calls Tryd.prog 40 #[.int .i64 N] w fun r' w' => r' = .returned (.bool c) ∧ w' = w))
    (w : World) (hL : Hid (∀ W : World, Below w.heap.size w W → Cvl.Lens W)) :
    Calls Tryd.prog 30 #[.agg #[.int .i64 0, .int .i64 d]] w fun r' w' => r' = .returned (.bool c) ∧ Below w.heap.size w w' := by
  have K0 : Hid (BS w [(w.heap.size, [.int .i64 0, .int .i64 d])] (w.alloc (.cells #[.int .i64 0, .int .i64 d] 38))) := ((BS.start w).new [.int .i64 0, .int .i64 d] 38 rfl)
  go_enter Tryd.func30, Tryd.ntmps30
  go_wp2_with fail
  refine (SP.out _).mono ?_
  rintro e W1 ⟨rfl, rfl⟩
  go_wp2_with fail
  refine (C.out _ (hL.out _ K0.out.1)).mono ?_
  rintro e W2 ⟨rfl, rfl⟩
  go_wp2
  go_ret
  exact ⟨rfl, K0.out.1⟩

set_option maxRecDepth 100000 in
set_option maxHeartbeats 4000000 in
theorem rst_m0 (d : Int) (hd : d = 0)
    (w : World) :
    Calls Tryd.prog 30 #[.agg #[.int .i64 (-1), .int .i64 0]] w fun r' w' => r' = .returned (.bool true) ∧ Below w.heap.size w w' := by
  have K0 : Hid (BS w [(w.heap.size, [.int .i64 (-1), .int .i64 0])] (w.alloc (.cells #[.int .i64 (-1), .int .i64 0] 38))) := ((BS.start w).new [.int .i64 (-1), .int .i64 0] 38 rfl)
  go_enter Tryd.func30, Tryd.ntmps30
  go_wp2
  go_ret
  exact ⟨rfl, K0.out.1⟩

set_option maxRecDepth 100000 in
set_option maxHeartbeats 4000000 in
theorem rst_p0 (d : Int) (hd : d = 0)
    (w : World) :
    Calls Tryd.prog 30 #[.agg #[.int .i64 1, .int .i64 0]] w fun r' w' => r' = .returned (.bool true) ∧ Below w.heap.size w w' := by
  have K0 : Hid (BS w [(w.heap.size, [.int .i64 1, .int .i64 0])] (w.alloc (.cells #[.int .i64 1, .int .i64 0] 38))) := ((BS.start w).new [.int .i64 1, .int .i64 0] 38 rfl)
  go_enter Tryd.func30, Tryd.ntmps30
  go_wp2
  go_ret
  exact ⟨rfl, K0.out.1⟩

set_option maxRecDepth 100000 in
set_option maxHeartbeats 4000000 in
theorem rst_m1 (d : Int) (hd : d ≠ 0)
    (w : World) :
    Calls Tryd.prog 30 #[.agg #[.int .i64 (-1), .int .i64 d]] w fun r' w' => r' = .returned (.bool false) ∧ Below w.heap.size w w' := by
  have d0 : (d == 0) = false := by simpa using hd
  have K0 : Hid (BS w [(w.heap.size, [.int .i64 (-1), .int .i64 d])] (w.alloc (.cells #[.int .i64 (-1), .int .i64 d] 38))) := ((BS.start w).new [.int .i64 (-1), .int .i64 d] 38 rfl)
  go_enter Tryd.func30, Tryd.ntmps30
  go_wp2
  go_ret
  exact ⟨rfl, K0.out.1⟩

set_option maxRecDepth 100000 in
set_option maxHeartbeats 4000000 in
theorem rst_p1 (d : Int) (hd : d ≠ 0)
    (w : World) :
    Calls Tryd.prog 30 #[.agg #[.int .i64 1, .int .i64 d]] w fun r' w' => r' = .returned (.bool false) ∧ Below w.heap.size w w' := by
  have d0 : (d == 0) = false := by simpa using hd
  have K0 : Hid (BS w [(w.heap.size, [.int .i64 1, .int .i64 d])] (w.alloc (.cells #[.int .i64 1, .int .i64 d] 38))) := ((BS.start w).new [.int .i64 1, .int .i64 d] 38 rfl)
  go_enter Tryd.func30, Tryd.ntmps30
  go_wp2
  go_ret
  exact ⟨rfl, K0.out.1⟩

set_option maxRecDepth 100000 in
set_option maxHeartbeats 4000000 in
theorem rst_x (i d : Int) (h0 : i ≠ 0) (h1 : i ≠ -1) (h2 : i ≠ 1)
    (w : World) :
    Calls Tryd.prog 30 #[.agg #[.int .i64 i, .int .i64 d]] w fun r' w' => r' = .returned (.bool false) ∧ Below w.heap.size w w' := by
  have g0 : (i == 0) = false := by simpa using h0
  have g1 : (i == -1) = false := by simpa using h1
  have g2 : (i == 1) = false := by simpa using h2
  have K0 : Hid (BS w [(w.heap.size, [.int .i64 i, .int .i64 d])] (w.alloc (.cells #[.int .i64 i, .int .i64 d] 38))) := ((BS.start w).new [.int .i64 i, .int .i64 d] 38 rfl)
  go_enter Tryd.func30, Tryd.ntmps30
  go_wp2
  go_ret
  exact ⟨rfl, K0.out.1⟩

set_option maxRecDepth 100000 in
set_option maxHeartbeats 4000000 in
theorem rrst_0 (d N R : Int) (c : Bool)
    (SP : Hid (∀ w : World, Calls Tryd.prog 50 #[.int .i64 d] w fun r' w' => r' = .returned (.tuple #[.int .i64 N, .int .i64 R]) ∧ Below w.heap.size w w'))
    (C : Hid (∀ w : World, Calls Tryd.prog 37 #[.int .i64 N] w fun r' w' => r' = .returned (.bool c) ∧ w' = w))
    (w : World) :
    Calls Tryd.prog 31 #[.agg #[.int .i64 0, .int .i64 d]] w fun r' w' => r' = .returned (.bool c) ∧ Below w.heap.size w w' := by
  have K0 : Hid (BS w [(w.heap.size, [.int .i64 0, .int .i64 d])] (w.alloc (.cells #[.int .i64 0, .int .i64 d] 38))) := ((BS.start w).new [.int .i64 0, .int .i64 d] 38 rfl)
  go_enter Tryd.func31, Tryd.ntmps31
  go_wp2_with fail
  refine (SP.out _).mono ?_
  rintro e W1 ⟨rfl, hb⟩
  have K1 : Hid (BS w [(w.heap.size, [.int .i64 0, .int .i64 d])] W1) := K0.out.below hb
  clear hb K0
  have c1_0_0 : W1.cell? ⟨w.heap.size, 0, none⟩ = some (.int .i64 0) := (K1.out.at (w.heap.size) [.int .i64 0, .int .i64 d] (by simp)).c 0 rfl
  have c1_0_1 : W1.cell? ⟨w.heap.size, 1, none⟩ = some (.int .i64 d) := (K1.out.at (w.heap.size) [.int .i64 0, .int .i64 d] (by simp)).c 1 rfl
  go_wp2_with fail
  refine (C.out _).mono ?_
  rintro e W2 ⟨rfl, rfl⟩
  go_wp2
  go_ret
  exact ⟨rfl, K1.out.1⟩

set_option maxRecDepth 100000 in
set_option maxHeartbeats 4000000 in
theorem rrst_m0 (d : Int) (hd : d = 0)
    (w : World) :
    Calls Tryd.prog 31 #[.agg #[.int .i64 (-1), .int .i64 0]] w fun r' w' => r' = .returned (.bool true) ∧ Below w.heap.size w w' := by
  have K0 : Hid (BS w [(w.heap.size, [.int .i64 (-1), .int .i64 0])] (w.alloc (.cells #[.int .i64 (-1), .int .i64 0] 38))) := ((BS.start w).new [.int .i64 (-1), .int .i64 0] 38 rfl)
  go_enter Tryd.func31, Tryd.ntmps31
  go_wp2
  go_ret
  exact ⟨rfl, K0.out.1⟩

set_option maxRecDepth 100000 in
set_option maxHeartbeats 4000000 in
theorem rrst_p0 (d : Int) (hd : d = 0)
    (w : World) :
    Calls Tryd.prog 31 #[.agg #[.int .i64 1, .int .i64 0]] w fun r' w' => r' = .returned (.bool true) ∧ Below w.heap.size w w' := by
  have K0 : Hid (BS w [(w.heap.size, [.int .i64 1, .int .i64 0])] (w.alloc (.cells #[.int .i64 1, .int .i64 0] 38))) := ((BS.start w).new [.int .i64 1, .int .i64 0] 38 rfl)
  go_enter Tryd.func31, Tryd.ntmps31
  go_wp2
  go_ret
  exact ⟨rfl, K0.out.1⟩

set_option maxRecDepth 100000 in
set_option maxHeartbeats 4000000 in
theorem rrst_m1 (d : Int) (hd : d ≠ 0)
    (w : World) :
    Calls Tryd.prog 31 #[.agg #[.int .i64 (-1), .int .i64 d]] w fun r' w' => r' = .returned (.bool false) ∧ Below w.heap.size w w' := by
  have d0 : (d == 0) = false := by simpa using hd
  have K0 : Hid (BS w [(w.heap.size, [.int .i64 (-1), .int .i64 d])] (w.alloc (.cells #[.int .i64 (-1), .int .i64 d] 38))) := ((BS.start w).new [.int .i64 (-1), .int .i64 d] 38 rfl)
  go_enter Tryd.func31, Tryd.ntmps31
  go_wp2
  go_ret
  exact ⟨rfl, K0.out.1⟩

set_option maxRecDepth 100000 in
set_option maxHeartbeats 4000000 in
theorem rrst_p1 (d : Int) (hd : d ≠ 0)
    (w : World) :
    Calls Tryd.prog 31 #[.agg #[.int .i64 1, .int .i64 d]] w fun r' w' => r' = .returned (.bool false) ∧ Below w.heap.size w w' := by
  have d0 : (d == 0) = false := by simpa using hd
  have K0 : Hid (BS w [(w.heap.size, [.int .i64 1, .int .i64 d])] (w.alloc (.cells #[.int .i64 1, .int .i64 d] 38))) := ((BS.start w).new [.int .i64 1, .int .i64 d] 38 rfl)
  go_enter Tryd.func31, Tryd.ntmps31
  go_wp2
  go_ret
  exact ⟨rfl, K0.out.1⟩

set_option maxRecDepth 100000 in
set_option maxHeartbeats 4000000 in
theorem rrst_x (i d : Int) (h0 : i ≠ 0) (h1 : i ≠ -1) (h2 : i ≠ 1)
    (w : World) :
    Calls Tryd.prog 31 #[.agg #[.int .i64 i, .int .i64 d]] w fun r' w' => r' = .returned (.bool false) ∧ Below w.heap.size w w' := by
  have g0 : (i == 0) = false := by simpa using h0
  have g1 : (i == -1) = false := by simpa using h1
  have g2 : (i == 1) = false := by simpa using h2
  have K0 : Hid (BS w [(w.heap.size, [.int .i64 i, .int .i64 d])] (w.alloc (.cells #[.int .i64 i, .int .i64 d] 38))) := ((BS.start w).new [.int .i64 i, .int .i64 d] 38 rfl)
  go_enter Tryd.func31, Tryd.ntmps31
  go_wp2
  go_ret
  exact ⟨rfl, K0.out.1⟩


end Go.Proofs.YtghfgabajdghiaaDoor
