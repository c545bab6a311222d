/- ops: fields of stamps and dates. -/
import Derived.Test.YtofmmdfdiaahhaaGreatDoorOpUq
import Derived.Deep.Cut
namespace Go.Proofs.YtofmmdfdiaahhaaGreatDoor
open Go.RowKit
set_option linter.unusedVariables false

set_option maxRecDepth 100000 in
set_option maxHeartbeats 4000000 in
theorem whole_any (n : Int)
    (w : World) :
    Calls Tryz.prog 63 #[.int .i64 n] w fun r' w' => r' = .returned (.agg #[.int .i64 n, .int .i64 0]) ∧ Below w.heap.size w w' := by
  have K0 : Hid (BS w [(w.heap.size, [.int .i64 0, .int .i64 0])] (w.alloc (.cells #[.int .i64 0, .int .i64 0] 45))) := ((BS.start w).new [.int .i64 0, .int .i64 0] 45 rfl)
  go_enter Tryz.func63, Tryz.ntmps63
  go_wp2
  exact bodyPost_ret (v := .agg #[.int .i64 n, .int .i64 0]) (by simp [results, Tryz.results63, go_sem]) rfl ⟨rfl, (by repeat' (first | assumption | exact Below.refl _ _ | exact Nat.le_refl _ | refine Below.alloc ?_ ?_ _ | (simp; done) | (simp; omega) | omega))⟩

set_option maxRecDepth 100000 in
set_option maxHeartbeats 4000000 in
theorem ot_h (us : Int) (u1 : 0 ≤ us) (u2 : us < 86400000000)
    (WH : Hid (∀ w : World, Calls Tryz.prog 63 #[.int .i64 (us / 3600000000)] w fun r' w' => r' = .returned (.agg #[.int .i64 (us / 3600000000), .int .i64 0]) ∧ Below w.heap.size w w'))
    (w : World) :
    Calls Tryz.prog 65 #[.int .i64 4, .int .i64 us] w fun r' w' => r' = .returned (.agg #[.int .i64 (us / 3600000000), .int .i64 0]) ∧ Below w.heap.size w w' := by
  have K0 : Hid (BS w [(w.heap.size, [.int .i64 0, .int .i64 0])] (w.alloc (.cells #[.int .i64 0, .int .i64 0] 45))) := ((BS.start w).new [.int .i64 0, .int .i64 0] 45 rfl)
  go_enter Tryz.func65, Tryz.ntmps65
  go_wp2_with fail
  refine (WH.out _).mono ?_
  rintro e W1 ⟨rfl, hb⟩
  have K1 := bsb K0 hb
  clear hb K0
  obtain ⟨c1_0_0, c1_0_1⟩ := (bo1 K1).c2
  obtain ⟨z1_0_0, z1_0_1⟩ := (bo1 K1).f2
  have XF : Hid (Bx (W1.setCells (w.heap.size) 0 [.int .i64 (us / 3600000000), .int .i64 0]) (w.heap.size) [.int .i64 (us / 3600000000), .int .i64 0]) := (K1.out.at (w.heap.size) [.int .i64 0, .int .i64 0] (by simp)).setAll _ rfl
  have BF : Hid (Below w.heap.size w (W1.setCells (w.heap.size) 0 [.int .i64 (us / 3600000000), .int .i64 0])) := below_setCells (by omega) _ _ _ K1.out.1
  have y0 := XF.out.c 0 rfl
  have y1 := XF.out.c 1 rfl
  simp only [World.setCells, Nat.zero_add] at y0 y1
  clear XF
  go_wp2
  exact bodyPost_ret (v := .agg #[.int .i64 (us / 3600000000), .int .i64 0]) (by simp [results, Tryz.results65, go_sem, y0, y1]) rfl ⟨rfl, BF.out⟩

set_option maxRecDepth 100000 in
set_option maxHeartbeats 4000000 in
theorem ot_mi (us : Int) (u1 : 0 ≤ us) (u2 : us < 86400000000)
    (WH : Hid (∀ w : World, Calls Tryz.prog 63 #[.int .i64 (us / 60000000 % 60)] w fun r' w' => r' = .returned (.agg #[.int .i64 (us / 60000000 % 60), .int .i64 0]) ∧ Below w.heap.size w w'))
    (w : World) :
    Calls Tryz.prog 65 #[.int .i64 3, .int .i64 us] w fun r' w' => r' = .returned (.agg #[.int .i64 (us / 60000000 % 60), .int .i64 0]) ∧ Below w.heap.size w w' := by
  have K0 : Hid (BS w [(w.heap.size, [.int .i64 0, .int .i64 0])] (w.alloc (.cells #[.int .i64 0, .int .i64 0] 45))) := ((BS.start w).new [.int .i64 0, .int .i64 0] 45 rfl)
  go_enter Tryz.func65, Tryz.ntmps65
  go_wp2_with fail
  refine (WH.out _).mono ?_
  rintro e W1 ⟨rfl, hb⟩
  have K1 := bsb K0 hb
  clear hb K0
  obtain ⟨c1_0_0, c1_0_1⟩ := (bo1 K1).c2
  obtain ⟨z1_0_0, z1_0_1⟩ := (bo1 K1).f2
  have XF : Hid (Bx (W1.setCells (w.heap.size) 0 [.int .i64 (us / 60000000 % 60), .int .i64 0]) (w.heap.size) [.int .i64 (us / 60000000 % 60), .int .i64 0]) := (K1.out.at (w.heap.size) [.int .i64 0, .int .i64 0] (by simp)).setAll _ rfl
  have BF : Hid (Below w.heap.size w (W1.setCells (w.heap.size) 0 [.int .i64 (us / 60000000 % 60), .int .i64 0])) := below_setCells (by omega) _ _ _ K1.out.1
  have y0 := XF.out.c 0 rfl
  have y1 := XF.out.c 1 rfl
  simp only [World.setCells, Nat.zero_add] at y0 y1
  clear XF
  go_wp2
  exact bodyPost_ret (v := .agg #[.int .i64 (us / 60000000 % 60), .int .i64 0]) (by simp [results, Tryz.results65, go_sem, y0, y1]) rfl ⟨rfl, BF.out⟩

set_option maxRecDepth 100000 in
set_option maxHeartbeats 4000000 in
theorem ot_us (us : Int) (u1 : 0 ≤ us) (u2 : us < 86400000000)
    (WH : Hid (∀ w : World, Calls Tryz.prog 63 #[.int .i64 (us % 60000000)] w fun r' w' => r' = .returned (.agg #[.int .i64 (us % 60000000), .int .i64 0]) ∧ Below w.heap.size w w'))
    (w : World) :
    Calls Tryz.prog 65 #[.int .i64 0, .int .i64 us] w fun r' w' => r' = .returned (.agg #[.int .i64 (us % 60000000), .int .i64 0]) ∧ Below w.heap.size w w' := by
  have K0 : Hid (BS w [(w.heap.size, [.int .i64 0, .int .i64 0])] (w.alloc (.cells #[.int .i64 0, .int .i64 0] 45))) := ((BS.start w).new [.int .i64 0, .int .i64 0] 45 rfl)
  go_enter Tryz.func65, Tryz.ntmps65
  go_wp2_with fail
  refine (WH.out _).mono ?_
  rintro e W1 ⟨rfl, hb⟩
  have K1 := bsb K0 hb
  clear hb K0
  obtain ⟨c1_0_0, c1_0_1⟩ := (bo1 K1).c2
  obtain ⟨z1_0_0, z1_0_1⟩ := (bo1 K1).f2
  have XF : Hid (Bx (W1.setCells (w.heap.size) 0 [.int .i64 (us % 60000000), .int .i64 0]) (w.heap.size) [.int .i64 (us % 60000000), .int .i64 0]) := (K1.out.at (w.heap.size) [.int .i64 0, .int .i64 0] (by simp)).setAll _ rfl
  have BF : Hid (Below w.heap.size w (W1.setCells (w.heap.size) 0 [.int .i64 (us % 60000000), .int .i64 0])) := below_setCells (by omega) _ _ _ K1.out.1
  have y0 := XF.out.c 0 rfl
  have y1 := XF.out.c 1 rfl
  simp only [World.setCells, Nat.zero_add] at y0 y1
  clear XF
  go_wp2
  exact bodyPost_ret (v := .agg #[.int .i64 (us % 60000000), .int .i64 0]) (by simp [results, Tryz.results65, go_sem, y0, y1]) rfl ⟨rfl, BF.out⟩

set_option maxRecDepth 100000 in
set_option maxHeartbeats 4000000 in
theorem ot_s (us : Int) (u1 : 0 ≤ us) (u2 : us < 86400000000)
    (w : World) :
    Calls Tryz.prog 65 #[.int .i64 2, .int .i64 us] w fun r' w' => r' = .returned (.agg #[.int .i64 (us % 60000000), .int .i64 6]) ∧ Below w.heap.size w w' := by
  have K0 : Hid (BS w [(w.heap.size, [.int .i64 0, .int .i64 0])] (w.alloc (.cells #[.int .i64 0, .int .i64 0] 45))) := ((BS.start w).new [.int .i64 0, .int .i64 0] 45 rfl)
  go_enter Tryz.func65, Tryz.ntmps65
  go_wp2
  exact bodyPost_ret (v := .agg #[.int .i64 (us % 60000000), .int .i64 6]) (by simp [results, Tryz.results65, go_sem]) rfl ⟨rfl, (by repeat' (first | assumption | exact Below.refl _ _ | exact Nat.le_refl _ | refine Below.alloc ?_ ?_ _ | (simp; done) | (simp; omega) | omega))⟩

set_option maxRecDepth 100000 in
set_option maxHeartbeats 4000000 in
theorem quarter_any (m : Int) (m1 : 1 ≤ m) (m2 : m ≤ 12) (w : World) : Calls Tryz.prog 76 #[.int .i64 m] w fun r w' => r = .returned (.int .i64 ((m + 2) / 3)) ∧ w' = w := by
  have e : (m + 2) / 3 = (m - 1).tdiv 3 + 1 := by rw [Int.tdiv_eq_ediv_of_nonneg (by omega)]; omega
  have b1 : 0 ≤ (m - 1).tdiv 3 := by rw [Int.tdiv_eq_ediv_of_nonneg (by omega)]; omega
  have b2 : (m - 1).tdiv 3 ≤ 100 := by rw [Int.tdiv_eq_ediv_of_nonneg (by omega)]; omega
  rw [e]
  clear e
  go_enter Tryz.func76, Tryz.ntmps76
  go_wp2
  go_ret
  exact ⟨rfl, rfl⟩

set_option maxRecDepth 100000 in
set_option maxHeartbeats 4000000 in
theorem ord_2000 (w : World) : Calls Tryz.prog 122 #[.int .i64 2000, .int .i64 100] w fun r w' => r = .returned (.int .i64 20) ∧ w' = w := by
  go_enter Tryz.func122, Tryz.ntmps122
  go_wp2
  go_ret
  exact ⟨rfl, rfl⟩
/-- a year without a year 0. -/
def shY (y : Int) : Int := if y < 1 then y - 1 else y

set_option maxRecDepth 100000 in
set_option maxHeartbeats 4000000 in
theorem oy_9 (y : Int) (y1 : -1000000 ≤ y) (y2 : y ≤ 1000000) (w : World) : Calls Tryz.prog 99 #[.int .i64 9, .int .i64 y] w fun r w' => r = .returned (.int .i64 (shY y)) ∧ w' = w := by
  unfold shY
  by_cases h : y < 1
  · rw [if_pos h]
    go_enter Tryz.func99, Tryz.ntmps99
    go_wp2
    go_ret
    exact ⟨rfl, rfl⟩
  · rw [if_neg h]
    go_enter Tryz.func99, Tryz.ntmps99
    go_wp2
    go_ret
    exact ⟨rfl, rfl⟩

set_option maxRecDepth 100000 in
set_option maxHeartbeats 4000000 in
theorem oy_11 (w : World) : Calls Tryz.prog 99 #[.int .i64 11, .int .i64 2000] w fun r w' => r = .returned (.int .i64 20) ∧ w' = w := by
  go_enter Tryz.func99, Tryz.ntmps99
  go_wp2_with fail
  refine (ord_2000 _).mono ?_
  rintro e W ⟨rfl, rfl⟩
  go_wp2
  go_ret
  exact ⟨rfl, rfl⟩

set_option maxRecDepth 100000 in
set_option maxHeartbeats 4000000 in
theorem od_5 (d y m q n : Int)
    (PA : Hid (∀ w : World, Cvl.Lens w → Calls Tryz.prog 72 #[.agg #[.int .i64 0, .int .i64 d]] w fun r' w' => r' = .returned (.tuple #[.int .i64 y, .int .i64 m, .int .i64 q, .int .i64 0]) ∧ Below w.heap.size w w'))
    (w : World) (hL : Hid (∀ W : World, Below w.heap.size w W → Cvl.Lens W)) :
    Calls Tryz.prog 68 #[.int .i64 5, .agg #[.int .i64 0, .int .i64 d]] w fun r' w' => r' = .returned (.int .i64 q) ∧ Below w.heap.size w w' := by
  have K0 : Hid (BS w [(w.heap.size, [.int .i64 0, .int .i64 d])] (w.alloc (.cells #[.int .i64 0, .int .i64 d] 40))) := ((BS.start w).new [.int .i64 0, .int .i64 d] 40 rfl)
  go_enter Tryz.func68, Tryz.ntmps68
  go_wp2_with fail
  refine (PA.out _ (hL.out _ K0.out.1)).mono ?_
  rintro e W1 ⟨rfl, hb⟩
  have K1 := bsb K0 hb
  clear hb K0
  obtain ⟨c1_0_0, c1_0_1⟩ := (bo1 K1).c2
  go_wp2
  go_ret
  exact ⟨rfl, K1.out.1⟩

set_option maxRecDepth 100000 in
set_option maxHeartbeats 4000000 in
theorem od_7 (d y m q n : Int)
    (PA : Hid (∀ w : World, Cvl.Lens w → Calls Tryz.prog 72 #[.agg #[.int .i64 0, .int .i64 d]] w fun r' w' => r' = .returned (.tuple #[.int .i64 y, .int .i64 m, .int .i64 q, .int .i64 0]) ∧ Below w.heap.size w w'))
    (w : World) (hL : Hid (∀ W : World, Below w.heap.size w W → Cvl.Lens W)) :
    Calls Tryz.prog 68 #[.int .i64 7, .agg #[.int .i64 0, .int .i64 d]] w fun r' w' => r' = .returned (.int .i64 m) ∧ Below w.heap.size w w' := by
  have K0 : Hid (BS w [(w.heap.size, [.int .i64 0, .int .i64 d])] (w.alloc (.cells #[.int .i64 0, .int .i64 d] 40))) := ((BS.start w).new [.int .i64 0, .int .i64 d] 40 rfl)
  go_enter Tryz.func68, Tryz.ntmps68
  go_wp2_with fail
  refine (PA.out _ (hL.out _ K0.out.1)).mono ?_
  rintro e W1 ⟨rfl, hb⟩
  have K1 := bsb K0 hb
  clear hb K0
  obtain ⟨c1_0_0, c1_0_1⟩ := (bo1 K1).c2
  go_wp2
  go_ret
  exact ⟨rfl, K1.out.1⟩

set_option maxRecDepth 100000 in
set_option maxHeartbeats 4000000 in
theorem od_8 (d y m q n : Int)
    (PA : Hid (∀ w : World, Cvl.Lens w → Calls Tryz.prog 72 #[.agg #[.int .i64 0, .int .i64 d]] w fun r' w' => r' = .returned (.tuple #[.int .i64 y, .int .i64 m, .int .i64 q, .int .i64 0]) ∧ Below w.heap.size w w'))
    (Q : Hid (∀ w : World, Calls Tryz.prog 76 #[.int .i64 m] w fun r' w' => r' = .returned (.int .i64 n) ∧ w' = w))
    (w : World) (hL : Hid (∀ W : World, Below w.heap.size w W → Cvl.Lens W)) :
    Calls Tryz.prog 68 #[.int .i64 8, .agg #[.int .i64 0, .int .i64 d]] w fun r' w' => r' = .returned (.int .i64 n) ∧ Below w.heap.size w w' := by
  have K0 : Hid (BS w [(w.heap.size, [.int .i64 0, .int .i64 d])] (w.alloc (.cells #[.int .i64 0, .int .i64 d] 40))) := ((BS.start w).new [.int .i64 0, .int .i64 d] 40 rfl)
  go_enter Tryz.func68, Tryz.ntmps68
  go_wp2_with fail
  refine (PA.out _ (hL.out _ K0.out.1)).mono ?_
  rintro e W1 ⟨rfl, hb⟩
  have K1 := bsb K0 hb
  clear hb K0
  obtain ⟨c1_0_0, c1_0_1⟩ := (bo1 K1).c2
  go_wp2_with fail
  refine (Q.out _).mono ?_
  rintro e W2 ⟨rfl, hw⟩
  rw [hw]
  clear hw W2
  go_wp2
  go_ret
  exact ⟨rfl, K1.out.1⟩

set_option maxRecDepth 100000 in
set_option maxHeartbeats 4000000 in
theorem od_9 (d y m q n : Int)
    (PA : Hid (∀ w : World, Cvl.Lens w → Calls Tryz.prog 72 #[.agg #[.int .i64 0, .int .i64 d]] w fun r' w' => r' = .returned (.tuple #[.int .i64 y, .int .i64 m, .int .i64 q, .int .i64 0]) ∧ Below w.heap.size w w'))
    (Q : Hid (∀ w : World, Calls Tryz.prog 99 #[.int .i64 9, .int .i64 y] w fun r' w' => r' = .returned (.int .i64 n) ∧ w' = w))
    (w : World) (hL : Hid (∀ W : World, Below w.heap.size w W → Cvl.Lens W)) :
    Calls Tryz.prog 68 #[.int .i64 9, .agg #[.int .i64 0, .int .i64 d]] w fun r' w' => r' = .returned (.int .i64 n) ∧ Below w.heap.size w w' := by
  have K0 : Hid (BS w [(w.heap.size, [.int .i64 0, .int .i64 d])] (w.alloc (.cells #[.int .i64 0, .int .i64 d] 40))) := ((BS.start w).new [.int .i64 0, .int .i64 d] 40 rfl)
  go_enter Tryz.func68, Tryz.ntmps68
  go_wp2_with fail
  refine (PA.out _ (hL.out _ K0.out.1)).mono ?_
  rintro e W1 ⟨rfl, hb⟩
  have K1 := bsb K0 hb
  clear hb K0
  obtain ⟨c1_0_0, c1_0_1⟩ := (bo1 K1).c2
  go_wp2_with fail
  refine (Q.out _).mono ?_
  rintro e W2 ⟨rfl, hw⟩
  rw [hw]
  clear hw W2
  go_wp2
  go_ret
  exact ⟨rfl, K1.out.1⟩

set_option maxRecDepth 100000 in
set_option maxHeartbeats 4000000 in
theorem od_11 (d y m q n : Int)
    (PA : Hid (∀ w : World, Cvl.Lens w → Calls Tryz.prog 72 #[.agg #[.int .i64 0, .int .i64 d]] w fun r' w' => r' = .returned (.tuple #[.int .i64 y, .int .i64 m, .int .i64 q, .int .i64 0]) ∧ Below w.heap.size w w'))
    (Q : Hid (∀ w : World, Calls Tryz.prog 99 #[.int .i64 11, .int .i64 y] w fun r' w' => r' = .returned (.int .i64 n) ∧ w' = w))
    (w : World) (hL : Hid (∀ W : World, Below w.heap.size w W → Cvl.Lens W)) :
    Calls Tryz.prog 68 #[.int .i64 11, .agg #[.int .i64 0, .int .i64 d]] w fun r' w' => r' = .returned (.int .i64 n) ∧ Below w.heap.size w w' := by
  have K0 : Hid (BS w [(w.heap.size, [.int .i64 0, .int .i64 d])] (w.alloc (.cells #[.int .i64 0, .int .i64 d] 40))) := ((BS.start w).new [.int .i64 0, .int .i64 d] 40 rfl)
  go_enter Tryz.func68, Tryz.ntmps68
  go_wp2_with fail
  refine (PA.out _ (hL.out _ K0.out.1)).mono ?_
  rintro e W1 ⟨rfl, hb⟩
  have K1 := bsb K0 hb
  clear hb K0
  obtain ⟨c1_0_0, c1_0_1⟩ := (bo1 K1).c2
  go_wp2_with fail
  refine (Q.out _).mono ?_
  rintro e W2 ⟨rfl, hw⟩
  rw [hw]
  clear hw W2
  go_wp2
  go_ret
  exact ⟨rfl, K1.out.1⟩

set_option maxRecDepth 100000 in
set_option maxHeartbeats 4000000 in
theorem os_4 (u d us N S : Int)
    (OF : Hid (∀ w : World, Cvl.Lens w → Calls Tryz.prog 47 #[.agg #[.int .i64 0, .int .i64 u]] w fun r' w' => r' = .returned (.tuple #[.agg #[.int .i64 0, .int .i64 d], .int .i64 us, .int .i64 0]) ∧ Below w.heap.size w w'))
    (OT : Hid (∀ w : World, Calls Tryz.prog 65 #[.int .i64 4, .int .i64 us] w fun r' w' => r' = .returned (.agg #[.int .i64 N, .int .i64 S]) ∧ Below w.heap.size w w'))
    (w : World) (hL : Hid (∀ W : World, Below w.heap.size w W → Cvl.Lens W)) :
    Calls Tryz.prog 43 #[.int .i64 4, .agg #[.int .i64 0, .int .i64 u]] w fun r' w' => r' = .returned (.tuple #[.agg #[.int .i64 N, .int .i64 S], .int .i64 0]) ∧ Below w.heap.size w w' := by
  have K0 : Hid (BS w [(w.heap.size + 1, [.int .i64 0, .int .i64 0]), (w.heap.size, [.int .i64 0, .int .i64 u])] ((w.alloc (.cells #[.int .i64 0, .int .i64 u] 23)).alloc (.cells #[.int .i64 0, .int .i64 0] 45))) := (((BS.start w).new [.int .i64 0, .int .i64 u] 23 rfl).new [.int .i64 0, .int .i64 0] 45 (by simp))
  go_enter Tryz.func43, Tryz.ntmps43
  go_wp2_with fail
  refine (OF.out _ (hL.out _ K0.out.1)).mono ?_
  rintro e W1 ⟨rfl, hb⟩
  have K1 := bsb K0 hb
  clear hb K0
  obtain ⟨c1_0_0, c1_0_1⟩ := (bo1 K1).c2
  obtain ⟨c1_1_0, c1_1_1⟩ := (bo2 K1).c2
  have Mz1 := bsn K1 [.int .i64 0, .int .i64 d] 40
  have lt1_0 := (bo1 K1).1
  have lt1_1 := (bo2 K1).1
  go_upto_region 7 with fail
  refine bs_to Mz1 ?_
  clear c1_0_0 c1_0_1 c1_1_0 c1_1_1
  intro W2 K2
  clear Mz1 K1
  obtain ⟨c2_0_0, c2_0_1⟩ := (bo1 K2).c2
  obtain ⟨c2_1_0, c2_1_1⟩ := (bo2 K2).c2
  obtain ⟨c2_2_0, c2_2_1⟩ := (bo3 K2).c2
  go_wp2_with fail
  refine (OT.out _).mono ?_
  rintro e W3 ⟨rfl, hb⟩
  have K3 := bsb K2 hb
  clear c2_0_0 c2_0_1 c2_1_0 c2_1_1 c2_2_0 c2_2_1
  clear hb K2
  obtain ⟨c3_0_0, c3_0_1⟩ := (bo1 K3).c2
  obtain ⟨c3_1_0, c3_1_1⟩ := (bo2 K3).c2
  obtain ⟨z3_1_0, z3_1_1⟩ := (bo2 K3).f2
  obtain ⟨c3_2_0, c3_2_1⟩ := (bo3 K3).c2
  have XF : Hid (Bx (W3.setCells (w.heap.size + 1) 0 [.int .i64 N, .int .i64 S]) (w.heap.size + 1) [.int .i64 N, .int .i64 S]) := (K3.out.at (w.heap.size + 1) [.int .i64 0, .int .i64 0] (by simp)).setAll _ rfl
  have BF : Hid (Below w.heap.size w (W3.setCells (w.heap.size + 1) 0 [.int .i64 N, .int .i64 S])) := below_setCells (by omega) _ _ _ K3.out.1
  have y0 := XF.out.c 0 rfl
  have y1 := XF.out.c 1 rfl
  simp only [World.setCells, Nat.zero_add] at y0 y1
  clear XF
  go_wp2
  exact bodyPost_ret (v := .tuple #[.agg #[.int .i64 N, .int .i64 S], .int .i64 0]) (by simp [results, Tryz.results43, go_sem, y0, y1]) rfl ⟨rfl, BF.out⟩

set_option maxRecDepth 100000 in
set_option maxHeartbeats 4000000 in
theorem os_3 (u d us N S : Int)
    (OF : Hid (∀ w : World, Cvl.Lens w → Calls Tryz.prog 47 #[.agg #[.int .i64 0, .int .i64 u]] w fun r' w' => r' = .returned (.tuple #[.agg #[.int .i64 0, .int .i64 d], .int .i64 us, .int .i64 0]) ∧ Below w.heap.size w w'))
    (OT : Hid (∀ w : World, Calls Tryz.prog 65 #[.int .i64 3, .int .i64 us] w fun r' w' => r' = .returned (.agg #[.int .i64 N, .int .i64 S]) ∧ Below w.heap.size w w'))
    (w : World) (hL : Hid (∀ W : World, Below w.heap.size w W → Cvl.Lens W)) :
    Calls Tryz.prog 43 #[.int .i64 3, .agg #[.int .i64 0, .int .i64 u]] w fun r' w' => r' = .returned (.tuple #[.agg #[.int .i64 N, .int .i64 S], .int .i64 0]) ∧ Below w.heap.size w w' := by
  have K0 : Hid (BS w [(w.heap.size + 1, [.int .i64 0, .int .i64 0]), (w.heap.size, [.int .i64 0, .int .i64 u])] ((w.alloc (.cells #[.int .i64 0, .int .i64 u] 23)).alloc (.cells #[.int .i64 0, .int .i64 0] 45))) := (((BS.start w).new [.int .i64 0, .int .i64 u] 23 rfl).new [.int .i64 0, .int .i64 0] 45 (by simp))
  go_enter Tryz.func43, Tryz.ntmps43
  go_wp2_with fail
  refine (OF.out _ (hL.out _ K0.out.1)).mono ?_
  rintro e W1 ⟨rfl, hb⟩
  have K1 := bsb K0 hb
  clear hb K0
  obtain ⟨c1_0_0, c1_0_1⟩ := (bo1 K1).c2
  obtain ⟨c1_1_0, c1_1_1⟩ := (bo2 K1).c2
  have Mz1 := bsn K1 [.int .i64 0, .int .i64 d] 40
  have lt1_0 := (bo1 K1).1
  have lt1_1 := (bo2 K1).1
  go_upto_region 7 with fail
  refine bs_to Mz1 ?_
  clear c1_0_0 c1_0_1 c1_1_0 c1_1_1
  intro W2 K2
  clear Mz1 K1
  obtain ⟨c2_0_0, c2_0_1⟩ := (bo1 K2).c2
  obtain ⟨c2_1_0, c2_1_1⟩ := (bo2 K2).c2
  obtain ⟨c2_2_0, c2_2_1⟩ := (bo3 K2).c2
  go_wp2_with fail
  refine (OT.out _).mono ?_
  rintro e W3 ⟨rfl, hb⟩
  have K3 := bsb K2 hb
  clear c2_0_0 c2_0_1 c2_1_0 c2_1_1 c2_2_0 c2_2_1
  clear hb K2
  obtain ⟨c3_0_0, c3_0_1⟩ := (bo1 K3).c2
  obtain ⟨c3_1_0, c3_1_1⟩ := (bo2 K3).c2
  obtain ⟨z3_1_0, z3_1_1⟩ := (bo2 K3).f2
  obtain ⟨c3_2_0, c3_2_1⟩ := (bo3 K3).c2
  have XF : Hid (Bx (W3.setCells (w.heap.size + 1) 0 [.int .i64 N, .int .i64 S]) (w.heap.size + 1) [.int .i64 N, .int .i64 S]) := (K3.out.at (w.heap.size + 1) [.int .i64 0, .int .i64 0] (by simp)).setAll _ rfl
  have BF : Hid (Below w.heap.size w (W3.setCells (w.heap.size + 1) 0 [.int .i64 N, .int .i64 S])) := below_setCells (by omega) _ _ _ K3.out.1
  have y0 := XF.out.c 0 rfl
  have y1 := XF.out.c 1 rfl
  simp only [World.setCells, Nat.zero_add] at y0 y1
  clear XF
  go_wp2
  exact bodyPost_ret (v := .tuple #[.agg #[.int .i64 N, .int .i64 S], .int .i64 0]) (by simp [results, Tryz.results43, go_sem, y0, y1]) rfl ⟨rfl, BF.out⟩

set_option maxRecDepth 100000 in
set_option maxHeartbeats 4000000 in
theorem os_0 (u d us N S : Int)
    (OF : Hid (∀ w : World, Cvl.Lens w → Calls Tryz.prog 47 #[.agg #[.int .i64 0, .int .i64 u]] w fun r' w' => r' = .returned (.tuple #[.agg #[.int .i64 0, .int .i64 d], .int .i64 us, .int .i64 0]) ∧ Below w.heap.size w w'))
    (OT : Hid (∀ w : World, Calls Tryz.prog 65 #[.int .i64 0, .int .i64 us] w fun r' w' => r' = .returned (.agg #[.int .i64 N, .int .i64 S]) ∧ Below w.heap.size w w'))
    (w : World) (hL : Hid (∀ W : World, Below w.heap.size w W → Cvl.Lens W)) :
    Calls Tryz.prog 43 #[.int .i64 0, .agg #[.int .i64 0, .int .i64 u]] w fun r' w' => r' = .returned (.tuple #[.agg #[.int .i64 N, .int .i64 S], .int .i64 0]) ∧ Below w.heap.size w w' := by
  have K0 : Hid (BS w [(w.heap.size + 1, [.int .i64 0, .int .i64 0]), (w.heap.size, [.int .i64 0, .int .i64 u])] ((w.alloc (.cells #[.int .i64 0, .int .i64 u] 23)).alloc (.cells #[.int .i64 0, .int .i64 0] 45))) := (((BS.start w).new [.int .i64 0, .int .i64 u] 23 rfl).new [.int .i64 0, .int .i64 0] 45 (by simp))
  go_enter Tryz.func43, Tryz.ntmps43
  go_wp2_with fail
  refine (OF.out _ (hL.out _ K0.out.1)).mono ?_
  rintro e W1 ⟨rfl, hb⟩
  have K1 := bsb K0 hb
  clear hb K0
  obtain ⟨c1_0_0, c1_0_1⟩ := (bo1 K1).c2
  obtain ⟨c1_1_0, c1_1_1⟩ := (bo2 K1).c2
  have Mz1 := bsn K1 [.int .i64 0, .int .i64 d] 40
  have lt1_0 := (bo1 K1).1
  have lt1_1 := (bo2 K1).1
  go_upto_region 7 with fail
  refine bs_to Mz1 ?_
  clear c1_0_0 c1_0_1 c1_1_0 c1_1_1
  intro W2 K2
  clear Mz1 K1
  obtain ⟨c2_0_0, c2_0_1⟩ := (bo1 K2).c2
  obtain ⟨c2_1_0, c2_1_1⟩ := (bo2 K2).c2
  obtain ⟨c2_2_0, c2_2_1⟩ := (bo3 K2).c2
  go_wp2_with fail
  refine (OT.out _).mono ?_
  rintro e W3 ⟨rfl, hb⟩
  have K3 := bsb K2 hb
  clear c2_0_0 c2_0_1 c2_1_0 c2_1_1 c2_2_0 c2_2_1
  clear hb K2
  obtain ⟨c3_0_0, c3_0_1⟩ := (bo1 K3).c2
  obtain ⟨c3_1_0, c3_1_1⟩ := (bo2 K3).c2
  obtain ⟨z3_1_0, z3_1_1⟩ := (bo2 K3).f2
  obtain ⟨c3_2_0, c3_2_1⟩ := (bo3 K3).c2
  have XF : Hid (Bx (W3.setCells (w.heap.size + 1) 0 [.int .i64 N, .int .i64 S]) (w.heap.size + 1) [.int .i64 N, .int .i64 S]) := (K3.out.at (w.heap.size + 1) [.int .i64 0, .int .i64 0] (by simp)).setAll _ rfl
  have BF : Hid (Below w.heap.size w (W3.setCells (w.heap.size + 1) 0 [.int .i64 N, .int .i64 S])) := below_setCells (by omega) _ _ _ K3.out.1
  have y0 := XF.out.c 0 rfl
  have y1 := XF.out.c 1 rfl
  simp only [World.setCells, Nat.zero_add] at y0 y1
  clear XF
  go_wp2
  exact bodyPost_ret (v := .tuple #[.agg #[.int .i64 N, .int .i64 S], .int .i64 0]) (by simp [results, Tryz.results43, go_sem, y0, y1]) rfl ⟨rfl, BF.out⟩

set_option maxRecDepth 100000 in
set_option maxHeartbeats 4000000 in
theorem os_5 (u d us N : Int)
    (OF : Hid (∀ w : World, Cvl.Lens w → Calls Tryz.prog 47 #[.agg #[.int .i64 0, .int .i64 u]] w fun r' w' => r' = .returned (.tuple #[.agg #[.int .i64 0, .int .i64 d], .int .i64 us, .int .i64 0]) ∧ Below w.heap.size w w'))
    (OD : Hid (∀ w : World, Cvl.Lens w → Calls Tryz.prog 68 #[.int .i64 5, .agg #[.int .i64 0, .int .i64 d]] w fun r' w' => r' = .returned (.int .i64 N) ∧ Below w.heap.size w w'))
    (WH : Hid (∀ w : World, Calls Tryz.prog 63 #[.int .i64 N] w fun r' w' => r' = .returned (.agg #[.int .i64 N, .int .i64 0]) ∧ Below w.heap.size w w'))
    (w : World) (hL : Hid (∀ W : World, Below w.heap.size w W → Cvl.Lens W)) :
    Calls Tryz.prog 43 #[.int .i64 5, .agg #[.int .i64 0, .int .i64 u]] w fun r' w' => r' = .returned (.tuple #[.agg #[.int .i64 N, .int .i64 0], .int .i64 0]) ∧ Below w.heap.size w w' := by
  have K0 : Hid (BS w [(w.heap.size + 1, [.int .i64 0, .int .i64 0]), (w.heap.size, [.int .i64 0, .int .i64 u])] ((w.alloc (.cells #[.int .i64 0, .int .i64 u] 23)).alloc (.cells #[.int .i64 0, .int .i64 0] 45))) := (((BS.start w).new [.int .i64 0, .int .i64 u] 23 rfl).new [.int .i64 0, .int .i64 0] 45 (by simp))
  go_enter Tryz.func43, Tryz.ntmps43
  go_wp2_with fail
  refine (OF.out _ (hL.out _ K0.out.1)).mono ?_
  rintro e W1 ⟨rfl, hb⟩
  have K1 := bsb K0 hb
  clear hb K0
  obtain ⟨c1_0_0, c1_0_1⟩ := (bo1 K1).c2
  obtain ⟨c1_1_0, c1_1_1⟩ := (bo2 K1).c2
  have Mz1 := bsn K1 [.int .i64 0, .int .i64 d] 40
  have lt1_0 := (bo1 K1).1
  have lt1_1 := (bo2 K1).1
  go_upto_region 7 with fail
  refine bs_to Mz1 ?_
  clear c1_0_0 c1_0_1 c1_1_0 c1_1_1
  intro W2 K2
  clear Mz1 K1
  obtain ⟨c2_0_0, c2_0_1⟩ := (bo1 K2).c2
  obtain ⟨c2_1_0, c2_1_1⟩ := (bo2 K2).c2
  obtain ⟨c2_2_0, c2_2_1⟩ := (bo3 K2).c2
  go_wp2_with fail
  refine (OD.out _ (hL.out _ K2.out.1)).mono ?_
  rintro e W3 ⟨rfl, hb⟩
  have K3 := bsb K2 hb
  clear c2_0_0 c2_0_1 c2_1_0 c2_1_1 c2_2_0 c2_2_1
  clear hb K2
  obtain ⟨c3_0_0, c3_0_1⟩ := (bo1 K3).c2
  obtain ⟨c3_1_0, c3_1_1⟩ := (bo2 K3).c2
  obtain ⟨c3_2_0, c3_2_1⟩ := (bo3 K3).c2
  go_wp2_with fail
  refine (WH.out _).mono ?_
  rintro e W4 ⟨rfl, hb⟩
  have K4 := bsb K3 hb
  clear c3_0_0 c3_0_1 c3_1_0 c3_1_1 c3_2_0 c3_2_1
  clear hb K3
  obtain ⟨c4_0_0, c4_0_1⟩ := (bo1 K4).c2
  obtain ⟨c4_1_0, c4_1_1⟩ := (bo2 K4).c2
  obtain ⟨z4_1_0, z4_1_1⟩ := (bo2 K4).f2
  obtain ⟨c4_2_0, c4_2_1⟩ := (bo3 K4).c2
  have XF : Hid (Bx (W4.setCells (w.heap.size + 1) 0 [.int .i64 N, .int .i64 0]) (w.heap.size + 1) [.int .i64 N, .int .i64 0]) := (K4.out.at (w.heap.size + 1) [.int .i64 0, .int .i64 0] (by simp)).setAll _ rfl
  have BF : Hid (Below w.heap.size w (W4.setCells (w.heap.size + 1) 0 [.int .i64 N, .int .i64 0])) := below_setCells (by omega) _ _ _ K4.out.1
  have y0 := XF.out.c 0 rfl
  have y1 := XF.out.c 1 rfl
  simp only [World.setCells, Nat.zero_add] at y0 y1
  clear XF
  go_wp2
  exact bodyPost_ret (v := .tuple #[.agg #[.int .i64 N, .int .i64 0], .int .i64 0]) (by simp [results, Tryz.results43, go_sem, y0, y1]) rfl ⟨rfl, BF.out⟩

set_option maxRecDepth 100000 in
set_option maxHeartbeats 4000000 in
theorem os_7 (u d us N : Int)
    (OF : Hid (∀ w : World, Cvl.Lens w → Calls Tryz.prog 47 #[.agg #[.int .i64 0, .int .i64 u]] w fun r' w' => r' = .returned (.tuple #[.agg #[.int .i64 0, .int .i64 d], .int .i64 us, .int .i64 0]) ∧ Below w.heap.size w w'))
    (OD : Hid (∀ w : World, Cvl.Lens w → Calls Tryz.prog 68 #[.int .i64 7, .agg #[.int .i64 0, .int .i64 d]] w fun r' w' => r' = .returned (.int .i64 N) ∧ Below w.heap.size w w'))
    (WH : Hid (∀ w : World, Calls Tryz.prog 63 #[.int .i64 N] w fun r' w' => r' = .returned (.agg #[.int .i64 N, .int .i64 0]) ∧ Below w.heap.size w w'))
    (w : World) (hL : Hid (∀ W : World, Below w.heap.size w W → Cvl.Lens W)) :
    Calls Tryz.prog 43 #[.int .i64 7, .agg #[.int .i64 0, .int .i64 u]] w fun r' w' => r' = .returned (.tuple #[.agg #[.int .i64 N, .int .i64 0], .int .i64 0]) ∧ Below w.heap.size w w' := by
  have K0 : Hid (BS w [(w.heap.size + 1, [.int .i64 0, .int .i64 0]), (w.heap.size, [.int .i64 0, .int .i64 u])] ((w.alloc (.cells #[.int .i64 0, .int .i64 u] 23)).alloc (.cells #[.int .i64 0, .int .i64 0] 45))) := (((BS.start w).new [.int .i64 0, .int .i64 u] 23 rfl).new [.int .i64 0, .int .i64 0] 45 (by simp))
  go_enter Tryz.func43, Tryz.ntmps43
  go_wp2_with fail
  refine (OF.out _ (hL.out _ K0.out.1)).mono ?_
  rintro e W1 ⟨rfl, hb⟩
  have K1 := bsb K0 hb
  clear hb K0
  obtain ⟨c1_0_0, c1_0_1⟩ := (bo1 K1).c2
  obtain ⟨c1_1_0, c1_1_1⟩ := (bo2 K1).c2
  have Mz1 := bsn K1 [.int .i64 0, .int .i64 d] 40
  have lt1_0 := (bo1 K1).1
  have lt1_1 := (bo2 K1).1
  go_upto_region 7 with fail
  refine bs_to Mz1 ?_
  clear c1_0_0 c1_0_1 c1_1_0 c1_1_1
  intro W2 K2
  clear Mz1 K1
  obtain ⟨c2_0_0, c2_0_1⟩ := (bo1 K2).c2
  obtain ⟨c2_1_0, c2_1_1⟩ := (bo2 K2).c2
  obtain ⟨c2_2_0, c2_2_1⟩ := (bo3 K2).c2
  go_wp2_with fail
  refine (OD.out _ (hL.out _ K2.out.1)).mono ?_
  rintro e W3 ⟨rfl, hb⟩
  have K3 := bsb K2 hb
  clear c2_0_0 c2_0_1 c2_1_0 c2_1_1 c2_2_0 c2_2_1
  clear hb K2
  obtain ⟨c3_0_0, c3_0_1⟩ := (bo1 K3).c2
  obtain ⟨c3_1_0, c3_1_1⟩ := (bo2 K3).c2
  obtain ⟨c3_2_0, c3_2_1⟩ := (bo3 K3).c2
  go_wp2_with fail
  refine (WH.out _).mono ?_
  rintro e W4 ⟨rfl, hb⟩
  have K4 := bsb K3 hb
  clear c3_0_0 c3_0_1 c3_1_0 c3_1_1 c3_2_0 c3_2_1
  clear hb K3
  obtain ⟨c4_0_0, c4_0_1⟩ := (bo1 K4).c2
  obtain ⟨c4_1_0, c4_1_1⟩ := (bo2 K4).c2
  obtain ⟨z4_1_0, z4_1_1⟩ := (bo2 K4).f2
  obtain ⟨c4_2_0, c4_2_1⟩ := (bo3 K4).c2
  have XF : Hid (Bx (W4.setCells (w.heap.size + 1) 0 [.int .i64 N, .int .i64 0]) (w.heap.size + 1) [.int .i64 N, .int .i64 0]) := (K4.out.at (w.heap.size + 1) [.int .i64 0, .int .i64 0] (by simp)).setAll _ rfl
  have BF : Hid (Below w.heap.size w (W4.setCells (w.heap.size + 1) 0 [.int .i64 N, .int .i64 0])) := below_setCells (by omega) _ _ _ K4.out.1
  have y0 := XF.out.c 0 rfl
  have y1 := XF.out.c 1 rfl
  simp only [World.setCells, Nat.zero_add] at y0 y1
  clear XF
  go_wp2
  exact bodyPost_ret (v := .tuple #[.agg #[.int .i64 N, .int .i64 0], .int .i64 0]) (by simp [results, Tryz.results43, go_sem, y0, y1]) rfl ⟨rfl, BF.out⟩

set_option maxRecDepth 100000 in
set_option maxHeartbeats 4000000 in
theorem os_8 (u d us N : Int)
    (OF : Hid (∀ w : World, Cvl.Lens w → Calls Tryz.prog 47 #[.agg #[.int .i64 0, .int .i64 u]] w fun r' w' => r' = .returned (.tuple #[.agg #[.int .i64 0, .int .i64 d], .int .i64 us, .int .i64 0]) ∧ Below w.heap.size w w'))
    (OD : Hid (∀ w : World, Cvl.Lens w → Calls Tryz.prog 68 #[.int .i64 8, .agg #[.int .i64 0, .int .i64 d]] w fun r' w' => r' = .returned (.int .i64 N) ∧ Below w.heap.size w w'))
    (WH : Hid (∀ w : World, Calls Tryz.prog 63 #[.int .i64 N] w fun r' w' => r' = .returned (.agg #[.int .i64 N, .int .i64 0]) ∧ Below w.heap.size w w'))
    (w : World) (hL : Hid (∀ W : World, Below w.heap.size w W → Cvl.Lens W)) :
    Calls Tryz.prog 43 #[.int .i64 8, .agg #[.int .i64 0, .int .i64 u]] w fun r' w' => r' = .returned (.tuple #[.agg #[.int .i64 N, .int .i64 0], .int .i64 0]) ∧ Below w.heap.size w w' := by
  have K0 : Hid (BS w [(w.heap.size + 1, [.int .i64 0, .int .i64 0]), (w.heap.size, [.int .i64 0, .int .i64 u])] ((w.alloc (.cells #[.int .i64 0, .int .i64 u] 23)).alloc (.cells #[.int .i64 0, .int .i64 0] 45))) := (((BS.start w).new [.int .i64 0, .int .i64 u] 23 rfl).new [.int .i64 0, .int .i64 0] 45 (by simp))
  go_enter Tryz.func43, Tryz.ntmps43
  go_wp2_with fail
  refine (OF.out _ (hL.out _ K0.out.1)).mono ?_
  rintro e W1 ⟨rfl, hb⟩
  have K1 := bsb K0 hb
  clear hb K0
  obtain ⟨c1_0_0, c1_0_1⟩ := (bo1 K1).c2
  obtain ⟨c1_1_0, c1_1_1⟩ := (bo2 K1).c2
  have Mz1 := bsn K1 [.int .i64 0, .int .i64 d] 40
  have lt1_0 := (bo1 K1).1
  have lt1_1 := (bo2 K1).1
  go_upto_region 7 with fail
  refine bs_to Mz1 ?_
  clear c1_0_0 c1_0_1 c1_1_0 c1_1_1
  intro W2 K2
  clear Mz1 K1
  obtain ⟨c2_0_0, c2_0_1⟩ := (bo1 K2).c2
  obtain ⟨c2_1_0, c2_1_1⟩ := (bo2 K2).c2
  obtain ⟨c2_2_0, c2_2_1⟩ := (bo3 K2).c2
  go_wp2_with fail
  refine (OD.out _ (hL.out _ K2.out.1)).mono ?_
  rintro e W3 ⟨rfl, hb⟩
  have K3 := bsb K2 hb
  clear c2_0_0 c2_0_1 c2_1_0 c2_1_1 c2_2_0 c2_2_1
  clear hb K2
  obtain ⟨c3_0_0, c3_0_1⟩ := (bo1 K3).c2
  obtain ⟨c3_1_0, c3_1_1⟩ := (bo2 K3).c2
  obtain ⟨c3_2_0, c3_2_1⟩ := (bo3 K3).c2
  go_wp2_with fail
  refine (WH.out _).mono ?_
  rintro e W4 ⟨rfl, hb⟩
  have K4 := bsb K3 hb
  clear c3_0_0 c3_0_1 c3_1_0 c3_1_1 c3_2_0 c3_2_1
  clear hb K3
  obtain ⟨c4_0_0, c4_0_1⟩ := (bo1 K4).c2
  obtain ⟨c4_1_0, c4_1_1⟩ := (bo2 K4).c2
  obtain ⟨z4_1_0, z4_1_1⟩ := (bo2 K4).f2
  obtain ⟨c4_2_0, c4_2_1⟩ := (bo3 K4).c2
  have XF : Hid (Bx (W4.setCells (w.heap.size + 1) 0 [.int .i64 N, .int .i64 0]) (w.heap.size + 1) [.int .i64 N, .int .i64 0]) := (K4.out.at (w.heap.size + 1) [.int .i64 0, .int .i64 0] (by simp)).setAll _ rfl
  have BF : Hid (Below w.heap.size w (W4.setCells (w.heap.size + 1) 0 [.int .i64 N, .int .i64 0])) := below_setCells (by omega) _ _ _ K4.out.1
  have y0 := XF.out.c 0 rfl
  have y1 := XF.out.c 1 rfl
  simp only [World.setCells, Nat.zero_add] at y0 y1
  clear XF
  go_wp2
  exact bodyPost_ret (v := .tuple #[.agg #[.int .i64 N, .int .i64 0], .int .i64 0]) (by simp [results, Tryz.results43, go_sem, y0, y1]) rfl ⟨rfl, BF.out⟩

set_option maxRecDepth 100000 in
set_option maxHeartbeats 4000000 in
theorem os_9 (u d us N : Int)
    (OF : Hid (∀ w : World, Cvl.Lens w → Calls Tryz.prog 47 #[.agg #[.int .i64 0, .int .i64 u]] w fun r' w' => r' = .returned (.tuple #[.agg #[.int .i64 0, .int .i64 d], .int .i64 us, .int .i64 0]) ∧ Below w.heap.size w w'))
    (OD : Hid (∀ w : World, Cvl.Lens w → Calls Tryz.prog 68 #[.int .i64 9, .agg #[.int .i64 0, .int .i64 d]] w fun r' w' => r' = .returned (.int .i64 N) ∧ Below w.heap.size w w'))
    (WH : Hid (∀ w : World, Calls Tryz.prog 63 #[.int .i64 N] w fun r' w' => r' = .returned (.agg #[.int .i64 N, .int .i64 0]) ∧ Below w.heap.size w w'))
    (w : World) (hL : Hid (∀ W : World, Below w.heap.size w W → Cvl.Lens W)) :
    Calls Tryz.prog 43 #[.int .i64 9, .agg #[.int .i64 0, .int .i64 u]] w fun r' w' => r' = .returned (.tuple #[.agg #[.int .i64 N, .int .i64 0], .int .i64 0]) ∧ Below w.heap.size w w' := by
  have K0 : Hid (BS w [(w.heap.size + 1, [.int .i64 0, .int .i64 0]), (w.heap.size, [.int .i64 0, .int .i64 u])] ((w.alloc (.cells #[.int .i64 0, .int .i64 u] 23)).alloc (.cells #[.int .i64 0, .int .i64 0] 45))) := (((BS.start w).new [.int .i64 0, .int .i64 u] 23 rfl).new [.int .i64 0, .int .i64 0] 45 (by simp))
  go_enter Tryz.func43, Tryz.ntmps43
  go_wp2_with fail
  refine (OF.out _ (hL.out _ K0.out.1)).mono ?_
  rintro e W1 ⟨rfl, hb⟩
  have K1 := bsb K0 hb
  clear hb K0
  obtain ⟨c1_0_0, c1_0_1⟩ := (bo1 K1).c2
  obtain ⟨c1_1_0, c1_1_1⟩ := (bo2 K1).c2
  have Mz1 := bsn K1 [.int .i64 0, .int .i64 d] 40
  have lt1_0 := (bo1 K1).1
  have lt1_1 := (bo2 K1).1
  go_upto_region 7 with fail
  refine bs_to Mz1 ?_
  clear c1_0_0 c1_0_1 c1_1_0 c1_1_1
  intro W2 K2
  clear Mz1 K1
  obtain ⟨c2_0_0, c2_0_1⟩ := (bo1 K2).c2
  obtain ⟨c2_1_0, c2_1_1⟩ := (bo2 K2).c2
  obtain ⟨c2_2_0, c2_2_1⟩ := (bo3 K2).c2
  go_wp2_with fail
  refine (OD.out _ (hL.out _ K2.out.1)).mono ?_
  rintro e W3 ⟨rfl, hb⟩
  have K3 := bsb K2 hb
  clear c2_0_0 c2_0_1 c2_1_0 c2_1_1 c2_2_0 c2_2_1
  clear hb K2
  obtain ⟨c3_0_0, c3_0_1⟩ := (bo1 K3).c2
  obtain ⟨c3_1_0, c3_1_1⟩ := (bo2 K3).c2
  obtain ⟨c3_2_0, c3_2_1⟩ := (bo3 K3).c2
  go_wp2_with fail
  refine (WH.out _).mono ?_
  rintro e W4 ⟨rfl, hb⟩
  have K4 := bsb K3 hb
  clear c3_0_0 c3_0_1 c3_1_0 c3_1_1 c3_2_0 c3_2_1
  clear hb K3
  obtain ⟨c4_0_0, c4_0_1⟩ := (bo1 K4).c2
  obtain ⟨c4_1_0, c4_1_1⟩ := (bo2 K4).c2
  obtain ⟨z4_1_0, z4_1_1⟩ := (bo2 K4).f2
  obtain ⟨c4_2_0, c4_2_1⟩ := (bo3 K4).c2
  have XF : Hid (Bx (W4.setCells (w.heap.size + 1) 0 [.int .i64 N, .int .i64 0]) (w.heap.size + 1) [.int .i64 N, .int .i64 0]) := (K4.out.at (w.heap.size + 1) [.int .i64 0, .int .i64 0] (by simp)).setAll _ rfl
  have BF : Hid (Below w.heap.size w (W4.setCells (w.heap.size + 1) 0 [.int .i64 N, .int .i64 0])) := below_setCells (by omega) _ _ _ K4.out.1
  have y0 := XF.out.c 0 rfl
  have y1 := XF.out.c 1 rfl
  simp only [World.setCells, Nat.zero_add] at y0 y1
  clear XF
  go_wp2
  exact bodyPost_ret (v := .tuple #[.agg #[.int .i64 N, .int .i64 0], .int .i64 0]) (by simp [results, Tryz.results43, go_sem, y0, y1]) rfl ⟨rfl, BF.out⟩

set_option maxRecDepth 100000 in
set_option maxHeartbeats 4000000 in
theorem os_11 (u d us N : Int)
    (OF : Hid (∀ w : World, Cvl.Lens w → Calls Tryz.prog 47 #[.agg #[.int .i64 0, .int .i64 u]] w fun r' w' => r' = .returned (.tuple #[.agg #[.int .i64 0, .int .i64 d], .int .i64 us, .int .i64 0]) ∧ Below w.heap.size w w'))
    (OD : Hid (∀ w : World, Cvl.Lens w → Calls Tryz.prog 68 #[.int .i64 11, .agg #[.int .i64 0, .int .i64 d]] w fun r' w' => r' = .returned (.int .i64 N) ∧ Below w.heap.size w w'))
    (WH : Hid (∀ w : World, Calls Tryz.prog 63 #[.int .i64 N] w fun r' w' => r' = .returned (.agg #[.int .i64 N, .int .i64 0]) ∧ Below w.heap.size w w'))
    (w : World) (hL : Hid (∀ W : World, Below w.heap.size w W → Cvl.Lens W)) :
    Calls Tryz.prog 43 #[.int .i64 11, .agg #[.int .i64 0, .int .i64 u]] w fun r' w' => r' = .returned (.tuple #[.agg #[.int .i64 N, .int .i64 0], .int .i64 0]) ∧ Below w.heap.size w w' := by
  have K0 : Hid (BS w [(w.heap.size + 1, [.int .i64 0, .int .i64 0]), (w.heap.size, [.int .i64 0, .int .i64 u])] ((w.alloc (.cells #[.int .i64 0, .int .i64 u] 23)).alloc (.cells #[.int .i64 0, .int .i64 0] 45))) := (((BS.start w).new [.int .i64 0, .int .i64 u] 23 rfl).new [.int .i64 0, .int .i64 0] 45 (by simp))
  go_enter Tryz.func43, Tryz.ntmps43
  go_wp2_with fail
  refine (OF.out _ (hL.out _ K0.out.1)).mono ?_
  rintro e W1 ⟨rfl, hb⟩
  have K1 := bsb K0 hb
  clear hb K0
  obtain ⟨c1_0_0, c1_0_1⟩ := (bo1 K1).c2
  obtain ⟨c1_1_0, c1_1_1⟩ := (bo2 K1).c2
  have Mz1 := bsn K1 [.int .i64 0, .int .i64 d] 40
  have lt1_0 := (bo1 K1).1
  have lt1_1 := (bo2 K1).1
  go_upto_region 7 with fail
  refine bs_to Mz1 ?_
  clear c1_0_0 c1_0_1 c1_1_0 c1_1_1
  intro W2 K2
  clear Mz1 K1
  obtain ⟨c2_0_0, c2_0_1⟩ := (bo1 K2).c2
  obtain ⟨c2_1_0, c2_1_1⟩ := (bo2 K2).c2
  obtain ⟨c2_2_0, c2_2_1⟩ := (bo3 K2).c2
  go_wp2_with fail
  refine (OD.out _ (hL.out _ K2.out.1)).mono ?_
  rintro e W3 ⟨rfl, hb⟩
  have K3 := bsb K2 hb
  clear c2_0_0 c2_0_1 c2_1_0 c2_1_1 c2_2_0 c2_2_1
  clear hb K2
  obtain ⟨c3_0_0, c3_0_1⟩ := (bo1 K3).c2
  obtain ⟨c3_1_0, c3_1_1⟩ := (bo2 K3).c2
  obtain ⟨c3_2_0, c3_2_1⟩ := (bo3 K3).c2
  go_wp2_with fail
  refine (WH.out _).mono ?_
  rintro e W4 ⟨rfl, hb⟩
  have K4 := bsb K3 hb
  clear c3_0_0 c3_0_1 c3_1_0 c3_1_1 c3_2_0 c3_2_1
  clear hb K3
  obtain ⟨c4_0_0, c4_0_1⟩ := (bo1 K4).c2
  obtain ⟨c4_1_0, c4_1_1⟩ := (bo2 K4).c2
  obtain ⟨z4_1_0, z4_1_1⟩ := (bo2 K4).f2
  obtain ⟨c4_2_0, c4_2_1⟩ := (bo3 K4).c2
  have XF : Hid (Bx (W4.setCells (w.heap.size + 1) 0 [.int .i64 N, .int .i64 0]) (w.heap.size + 1) [.int .i64 N, .int .i64 0]) := (K4.out.at (w.heap.size + 1) [.int .i64 0, .int .i64 0] (by simp)).setAll _ rfl
  have BF : Hid (Below w.heap.size w (W4.setCells (w.heap.size + 1) 0 [.int .i64 N, .int .i64 0])) := below_setCells (by omega) _ _ _ K4.out.1
  have y0 := XF.out.c 0 rfl
  have y1 := XF.out.c 1 rfl
  simp only [World.setCells, Nat.zero_add] at y0 y1
  clear XF
  go_wp2
  exact bodyPost_ret (v := .tuple #[.agg #[.int .i64 N, .int .i64 0], .int .i64 0]) (by simp [results, Tryz.results43, go_sem, y0, y1]) rfl ⟨rfl, BF.out⟩

set_option maxRecDepth 100000 in
set_option maxHeartbeats 4000000 in
theorem os_17e (u v e : Int) (he : e ≠ 0)
    (AD : Hid (∀ w : World, Calls Tryz.prog 52 #[.int .i64 u, .int .i64 946684800000000] w fun r' w' => r' = .returned (.tuple #[.int .i64 v, .int .i64 e]) ∧ w' = w))
    (w : World) :
    Calls Tryz.prog 43 #[.int .i64 17, .agg #[.int .i64 0, .int .i64 u]] w fun r' w' => r' = .returned (.tuple #[.agg #[.int .i64 0, .int .i64 0], .int .i64 e]) ∧ Below w.heap.size w w' := by
  have e1 : (e != 0) = true := bne_iff_ne.2 he
  have K0 : Hid (BS w [(w.heap.size + 1, [.int .i64 0, .int .i64 0]), (w.heap.size, [.int .i64 0, .int .i64 u])] ((w.alloc (.cells #[.int .i64 0, .int .i64 u] 23)).alloc (.cells #[.int .i64 0, .int .i64 0] 45))) := (((BS.start w).new [.int .i64 0, .int .i64 u] 23 rfl).new [.int .i64 0, .int .i64 0] 45 (by simp))
  go_enter Tryz.func43, Tryz.ntmps43
  go_wp2_with fail
  refine (AD.out _).mono ?_
  rintro e W1 ⟨rfl, rfl⟩
  go_wp2
  exact bodyPost_ret (v := .tuple #[.agg #[.int .i64 0, .int .i64 0], .int .i64 e]) (by simp [results, Tryz.results43, go_sem]) rfl ⟨rfl, (by repeat' (first | assumption | exact Below.refl _ _ | exact Nat.le_refl _ | refine Below.alloc ?_ ?_ _ | (simp; done) | (simp; omega) | omega))⟩

set_option maxRecDepth 100000 in
set_option maxHeartbeats 4000000 in
theorem os_17 (u v : Int)
    (AD : Hid (∀ w : World, Calls Tryz.prog 52 #[.int .i64 u, .int .i64 946684800000000] w fun r' w' => r' = .returned (.tuple #[.int .i64 v, .int .i64 0]) ∧ w' = w))
    (w : World) :
    Calls Tryz.prog 43 #[.int .i64 17, .agg #[.int .i64 0, .int .i64 u]] w fun r' w' => r' = .returned (.tuple #[.agg #[.int .i64 v, .int .i64 6], .int .i64 0]) ∧ Below w.heap.size w w' := by
  have K0 : Hid (BS w [(w.heap.size + 1, [.int .i64 0, .int .i64 0]), (w.heap.size, [.int .i64 0, .int .i64 u])] ((w.alloc (.cells #[.int .i64 0, .int .i64 u] 23)).alloc (.cells #[.int .i64 0, .int .i64 0] 45))) := (((BS.start w).new [.int .i64 0, .int .i64 u] 23 rfl).new [.int .i64 0, .int .i64 0] 45 (by simp))
  go_enter Tryz.func43, Tryz.ntmps43
  go_wp2_with fail
  refine (AD.out _).mono ?_
  rintro e W1 ⟨rfl, rfl⟩
  go_wp2
  exact bodyPost_ret (v := .tuple #[.agg #[.int .i64 v, .int .i64 6], .int .i64 0]) (by simp [results, Tryz.results43, go_sem]) rfl ⟨rfl, (by repeat' (first | assumption | exact Below.refl _ _ | exact Nat.le_refl _ | refine Below.alloc ?_ ?_ _ | (simp; done) | (simp; omega) | omega))⟩

set_option maxRecDepth 100000 in
set_option maxHeartbeats 4000000 in
theorem osp_2 (m d u N S : Int)
    (OT : Hid (∀ w : World, Calls Tryz.prog 65 #[.int .i64 2, .int .i64 u] w fun r' w' => r' = .returned (.agg #[.int .i64 N, .int .i64 S]) ∧ Below w.heap.size w w'))
    (w : World) :
    Calls Tryz.prog 40 #[.int .i64 2, .agg #[.int .i64 0, .int .i64 m, .int .i64 d, .int .i64 u]] w fun r' w' => r' = .returned (.tuple #[.agg #[.int .i64 N, .int .i64 S], .int .i64 0]) ∧ Below w.heap.size w w' := by
  have K0 : Hid (BS w [(w.heap.size + 1, [.int .i64 0, .int .i64 0]), (w.heap.size, [.int .i64 0, .int .i64 m, .int .i64 d, .int .i64 u])] ((w.alloc (.cells #[.int .i64 0, .int .i64 m, .int .i64 d, .int .i64 u] 35)).alloc (.cells #[.int .i64 0, .int .i64 0] 45))) := (((BS.start w).new [.int .i64 0, .int .i64 m, .int .i64 d, .int .i64 u] 35 rfl).new [.int .i64 0, .int .i64 0] 45 (by simp))
  go_enter Tryz.func40, Tryz.ntmps40
  go_wp2_with fail
  refine (OT.out _).mono ?_
  rintro e W1 ⟨rfl, hb⟩
  have K1 := bsb K0 hb
  clear hb K0
  obtain ⟨c1_0_0, c1_0_1⟩ := (bo1 K1).c2
  obtain ⟨z1_0_0, z1_0_1⟩ := (bo1 K1).f2
  obtain ⟨c1_1_0, c1_1_1, c1_1_2, c1_1_3⟩ := (bo2 K1).c4
  have XF : Hid (Bx (W1.setCells (w.heap.size + 1) 0 [.int .i64 N, .int .i64 S]) (w.heap.size + 1) [.int .i64 N, .int .i64 S]) := (K1.out.at (w.heap.size + 1) [.int .i64 0, .int .i64 0] (by simp)).setAll _ rfl
  have BF : Hid (Below w.heap.size w (W1.setCells (w.heap.size + 1) 0 [.int .i64 N, .int .i64 S])) := below_setCells (by omega) _ _ _ K1.out.1
  have y0 := XF.out.c 0 rfl
  have y1 := XF.out.c 1 rfl
  simp only [World.setCells, Nat.zero_add] at y0 y1
  clear XF
  go_wp2
  exact bodyPost_ret (v := .tuple #[.agg #[.int .i64 N, .int .i64 S], .int .i64 0]) (by simp [results, Tryz.results40, go_sem, y0, y1]) rfl ⟨rfl, BF.out⟩


end Go.Proofs.YtofmmdfdiaahhaaGreatDoor
