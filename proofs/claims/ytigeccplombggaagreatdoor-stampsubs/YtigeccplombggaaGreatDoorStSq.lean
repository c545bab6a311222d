/- reference 17: Add, Sub, way by way. -/
import Derived.Test.YtigeccplombggaaGreatDoorStRq
import Derived.Test.YtigeccplombggaaGreatDoorBxCq
namespace Go.Proofs.YtigeccplombggaaGreatDoor
open Go.RowKit
set_option linter.unusedVariables false

set_option maxRecDepth 100000 in
set_option maxHeartbeats 4000000 in
theorem radd_no1 (i u j m d n : Int)
    (R : Hid (∀ w : World, Calls Tryz.prog 34 #[.agg #[.int .i64 i, .int .i64 u]] w fun r' w' => r' = .returned (.bool false) ∧ Below w.heap.size w w'))
    (w : World) :
    Calls Tryz.prog 18 #[.agg #[.int .i64 i, .int .i64 u], .agg #[.int .i64 j, .int .i64 m, .int .i64 d, .int .i64 n]] w fun r' w' => r' = .returned (.tuple #[.agg #[.int .i64 0, .int .i64 0], .int .i64 1]) ∧ Below w.heap.size w w' := by
  have K0 : Hid (BS w [(w.heap.size + 2, [.int .i64 0, .int .i64 0]), (w.heap.size + 1, [.int .i64 j, .int .i64 m, .int .i64 d, .int .i64 n]), (w.heap.size, [.int .i64 i, .int .i64 u])] (((w.alloc (.cells #[.int .i64 i, .int .i64 u] 36)).alloc (.cells #[.int .i64 j, .int .i64 m, .int .i64 d, .int .i64 n] 59)).alloc (.cells #[.int .i64 0, .int .i64 0] 36))) := ((((BS.start w).new [.int .i64 i, .int .i64 u] 36 rfl).new [.int .i64 j, .int .i64 m, .int .i64 d, .int .i64 n] 59 (by simp)).new [.int .i64 0, .int .i64 0] 36 (by simp))
  go_enter Tryz.func18, Tryz.ntmps18
  go_wp2_with fail
  refine (R.out _).mono ?_
  rintro e W1 ⟨rfl, hb⟩
  have K1 := bsb K0 hb
  clear hb K0
  obtain ⟨c1_0_0, c1_0_1⟩ := (bo1 K1).c2
  obtain ⟨z1_0_0, z1_0_1⟩ := (bo1 K1).f2
  obtain ⟨c1_1_0, c1_1_1, c1_1_2, c1_1_3⟩ := (bo2 K1).c4
  obtain ⟨c1_2_0, c1_2_1⟩ := (bo3 K1).c2
  have XF : Hid (Bx (W1.setCells (w.heap.size + 2) 0 [.int .i64 0, .int .i64 0]) (w.heap.size + 2) [.int .i64 0, .int .i64 0]) := (K1.out.at (w.heap.size + 2) [.int .i64 0, .int .i64 0] (by simp)).setAll _ rfl
  have BF : Hid (Below w.heap.size w (W1.setCells (w.heap.size + 2) 0 [.int .i64 0, .int .i64 0])) := below_setCells (by omega) _ _ _ K1.out.1
  have y0 := XF.out.c 0 rfl
  have y1 := XF.out.c 1 rfl
  simp only [World.setCells, Nat.zero_add] at y0 y1
  clear XF
  go_wp2
  exact bodyPost_ret (v := .tuple #[.agg #[.int .i64 0, .int .i64 0], .int .i64 1]) (by simp [results, Tryz.results18, go_sem, y0, y1]) rfl ⟨rfl, BF.out⟩

set_option maxRecDepth 100000 in
set_option maxHeartbeats 4000000 in
theorem radd_no2 (i u j m d n : Int)
    (R : Hid (∀ w : World, Calls Tryz.prog 34 #[.agg #[.int .i64 i, .int .i64 u]] w fun r' w' => r' = .returned (.bool true) ∧ Below w.heap.size w w'))
    (PR : Hid (∀ w : World, Calls Tryz.prog 45 #[.agg #[.int .i64 j, .int .i64 m, .int .i64 d, .int .i64 n]] w fun r' w' => r' = .returned (.bool false) ∧ Below w.heap.size w w'))
    (w : World) :
    Calls Tryz.prog 18 #[.agg #[.int .i64 i, .int .i64 u], .agg #[.int .i64 j, .int .i64 m, .int .i64 d, .int .i64 n]] w fun r' w' => r' = .returned (.tuple #[.agg #[.int .i64 0, .int .i64 0], .int .i64 1]) ∧ Below w.heap.size w w' := by
  have K0 : Hid (BS w [(w.heap.size + 2, [.int .i64 0, .int .i64 0]), (w.heap.size + 1, [.int .i64 j, .int .i64 m, .int .i64 d, .int .i64 n]), (w.heap.size, [.int .i64 i, .int .i64 u])] (((w.alloc (.cells #[.int .i64 i, .int .i64 u] 36)).alloc (.cells #[.int .i64 j, .int .i64 m, .int .i64 d, .int .i64 n] 59)).alloc (.cells #[.int .i64 0, .int .i64 0] 36))) := ((((BS.start w).new [.int .i64 i, .int .i64 u] 36 rfl).new [.int .i64 j, .int .i64 m, .int .i64 d, .int .i64 n] 59 (by simp)).new [.int .i64 0, .int .i64 0] 36 (by simp))
  go_enter Tryz.func18, Tryz.ntmps18
  go_wp2_with fail
  refine (R.out _).mono ?_
  rintro e W1 ⟨rfl, hb⟩
  have K1 := bsb K0 hb
  clear hb K0
  obtain ⟨c1_0_0, c1_0_1⟩ := (bo1 K1).c2
  obtain ⟨c1_1_0, c1_1_1, c1_1_2, c1_1_3⟩ := (bo2 K1).c4
  obtain ⟨c1_2_0, c1_2_1⟩ := (bo3 K1).c2
  go_wp2_with fail
  refine (PR.out _).mono ?_
  rintro e W2 ⟨rfl, hb⟩
  have K2 := bsb K1 hb
  clear c1_0_0 c1_0_1 c1_1_0 c1_1_1 c1_1_2 c1_1_3 c1_2_0 c1_2_1
  clear hb K1
  obtain ⟨c2_0_0, c2_0_1⟩ := (bo1 K2).c2
  obtain ⟨z2_0_0, z2_0_1⟩ := (bo1 K2).f2
  obtain ⟨c2_1_0, c2_1_1, c2_1_2, c2_1_3⟩ := (bo2 K2).c4
  obtain ⟨c2_2_0, c2_2_1⟩ := (bo3 K2).c2
  have XF : Hid (Bx (W2.setCells (w.heap.size + 2) 0 [.int .i64 0, .int .i64 0]) (w.heap.size + 2) [.int .i64 0, .int .i64 0]) := (K2.out.at (w.heap.size + 2) [.int .i64 0, .int .i64 0] (by simp)).setAll _ rfl
  have BF : Hid (Below w.heap.size w (W2.setCells (w.heap.size + 2) 0 [.int .i64 0, .int .i64 0])) := below_setCells (by omega) _ _ _ K2.out.1
  have y0 := XF.out.c 0 rfl
  have y1 := XF.out.c 1 rfl
  simp only [World.setCells, Nat.zero_add] at y0 y1
  clear XF
  go_wp2
  exact bodyPost_ret (v := .tuple #[.agg #[.int .i64 0, .int .i64 0], .int .i64 1]) (by simp [results, Tryz.results18, go_sem, y0, y1]) rfl ⟨rfl, BF.out⟩

set_option maxRecDepth 100000 in
set_option maxHeartbeats 4000000 in
theorem radd_inf (i u j m d n I V E : Int)
    (R : Hid (∀ w : World, Calls Tryz.prog 34 #[.agg #[.int .i64 i, .int .i64 u]] w fun r' w' => r' = .returned (.bool true) ∧ Below w.heap.size w w'))
    (PR : Hid (∀ w : World, Calls Tryz.prog 45 #[.agg #[.int .i64 j, .int .i64 m, .int .i64 d, .int .i64 n]] w fun r' w' => r' = .returned (.bool true) ∧ Below w.heap.size w w'))
    (IN : Hid (∀ w : World, Calls Tryz.prog 46 #[.agg #[.int .i64 i, .int .i64 u], .agg #[.int .i64 j, .int .i64 m, .int .i64 d, .int .i64 n]] w fun r' w' => r' = .returned (.tuple #[.agg #[.int .i64 I, .int .i64 V], .int .i64 E, .bool true]) ∧ Below w.heap.size w w'))
    (w : World) :
    Calls Tryz.prog 18 #[.agg #[.int .i64 i, .int .i64 u], .agg #[.int .i64 j, .int .i64 m, .int .i64 d, .int .i64 n]] w fun r' w' => r' = .returned (.tuple #[.agg #[.int .i64 I, .int .i64 V], .int .i64 E]) ∧ Below w.heap.size w w' := by
  have K0 : Hid (BS w [(w.heap.size + 2, [.int .i64 0, .int .i64 0]), (w.heap.size + 1, [.int .i64 j, .int .i64 m, .int .i64 d, .int .i64 n]), (w.heap.size, [.int .i64 i, .int .i64 u])] (((w.alloc (.cells #[.int .i64 i, .int .i64 u] 36)).alloc (.cells #[.int .i64 j, .int .i64 m, .int .i64 d, .int .i64 n] 59)).alloc (.cells #[.int .i64 0, .int .i64 0] 36))) := ((((BS.start w).new [.int .i64 i, .int .i64 u] 36 rfl).new [.int .i64 j, .int .i64 m, .int .i64 d, .int .i64 n] 59 (by simp)).new [.int .i64 0, .int .i64 0] 36 (by simp))
  go_enter Tryz.func18, Tryz.ntmps18
  go_wp2_with fail
  refine (R.out _).mono ?_
  rintro e W1 ⟨rfl, hb⟩
  have K1 := bsb K0 hb
  clear hb K0
  obtain ⟨c1_0_0, c1_0_1⟩ := (bo1 K1).c2
  obtain ⟨c1_1_0, c1_1_1, c1_1_2, c1_1_3⟩ := (bo2 K1).c4
  obtain ⟨c1_2_0, c1_2_1⟩ := (bo3 K1).c2
  go_wp2_with fail
  refine (PR.out _).mono ?_
  rintro e W2 ⟨rfl, hb⟩
  have K2 := bsb K1 hb
  clear c1_0_0 c1_0_1 c1_1_0 c1_1_1 c1_1_2 c1_1_3 c1_2_0 c1_2_1
  clear hb K1
  obtain ⟨c2_0_0, c2_0_1⟩ := (bo1 K2).c2
  obtain ⟨c2_1_0, c2_1_1, c2_1_2, c2_1_3⟩ := (bo2 K2).c4
  obtain ⟨c2_2_0, c2_2_1⟩ := (bo3 K2).c2
  go_wp2_with fail
  refine (IN.out _).mono ?_
  rintro e W3 ⟨rfl, hb⟩
  have K3 := bsb K2 hb
  clear c2_0_0 c2_0_1 c2_1_0 c2_1_1 c2_1_2 c2_1_3 c2_2_0 c2_2_1
  clear hb K2
  obtain ⟨c3_0_0, c3_0_1⟩ := (bo1 K3).c2
  obtain ⟨c3_1_0, c3_1_1, c3_1_2, c3_1_3⟩ := (bo2 K3).c4
  obtain ⟨c3_2_0, c3_2_1⟩ := (bo3 K3).c2
  have Mz3 := bsn K3 [.int .i64 I, .int .i64 V] 36
  have lt3_0 := (bo1 K3).1
  have lt3_1 := (bo2 K3).1
  have lt3_2 := (bo3 K3).1
  go_upto_region 4 with fail
  refine bs_to Mz3 ?_
  clear c3_0_0 c3_0_1 c3_1_0 c3_1_1 c3_1_2 c3_1_3 c3_2_0 c3_2_1
  intro W4 K4
  clear Mz3 K3
  obtain ⟨c4_0_0, c4_0_1⟩ := (bo1 K4).c2
  obtain ⟨c4_1_0, c4_1_1⟩ := (bo2 K4).c2
  obtain ⟨z4_1_0, z4_1_1⟩ := (bo2 K4).f2
  obtain ⟨c4_2_0, c4_2_1, c4_2_2, c4_2_3⟩ := (bo3 K4).c4
  obtain ⟨c4_3_0, c4_3_1⟩ := (bo4 K4).c2
  have XF : Hid (Bx (W4.setCells (w.heap.size + 2) 0 [.int .i64 I, .int .i64 V]) (w.heap.size + 2) [.int .i64 I, .int .i64 V]) := (K4.out.at (w.heap.size + 2) [.int .i64 0, .int .i64 0] (by simp)).setAll _ rfl
  have BF : Hid (Below w.heap.size w (W4.setCells (w.heap.size + 2) 0 [.int .i64 I, .int .i64 V])) := below_setCells (by omega) _ _ _ K4.out.1
  have y0 := XF.out.c 0 rfl
  have y1 := XF.out.c 1 rfl
  simp only [World.setCells, Nat.zero_add] at y0 y1
  clear XF
  go_wp2
  exact bodyPost_ret (v := .tuple #[.agg #[.int .i64 I, .int .i64 V], .int .i64 E]) (by simp [results, Tryz.results18, go_sem, y0, y1]) rfl ⟨rfl, BF.out⟩

set_option maxRecDepth 100000 in
set_option maxHeartbeats 4000000 in
theorem radd_ok (i u j m d n V f X E : Int)
    (R : Hid (∀ w : World, Calls Tryz.prog 34 #[.agg #[.int .i64 i, .int .i64 u]] w fun r' w' => r' = .returned (.bool true) ∧ Below w.heap.size w w'))
    (PR : Hid (∀ w : World, Calls Tryz.prog 45 #[.agg #[.int .i64 j, .int .i64 m, .int .i64 d, .int .i64 n]] w fun r' w' => r' = .returned (.bool true) ∧ Below w.heap.size w w'))
    (IN : Hid (∀ w : World, Calls Tryz.prog 46 #[.agg #[.int .i64 i, .int .i64 u], .agg #[.int .i64 j, .int .i64 m, .int .i64 d, .int .i64 n]] w fun r' w' => r' = .returned (.tuple #[.agg #[.int .i64 0, .int .i64 0], .int .i64 0, .bool false]) ∧ Below w.heap.size w w'))
    (MD : Hid (∀ w : World, Calls Tryz.prog 47 #[.agg #[.int .i64 i, .int .i64 u], .agg #[.int .i64 j, .int .i64 m, .int .i64 d, .int .i64 n]] w fun r' w' => r' = .returned (.tuple #[.agg #[.int .i64 0, .int .i64 V], .int .i64 f]) ∧ Below w.heap.size w w'))
    (PL : Hid (∀ w : World, Calls Tryz.prog 48 #[.agg #[.int .i64 0, .int .i64 V], .int .i64 f, .int .i64 n] w fun r' w' => r' = .returned (.tuple #[.agg #[.int .i64 0, .int .i64 X], .int .i64 E]) ∧ Below w.heap.size w w'))
    (w : World) :
    Calls Tryz.prog 18 #[.agg #[.int .i64 i, .int .i64 u], .agg #[.int .i64 j, .int .i64 m, .int .i64 d, .int .i64 n]] w fun r' w' => r' = .returned (.tuple #[.agg #[.int .i64 0, .int .i64 X], .int .i64 E]) ∧ Below w.heap.size w w' := by
  have K0 : Hid (BS w [(w.heap.size + 2, [.int .i64 0, .int .i64 0]), (w.heap.size + 1, [.int .i64 j, .int .i64 m, .int .i64 d, .int .i64 n]), (w.heap.size, [.int .i64 i, .int .i64 u])] (((w.alloc (.cells #[.int .i64 i, .int .i64 u] 36)).alloc (.cells #[.int .i64 j, .int .i64 m, .int .i64 d, .int .i64 n] 59)).alloc (.cells #[.int .i64 0, .int .i64 0] 36))) := ((((BS.start w).new [.int .i64 i, .int .i64 u] 36 rfl).new [.int .i64 j, .int .i64 m, .int .i64 d, .int .i64 n] 59 (by simp)).new [.int .i64 0, .int .i64 0] 36 (by simp))
  go_enter Tryz.func18, Tryz.ntmps18
  go_wp2_with fail
  refine (R.out _).mono ?_
  rintro e W1 ⟨rfl, hb⟩
  have K1 := bsb K0 hb
  clear hb K0
  obtain ⟨c1_0_0, c1_0_1⟩ := (bo1 K1).c2
  obtain ⟨c1_1_0, c1_1_1, c1_1_2, c1_1_3⟩ := (bo2 K1).c4
  obtain ⟨c1_2_0, c1_2_1⟩ := (bo3 K1).c2
  go_wp2_with fail
  refine (PR.out _).mono ?_
  rintro e W2 ⟨rfl, hb⟩
  have K2 := bsb K1 hb
  clear c1_0_0 c1_0_1 c1_1_0 c1_1_1 c1_1_2 c1_1_3 c1_2_0 c1_2_1
  clear hb K1
  obtain ⟨c2_0_0, c2_0_1⟩ := (bo1 K2).c2
  obtain ⟨c2_1_0, c2_1_1, c2_1_2, c2_1_3⟩ := (bo2 K2).c4
  obtain ⟨c2_2_0, c2_2_1⟩ := (bo3 K2).c2
  go_wp2_with fail
  refine (IN.out _).mono ?_
  rintro e W3 ⟨rfl, hb⟩
  have K3 := bsb K2 hb
  clear c2_0_0 c2_0_1 c2_1_0 c2_1_1 c2_1_2 c2_1_3 c2_2_0 c2_2_1
  clear hb K2
  obtain ⟨c3_0_0, c3_0_1⟩ := (bo1 K3).c2
  obtain ⟨c3_1_0, c3_1_1, c3_1_2, c3_1_3⟩ := (bo2 K3).c4
  obtain ⟨c3_2_0, c3_2_1⟩ := (bo3 K3).c2
  have Mz3 := bsn K3 [.int .i64 0, .int .i64 0] 36
  have lt3_0 := (bo1 K3).1
  have lt3_1 := (bo2 K3).1
  have lt3_2 := (bo3 K3).1
  go_upto_region 4 with fail
  refine bs_to Mz3 ?_
  clear c3_0_0 c3_0_1 c3_1_0 c3_1_1 c3_1_2 c3_1_3 c3_2_0 c3_2_1
  intro W4 K4
  clear Mz3 K3
  obtain ⟨c4_0_0, c4_0_1⟩ := (bo1 K4).c2
  obtain ⟨c4_1_0, c4_1_1⟩ := (bo2 K4).c2
  obtain ⟨c4_2_0, c4_2_1, c4_2_2, c4_2_3⟩ := (bo3 K4).c4
  obtain ⟨c4_3_0, c4_3_1⟩ := (bo4 K4).c2
  go_wp2_with fail
  refine (MD.out _).mono ?_
  rintro e W5 ⟨rfl, hb⟩
  have K5 := bsb K4 hb
  clear c4_0_0 c4_0_1 c4_1_0 c4_1_1 c4_2_0 c4_2_1 c4_2_2 c4_2_3 c4_3_0 c4_3_1
  clear hb K4
  obtain ⟨c5_0_0, c5_0_1⟩ := (bo1 K5).c2
  obtain ⟨c5_1_0, c5_1_1⟩ := (bo2 K5).c2
  obtain ⟨c5_2_0, c5_2_1, c5_2_2, c5_2_3⟩ := (bo3 K5).c4
  obtain ⟨c5_3_0, c5_3_1⟩ := (bo4 K5).c2
  have Mz5 := bsn K5 [.int .i64 0, .int .i64 V] 36
  have lt5_0 := (bo1 K5).1
  have lt5_1 := (bo2 K5).1
  have lt5_2 := (bo3 K5).1
  have lt5_3 := (bo4 K5).1
  go_upto_region 7 with fail
  refine bs_to Mz5 ?_
  clear c5_0_0 c5_0_1 c5_1_0 c5_1_1 c5_2_0 c5_2_1 c5_2_2 c5_2_3 c5_3_0 c5_3_1
  intro W6 K6
  clear Mz5 K5
  obtain ⟨c6_0_0, c6_0_1⟩ := (bo1 K6).c2
  obtain ⟨c6_1_0, c6_1_1⟩ := (bo2 K6).c2
  obtain ⟨c6_2_0, c6_2_1⟩ := (bo3 K6).c2
  obtain ⟨c6_3_0, c6_3_1, c6_3_2, c6_3_3⟩ := (bo4 K6).c4
  obtain ⟨c6_4_0, c6_4_1⟩ := (bo5 K6).c2
  go_wp2_with fail
  refine (PL.out _).mono ?_
  rintro e W7 ⟨rfl, hb⟩
  have K7 := bsb K6 hb
  clear c6_0_0 c6_0_1 c6_1_0 c6_1_1 c6_2_0 c6_2_1 c6_3_0 c6_3_1 c6_3_2 c6_3_3 c6_4_0 c6_4_1
  clear hb K6
  obtain ⟨c7_0_0, c7_0_1⟩ := (bo1 K7).c2
  obtain ⟨c7_1_0, c7_1_1⟩ := (bo2 K7).c2
  obtain ⟨c7_2_0, c7_2_1⟩ := (bo3 K7).c2
  obtain ⟨z7_2_0, z7_2_1⟩ := (bo3 K7).f2
  obtain ⟨c7_3_0, c7_3_1, c7_3_2, c7_3_3⟩ := (bo4 K7).c4
  obtain ⟨c7_4_0, c7_4_1⟩ := (bo5 K7).c2
  have XF : Hid (Bx (W7.setCells (w.heap.size + 2) 0 [.int .i64 0, .int .i64 X]) (w.heap.size + 2) [.int .i64 0, .int .i64 X]) := (K7.out.at (w.heap.size + 2) [.int .i64 0, .int .i64 0] (by simp)).setAll _ rfl
  have BF : Hid (Below w.heap.size w (W7.setCells (w.heap.size + 2) 0 [.int .i64 0, .int .i64 X])) := below_setCells (by omega) _ _ _ K7.out.1
  have y0 := XF.out.c 0 rfl
  have y1 := XF.out.c 1 rfl
  simp only [World.setCells, Nat.zero_add] at y0 y1
  clear XF
  go_wp2
  exact bodyPost_ret (v := .tuple #[.agg #[.int .i64 0, .int .i64 X], .int .i64 E]) (by simp [results, Tryz.results18, go_sem, y0, y1]) rfl ⟨rfl, BF.out⟩

set_option maxRecDepth 100000 in
set_option maxHeartbeats 4000000 in
theorem rsb_no1 (i a j b : Int)
    (R : Hid (∀ w : World, Calls Tryz.prog 34 #[.agg #[.int .i64 i, .int .i64 a]] w fun r' w' => r' = .returned (.bool false) ∧ Below w.heap.size w w'))
    (w : World) :
    Calls Tryz.prog 22 #[.agg #[.int .i64 i, .int .i64 a], .agg #[.int .i64 j, .int .i64 b]] w fun r' w' => r' = .returned (.tuple #[.agg #[.int .i64 0, .int .i64 0, .int .i64 0, .int .i64 0], .int .i64 1]) ∧ Below w.heap.size w w' := by
  have K0 : Hid (BS w [(w.heap.size + 2, [.int .i64 0, .int .i64 0, .int .i64 0, .int .i64 0]), (w.heap.size + 1, [.int .i64 j, .int .i64 b]), (w.heap.size, [.int .i64 i, .int .i64 a])] (((w.alloc (.cells #[.int .i64 i, .int .i64 a] 36)).alloc (.cells #[.int .i64 j, .int .i64 b] 36)).alloc (.cells #[.int .i64 0, .int .i64 0, .int .i64 0, .int .i64 0] 59))) := ((((BS.start w).new [.int .i64 i, .int .i64 a] 36 rfl).new [.int .i64 j, .int .i64 b] 36 (by simp)).new [.int .i64 0, .int .i64 0, .int .i64 0, .int .i64 0] 59 (by simp))
  go_enter Tryz.func22, Tryz.ntmps22
  go_wp2_with fail
  refine (R.out _).mono ?_
  rintro e W1 ⟨rfl, hb⟩
  have K1 := bsb K0 hb
  clear hb K0
  obtain ⟨c1_0_0, c1_0_1, c1_0_2, c1_0_3⟩ := (bo1 K1).c4
  obtain ⟨z1_0_0, z1_0_1, z1_0_2, z1_0_3⟩ := (bo1 K1).f4
  obtain ⟨c1_1_0, c1_1_1⟩ := (bo2 K1).c2
  obtain ⟨c1_2_0, c1_2_1⟩ := (bo3 K1).c2
  have XF : Hid (Bx (W1.setCells (w.heap.size + 2) 0 [.int .i64 0, .int .i64 0, .int .i64 0, .int .i64 0]) (w.heap.size + 2) [.int .i64 0, .int .i64 0, .int .i64 0, .int .i64 0]) := (K1.out.at (w.heap.size + 2) [.int .i64 0, .int .i64 0, .int .i64 0, .int .i64 0] (by simp)).setAll _ rfl
  have BF : Hid (Below w.heap.size w (W1.setCells (w.heap.size + 2) 0 [.int .i64 0, .int .i64 0, .int .i64 0, .int .i64 0])) := below_setCells (by omega) _ _ _ K1.out.1
  have y0 := XF.out.c 0 rfl
  have y1 := XF.out.c 1 rfl
  have y2 := XF.out.c 2 rfl
  have y3 := XF.out.c 3 rfl
  simp only [World.setCells, Nat.zero_add, Nat.reduceAdd] at y0 y1 y2 y3
  clear XF
  go_wp2
  exact bodyPost_ret (v := .tuple #[.agg #[.int .i64 0, .int .i64 0, .int .i64 0, .int .i64 0], .int .i64 1]) (by simp [results, Tryz.results22, go_sem, y0, y1, y2, y3]) rfl ⟨rfl, BF.out⟩

set_option maxRecDepth 100000 in
set_option maxHeartbeats 4000000 in
theorem rsb_no2 (i a j b : Int)
    (R : Hid (∀ w : World, Calls Tryz.prog 34 #[.agg #[.int .i64 i, .int .i64 a]] w fun r' w' => r' = .returned (.bool true) ∧ Below w.heap.size w w'))
    (R2 : Hid (∀ w : World, Calls Tryz.prog 34 #[.agg #[.int .i64 j, .int .i64 b]] w fun r' w' => r' = .returned (.bool false) ∧ Below w.heap.size w w'))
    (w : World) :
    Calls Tryz.prog 22 #[.agg #[.int .i64 i, .int .i64 a], .agg #[.int .i64 j, .int .i64 b]] w fun r' w' => r' = .returned (.tuple #[.agg #[.int .i64 0, .int .i64 0, .int .i64 0, .int .i64 0], .int .i64 1]) ∧ Below w.heap.size w w' := by
  have K0 : Hid (BS w [(w.heap.size + 2, [.int .i64 0, .int .i64 0, .int .i64 0, .int .i64 0]), (w.heap.size + 1, [.int .i64 j, .int .i64 b]), (w.heap.size, [.int .i64 i, .int .i64 a])] (((w.alloc (.cells #[.int .i64 i, .int .i64 a] 36)).alloc (.cells #[.int .i64 j, .int .i64 b] 36)).alloc (.cells #[.int .i64 0, .int .i64 0, .int .i64 0, .int .i64 0] 59))) := ((((BS.start w).new [.int .i64 i, .int .i64 a] 36 rfl).new [.int .i64 j, .int .i64 b] 36 (by simp)).new [.int .i64 0, .int .i64 0, .int .i64 0, .int .i64 0] 59 (by simp))
  go_enter Tryz.func22, Tryz.ntmps22
  go_wp2_with fail
  refine (R.out _).mono ?_
  rintro e W1 ⟨rfl, hb⟩
  have K1 := bsb K0 hb
  clear hb K0
  obtain ⟨c1_0_0, c1_0_1, c1_0_2, c1_0_3⟩ := (bo1 K1).c4
  obtain ⟨c1_1_0, c1_1_1⟩ := (bo2 K1).c2
  obtain ⟨c1_2_0, c1_2_1⟩ := (bo3 K1).c2
  go_wp2_with fail
  refine (R2.out _).mono ?_
  rintro e W2 ⟨rfl, hb⟩
  have K2 := bsb K1 hb
  clear c1_0_0 c1_0_1 c1_0_2 c1_0_3 c1_1_0 c1_1_1 c1_2_0 c1_2_1
  clear hb K1
  obtain ⟨c2_0_0, c2_0_1, c2_0_2, c2_0_3⟩ := (bo1 K2).c4
  obtain ⟨z2_0_0, z2_0_1, z2_0_2, z2_0_3⟩ := (bo1 K2).f4
  obtain ⟨c2_1_0, c2_1_1⟩ := (bo2 K2).c2
  obtain ⟨c2_2_0, c2_2_1⟩ := (bo3 K2).c2
  have XF : Hid (Bx (W2.setCells (w.heap.size + 2) 0 [.int .i64 0, .int .i64 0, .int .i64 0, .int .i64 0]) (w.heap.size + 2) [.int .i64 0, .int .i64 0, .int .i64 0, .int .i64 0]) := (K2.out.at (w.heap.size + 2) [.int .i64 0, .int .i64 0, .int .i64 0, .int .i64 0] (by simp)).setAll _ rfl
  have BF : Hid (Below w.heap.size w (W2.setCells (w.heap.size + 2) 0 [.int .i64 0, .int .i64 0, .int .i64 0, .int .i64 0])) := below_setCells (by omega) _ _ _ K2.out.1
  have y0 := XF.out.c 0 rfl
  have y1 := XF.out.c 1 rfl
  have y2 := XF.out.c 2 rfl
  have y3 := XF.out.c 3 rfl
  simp only [World.setCells, Nat.zero_add, Nat.reduceAdd] at y0 y1 y2 y3
  clear XF
  go_wp2
  exact bodyPost_ret (v := .tuple #[.agg #[.int .i64 0, .int .i64 0, .int .i64 0, .int .i64 0], .int .i64 1]) (by simp [results, Tryz.results22, go_sem, y0, y1, y2, y3]) rfl ⟨rfl, BF.out⟩

set_option maxRecDepth 100000 in
set_option maxHeartbeats 4000000 in
theorem rsb_same (i a b : Int) (hi : i ≠ 0)
    (R : Hid (∀ w : World, Calls Tryz.prog 34 #[.agg #[.int .i64 i, .int .i64 a]] w fun r' w' => r' = .returned (.bool true) ∧ Below w.heap.size w w'))
    (R2 : Hid (∀ w : World, Calls Tryz.prog 34 #[.agg #[.int .i64 i, .int .i64 b]] w fun r' w' => r' = .returned (.bool true) ∧ Below w.heap.size w w'))
    (w : World) :
    Calls Tryz.prog 22 #[.agg #[.int .i64 i, .int .i64 a], .agg #[.int .i64 i, .int .i64 b]] w fun r' w' => r' = .returned (.tuple #[.agg #[.int .i64 0, .int .i64 0, .int .i64 0, .int .i64 0], .int .i64 10]) ∧ Below w.heap.size w w' := by
  have i1 : (i != 0) = true := bne_iff_ne.2 hi
  have i1b : (i == 0) = false := by simpa using hi
  have K0 : Hid (BS w [(w.heap.size + 2, [.int .i64 0, .int .i64 0, .int .i64 0, .int .i64 0]), (w.heap.size + 1, [.int .i64 i, .int .i64 b]), (w.heap.size, [.int .i64 i, .int .i64 a])] (((w.alloc (.cells #[.int .i64 i, .int .i64 a] 36)).alloc (.cells #[.int .i64 i, .int .i64 b] 36)).alloc (.cells #[.int .i64 0, .int .i64 0, .int .i64 0, .int .i64 0] 59))) := ((((BS.start w).new [.int .i64 i, .int .i64 a] 36 rfl).new [.int .i64 i, .int .i64 b] 36 (by simp)).new [.int .i64 0, .int .i64 0, .int .i64 0, .int .i64 0] 59 (by simp))
  go_enter Tryz.func22, Tryz.ntmps22
  go_wp2_with fail
  refine (R.out _).mono ?_
  rintro e W1 ⟨rfl, hb⟩
  have K1 := bsb K0 hb
  clear hb K0
  obtain ⟨c1_0_0, c1_0_1, c1_0_2, c1_0_3⟩ := (bo1 K1).c4
  obtain ⟨c1_1_0, c1_1_1⟩ := (bo2 K1).c2
  obtain ⟨c1_2_0, c1_2_1⟩ := (bo3 K1).c2
  go_wp2_with fail
  refine (R2.out _).mono ?_
  rintro e W2 ⟨rfl, hb⟩
  have K2 := bsb K1 hb
  clear c1_0_0 c1_0_1 c1_0_2 c1_0_3 c1_1_0 c1_1_1 c1_2_0 c1_2_1
  clear hb K1
  obtain ⟨c2_0_0, c2_0_1, c2_0_2, c2_0_3⟩ := (bo1 K2).c4
  obtain ⟨z2_0_0, z2_0_1, z2_0_2, z2_0_3⟩ := (bo1 K2).f4
  obtain ⟨c2_1_0, c2_1_1⟩ := (bo2 K2).c2
  obtain ⟨c2_2_0, c2_2_1⟩ := (bo3 K2).c2
  have XF : Hid (Bx (W2.setCells (w.heap.size + 2) 0 [.int .i64 0, .int .i64 0, .int .i64 0, .int .i64 0]) (w.heap.size + 2) [.int .i64 0, .int .i64 0, .int .i64 0, .int .i64 0]) := (K2.out.at (w.heap.size + 2) [.int .i64 0, .int .i64 0, .int .i64 0, .int .i64 0] (by simp)).setAll _ rfl
  have BF : Hid (Below w.heap.size w (W2.setCells (w.heap.size + 2) 0 [.int .i64 0, .int .i64 0, .int .i64 0, .int .i64 0])) := below_setCells (by omega) _ _ _ K2.out.1
  have y0 := XF.out.c 0 rfl
  have y1 := XF.out.c 1 rfl
  have y2 := XF.out.c 2 rfl
  have y3 := XF.out.c 3 rfl
  simp only [World.setCells, Nat.zero_add, Nat.reduceAdd] at y0 y1 y2 y3
  clear XF
  go_wp2
  exact bodyPost_ret (v := .tuple #[.agg #[.int .i64 0, .int .i64 0, .int .i64 0, .int .i64 0], .int .i64 10]) (by simp [results, Tryz.results22, go_sem, y0, y1, y2, y3]) rfl ⟨rfl, BF.out⟩

set_option maxRecDepth 100000 in
set_option maxHeartbeats 4000000 in
theorem rsb_i (i a j b : Int) (hi : i ≠ 0) (hij : i ≠ j)
    (R : Hid (∀ w : World, Calls Tryz.prog 34 #[.agg #[.int .i64 i, .int .i64 a]] w fun r' w' => r' = .returned (.bool true) ∧ Below w.heap.size w w'))
    (R2 : Hid (∀ w : World, Calls Tryz.prog 34 #[.agg #[.int .i64 j, .int .i64 b]] w fun r' w' => r' = .returned (.bool true) ∧ Below w.heap.size w w'))
    (w : World) :
    Calls Tryz.prog 22 #[.agg #[.int .i64 i, .int .i64 a], .agg #[.int .i64 j, .int .i64 b]] w fun r' w' => r' = .returned (.tuple #[.agg #[.int .i64 i, .int .i64 0, .int .i64 0, .int .i64 0], .int .i64 0]) ∧ Below w.heap.size w w' := by
  have i1 : (i != 0) = true := bne_iff_ne.2 hi
  have i1b : (i == 0) = false := by simpa using hi
  have k1 : (i != j) = true := bne_iff_ne.2 hij
  have k2 : (i == j) = false := by simpa using hij
  have K0 : Hid (BS w [(w.heap.size + 2, [.int .i64 0, .int .i64 0, .int .i64 0, .int .i64 0]), (w.heap.size + 1, [.int .i64 j, .int .i64 b]), (w.heap.size, [.int .i64 i, .int .i64 a])] (((w.alloc (.cells #[.int .i64 i, .int .i64 a] 36)).alloc (.cells #[.int .i64 j, .int .i64 b] 36)).alloc (.cells #[.int .i64 0, .int .i64 0, .int .i64 0, .int .i64 0] 59))) := ((((BS.start w).new [.int .i64 i, .int .i64 a] 36 rfl).new [.int .i64 j, .int .i64 b] 36 (by simp)).new [.int .i64 0, .int .i64 0, .int .i64 0, .int .i64 0] 59 (by simp))
  go_enter Tryz.func22, Tryz.ntmps22
  go_wp2_with fail
  refine (R.out _).mono ?_
  rintro e W1 ⟨rfl, hb⟩
  have K1 := bsb K0 hb
  clear hb K0
  obtain ⟨c1_0_0, c1_0_1, c1_0_2, c1_0_3⟩ := (bo1 K1).c4
  obtain ⟨c1_1_0, c1_1_1⟩ := (bo2 K1).c2
  obtain ⟨c1_2_0, c1_2_1⟩ := (bo3 K1).c2
  go_wp2_with fail
  refine (R2.out _).mono ?_
  rintro e W2 ⟨rfl, hb⟩
  have K2 := bsb K1 hb
  clear c1_0_0 c1_0_1 c1_0_2 c1_0_3 c1_1_0 c1_1_1 c1_2_0 c1_2_1
  clear hb K1
  obtain ⟨c2_0_0, c2_0_1, c2_0_2, c2_0_3⟩ := (bo1 K2).c4
  obtain ⟨z2_0_0, z2_0_1, z2_0_2, z2_0_3⟩ := (bo1 K2).f4
  obtain ⟨c2_1_0, c2_1_1⟩ := (bo2 K2).c2
  obtain ⟨c2_2_0, c2_2_1⟩ := (bo3 K2).c2
  have XF : Hid (Bx (W2.setCells (w.heap.size + 2) 0 [.int .i64 i, .int .i64 0, .int .i64 0, .int .i64 0]) (w.heap.size + 2) [.int .i64 i, .int .i64 0, .int .i64 0, .int .i64 0]) := (K2.out.at (w.heap.size + 2) [.int .i64 0, .int .i64 0, .int .i64 0, .int .i64 0] (by simp)).setAll _ rfl
  have BF : Hid (Below w.heap.size w (W2.setCells (w.heap.size + 2) 0 [.int .i64 i, .int .i64 0, .int .i64 0, .int .i64 0])) := below_setCells (by omega) _ _ _ K2.out.1
  have y0 := XF.out.c 0 rfl
  have y1 := XF.out.c 1 rfl
  have y2 := XF.out.c 2 rfl
  have y3 := XF.out.c 3 rfl
  simp only [World.setCells, Nat.zero_add, Nat.reduceAdd] at y0 y1 y2 y3
  clear XF
  go_wp2
  exact bodyPost_ret (v := .tuple #[.agg #[.int .i64 i, .int .i64 0, .int .i64 0, .int .i64 0], .int .i64 0]) (by simp [results, Tryz.results22, go_sem, y0, y1, y2, y3]) rfl ⟨rfl, BF.out⟩

set_option maxRecDepth 100000 in
set_option maxHeartbeats 4000000 in
theorem rsb_j (a j b J : Int) (hj : j ≠ 0) (hJ : wrap64 (-j) = J)
    (R : Hid (∀ w : World, Calls Tryz.prog 34 #[.agg #[.int .i64 0, .int .i64 a]] w fun r' w' => r' = .returned (.bool true) ∧ Below w.heap.size w w'))
    (R2 : Hid (∀ w : World, Calls Tryz.prog 34 #[.agg #[.int .i64 j, .int .i64 b]] w fun r' w' => r' = .returned (.bool true) ∧ Below w.heap.size w w'))
    (w : World) :
    Calls Tryz.prog 22 #[.agg #[.int .i64 0, .int .i64 a], .agg #[.int .i64 j, .int .i64 b]] w fun r' w' => r' = .returned (.tuple #[.agg #[.int .i64 J, .int .i64 0, .int .i64 0, .int .i64 0], .int .i64 0]) ∧ Below w.heap.size w w' := by
  have j1 : (j != 0) = true := bne_iff_ne.2 hj
  have j1b : (j == 0) = false := by simpa using hj
  have K0 : Hid (BS w [(w.heap.size + 2, [.int .i64 0, .int .i64 0, .int .i64 0, .int .i64 0]), (w.heap.size + 1, [.int .i64 j, .int .i64 b]), (w.heap.size, [.int .i64 0, .int .i64 a])] (((w.alloc (.cells #[.int .i64 0, .int .i64 a] 36)).alloc (.cells #[.int .i64 j, .int .i64 b] 36)).alloc (.cells #[.int .i64 0, .int .i64 0, .int .i64 0, .int .i64 0] 59))) := ((((BS.start w).new [.int .i64 0, .int .i64 a] 36 rfl).new [.int .i64 j, .int .i64 b] 36 (by simp)).new [.int .i64 0, .int .i64 0, .int .i64 0, .int .i64 0] 59 (by simp))
  go_enter Tryz.func22, Tryz.ntmps22
  go_wp2_with fail
  refine (R.out _).mono ?_
  rintro e W1 ⟨rfl, hb⟩
  have K1 := bsb K0 hb
  clear hb K0
  obtain ⟨c1_0_0, c1_0_1, c1_0_2, c1_0_3⟩ := (bo1 K1).c4
  obtain ⟨c1_1_0, c1_1_1⟩ := (bo2 K1).c2
  obtain ⟨c1_2_0, c1_2_1⟩ := (bo3 K1).c2
  go_wp2_with fail
  refine (R2.out _).mono ?_
  rintro e W2 ⟨rfl, hb⟩
  have K2 := bsb K1 hb
  clear c1_0_0 c1_0_1 c1_0_2 c1_0_3 c1_1_0 c1_1_1 c1_2_0 c1_2_1
  clear hb K1
  obtain ⟨c2_0_0, c2_0_1, c2_0_2, c2_0_3⟩ := (bo1 K2).c4
  obtain ⟨z2_0_0, z2_0_1, z2_0_2, z2_0_3⟩ := (bo1 K2).f4
  obtain ⟨c2_1_0, c2_1_1⟩ := (bo2 K2).c2
  obtain ⟨c2_2_0, c2_2_1⟩ := (bo3 K2).c2
  have XF : Hid (Bx (W2.setCells (w.heap.size + 2) 0 [.int .i64 J, .int .i64 0, .int .i64 0, .int .i64 0]) (w.heap.size + 2) [.int .i64 J, .int .i64 0, .int .i64 0, .int .i64 0]) := (K2.out.at (w.heap.size + 2) [.int .i64 0, .int .i64 0, .int .i64 0, .int .i64 0] (by simp)).setAll _ rfl
  have BF : Hid (Below w.heap.size w (W2.setCells (w.heap.size + 2) 0 [.int .i64 J, .int .i64 0, .int .i64 0, .int .i64 0])) := below_setCells (by omega) _ _ _ K2.out.1
  have y0 := XF.out.c 0 rfl
  have y1 := XF.out.c 1 rfl
  have y2 := XF.out.c 2 rfl
  have y3 := XF.out.c 3 rfl
  simp only [World.setCells, Nat.zero_add, Nat.reduceAdd] at y0 y1 y2 y3
  clear XF
  go_wp2
  exact bodyPost_ret (v := .tuple #[.agg #[.int .i64 J, .int .i64 0, .int .i64 0, .int .i64 0], .int .i64 0]) (by simp [results, Tryz.results22, go_sem, y0, y1, y2, y3]) rfl ⟨rfl, BF.out⟩

set_option maxRecDepth 100000 in
set_option maxHeartbeats 4000000 in
theorem rsb_e (a b n e : Int) (he : e ≠ 0)
    (R : Hid (∀ w : World, Calls Tryz.prog 34 #[.agg #[.int .i64 0, .int .i64 a]] w fun r' w' => r' = .returned (.bool true) ∧ Below w.heap.size w w'))
    (R2 : Hid (∀ w : World, Calls Tryz.prog 34 #[.agg #[.int .i64 0, .int .i64 b]] w fun r' w' => r' = .returned (.bool true) ∧ Below w.heap.size w w'))
    (NS : Hid (∀ w : World, Calls Tryz.prog 52 #[.int .i64 a, .int .i64 b] w fun r' w' => r' = .returned (.tuple #[.int .i64 n, .int .i64 e]) ∧ Below w.heap.size w w'))
    (w : World) :
    Calls Tryz.prog 22 #[.agg #[.int .i64 0, .int .i64 a], .agg #[.int .i64 0, .int .i64 b]] w fun r' w' => r' = .returned (.tuple #[.agg #[.int .i64 0, .int .i64 0, .int .i64 0, .int .i64 0], .int .i64 e]) ∧ Below w.heap.size w w' := by
  have e1 : (e != 0) = true := bne_iff_ne.2 he
  have e1b : (e == 0) = false := by simpa using he
  have K0 : Hid (BS w [(w.heap.size + 2, [.int .i64 0, .int .i64 0, .int .i64 0, .int .i64 0]), (w.heap.size + 1, [.int .i64 0, .int .i64 b]), (w.heap.size, [.int .i64 0, .int .i64 a])] (((w.alloc (.cells #[.int .i64 0, .int .i64 a] 36)).alloc (.cells #[.int .i64 0, .int .i64 b] 36)).alloc (.cells #[.int .i64 0, .int .i64 0, .int .i64 0, .int .i64 0] 59))) := ((((BS.start w).new [.int .i64 0, .int .i64 a] 36 rfl).new [.int .i64 0, .int .i64 b] 36 (by simp)).new [.int .i64 0, .int .i64 0, .int .i64 0, .int .i64 0] 59 (by simp))
  go_enter Tryz.func22, Tryz.ntmps22
  go_wp2_with fail
  refine (R.out _).mono ?_
  rintro e W1 ⟨rfl, hb⟩
  have K1 := bsb K0 hb
  clear hb K0
  obtain ⟨c1_0_0, c1_0_1, c1_0_2, c1_0_3⟩ := (bo1 K1).c4
  obtain ⟨c1_1_0, c1_1_1⟩ := (bo2 K1).c2
  obtain ⟨c1_2_0, c1_2_1⟩ := (bo3 K1).c2
  go_wp2_with fail
  refine (R2.out _).mono ?_
  rintro e W2 ⟨rfl, hb⟩
  have K2 := bsb K1 hb
  clear c1_0_0 c1_0_1 c1_0_2 c1_0_3 c1_1_0 c1_1_1 c1_2_0 c1_2_1
  clear hb K1
  obtain ⟨c2_0_0, c2_0_1, c2_0_2, c2_0_3⟩ := (bo1 K2).c4
  obtain ⟨c2_1_0, c2_1_1⟩ := (bo2 K2).c2
  obtain ⟨c2_2_0, c2_2_1⟩ := (bo3 K2).c2
  go_wp2_with fail
  refine (NS.out _).mono ?_
  rintro e W3 ⟨rfl, hb⟩
  have K3 := bsb K2 hb
  clear c2_0_0 c2_0_1 c2_0_2 c2_0_3 c2_1_0 c2_1_1 c2_2_0 c2_2_1
  clear hb K2
  obtain ⟨c3_0_0, c3_0_1, c3_0_2, c3_0_3⟩ := (bo1 K3).c4
  obtain ⟨z3_0_0, z3_0_1, z3_0_2, z3_0_3⟩ := (bo1 K3).f4
  obtain ⟨c3_1_0, c3_1_1⟩ := (bo2 K3).c2
  obtain ⟨c3_2_0, c3_2_1⟩ := (bo3 K3).c2
  have XF : Hid (Bx (W3.setCells (w.heap.size + 2) 0 [.int .i64 0, .int .i64 0, .int .i64 0, .int .i64 0]) (w.heap.size + 2) [.int .i64 0, .int .i64 0, .int .i64 0, .int .i64 0]) := (K3.out.at (w.heap.size + 2) [.int .i64 0, .int .i64 0, .int .i64 0, .int .i64 0] (by simp)).setAll _ rfl
  have BF : Hid (Below w.heap.size w (W3.setCells (w.heap.size + 2) 0 [.int .i64 0, .int .i64 0, .int .i64 0, .int .i64 0])) := below_setCells (by omega) _ _ _ K3.out.1
  have y0 := XF.out.c 0 rfl
  have y1 := XF.out.c 1 rfl
  have y2 := XF.out.c 2 rfl
  have y3 := XF.out.c 3 rfl
  simp only [World.setCells, Nat.zero_add, Nat.reduceAdd] at y0 y1 y2 y3
  clear XF
  go_wp2
  exact bodyPost_ret (v := .tuple #[.agg #[.int .i64 0, .int .i64 0, .int .i64 0, .int .i64 0], .int .i64 e]) (by simp [results, Tryz.results22, go_sem, y0, y1, y2, y3]) rfl ⟨rfl, BF.out⟩

set_option maxRecDepth 100000 in
set_option maxHeartbeats 4000000 in
theorem rsb_ok (a b n nq nr : Int) (hq : wrap64 (n.tdiv 86400000000) = nq) (hr : n.tmod 86400000000 = nr)
    (R : Hid (∀ w : World, Calls Tryz.prog 34 #[.agg #[.int .i64 0, .int .i64 a]] w fun r' w' => r' = .returned (.bool true) ∧ Below w.heap.size w w'))
    (R2 : Hid (∀ w : World, Calls Tryz.prog 34 #[.agg #[.int .i64 0, .int .i64 b]] w fun r' w' => r' = .returned (.bool true) ∧ Below w.heap.size w w'))
    (NS : Hid (∀ w : World, Calls Tryz.prog 52 #[.int .i64 a, .int .i64 b] w fun r' w' => r' = .returned (.tuple #[.int .i64 n, .int .i64 0]) ∧ Below w.heap.size w w'))
    (w : World) :
    Calls Tryz.prog 22 #[.agg #[.int .i64 0, .int .i64 a], .agg #[.int .i64 0, .int .i64 b]] w fun r' w' => r' = .returned (.tuple #[.agg #[.int .i64 0, .int .i64 0, .int .i64 nq, .int .i64 nr], .int .i64 0]) ∧ Below w.heap.size w w' := by
  have K0 : Hid (BS w [(w.heap.size + 2, [.int .i64 0, .int .i64 0, .int .i64 0, .int .i64 0]), (w.heap.size + 1, [.int .i64 0, .int .i64 b]), (w.heap.size, [.int .i64 0, .int .i64 a])] (((w.alloc (.cells #[.int .i64 0, .int .i64 a] 36)).alloc (.cells #[.int .i64 0, .int .i64 b] 36)).alloc (.cells #[.int .i64 0, .int .i64 0, .int .i64 0, .int .i64 0] 59))) := ((((BS.start w).new [.int .i64 0, .int .i64 a] 36 rfl).new [.int .i64 0, .int .i64 b] 36 (by simp)).new [.int .i64 0, .int .i64 0, .int .i64 0, .int .i64 0] 59 (by simp))
  go_enter Tryz.func22, Tryz.ntmps22
  go_wp2_with fail
  refine (R.out _).mono ?_
  rintro e W1 ⟨rfl, hb⟩
  have K1 := bsb K0 hb
  clear hb K0
  obtain ⟨c1_0_0, c1_0_1, c1_0_2, c1_0_3⟩ := (bo1 K1).c4
  obtain ⟨c1_1_0, c1_1_1⟩ := (bo2 K1).c2
  obtain ⟨c1_2_0, c1_2_1⟩ := (bo3 K1).c2
  go_wp2_with fail
  refine (R2.out _).mono ?_
  rintro e W2 ⟨rfl, hb⟩
  have K2 := bsb K1 hb
  clear c1_0_0 c1_0_1 c1_0_2 c1_0_3 c1_1_0 c1_1_1 c1_2_0 c1_2_1
  clear hb K1
  obtain ⟨c2_0_0, c2_0_1, c2_0_2, c2_0_3⟩ := (bo1 K2).c4
  obtain ⟨c2_1_0, c2_1_1⟩ := (bo2 K2).c2
  obtain ⟨c2_2_0, c2_2_1⟩ := (bo3 K2).c2
  go_wp2_with fail
  refine (NS.out _).mono ?_
  rintro e W3 ⟨rfl, hb⟩
  have K3 := bsb K2 hb
  clear c2_0_0 c2_0_1 c2_0_2 c2_0_3 c2_1_0 c2_1_1 c2_2_0 c2_2_1
  clear hb K2
  obtain ⟨c3_0_0, c3_0_1, c3_0_2, c3_0_3⟩ := (bo1 K3).c4
  obtain ⟨z3_0_0, z3_0_1, z3_0_2, z3_0_3⟩ := (bo1 K3).f4
  obtain ⟨c3_1_0, c3_1_1⟩ := (bo2 K3).c2
  obtain ⟨c3_2_0, c3_2_1⟩ := (bo3 K3).c2
  have XF : Hid (Bx (W3.setCells (w.heap.size + 2) 0 [.int .i64 0, .int .i64 0, .int .i64 nq, .int .i64 nr]) (w.heap.size + 2) [.int .i64 0, .int .i64 0, .int .i64 nq, .int .i64 nr]) := (K3.out.at (w.heap.size + 2) [.int .i64 0, .int .i64 0, .int .i64 0, .int .i64 0] (by simp)).setAll _ rfl
  have BF : Hid (Below w.heap.size w (W3.setCells (w.heap.size + 2) 0 [.int .i64 0, .int .i64 0, .int .i64 nq, .int .i64 nr])) := below_setCells (by omega) _ _ _ K3.out.1
  have y0 := XF.out.c 0 rfl
  have y1 := XF.out.c 1 rfl
  have y2 := XF.out.c 2 rfl
  have y3 := XF.out.c 3 rfl
  simp only [World.setCells, Nat.zero_add, Nat.reduceAdd] at y0 y1 y2 y3
  clear XF
  go_wp2
  exact bodyPost_ret (v := .tuple #[.agg #[.int .i64 0, .int .i64 0, .int .i64 nq, .int .i64 nr], .int .i64 0]) (by simp [results, Tryz.results22, go_sem, y0, y1, y2, y3]) rfl ⟨rfl, BF.out⟩


end Go.Proofs.YtigeccplombggaaGreatDoor
