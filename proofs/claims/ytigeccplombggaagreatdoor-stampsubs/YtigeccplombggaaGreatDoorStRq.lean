/- reference 17: plus, infinite, date, way by way. -/
import Derived.Test.YtigeccplombggaaGreatDoorStFq
import Derived.Test.YtigeccplombggaaGreatDoorBxCq
namespace Go.Proofs.YtigeccplombggaaGreatDoor
open Go.RowKit
set_option linter.unusedVariables false

set_option maxRecDepth 100000 in
set_option maxHeartbeats 4000000 in
theorem pl_e (i u e n v f : Int) (he : e ≠ 0)
    (NA : Hid (∀ w : World, Calls Tryz.prog 91 #[.int .i64 u, .int .i64 n] w fun r' w' => r' = .returned (.tuple #[.int .i64 v, .int .i64 f]) ∧ Below w.heap.size w w'))
    (w : World) :
    Calls Tryz.prog 48 #[.agg #[.int .i64 i, .int .i64 u], .int .i64 e, .int .i64 n] w fun r' w' => r' = .returned (.tuple #[.agg #[.int .i64 0, .int .i64 0], .int .i64 10]) ∧ Below w.heap.size w w' := by
  have e1 : (e != 0) = true := bne_iff_ne.2 he
  have e1b : (e == 0) = false := by simpa using he
  have K0 : Hid (BS w [(w.heap.size + 1, [.int .i64 0, .int .i64 0]), (w.heap.size, [.int .i64 i, .int .i64 u])] ((w.alloc (.cells #[.int .i64 i, .int .i64 u] 36)).alloc (.cells #[.int .i64 0, .int .i64 0] 36))) := (((BS.start w).new [.int .i64 i, .int .i64 u] 36 rfl).new [.int .i64 0, .int .i64 0] 36 (by simp))
  go_enter Tryz.func48, Tryz.ntmps48
  go_wp2_with fail
  refine (NA.out _).mono ?_
  rintro e W1 ⟨rfl, hb⟩
  have K1 := bsb K0 hb
  clear hb K0
  obtain ⟨c1_0_0, c1_0_1⟩ := (bo1 K1).c2
  obtain ⟨c1_1_0, c1_1_1⟩ := (bo2 K1).c2
  have Mz1 := bsn K1 [.int .i64 0, .int .i64 v] 36
  have lt1_0 := (bo1 K1).1
  have lt1_1 := (bo2 K1).1
  go_upto_region 3 with fail
  refine bs_to Mz1 ?_
  clear c1_0_0 c1_0_1 c1_1_0 c1_1_1
  intro W2 K2
  clear Mz1 K1
  obtain ⟨c2_0_0, c2_0_1⟩ := (bo1 K2).c2
  obtain ⟨c2_1_0, c2_1_1⟩ := (bo2 K2).c2
  obtain ⟨z2_1_0, z2_1_1⟩ := (bo2 K2).f2
  obtain ⟨c2_2_0, c2_2_1⟩ := (bo3 K2).c2
  have XF : Hid (Bx (W2.setCells (w.heap.size + 1) 0 [.int .i64 0, .int .i64 0]) (w.heap.size + 1) [.int .i64 0, .int .i64 0]) := (K2.out.at (w.heap.size + 1) [.int .i64 0, .int .i64 0] (by simp)).setAll _ rfl
  have BF : Hid (Below w.heap.size w (W2.setCells (w.heap.size + 1) 0 [.int .i64 0, .int .i64 0])) := below_setCells (by omega) _ _ _ K2.out.1
  have y0 := XF.out.c 0 rfl
  have y1 := XF.out.c 1 rfl
  simp only [World.setCells, Nat.zero_add] at y0 y1
  clear XF
  go_wp2
  exact bodyPost_ret (v := .tuple #[.agg #[.int .i64 0, .int .i64 0], .int .i64 10]) (by simp [results, Tryz.results48, go_sem, y0, y1]) rfl ⟨rfl, BF.out⟩

set_option maxRecDepth 100000 in
set_option maxHeartbeats 4000000 in
theorem pl_f (i u n v f : Int) (hf : f ≠ 0)
    (NA : Hid (∀ w : World, Calls Tryz.prog 91 #[.int .i64 u, .int .i64 n] w fun r' w' => r' = .returned (.tuple #[.int .i64 v, .int .i64 f]) ∧ Below w.heap.size w w'))
    (w : World) :
    Calls Tryz.prog 48 #[.agg #[.int .i64 i, .int .i64 u], .int .i64 0, .int .i64 n] w fun r' w' => r' = .returned (.tuple #[.agg #[.int .i64 0, .int .i64 0], .int .i64 10]) ∧ Below w.heap.size w w' := by
  have f1 : (f != 0) = true := bne_iff_ne.2 hf
  have f1b : (f == 0) = false := by simpa using hf
  have K0 : Hid (BS w [(w.heap.size + 1, [.int .i64 0, .int .i64 0]), (w.heap.size, [.int .i64 i, .int .i64 u])] ((w.alloc (.cells #[.int .i64 i, .int .i64 u] 36)).alloc (.cells #[.int .i64 0, .int .i64 0] 36))) := (((BS.start w).new [.int .i64 i, .int .i64 u] 36 rfl).new [.int .i64 0, .int .i64 0] 36 (by simp))
  go_enter Tryz.func48, Tryz.ntmps48
  go_wp2_with fail
  refine (NA.out _).mono ?_
  rintro e W1 ⟨rfl, hb⟩
  have K1 := bsb K0 hb
  clear hb K0
  obtain ⟨c1_0_0, c1_0_1⟩ := (bo1 K1).c2
  obtain ⟨c1_1_0, c1_1_1⟩ := (bo2 K1).c2
  have Mz1 := bsn K1 [.int .i64 0, .int .i64 v] 36
  have lt1_0 := (bo1 K1).1
  have lt1_1 := (bo2 K1).1
  go_upto_region 3 with fail
  refine bs_to Mz1 ?_
  clear c1_0_0 c1_0_1 c1_1_0 c1_1_1
  intro W2 K2
  clear Mz1 K1
  obtain ⟨c2_0_0, c2_0_1⟩ := (bo1 K2).c2
  obtain ⟨c2_1_0, c2_1_1⟩ := (bo2 K2).c2
  obtain ⟨z2_1_0, z2_1_1⟩ := (bo2 K2).f2
  obtain ⟨c2_2_0, c2_2_1⟩ := (bo3 K2).c2
  have XF : Hid (Bx (W2.setCells (w.heap.size + 1) 0 [.int .i64 0, .int .i64 0]) (w.heap.size + 1) [.int .i64 0, .int .i64 0]) := (K2.out.at (w.heap.size + 1) [.int .i64 0, .int .i64 0] (by simp)).setAll _ rfl
  have BF : Hid (Below w.heap.size w (W2.setCells (w.heap.size + 1) 0 [.int .i64 0, .int .i64 0])) := below_setCells (by omega) _ _ _ K2.out.1
  have y0 := XF.out.c 0 rfl
  have y1 := XF.out.c 1 rfl
  simp only [World.setCells, Nat.zero_add] at y0 y1
  clear XF
  go_wp2
  exact bodyPost_ret (v := .tuple #[.agg #[.int .i64 0, .int .i64 0], .int .i64 10]) (by simp [results, Tryz.results48, go_sem, y0, y1]) rfl ⟨rfl, BF.out⟩

set_option maxRecDepth 100000 in
set_option maxHeartbeats 4000000 in
theorem pl_r (i u n v : Int)
    (NA : Hid (∀ w : World, Calls Tryz.prog 91 #[.int .i64 u, .int .i64 n] w fun r' w' => r' = .returned (.tuple #[.int .i64 v, .int .i64 0]) ∧ Below w.heap.size w w'))
    (R : Hid (∀ w : World, Calls Tryz.prog 34 #[.agg #[.int .i64 0, .int .i64 v]] w fun r' w' => r' = .returned (.bool false) ∧ Below w.heap.size w w'))
    (w : World) :
    Calls Tryz.prog 48 #[.agg #[.int .i64 i, .int .i64 u], .int .i64 0, .int .i64 n] w fun r' w' => r' = .returned (.tuple #[.agg #[.int .i64 0, .int .i64 0], .int .i64 10]) ∧ Below w.heap.size w w' := by
  have K0 : Hid (BS w [(w.heap.size + 1, [.int .i64 0, .int .i64 0]), (w.heap.size, [.int .i64 i, .int .i64 u])] ((w.alloc (.cells #[.int .i64 i, .int .i64 u] 36)).alloc (.cells #[.int .i64 0, .int .i64 0] 36))) := (((BS.start w).new [.int .i64 i, .int .i64 u] 36 rfl).new [.int .i64 0, .int .i64 0] 36 (by simp))
  go_enter Tryz.func48, Tryz.ntmps48
  go_wp2_with fail
  refine (NA.out _).mono ?_
  rintro e W1 ⟨rfl, hb⟩
  have K1 := bsb K0 hb
  clear hb K0
  obtain ⟨c1_0_0, c1_0_1⟩ := (bo1 K1).c2
  obtain ⟨c1_1_0, c1_1_1⟩ := (bo2 K1).c2
  have Mz1 := bsn K1 [.int .i64 0, .int .i64 v] 36
  have lt1_0 := (bo1 K1).1
  have lt1_1 := (bo2 K1).1
  go_upto_region 3 with fail
  refine bs_to Mz1 ?_
  clear c1_0_0 c1_0_1 c1_1_0 c1_1_1
  intro W2 K2
  clear Mz1 K1
  obtain ⟨c2_0_0, c2_0_1⟩ := (bo1 K2).c2
  obtain ⟨c2_1_0, c2_1_1⟩ := (bo2 K2).c2
  obtain ⟨c2_2_0, c2_2_1⟩ := (bo3 K2).c2
  go_wp2_with fail
  refine (R.out _).mono ?_
  rintro e W3 ⟨rfl, hb⟩
  have K3 := bsb K2 hb
  clear c2_0_0 c2_0_1 c2_1_0 c2_1_1 c2_2_0 c2_2_1
  clear hb K2
  obtain ⟨c3_0_0, c3_0_1⟩ := (bo1 K3).c2
  obtain ⟨c3_1_0, c3_1_1⟩ := (bo2 K3).c2
  obtain ⟨z3_1_0, z3_1_1⟩ := (bo2 K3).f2
  obtain ⟨c3_2_0, c3_2_1⟩ := (bo3 K3).c2
  have XF : Hid (Bx (W3.setCells (w.heap.size + 1) 0 [.int .i64 0, .int .i64 0]) (w.heap.size + 1) [.int .i64 0, .int .i64 0]) := (K3.out.at (w.heap.size + 1) [.int .i64 0, .int .i64 0] (by simp)).setAll _ rfl
  have BF : Hid (Below w.heap.size w (W3.setCells (w.heap.size + 1) 0 [.int .i64 0, .int .i64 0])) := below_setCells (by omega) _ _ _ K3.out.1
  have y0 := XF.out.c 0 rfl
  have y1 := XF.out.c 1 rfl
  simp only [World.setCells, Nat.zero_add] at y0 y1
  clear XF
  go_wp2
  exact bodyPost_ret (v := .tuple #[.agg #[.int .i64 0, .int .i64 0], .int .i64 10]) (by simp [results, Tryz.results48, go_sem, y0, y1]) rfl ⟨rfl, BF.out⟩

set_option maxRecDepth 100000 in
set_option maxHeartbeats 4000000 in
theorem pl_ok (i u n v : Int)
    (NA : Hid (∀ w : World, Calls Tryz.prog 91 #[.int .i64 u, .int .i64 n] w fun r' w' => r' = .returned (.tuple #[.int .i64 v, .int .i64 0]) ∧ Below w.heap.size w w'))
    (R : Hid (∀ w : World, Calls Tryz.prog 34 #[.agg #[.int .i64 0, .int .i64 v]] w fun r' w' => r' = .returned (.bool true) ∧ Below w.heap.size w w'))
    (w : World) :
    Calls Tryz.prog 48 #[.agg #[.int .i64 i, .int .i64 u], .int .i64 0, .int .i64 n] w fun r' w' => r' = .returned (.tuple #[.agg #[.int .i64 0, .int .i64 v], .int .i64 0]) ∧ Below w.heap.size w w' := by
  have K0 : Hid (BS w [(w.heap.size + 1, [.int .i64 0, .int .i64 0]), (w.heap.size, [.int .i64 i, .int .i64 u])] ((w.alloc (.cells #[.int .i64 i, .int .i64 u] 36)).alloc (.cells #[.int .i64 0, .int .i64 0] 36))) := (((BS.start w).new [.int .i64 i, .int .i64 u] 36 rfl).new [.int .i64 0, .int .i64 0] 36 (by simp))
  go_enter Tryz.func48, Tryz.ntmps48
  go_wp2_with fail
  refine (NA.out _).mono ?_
  rintro e W1 ⟨rfl, hb⟩
  have K1 := bsb K0 hb
  clear hb K0
  obtain ⟨c1_0_0, c1_0_1⟩ := (bo1 K1).c2
  obtain ⟨c1_1_0, c1_1_1⟩ := (bo2 K1).c2
  have Mz1 := bsn K1 [.int .i64 0, .int .i64 v] 36
  have lt1_0 := (bo1 K1).1
  have lt1_1 := (bo2 K1).1
  go_upto_region 3 with fail
  refine bs_to Mz1 ?_
  clear c1_0_0 c1_0_1 c1_1_0 c1_1_1
  intro W2 K2
  clear Mz1 K1
  obtain ⟨c2_0_0, c2_0_1⟩ := (bo1 K2).c2
  obtain ⟨c2_1_0, c2_1_1⟩ := (bo2 K2).c2
  obtain ⟨c2_2_0, c2_2_1⟩ := (bo3 K2).c2
  go_wp2_with fail
  refine (R.out _).mono ?_
  rintro e W3 ⟨rfl, hb⟩
  have K3 := bsb K2 hb
  clear c2_0_0 c2_0_1 c2_1_0 c2_1_1 c2_2_0 c2_2_1
  clear hb K2
  obtain ⟨c3_0_0, c3_0_1⟩ := (bo1 K3).c2
  obtain ⟨c3_1_0, c3_1_1⟩ := (bo2 K3).c2
  obtain ⟨z3_1_0, z3_1_1⟩ := (bo2 K3).f2
  obtain ⟨c3_2_0, c3_2_1⟩ := (bo3 K3).c2
  have XF : Hid (Bx (W3.setCells (w.heap.size + 1) 0 [.int .i64 0, .int .i64 v]) (w.heap.size + 1) [.int .i64 0, .int .i64 v]) := (K3.out.at (w.heap.size + 1) [.int .i64 0, .int .i64 0] (by simp)).setAll _ rfl
  have BF : Hid (Below w.heap.size w (W3.setCells (w.heap.size + 1) 0 [.int .i64 0, .int .i64 v])) := below_setCells (by omega) _ _ _ K3.out.1
  have y0 := XF.out.c 0 rfl
  have y1 := XF.out.c 1 rfl
  simp only [World.setCells, Nat.zero_add] at y0 y1
  clear XF
  go_wp2
  exact bodyPost_ret (v := .tuple #[.agg #[.int .i64 0, .int .i64 v], .int .i64 0]) (by simp [results, Tryz.results48, go_sem, y0, y1]) rfl ⟨rfl, BF.out⟩

set_option maxRecDepth 100000 in
set_option maxHeartbeats 4000000 in
theorem inf_no (u m d n : Int)
    (w : World) :
    Calls Tryz.prog 46 #[.agg #[.int .i64 0, .int .i64 u], .agg #[.int .i64 0, .int .i64 m, .int .i64 d, .int .i64 n]] w fun r' w' => r' = .returned (.tuple #[.agg #[.int .i64 0, .int .i64 0], .int .i64 0, .bool false]) ∧ Below w.heap.size w w' := by
  have K0 : Hid (BS w [(w.heap.size + 2, [.int .i64 0, .int .i64 0]), (w.heap.size + 1, [.int .i64 0, .int .i64 m, .int .i64 d, .int .i64 n]), (w.heap.size, [.int .i64 0, .int .i64 u])] (((w.alloc (.cells #[.int .i64 0, .int .i64 u] 36)).alloc (.cells #[.int .i64 0, .int .i64 m, .int .i64 d, .int .i64 n] 59)).alloc (.cells #[.int .i64 0, .int .i64 0] 36))) := ((((BS.start w).new [.int .i64 0, .int .i64 u] 36 rfl).new [.int .i64 0, .int .i64 m, .int .i64 d, .int .i64 n] 59 (by simp)).new [.int .i64 0, .int .i64 0] 36 (by simp))
  go_enter Tryz.func46, Tryz.ntmps46
  go_upto_region 1 with fail
  refine gen_to (BS w [(w.heap.size + 2, [.int .i64 0, .int .i64 0]), (w.heap.size + 1, [.int .i64 0, .int .i64 m, .int .i64 d, .int .i64 n]), (w.heap.size, [.int .i64 0, .int .i64 u])]) K0.out ?_
  clear K0
  intro W0 K0'
  have K0 : Hid (BS w [(w.heap.size + 2, [.int .i64 0, .int .i64 0]), (w.heap.size + 1, [.int .i64 0, .int .i64 m, .int .i64 d, .int .i64 n]), (w.heap.size, [.int .i64 0, .int .i64 u])] W0) := K0'
  clear K0'
  obtain ⟨c0_0_0, c0_0_1⟩ := (bo1 K0).c2
  obtain ⟨z0_0_0, z0_0_1⟩ := (bo1 K0).f2
  obtain ⟨c0_1_0, c0_1_1, c0_1_2, c0_1_3⟩ := (bo2 K0).c4
  obtain ⟨c0_2_0, c0_2_1⟩ := (bo3 K0).c2
  have XF : Hid (Bx (W0.setCells (w.heap.size + 2) 0 [.int .i64 0, .int .i64 0]) (w.heap.size + 2) [.int .i64 0, .int .i64 0]) := (K0.out.at (w.heap.size + 2) [.int .i64 0, .int .i64 0] (by simp)).setAll _ rfl
  have BF : Hid (Below w.heap.size w (W0.setCells (w.heap.size + 2) 0 [.int .i64 0, .int .i64 0])) := below_setCells (by omega) _ _ _ K0.out.1
  have y0 := XF.out.c 0 rfl
  have y1 := XF.out.c 1 rfl
  simp only [World.setCells, Nat.zero_add] at y0 y1
  clear XF
  go_wp2
  exact bodyPost_ret (v := .tuple #[.agg #[.int .i64 0, .int .i64 0], .int .i64 0, .bool false]) (by simp [results, Tryz.results46, go_sem, y0, y1]) rfl ⟨rfl, BF.out⟩

set_option maxRecDepth 100000 in
set_option maxHeartbeats 4000000 in
theorem inf_bad (i u j m d n : Int) (hi : i ≠ 0) (hj : j ≠ 0) (hij : i ≠ j)
    (w : World) :
    Calls Tryz.prog 46 #[.agg #[.int .i64 i, .int .i64 u], .agg #[.int .i64 j, .int .i64 m, .int .i64 d, .int .i64 n]] w fun r' w' => r' = .returned (.tuple #[.agg #[.int .i64 0, .int .i64 0], .int .i64 10, .bool true]) ∧ Below w.heap.size w w' := by
  have i1 : (i != 0) = true := bne_iff_ne.2 hi
  have i1b : (i == 0) = false := by simpa using hi
  have j1 : (j != 0) = true := bne_iff_ne.2 hj
  have j1b : (j == 0) = false := by simpa using hj
  have k1 : (i != j) = true := bne_iff_ne.2 hij
  have k2 : (i == j) = false := by simpa using hij
  have K0 : Hid (BS w [(w.heap.size + 2, [.int .i64 0, .int .i64 0]), (w.heap.size + 1, [.int .i64 j, .int .i64 m, .int .i64 d, .int .i64 n]), (w.heap.size, [.int .i64 i, .int .i64 u])] (((w.alloc (.cells #[.int .i64 i, .int .i64 u] 36)).alloc (.cells #[.int .i64 j, .int .i64 m, .int .i64 d, .int .i64 n] 59)).alloc (.cells #[.int .i64 0, .int .i64 0] 36))) := ((((BS.start w).new [.int .i64 i, .int .i64 u] 36 rfl).new [.int .i64 j, .int .i64 m, .int .i64 d, .int .i64 n] 59 (by simp)).new [.int .i64 0, .int .i64 0] 36 (by simp))
  go_enter Tryz.func46, Tryz.ntmps46
  go_upto_region 1 with fail
  refine gen_to (BS w [(w.heap.size + 2, [.int .i64 0, .int .i64 0]), (w.heap.size + 1, [.int .i64 j, .int .i64 m, .int .i64 d, .int .i64 n]), (w.heap.size, [.int .i64 i, .int .i64 u])]) K0.out ?_
  clear K0
  intro W0 K0'
  have K0 : Hid (BS w [(w.heap.size + 2, [.int .i64 0, .int .i64 0]), (w.heap.size + 1, [.int .i64 j, .int .i64 m, .int .i64 d, .int .i64 n]), (w.heap.size, [.int .i64 i, .int .i64 u])] W0) := K0'
  clear K0'
  obtain ⟨c0_0_0, c0_0_1⟩ := (bo1 K0).c2
  obtain ⟨z0_0_0, z0_0_1⟩ := (bo1 K0).f2
  obtain ⟨c0_1_0, c0_1_1, c0_1_2, c0_1_3⟩ := (bo2 K0).c4
  obtain ⟨c0_2_0, c0_2_1⟩ := (bo3 K0).c2
  have XF : Hid (Bx (W0.setCells (w.heap.size + 2) 0 [.int .i64 0, .int .i64 0]) (w.heap.size + 2) [.int .i64 0, .int .i64 0]) := (K0.out.at (w.heap.size + 2) [.int .i64 0, .int .i64 0] (by simp)).setAll _ rfl
  have BF : Hid (Below w.heap.size w (W0.setCells (w.heap.size + 2) 0 [.int .i64 0, .int .i64 0])) := below_setCells (by omega) _ _ _ K0.out.1
  have y0 := XF.out.c 0 rfl
  have y1 := XF.out.c 1 rfl
  simp only [World.setCells, Nat.zero_add] at y0 y1
  clear XF
  go_wp2
  exact bodyPost_ret (v := .tuple #[.agg #[.int .i64 0, .int .i64 0], .int .i64 10, .bool true]) (by simp [results, Tryz.results46, go_sem, y0, y1]) rfl ⟨rfl, BF.out⟩

set_option maxRecDepth 100000 in
set_option maxHeartbeats 4000000 in
theorem inf_t (i u m d n : Int) (hi : i ≠ 0)
    (w : World) :
    Calls Tryz.prog 46 #[.agg #[.int .i64 i, .int .i64 u], .agg #[.int .i64 0, .int .i64 m, .int .i64 d, .int .i64 n]] w fun r' w' => r' = .returned (.tuple #[.agg #[.int .i64 i, .int .i64 u], .int .i64 0, .bool true]) ∧ Below w.heap.size w w' := by
  have i1 : (i != 0) = true := bne_iff_ne.2 hi
  have i1b : (i == 0) = false := by simpa using hi
  have K0 : Hid (BS w [(w.heap.size + 2, [.int .i64 0, .int .i64 0]), (w.heap.size + 1, [.int .i64 0, .int .i64 m, .int .i64 d, .int .i64 n]), (w.heap.size, [.int .i64 i, .int .i64 u])] (((w.alloc (.cells #[.int .i64 i, .int .i64 u] 36)).alloc (.cells #[.int .i64 0, .int .i64 m, .int .i64 d, .int .i64 n] 59)).alloc (.cells #[.int .i64 0, .int .i64 0] 36))) := ((((BS.start w).new [.int .i64 i, .int .i64 u] 36 rfl).new [.int .i64 0, .int .i64 m, .int .i64 d, .int .i64 n] 59 (by simp)).new [.int .i64 0, .int .i64 0] 36 (by simp))
  go_enter Tryz.func46, Tryz.ntmps46
  go_upto_region 1 with fail
  refine gen_to (BS w [(w.heap.size + 2, [.int .i64 0, .int .i64 0]), (w.heap.size + 1, [.int .i64 0, .int .i64 m, .int .i64 d, .int .i64 n]), (w.heap.size, [.int .i64 i, .int .i64 u])]) K0.out ?_
  clear K0
  intro W0 K0'
  have K0 : Hid (BS w [(w.heap.size + 2, [.int .i64 0, .int .i64 0]), (w.heap.size + 1, [.int .i64 0, .int .i64 m, .int .i64 d, .int .i64 n]), (w.heap.size, [.int .i64 i, .int .i64 u])] W0) := K0'
  clear K0'
  obtain ⟨c0_0_0, c0_0_1⟩ := (bo1 K0).c2
  obtain ⟨z0_0_0, z0_0_1⟩ := (bo1 K0).f2
  obtain ⟨c0_1_0, c0_1_1, c0_1_2, c0_1_3⟩ := (bo2 K0).c4
  obtain ⟨c0_2_0, c0_2_1⟩ := (bo3 K0).c2
  have XF : Hid (Bx (W0.setCells (w.heap.size + 2) 0 [.int .i64 i, .int .i64 u]) (w.heap.size + 2) [.int .i64 i, .int .i64 u]) := (K0.out.at (w.heap.size + 2) [.int .i64 0, .int .i64 0] (by simp)).setAll _ rfl
  have BF : Hid (Below w.heap.size w (W0.setCells (w.heap.size + 2) 0 [.int .i64 i, .int .i64 u])) := below_setCells (by omega) _ _ _ K0.out.1
  have y0 := XF.out.c 0 rfl
  have y1 := XF.out.c 1 rfl
  simp only [World.setCells, Nat.zero_add] at y0 y1
  clear XF
  go_wp2
  exact bodyPost_ret (v := .tuple #[.agg #[.int .i64 i, .int .i64 u], .int .i64 0, .bool true]) (by simp [results, Tryz.results46, go_sem, y0, y1]) rfl ⟨rfl, BF.out⟩

set_option maxRecDepth 100000 in
set_option maxHeartbeats 4000000 in
theorem inf_tt (i u m d n : Int) (hi : i ≠ 0)
    (w : World) :
    Calls Tryz.prog 46 #[.agg #[.int .i64 i, .int .i64 u], .agg #[.int .i64 i, .int .i64 m, .int .i64 d, .int .i64 n]] w fun r' w' => r' = .returned (.tuple #[.agg #[.int .i64 i, .int .i64 u], .int .i64 0, .bool true]) ∧ Below w.heap.size w w' := by
  have i1 : (i != 0) = true := bne_iff_ne.2 hi
  have i1b : (i == 0) = false := by simpa using hi
  have K0 : Hid (BS w [(w.heap.size + 2, [.int .i64 0, .int .i64 0]), (w.heap.size + 1, [.int .i64 i, .int .i64 m, .int .i64 d, .int .i64 n]), (w.heap.size, [.int .i64 i, .int .i64 u])] (((w.alloc (.cells #[.int .i64 i, .int .i64 u] 36)).alloc (.cells #[.int .i64 i, .int .i64 m, .int .i64 d, .int .i64 n] 59)).alloc (.cells #[.int .i64 0, .int .i64 0] 36))) := ((((BS.start w).new [.int .i64 i, .int .i64 u] 36 rfl).new [.int .i64 i, .int .i64 m, .int .i64 d, .int .i64 n] 59 (by simp)).new [.int .i64 0, .int .i64 0] 36 (by simp))
  go_enter Tryz.func46, Tryz.ntmps46
  go_upto_region 1 with fail
  refine gen_to (BS w [(w.heap.size + 2, [.int .i64 0, .int .i64 0]), (w.heap.size + 1, [.int .i64 i, .int .i64 m, .int .i64 d, .int .i64 n]), (w.heap.size, [.int .i64 i, .int .i64 u])]) K0.out ?_
  clear K0
  intro W0 K0'
  have K0 : Hid (BS w [(w.heap.size + 2, [.int .i64 0, .int .i64 0]), (w.heap.size + 1, [.int .i64 i, .int .i64 m, .int .i64 d, .int .i64 n]), (w.heap.size, [.int .i64 i, .int .i64 u])] W0) := K0'
  clear K0'
  obtain ⟨c0_0_0, c0_0_1⟩ := (bo1 K0).c2
  obtain ⟨z0_0_0, z0_0_1⟩ := (bo1 K0).f2
  obtain ⟨c0_1_0, c0_1_1, c0_1_2, c0_1_3⟩ := (bo2 K0).c4
  obtain ⟨c0_2_0, c0_2_1⟩ := (bo3 K0).c2
  have XF : Hid (Bx (W0.setCells (w.heap.size + 2) 0 [.int .i64 i, .int .i64 u]) (w.heap.size + 2) [.int .i64 i, .int .i64 u]) := (K0.out.at (w.heap.size + 2) [.int .i64 0, .int .i64 0] (by simp)).setAll _ rfl
  have BF : Hid (Below w.heap.size w (W0.setCells (w.heap.size + 2) 0 [.int .i64 i, .int .i64 u])) := below_setCells (by omega) _ _ _ K0.out.1
  have y0 := XF.out.c 0 rfl
  have y1 := XF.out.c 1 rfl
  simp only [World.setCells, Nat.zero_add] at y0 y1
  clear XF
  go_wp2
  exact bodyPost_ret (v := .tuple #[.agg #[.int .i64 i, .int .i64 u], .int .i64 0, .bool true]) (by simp [results, Tryz.results46, go_sem, y0, y1]) rfl ⟨rfl, BF.out⟩

set_option maxRecDepth 100000 in
set_option maxHeartbeats 4000000 in
theorem inf_s (u j m d n : Int) (hj : j ≠ 0)
    (w : World) :
    Calls Tryz.prog 46 #[.agg #[.int .i64 0, .int .i64 u], .agg #[.int .i64 j, .int .i64 m, .int .i64 d, .int .i64 n]] w fun r' w' => r' = .returned (.tuple #[.agg #[.int .i64 j, .int .i64 0], .int .i64 0, .bool true]) ∧ Below w.heap.size w w' := by
  have j1 : (j != 0) = true := bne_iff_ne.2 hj
  have j1b : (j == 0) = false := by simpa using hj
  have K0 : Hid (BS w [(w.heap.size + 2, [.int .i64 0, .int .i64 0]), (w.heap.size + 1, [.int .i64 j, .int .i64 m, .int .i64 d, .int .i64 n]), (w.heap.size, [.int .i64 0, .int .i64 u])] (((w.alloc (.cells #[.int .i64 0, .int .i64 u] 36)).alloc (.cells #[.int .i64 j, .int .i64 m, .int .i64 d, .int .i64 n] 59)).alloc (.cells #[.int .i64 0, .int .i64 0] 36))) := ((((BS.start w).new [.int .i64 0, .int .i64 u] 36 rfl).new [.int .i64 j, .int .i64 m, .int .i64 d, .int .i64 n] 59 (by simp)).new [.int .i64 0, .int .i64 0] 36 (by simp))
  go_enter Tryz.func46, Tryz.ntmps46
  go_upto_region 1 with fail
  refine gen_to (BS w [(w.heap.size + 2, [.int .i64 0, .int .i64 0]), (w.heap.size + 1, [.int .i64 j, .int .i64 m, .int .i64 d, .int .i64 n]), (w.heap.size, [.int .i64 0, .int .i64 u])]) K0.out ?_
  clear K0
  intro W0 K0'
  have K0 : Hid (BS w [(w.heap.size + 2, [.int .i64 0, .int .i64 0]), (w.heap.size + 1, [.int .i64 j, .int .i64 m, .int .i64 d, .int .i64 n]), (w.heap.size, [.int .i64 0, .int .i64 u])] W0) := K0'
  clear K0'
  obtain ⟨c0_0_0, c0_0_1⟩ := (bo1 K0).c2
  obtain ⟨z0_0_0, z0_0_1⟩ := (bo1 K0).f2
  obtain ⟨c0_1_0, c0_1_1, c0_1_2, c0_1_3⟩ := (bo2 K0).c4
  obtain ⟨c0_2_0, c0_2_1⟩ := (bo3 K0).c2
  have XF : Hid (Bx (W0.setCells (w.heap.size + 2) 0 [.int .i64 j, .int .i64 0]) (w.heap.size + 2) [.int .i64 j, .int .i64 0]) := (K0.out.at (w.heap.size + 2) [.int .i64 0, .int .i64 0] (by simp)).setAll _ rfl
  have BF : Hid (Below w.heap.size w (W0.setCells (w.heap.size + 2) 0 [.int .i64 j, .int .i64 0])) := below_setCells (by omega) _ _ _ K0.out.1
  have y0 := XF.out.c 0 rfl
  have y1 := XF.out.c 1 rfl
  simp only [World.setCells, Nat.zero_add] at y0 y1
  clear XF
  go_wp2
  exact bodyPost_ret (v := .tuple #[.agg #[.int .i64 j, .int .i64 0], .int .i64 0, .bool true]) (by simp [results, Tryz.results46, go_sem, y0, y1]) rfl ⟨rfl, BF.out⟩

set_option maxRecDepth 100000 in
set_option maxHeartbeats 4000000 in
theorem rd_zok (j u D U d us d1 d2 V E e : Int)
    (OF : Hid (∀ w : World, Calls Tryz.prog 58 #[.agg #[.int .i64 0, .int .i64 u]] w fun r' w' => r' = .returned (.tuple #[.agg #[.int .i64 0, .int .i64 d], .int .i64 us, .int .i64 0]) ∧ Below w.heap.size w w'))
    (AD : Hid (∀ w : World, Calls Tryz.prog 90 #[.agg #[.int .i64 0, .int .i64 d], .int .i64 D] w fun r' w' => r' = .returned (.tuple #[.agg #[.int .i64 0, .int .i64 d2], .int .i64 0]) ∧ Below w.heap.size w w'))
    (SM : Hid (∀ w : World, Calls Tryz.prog 81 #[.agg #[.int .i64 0, .int .i64 d2], .int .i64 us] w fun r' w' => r' = .returned (.tuple #[.agg #[.int .i64 0, .int .i64 V], .int .i64 E]) ∧ Below w.heap.size w w'))
    (w : World) :
    Calls Tryz.prog 47 #[.agg #[.int .i64 0, .int .i64 u], .agg #[.int .i64 j, .int .i64 0, .int .i64 D, .int .i64 U]] w fun r' w' => r' = .returned (.tuple #[.agg #[.int .i64 0, .int .i64 V], .int .i64 E]) ∧ Below w.heap.size w w' := by
  have K0 : Hid (BS w [(w.heap.size + 2, [.int .i64 0, .int .i64 0]), (w.heap.size + 1, [.int .i64 j, .int .i64 0, .int .i64 D, .int .i64 U]), (w.heap.size, [.int .i64 0, .int .i64 u])] (((w.alloc (.cells #[.int .i64 0, .int .i64 u] 36)).alloc (.cells #[.int .i64 j, .int .i64 0, .int .i64 D, .int .i64 U] 59)).alloc (.cells #[.int .i64 0, .int .i64 0] 36))) := ((((BS.start w).new [.int .i64 0, .int .i64 u] 36 rfl).new [.int .i64 j, .int .i64 0, .int .i64 D, .int .i64 U] 59 (by simp)).new [.int .i64 0, .int .i64 0] 36 (by simp))
  go_enter Tryz.func47, Tryz.ntmps47
  go_wp2_with fail
  refine (OF.out _).mono ?_
  rintro e W1 ⟨rfl, hb⟩
  have K1 := bsb K0 hb
  clear hb K0
  obtain ⟨c1_0_0, c1_0_1⟩ := (bo1 K1).c2
  obtain ⟨c1_1_0, c1_1_1, c1_1_2, c1_1_3⟩ := (bo2 K1).c4
  obtain ⟨c1_2_0, c1_2_1⟩ := (bo3 K1).c2
  have Mz1 := bsn K1 [.int .i64 0, .int .i64 d] 100
  have lt1_0 := (bo1 K1).1
  have lt1_1 := (bo2 K1).1
  have lt1_2 := (bo3 K1).1
  go_upto_region 2 with fail
  refine bs_to Mz1 ?_
  clear c1_0_0 c1_0_1 c1_1_0 c1_1_1 c1_1_2 c1_1_3 c1_2_0 c1_2_1
  intro W2 K2
  clear Mz1 K1
  obtain ⟨c2_0_0, c2_0_1⟩ := (bo1 K2).c2
  obtain ⟨c2_1_0, c2_1_1⟩ := (bo2 K2).c2
  obtain ⟨c2_2_0, c2_2_1, c2_2_2, c2_2_3⟩ := (bo3 K2).c4
  obtain ⟨c2_3_0, c2_3_1⟩ := (bo4 K2).c2
  go_wp2_with fail
  refine (AD.out _).mono ?_
  rintro e W3 ⟨rfl, hb⟩
  have K3 := bsb K2 hb
  clear c2_0_0 c2_0_1 c2_1_0 c2_1_1 c2_2_0 c2_2_1 c2_2_2 c2_2_3 c2_3_0 c2_3_1
  clear hb K2
  obtain ⟨c3_0_0, c3_0_1⟩ := (bo1 K3).c2
  obtain ⟨c3_1_0, c3_1_1⟩ := (bo2 K3).c2
  obtain ⟨c3_2_0, c3_2_1, c3_2_2, c3_2_3⟩ := (bo3 K3).c4
  obtain ⟨c3_3_0, c3_3_1⟩ := (bo4 K3).c2
  clear c3_0_0 c3_0_1 c3_1_0 c3_1_1 c3_2_0 c3_2_1 c3_2_2 c3_2_3 c3_3_0 c3_3_1
  have r3_0 : W3.cell? ⟨W1.heap.size, 0, none⟩ = some (.int .i64 0) := (K3.out.at (W1.heap.size) [.int .i64 0, .int .i64 d] (by simp)).c 0 rfl
  have sr3_0 : W3.frozen? ⟨W1.heap.size, 0, none⟩ = false := (K3.out.at (W1.heap.size) [.int .i64 0, .int .i64 d] (by simp)).f 0 rfl
  have r3_1 : W3.cell? ⟨W1.heap.size, 1, none⟩ = some (.int .i64 d) := (K3.out.at (W1.heap.size) [.int .i64 0, .int .i64 d] (by simp)).c 1 rfl
  have sr3_1 : W3.frozen? ⟨W1.heap.size, 1, none⟩ = false := (K3.out.at (W1.heap.size) [.int .i64 0, .int .i64 d] (by simp)).f 1 rfl
  have Mz3 : Hid (BS w [(W1.heap.size, [.int .i64 0, .int .i64 d2]), (w.heap.size + 2, [.int .i64 0, .int .i64 0]), (w.heap.size + 1, [.int .i64 j, .int .i64 0, .int .i64 D, .int .i64 U]), (w.heap.size, [.int .i64 0, .int .i64 u])] (W3.setCells (W1.heap.size) 0 [.int .i64 0, .int .i64 d2])) := ((K3.out.perm (l' := [(W1.heap.size, [.int .i64 0, .int .i64 d]), (w.heap.size + 2, [.int .i64 0, .int .i64 0]), (w.heap.size + 1, [.int .i64 j, .int .i64 0, .int .i64 D, .int .i64 U]), (w.heap.size, [.int .i64 0, .int .i64 u])]) (by intro x hx; simp only [List.mem_cons, List.not_mem_nil, or_false] at hx ⊢; rcases hx with h | h | h | h <;> simp [h])).set [.int .i64 0, .int .i64 d2] rfl (by intro x hx; simp only [List.mem_cons, List.not_mem_nil, or_false] at hx; rcases hx with rfl | rfl | rfl <;> simp only [] <;> omega))
  simp only [World.setCells, Nat.zero_add] at Mz3
  go_upto_region 8 with fail
  refine gen_to (BS w [(W1.heap.size, [.int .i64 0, .int .i64 d2]), (w.heap.size + 2, [.int .i64 0, .int .i64 0]), (w.heap.size + 1, [.int .i64 j, .int .i64 0, .int .i64 D, .int .i64 U]), (w.heap.size, [.int .i64 0, .int .i64 u])]) Mz3.out ?_
  clear r3_0 sr3_0 r3_1 sr3_1
  intro W4 K4'
  have K4 : Hid (BS w [(W1.heap.size, [.int .i64 0, .int .i64 d2]), (w.heap.size + 2, [.int .i64 0, .int .i64 0]), (w.heap.size + 1, [.int .i64 j, .int .i64 0, .int .i64 D, .int .i64 U]), (w.heap.size, [.int .i64 0, .int .i64 u])] W4) := K4'
  clear K4' Mz3 K3
  obtain ⟨c4_0_0, c4_0_1⟩ := (bo1 K4).c2
  obtain ⟨c4_1_0, c4_1_1⟩ := (bo2 K4).c2
  obtain ⟨c4_2_0, c4_2_1, c4_2_2, c4_2_3⟩ := (bo3 K4).c4
  obtain ⟨c4_3_0, c4_3_1⟩ := (bo4 K4).c2
  go_wp2_with fail
  refine (SM.out _).mono ?_
  rintro e W5 ⟨rfl, hb⟩
  have K5 := bsb K4 hb
  clear c4_0_0 c4_0_1 c4_1_0 c4_1_1 c4_2_0 c4_2_1 c4_2_2 c4_2_3 c4_3_0 c4_3_1
  clear hb K4
  obtain ⟨c5_0_0, c5_0_1⟩ := (bo1 K5).c2
  obtain ⟨c5_1_0, c5_1_1⟩ := (bo2 K5).c2
  obtain ⟨z5_1_0, z5_1_1⟩ := (bo2 K5).f2
  obtain ⟨c5_2_0, c5_2_1, c5_2_2, c5_2_3⟩ := (bo3 K5).c4
  obtain ⟨c5_3_0, c5_3_1⟩ := (bo4 K5).c2
  have XF : Hid (Bx (W5.setCells (w.heap.size + 2) 0 [.int .i64 0, .int .i64 V]) (w.heap.size + 2) [.int .i64 0, .int .i64 V]) := (K5.out.at (w.heap.size + 2) [.int .i64 0, .int .i64 0] (by simp)).setAll _ rfl
  have BF : Hid (Below w.heap.size w (W5.setCells (w.heap.size + 2) 0 [.int .i64 0, .int .i64 V])) := below_setCells (by omega) _ _ _ K5.out.1
  have y0 := XF.out.c 0 rfl
  have y1 := XF.out.c 1 rfl
  simp only [World.setCells, Nat.zero_add] at y0 y1
  clear XF
  go_wp2
  exact bodyPost_ret (v := .tuple #[.agg #[.int .i64 0, .int .i64 V], .int .i64 E]) (by simp [results, Tryz.results47, go_sem, y0, y1]) rfl ⟨rfl, BF.out⟩

set_option maxRecDepth 100000 in
set_option maxHeartbeats 4000000 in
theorem rd_zad (j u D U d us d1 d2 V E e : Int) (he : e ≠ 0)
    (OF : Hid (∀ w : World, Calls Tryz.prog 58 #[.agg #[.int .i64 0, .int .i64 u]] w fun r' w' => r' = .returned (.tuple #[.agg #[.int .i64 0, .int .i64 d], .int .i64 us, .int .i64 0]) ∧ Below w.heap.size w w'))
    (AD : Hid (∀ w : World, Calls Tryz.prog 90 #[.agg #[.int .i64 0, .int .i64 d], .int .i64 D] w fun r' w' => r' = .returned (.tuple #[.agg #[.int .i64 0, .int .i64 d2], .int .i64 e]) ∧ Below w.heap.size w w'))
    (w : World) :
    Calls Tryz.prog 47 #[.agg #[.int .i64 0, .int .i64 u], .agg #[.int .i64 j, .int .i64 0, .int .i64 D, .int .i64 U]] w fun r' w' => r' = .returned (.tuple #[.agg #[.int .i64 0, .int .i64 0], .int .i64 e]) ∧ Below w.heap.size w w' := by
  have e1 : (e != 0) = true := bne_iff_ne.2 he
  have e2 : (e == 0) = false := by simpa using he
  have K0 : Hid (BS w [(w.heap.size + 2, [.int .i64 0, .int .i64 0]), (w.heap.size + 1, [.int .i64 j, .int .i64 0, .int .i64 D, .int .i64 U]), (w.heap.size, [.int .i64 0, .int .i64 u])] (((w.alloc (.cells #[.int .i64 0, .int .i64 u] 36)).alloc (.cells #[.int .i64 j, .int .i64 0, .int .i64 D, .int .i64 U] 59)).alloc (.cells #[.int .i64 0, .int .i64 0] 36))) := ((((BS.start w).new [.int .i64 0, .int .i64 u] 36 rfl).new [.int .i64 j, .int .i64 0, .int .i64 D, .int .i64 U] 59 (by simp)).new [.int .i64 0, .int .i64 0] 36 (by simp))
  go_enter Tryz.func47, Tryz.ntmps47
  go_wp2_with fail
  refine (OF.out _).mono ?_
  rintro e W1 ⟨rfl, hb⟩
  have K1 := bsb K0 hb
  clear hb K0
  obtain ⟨c1_0_0, c1_0_1⟩ := (bo1 K1).c2
  obtain ⟨c1_1_0, c1_1_1, c1_1_2, c1_1_3⟩ := (bo2 K1).c4
  obtain ⟨c1_2_0, c1_2_1⟩ := (bo3 K1).c2
  have Mz1 := bsn K1 [.int .i64 0, .int .i64 d] 100
  have lt1_0 := (bo1 K1).1
  have lt1_1 := (bo2 K1).1
  have lt1_2 := (bo3 K1).1
  go_upto_region 2 with fail
  refine bs_to Mz1 ?_
  clear c1_0_0 c1_0_1 c1_1_0 c1_1_1 c1_1_2 c1_1_3 c1_2_0 c1_2_1
  intro W2 K2
  clear Mz1 K1
  obtain ⟨c2_0_0, c2_0_1⟩ := (bo1 K2).c2
  obtain ⟨c2_1_0, c2_1_1⟩ := (bo2 K2).c2
  obtain ⟨c2_2_0, c2_2_1, c2_2_2, c2_2_3⟩ := (bo3 K2).c4
  obtain ⟨c2_3_0, c2_3_1⟩ := (bo4 K2).c2
  go_wp2_with fail
  refine (AD.out _).mono ?_
  rintro e W3 ⟨rfl, hb⟩
  have K3 := bsb K2 hb
  clear c2_0_0 c2_0_1 c2_1_0 c2_1_1 c2_2_0 c2_2_1 c2_2_2 c2_2_3 c2_3_0 c2_3_1
  clear hb K2
  obtain ⟨c3_0_0, c3_0_1⟩ := (bo1 K3).c2
  obtain ⟨c3_1_0, c3_1_1⟩ := (bo2 K3).c2
  obtain ⟨c3_2_0, c3_2_1, c3_2_2, c3_2_3⟩ := (bo3 K3).c4
  obtain ⟨c3_3_0, c3_3_1⟩ := (bo4 K3).c2
  clear c3_0_0 c3_0_1 c3_1_0 c3_1_1 c3_2_0 c3_2_1 c3_2_2 c3_2_3 c3_3_0 c3_3_1
  have r3_0 : W3.cell? ⟨W1.heap.size, 0, none⟩ = some (.int .i64 0) := (K3.out.at (W1.heap.size) [.int .i64 0, .int .i64 d] (by simp)).c 0 rfl
  have sr3_0 : W3.frozen? ⟨W1.heap.size, 0, none⟩ = false := (K3.out.at (W1.heap.size) [.int .i64 0, .int .i64 d] (by simp)).f 0 rfl
  have r3_1 : W3.cell? ⟨W1.heap.size, 1, none⟩ = some (.int .i64 d) := (K3.out.at (W1.heap.size) [.int .i64 0, .int .i64 d] (by simp)).c 1 rfl
  have sr3_1 : W3.frozen? ⟨W1.heap.size, 1, none⟩ = false := (K3.out.at (W1.heap.size) [.int .i64 0, .int .i64 d] (by simp)).f 1 rfl
  have Mz3 : Hid (BS w [(W1.heap.size, [.int .i64 0, .int .i64 d2]), (w.heap.size + 2, [.int .i64 0, .int .i64 0]), (w.heap.size + 1, [.int .i64 j, .int .i64 0, .int .i64 D, .int .i64 U]), (w.heap.size, [.int .i64 0, .int .i64 u])] (W3.setCells (W1.heap.size) 0 [.int .i64 0, .int .i64 d2])) := ((K3.out.perm (l' := [(W1.heap.size, [.int .i64 0, .int .i64 d]), (w.heap.size + 2, [.int .i64 0, .int .i64 0]), (w.heap.size + 1, [.int .i64 j, .int .i64 0, .int .i64 D, .int .i64 U]), (w.heap.size, [.int .i64 0, .int .i64 u])]) (by intro x hx; simp only [List.mem_cons, List.not_mem_nil, or_false] at hx ⊢; rcases hx with h | h | h | h <;> simp [h])).set [.int .i64 0, .int .i64 d2] rfl (by intro x hx; simp only [List.mem_cons, List.not_mem_nil, or_false] at hx; rcases hx with rfl | rfl | rfl <;> simp only [] <;> omega))
  simp only [World.setCells, Nat.zero_add] at Mz3
  go_upto_region 8 with fail
  refine gen_to (BS w [(W1.heap.size, [.int .i64 0, .int .i64 d2]), (w.heap.size + 2, [.int .i64 0, .int .i64 0]), (w.heap.size + 1, [.int .i64 j, .int .i64 0, .int .i64 D, .int .i64 U]), (w.heap.size, [.int .i64 0, .int .i64 u])]) Mz3.out ?_
  clear r3_0 sr3_0 r3_1 sr3_1
  intro W4 K4'
  have K4 : Hid (BS w [(W1.heap.size, [.int .i64 0, .int .i64 d2]), (w.heap.size + 2, [.int .i64 0, .int .i64 0]), (w.heap.size + 1, [.int .i64 j, .int .i64 0, .int .i64 D, .int .i64 U]), (w.heap.size, [.int .i64 0, .int .i64 u])] W4) := K4'
  clear K4' Mz3 K3
  obtain ⟨c4_0_0, c4_0_1⟩ := (bo1 K4).c2
  obtain ⟨c4_1_0, c4_1_1⟩ := (bo2 K4).c2
  obtain ⟨z4_1_0, z4_1_1⟩ := (bo2 K4).f2
  obtain ⟨c4_2_0, c4_2_1, c4_2_2, c4_2_3⟩ := (bo3 K4).c4
  obtain ⟨c4_3_0, c4_3_1⟩ := (bo4 K4).c2
  have XF : Hid (Bx (W4.setCells (w.heap.size + 2) 0 [.int .i64 0, .int .i64 0]) (w.heap.size + 2) [.int .i64 0, .int .i64 0]) := (K4.out.at (w.heap.size + 2) [.int .i64 0, .int .i64 0] (by simp)).setAll _ rfl
  have BF : Hid (Below w.heap.size w (W4.setCells (w.heap.size + 2) 0 [.int .i64 0, .int .i64 0])) := below_setCells (by omega) _ _ _ K4.out.1
  have y0 := XF.out.c 0 rfl
  have y1 := XF.out.c 1 rfl
  simp only [World.setCells, Nat.zero_add] at y0 y1
  clear XF
  go_wp2
  exact bodyPost_ret (v := .tuple #[.agg #[.int .i64 0, .int .i64 0], .int .i64 e]) (by simp [results, Tryz.results47, go_sem, y0, y1]) rfl ⟨rfl, BF.out⟩

set_option maxRecDepth 100000 in
set_option maxHeartbeats 4000000 in
theorem rd_ok (j u M D U d us d1 d2 V E e : Int) (hM : M ≠ 0)
    (OF : Hid (∀ w : World, Calls Tryz.prog 58 #[.agg #[.int .i64 0, .int .i64 u]] w fun r' w' => r' = .returned (.tuple #[.agg #[.int .i64 0, .int .i64 d], .int .i64 us, .int .i64 0]) ∧ Below w.heap.size w w'))
    (SH : Hid (∀ w : World, Calls Tryz.prog 89 #[.agg #[.int .i64 0, .int .i64 d], .int .i64 M] w fun r' w' => r' = .returned (.tuple #[.agg #[.int .i64 0, .int .i64 d1], .int .i64 0]) ∧ Below w.heap.size w w'))
    (AD : Hid (∀ w : World, Calls Tryz.prog 90 #[.agg #[.int .i64 0, .int .i64 d1], .int .i64 D] w fun r' w' => r' = .returned (.tuple #[.agg #[.int .i64 0, .int .i64 d2], .int .i64 0]) ∧ Below w.heap.size w w'))
    (SM : Hid (∀ w : World, Calls Tryz.prog 81 #[.agg #[.int .i64 0, .int .i64 d2], .int .i64 us] w fun r' w' => r' = .returned (.tuple #[.agg #[.int .i64 0, .int .i64 V], .int .i64 E]) ∧ Below w.heap.size w w'))
    (w : World) :
    Calls Tryz.prog 47 #[.agg #[.int .i64 0, .int .i64 u], .agg #[.int .i64 j, .int .i64 M, .int .i64 D, .int .i64 U]] w fun r' w' => r' = .returned (.tuple #[.agg #[.int .i64 0, .int .i64 V], .int .i64 E]) ∧ Below w.heap.size w w' := by
  have m1 : (M != 0) = true := bne_iff_ne.2 hM
  have K0 : Hid (BS w [(w.heap.size + 2, [.int .i64 0, .int .i64 0]), (w.heap.size + 1, [.int .i64 j, .int .i64 M, .int .i64 D, .int .i64 U]), (w.heap.size, [.int .i64 0, .int .i64 u])] (((w.alloc (.cells #[.int .i64 0, .int .i64 u] 36)).alloc (.cells #[.int .i64 j, .int .i64 M, .int .i64 D, .int .i64 U] 59)).alloc (.cells #[.int .i64 0, .int .i64 0] 36))) := ((((BS.start w).new [.int .i64 0, .int .i64 u] 36 rfl).new [.int .i64 j, .int .i64 M, .int .i64 D, .int .i64 U] 59 (by simp)).new [.int .i64 0, .int .i64 0] 36 (by simp))
  go_enter Tryz.func47, Tryz.ntmps47
  go_wp2_with fail
  refine (OF.out _).mono ?_
  rintro e W1 ⟨rfl, hb⟩
  have K1 := bsb K0 hb
  clear hb K0
  obtain ⟨c1_0_0, c1_0_1⟩ := (bo1 K1).c2
  obtain ⟨c1_1_0, c1_1_1, c1_1_2, c1_1_3⟩ := (bo2 K1).c4
  obtain ⟨c1_2_0, c1_2_1⟩ := (bo3 K1).c2
  have Mz1 := bsn K1 [.int .i64 0, .int .i64 d] 100
  have lt1_0 := (bo1 K1).1
  have lt1_1 := (bo2 K1).1
  have lt1_2 := (bo3 K1).1
  go_upto_region 2 with fail
  refine bs_to Mz1 ?_
  clear c1_0_0 c1_0_1 c1_1_0 c1_1_1 c1_1_2 c1_1_3 c1_2_0 c1_2_1
  intro W2 K2
  clear Mz1 K1
  obtain ⟨c2_0_0, c2_0_1⟩ := (bo1 K2).c2
  obtain ⟨c2_1_0, c2_1_1⟩ := (bo2 K2).c2
  obtain ⟨c2_2_0, c2_2_1, c2_2_2, c2_2_3⟩ := (bo3 K2).c4
  obtain ⟨c2_3_0, c2_3_1⟩ := (bo4 K2).c2
  go_wp2_with fail
  refine (SH.out _).mono ?_
  rintro e W3 ⟨rfl, hb⟩
  have K3 := bsb K2 hb
  clear c2_0_0 c2_0_1 c2_1_0 c2_1_1 c2_2_0 c2_2_1 c2_2_2 c2_2_3 c2_3_0 c2_3_1
  clear hb K2
  obtain ⟨c3_0_0, c3_0_1⟩ := (bo1 K3).c2
  obtain ⟨c3_1_0, c3_1_1⟩ := (bo2 K3).c2
  obtain ⟨c3_2_0, c3_2_1, c3_2_2, c3_2_3⟩ := (bo3 K3).c4
  obtain ⟨c3_3_0, c3_3_1⟩ := (bo4 K3).c2
  clear c3_0_0 c3_0_1 c3_1_0 c3_1_1 c3_2_0 c3_2_1 c3_2_2 c3_2_3 c3_3_0 c3_3_1
  have r3_0 : W3.cell? ⟨W1.heap.size, 0, none⟩ = some (.int .i64 0) := (K3.out.at (W1.heap.size) [.int .i64 0, .int .i64 d] (by simp)).c 0 rfl
  have sr3_0 : W3.frozen? ⟨W1.heap.size, 0, none⟩ = false := (K3.out.at (W1.heap.size) [.int .i64 0, .int .i64 d] (by simp)).f 0 rfl
  have r3_1 : W3.cell? ⟨W1.heap.size, 1, none⟩ = some (.int .i64 d) := (K3.out.at (W1.heap.size) [.int .i64 0, .int .i64 d] (by simp)).c 1 rfl
  have sr3_1 : W3.frozen? ⟨W1.heap.size, 1, none⟩ = false := (K3.out.at (W1.heap.size) [.int .i64 0, .int .i64 d] (by simp)).f 1 rfl
  have Mz3 : Hid (BS w [(W1.heap.size, [.int .i64 0, .int .i64 d1]), (w.heap.size + 2, [.int .i64 0, .int .i64 0]), (w.heap.size + 1, [.int .i64 j, .int .i64 M, .int .i64 D, .int .i64 U]), (w.heap.size, [.int .i64 0, .int .i64 u])] (W3.setCells (W1.heap.size) 0 [.int .i64 0, .int .i64 d1])) := ((K3.out.perm (l' := [(W1.heap.size, [.int .i64 0, .int .i64 d]), (w.heap.size + 2, [.int .i64 0, .int .i64 0]), (w.heap.size + 1, [.int .i64 j, .int .i64 M, .int .i64 D, .int .i64 U]), (w.heap.size, [.int .i64 0, .int .i64 u])]) (by intro x hx; simp only [List.mem_cons, List.not_mem_nil, or_false] at hx ⊢; rcases hx with h | h | h | h <;> simp [h])).set [.int .i64 0, .int .i64 d1] rfl (by intro x hx; simp only [List.mem_cons, List.not_mem_nil, or_false] at hx; rcases hx with rfl | rfl | rfl <;> simp only [] <;> omega))
  simp only [World.setCells, Nat.zero_add] at Mz3
  go_upto_region 5 with fail
  refine gen_to (BS w [(W1.heap.size, [.int .i64 0, .int .i64 d1]), (w.heap.size + 2, [.int .i64 0, .int .i64 0]), (w.heap.size + 1, [.int .i64 j, .int .i64 M, .int .i64 D, .int .i64 U]), (w.heap.size, [.int .i64 0, .int .i64 u])]) Mz3.out ?_
  clear r3_0 sr3_0 r3_1 sr3_1
  intro W4 K4'
  have K4 : Hid (BS w [(W1.heap.size, [.int .i64 0, .int .i64 d1]), (w.heap.size + 2, [.int .i64 0, .int .i64 0]), (w.heap.size + 1, [.int .i64 j, .int .i64 M, .int .i64 D, .int .i64 U]), (w.heap.size, [.int .i64 0, .int .i64 u])] W4) := K4'
  clear K4' Mz3 K3
  obtain ⟨c4_0_0, c4_0_1⟩ := (bo1 K4).c2
  obtain ⟨c4_1_0, c4_1_1⟩ := (bo2 K4).c2
  obtain ⟨c4_2_0, c4_2_1, c4_2_2, c4_2_3⟩ := (bo3 K4).c4
  obtain ⟨c4_3_0, c4_3_1⟩ := (bo4 K4).c2
  go_wp2_with fail
  refine (AD.out _).mono ?_
  rintro e W5 ⟨rfl, hb⟩
  have K5 := bsb K4 hb
  clear c4_0_0 c4_0_1 c4_1_0 c4_1_1 c4_2_0 c4_2_1 c4_2_2 c4_2_3 c4_3_0 c4_3_1
  clear hb K4
  obtain ⟨c5_0_0, c5_0_1⟩ := (bo1 K5).c2
  obtain ⟨c5_1_0, c5_1_1⟩ := (bo2 K5).c2
  obtain ⟨c5_2_0, c5_2_1, c5_2_2, c5_2_3⟩ := (bo3 K5).c4
  obtain ⟨c5_3_0, c5_3_1⟩ := (bo4 K5).c2
  clear c5_0_0 c5_0_1 c5_1_0 c5_1_1 c5_2_0 c5_2_1 c5_2_2 c5_2_3 c5_3_0 c5_3_1
  have r5_0 : W5.cell? ⟨W1.heap.size, 0, none⟩ = some (.int .i64 0) := (K5.out.at (W1.heap.size) [.int .i64 0, .int .i64 d1] (by simp)).c 0 rfl
  have sr5_0 : W5.frozen? ⟨W1.heap.size, 0, none⟩ = false := (K5.out.at (W1.heap.size) [.int .i64 0, .int .i64 d1] (by simp)).f 0 rfl
  have r5_1 : W5.cell? ⟨W1.heap.size, 1, none⟩ = some (.int .i64 d1) := (K5.out.at (W1.heap.size) [.int .i64 0, .int .i64 d1] (by simp)).c 1 rfl
  have sr5_1 : W5.frozen? ⟨W1.heap.size, 1, none⟩ = false := (K5.out.at (W1.heap.size) [.int .i64 0, .int .i64 d1] (by simp)).f 1 rfl
  have Mz5 : Hid (BS w [(W1.heap.size, [.int .i64 0, .int .i64 d2]), (w.heap.size + 2, [.int .i64 0, .int .i64 0]), (w.heap.size + 1, [.int .i64 j, .int .i64 M, .int .i64 D, .int .i64 U]), (w.heap.size, [.int .i64 0, .int .i64 u])] (W5.setCells (W1.heap.size) 0 [.int .i64 0, .int .i64 d2])) := ((K5.out.perm (l' := [(W1.heap.size, [.int .i64 0, .int .i64 d1]), (w.heap.size + 2, [.int .i64 0, .int .i64 0]), (w.heap.size + 1, [.int .i64 j, .int .i64 M, .int .i64 D, .int .i64 U]), (w.heap.size, [.int .i64 0, .int .i64 u])]) (by intro x hx; simp only [List.mem_cons, List.not_mem_nil, or_false] at hx ⊢; rcases hx with h | h | h | h <;> simp [h])).set [.int .i64 0, .int .i64 d2] rfl (by intro x hx; simp only [List.mem_cons, List.not_mem_nil, or_false] at hx; rcases hx with rfl | rfl | rfl <;> simp only [] <;> omega))
  simp only [World.setCells, Nat.zero_add] at Mz5
  go_upto_region 8 with fail
  refine gen_to (BS w [(W1.heap.size, [.int .i64 0, .int .i64 d2]), (w.heap.size + 2, [.int .i64 0, .int .i64 0]), (w.heap.size + 1, [.int .i64 j, .int .i64 M, .int .i64 D, .int .i64 U]), (w.heap.size, [.int .i64 0, .int .i64 u])]) Mz5.out ?_
  clear r5_0 sr5_0 r5_1 sr5_1
  intro W6 K6'
  have K6 : Hid (BS w [(W1.heap.size, [.int .i64 0, .int .i64 d2]), (w.heap.size + 2, [.int .i64 0, .int .i64 0]), (w.heap.size + 1, [.int .i64 j, .int .i64 M, .int .i64 D, .int .i64 U]), (w.heap.size, [.int .i64 0, .int .i64 u])] W6) := K6'
  clear K6' Mz5 K5
  obtain ⟨c6_0_0, c6_0_1⟩ := (bo1 K6).c2
  obtain ⟨c6_1_0, c6_1_1⟩ := (bo2 K6).c2
  obtain ⟨c6_2_0, c6_2_1, c6_2_2, c6_2_3⟩ := (bo3 K6).c4
  obtain ⟨c6_3_0, c6_3_1⟩ := (bo4 K6).c2
  go_wp2_with fail
  refine (SM.out _).mono ?_
  rintro e W7 ⟨rfl, hb⟩
  have K7 := bsb K6 hb
  clear c6_0_0 c6_0_1 c6_1_0 c6_1_1 c6_2_0 c6_2_1 c6_2_2 c6_2_3 c6_3_0 c6_3_1
  clear hb K6
  obtain ⟨c7_0_0, c7_0_1⟩ := (bo1 K7).c2
  obtain ⟨c7_1_0, c7_1_1⟩ := (bo2 K7).c2
  obtain ⟨z7_1_0, z7_1_1⟩ := (bo2 K7).f2
  obtain ⟨c7_2_0, c7_2_1, c7_2_2, c7_2_3⟩ := (bo3 K7).c4
  obtain ⟨c7_3_0, c7_3_1⟩ := (bo4 K7).c2
  have XF : Hid (Bx (W7.setCells (w.heap.size + 2) 0 [.int .i64 0, .int .i64 V]) (w.heap.size + 2) [.int .i64 0, .int .i64 V]) := (K7.out.at (w.heap.size + 2) [.int .i64 0, .int .i64 0] (by simp)).setAll _ rfl
  have BF : Hid (Below w.heap.size w (W7.setCells (w.heap.size + 2) 0 [.int .i64 0, .int .i64 V])) := below_setCells (by omega) _ _ _ K7.out.1
  have y0 := XF.out.c 0 rfl
  have y1 := XF.out.c 1 rfl
  simp only [World.setCells, Nat.zero_add] at y0 y1
  clear XF
  go_wp2
  exact bodyPost_ret (v := .tuple #[.agg #[.int .i64 0, .int .i64 V], .int .i64 E]) (by simp [results, Tryz.results47, go_sem, y0, y1]) rfl ⟨rfl, BF.out⟩

set_option maxRecDepth 100000 in
set_option maxHeartbeats 4000000 in
theorem rd_sh (j u M D U d us d1 d2 V E e : Int) (hM : M ≠ 0) (he : e ≠ 0)
    (OF : Hid (∀ w : World, Calls Tryz.prog 58 #[.agg #[.int .i64 0, .int .i64 u]] w fun r' w' => r' = .returned (.tuple #[.agg #[.int .i64 0, .int .i64 d], .int .i64 us, .int .i64 0]) ∧ Below w.heap.size w w'))
    (SH : Hid (∀ w : World, Calls Tryz.prog 89 #[.agg #[.int .i64 0, .int .i64 d], .int .i64 M] w fun r' w' => r' = .returned (.tuple #[.agg #[.int .i64 0, .int .i64 d1], .int .i64 e]) ∧ Below w.heap.size w w'))
    (w : World) :
    Calls Tryz.prog 47 #[.agg #[.int .i64 0, .int .i64 u], .agg #[.int .i64 j, .int .i64 M, .int .i64 D, .int .i64 U]] w fun r' w' => r' = .returned (.tuple #[.agg #[.int .i64 0, .int .i64 0], .int .i64 e]) ∧ Below w.heap.size w w' := by
  have m1 : (M != 0) = true := bne_iff_ne.2 hM
  have e1 : (e != 0) = true := bne_iff_ne.2 he
  have e2 : (e == 0) = false := by simpa using he
  have K0 : Hid (BS w [(w.heap.size + 2, [.int .i64 0, .int .i64 0]), (w.heap.size + 1, [.int .i64 j, .int .i64 M, .int .i64 D, .int .i64 U]), (w.heap.size, [.int .i64 0, .int .i64 u])] (((w.alloc (.cells #[.int .i64 0, .int .i64 u] 36)).alloc (.cells #[.int .i64 j, .int .i64 M, .int .i64 D, .int .i64 U] 59)).alloc (.cells #[.int .i64 0, .int .i64 0] 36))) := ((((BS.start w).new [.int .i64 0, .int .i64 u] 36 rfl).new [.int .i64 j, .int .i64 M, .int .i64 D, .int .i64 U] 59 (by simp)).new [.int .i64 0, .int .i64 0] 36 (by simp))
  go_enter Tryz.func47, Tryz.ntmps47
  go_wp2_with fail
  refine (OF.out _).mono ?_
  rintro e W1 ⟨rfl, hb⟩
  have K1 := bsb K0 hb
  clear hb K0
  obtain ⟨c1_0_0, c1_0_1⟩ := (bo1 K1).c2
  obtain ⟨c1_1_0, c1_1_1, c1_1_2, c1_1_3⟩ := (bo2 K1).c4
  obtain ⟨c1_2_0, c1_2_1⟩ := (bo3 K1).c2
  have Mz1 := bsn K1 [.int .i64 0, .int .i64 d] 100
  have lt1_0 := (bo1 K1).1
  have lt1_1 := (bo2 K1).1
  have lt1_2 := (bo3 K1).1
  go_upto_region 2 with fail
  refine bs_to Mz1 ?_
  clear c1_0_0 c1_0_1 c1_1_0 c1_1_1 c1_1_2 c1_1_3 c1_2_0 c1_2_1
  intro W2 K2
  clear Mz1 K1
  obtain ⟨c2_0_0, c2_0_1⟩ := (bo1 K2).c2
  obtain ⟨c2_1_0, c2_1_1⟩ := (bo2 K2).c2
  obtain ⟨c2_2_0, c2_2_1, c2_2_2, c2_2_3⟩ := (bo3 K2).c4
  obtain ⟨c2_3_0, c2_3_1⟩ := (bo4 K2).c2
  go_wp2_with fail
  refine (SH.out _).mono ?_
  rintro e W3 ⟨rfl, hb⟩
  have K3 := bsb K2 hb
  clear c2_0_0 c2_0_1 c2_1_0 c2_1_1 c2_2_0 c2_2_1 c2_2_2 c2_2_3 c2_3_0 c2_3_1
  clear hb K2
  obtain ⟨c3_0_0, c3_0_1⟩ := (bo1 K3).c2
  obtain ⟨c3_1_0, c3_1_1⟩ := (bo2 K3).c2
  obtain ⟨c3_2_0, c3_2_1, c3_2_2, c3_2_3⟩ := (bo3 K3).c4
  obtain ⟨c3_3_0, c3_3_1⟩ := (bo4 K3).c2
  clear c3_0_0 c3_0_1 c3_1_0 c3_1_1 c3_2_0 c3_2_1 c3_2_2 c3_2_3 c3_3_0 c3_3_1
  have r3_0 : W3.cell? ⟨W1.heap.size, 0, none⟩ = some (.int .i64 0) := (K3.out.at (W1.heap.size) [.int .i64 0, .int .i64 d] (by simp)).c 0 rfl
  have sr3_0 : W3.frozen? ⟨W1.heap.size, 0, none⟩ = false := (K3.out.at (W1.heap.size) [.int .i64 0, .int .i64 d] (by simp)).f 0 rfl
  have r3_1 : W3.cell? ⟨W1.heap.size, 1, none⟩ = some (.int .i64 d) := (K3.out.at (W1.heap.size) [.int .i64 0, .int .i64 d] (by simp)).c 1 rfl
  have sr3_1 : W3.frozen? ⟨W1.heap.size, 1, none⟩ = false := (K3.out.at (W1.heap.size) [.int .i64 0, .int .i64 d] (by simp)).f 1 rfl
  have Mz3 : Hid (BS w [(W1.heap.size, [.int .i64 0, .int .i64 d1]), (w.heap.size + 2, [.int .i64 0, .int .i64 0]), (w.heap.size + 1, [.int .i64 j, .int .i64 M, .int .i64 D, .int .i64 U]), (w.heap.size, [.int .i64 0, .int .i64 u])] (W3.setCells (W1.heap.size) 0 [.int .i64 0, .int .i64 d1])) := ((K3.out.perm (l' := [(W1.heap.size, [.int .i64 0, .int .i64 d]), (w.heap.size + 2, [.int .i64 0, .int .i64 0]), (w.heap.size + 1, [.int .i64 j, .int .i64 M, .int .i64 D, .int .i64 U]), (w.heap.size, [.int .i64 0, .int .i64 u])]) (by intro x hx; simp only [List.mem_cons, List.not_mem_nil, or_false] at hx ⊢; rcases hx with h | h | h | h <;> simp [h])).set [.int .i64 0, .int .i64 d1] rfl (by intro x hx; simp only [List.mem_cons, List.not_mem_nil, or_false] at hx; rcases hx with rfl | rfl | rfl <;> simp only [] <;> omega))
  simp only [World.setCells, Nat.zero_add] at Mz3
  go_upto_region 5 with fail
  refine gen_to (BS w [(W1.heap.size, [.int .i64 0, .int .i64 d1]), (w.heap.size + 2, [.int .i64 0, .int .i64 0]), (w.heap.size + 1, [.int .i64 j, .int .i64 M, .int .i64 D, .int .i64 U]), (w.heap.size, [.int .i64 0, .int .i64 u])]) Mz3.out ?_
  clear r3_0 sr3_0 r3_1 sr3_1
  intro W4 K4'
  have K4 : Hid (BS w [(W1.heap.size, [.int .i64 0, .int .i64 d1]), (w.heap.size + 2, [.int .i64 0, .int .i64 0]), (w.heap.size + 1, [.int .i64 j, .int .i64 M, .int .i64 D, .int .i64 U]), (w.heap.size, [.int .i64 0, .int .i64 u])] W4) := K4'
  clear K4' Mz3 K3
  obtain ⟨c4_0_0, c4_0_1⟩ := (bo1 K4).c2
  obtain ⟨c4_1_0, c4_1_1⟩ := (bo2 K4).c2
  obtain ⟨c4_2_0, c4_2_1, c4_2_2, c4_2_3⟩ := (bo3 K4).c4
  obtain ⟨c4_3_0, c4_3_1⟩ := (bo4 K4).c2
  clear c4_0_0 c4_0_1 c4_1_0 c4_1_1 c4_2_0 c4_2_1 c4_2_2 c4_2_3 c4_3_0 c4_3_1
  obtain ⟨c4_0_0, c4_0_1⟩ := (bo1 K4).c2
  obtain ⟨c4_1_0, c4_1_1⟩ := (bo2 K4).c2
  obtain ⟨z4_1_0, z4_1_1⟩ := (bo2 K4).f2
  obtain ⟨c4_2_0, c4_2_1, c4_2_2, c4_2_3⟩ := (bo3 K4).c4
  obtain ⟨c4_3_0, c4_3_1⟩ := (bo4 K4).c2
  have XF : Hid (Bx (W4.setCells (w.heap.size + 2) 0 [.int .i64 0, .int .i64 0]) (w.heap.size + 2) [.int .i64 0, .int .i64 0]) := (K4.out.at (w.heap.size + 2) [.int .i64 0, .int .i64 0] (by simp)).setAll _ rfl
  have BF : Hid (Below w.heap.size w (W4.setCells (w.heap.size + 2) 0 [.int .i64 0, .int .i64 0])) := below_setCells (by omega) _ _ _ K4.out.1
  have y0 := XF.out.c 0 rfl
  have y1 := XF.out.c 1 rfl
  simp only [World.setCells, Nat.zero_add] at y0 y1
  clear XF
  go_wp2
  exact bodyPost_ret (v := .tuple #[.agg #[.int .i64 0, .int .i64 0], .int .i64 e]) (by simp [results, Tryz.results47, go_sem, y0, y1]) rfl ⟨rfl, BF.out⟩

set_option maxRecDepth 100000 in
set_option maxHeartbeats 4000000 in
theorem rd_ad (j u M D U d us d1 d2 V E e : Int) (hM : M ≠ 0) (he : e ≠ 0)
    (OF : Hid (∀ w : World, Calls Tryz.prog 58 #[.agg #[.int .i64 0, .int .i64 u]] w fun r' w' => r' = .returned (.tuple #[.agg #[.int .i64 0, .int .i64 d], .int .i64 us, .int .i64 0]) ∧ Below w.heap.size w w'))
    (SH : Hid (∀ w : World, Calls Tryz.prog 89 #[.agg #[.int .i64 0, .int .i64 d], .int .i64 M] w fun r' w' => r' = .returned (.tuple #[.agg #[.int .i64 0, .int .i64 d1], .int .i64 0]) ∧ Below w.heap.size w w'))
    (AD : Hid (∀ w : World, Calls Tryz.prog 90 #[.agg #[.int .i64 0, .int .i64 d1], .int .i64 D] w fun r' w' => r' = .returned (.tuple #[.agg #[.int .i64 0, .int .i64 d2], .int .i64 e]) ∧ Below w.heap.size w w'))
    (w : World) :
    Calls Tryz.prog 47 #[.agg #[.int .i64 0, .int .i64 u], .agg #[.int .i64 j, .int .i64 M, .int .i64 D, .int .i64 U]] w fun r' w' => r' = .returned (.tuple #[.agg #[.int .i64 0, .int .i64 0], .int .i64 e]) ∧ Below w.heap.size w w' := by
  have m1 : (M != 0) = true := bne_iff_ne.2 hM
  have e1 : (e != 0) = true := bne_iff_ne.2 he
  have e2 : (e == 0) = false := by simpa using he
  have K0 : Hid (BS w [(w.heap.size + 2, [.int .i64 0, .int .i64 0]), (w.heap.size + 1, [.int .i64 j, .int .i64 M, .int .i64 D, .int .i64 U]), (w.heap.size, [.int .i64 0, .int .i64 u])] (((w.alloc (.cells #[.int .i64 0, .int .i64 u] 36)).alloc (.cells #[.int .i64 j, .int .i64 M, .int .i64 D, .int .i64 U] 59)).alloc (.cells #[.int .i64 0, .int .i64 0] 36))) := ((((BS.start w).new [.int .i64 0, .int .i64 u] 36 rfl).new [.int .i64 j, .int .i64 M, .int .i64 D, .int .i64 U] 59 (by simp)).new [.int .i64 0, .int .i64 0] 36 (by simp))
  go_enter Tryz.func47, Tryz.ntmps47
  go_wp2_with fail
  refine (OF.out _).mono ?_
  rintro e W1 ⟨rfl, hb⟩
  have K1 := bsb K0 hb
  clear hb K0
  obtain ⟨c1_0_0, c1_0_1⟩ := (bo1 K1).c2
  obtain ⟨c1_1_0, c1_1_1, c1_1_2, c1_1_3⟩ := (bo2 K1).c4
  obtain ⟨c1_2_0, c1_2_1⟩ := (bo3 K1).c2
  have Mz1 := bsn K1 [.int .i64 0, .int .i64 d] 100
  have lt1_0 := (bo1 K1).1
  have lt1_1 := (bo2 K1).1
  have lt1_2 := (bo3 K1).1
  go_upto_region 2 with fail
  refine bs_to Mz1 ?_
  clear c1_0_0 c1_0_1 c1_1_0 c1_1_1 c1_1_2 c1_1_3 c1_2_0 c1_2_1
  intro W2 K2
  clear Mz1 K1
  obtain ⟨c2_0_0, c2_0_1⟩ := (bo1 K2).c2
  obtain ⟨c2_1_0, c2_1_1⟩ := (bo2 K2).c2
  obtain ⟨c2_2_0, c2_2_1, c2_2_2, c2_2_3⟩ := (bo3 K2).c4
  obtain ⟨c2_3_0, c2_3_1⟩ := (bo4 K2).c2
  go_wp2_with fail
  refine (SH.out _).mono ?_
  rintro e W3 ⟨rfl, hb⟩
  have K3 := bsb K2 hb
  clear c2_0_0 c2_0_1 c2_1_0 c2_1_1 c2_2_0 c2_2_1 c2_2_2 c2_2_3 c2_3_0 c2_3_1
  clear hb K2
  obtain ⟨c3_0_0, c3_0_1⟩ := (bo1 K3).c2
  obtain ⟨c3_1_0, c3_1_1⟩ := (bo2 K3).c2
  obtain ⟨c3_2_0, c3_2_1, c3_2_2, c3_2_3⟩ := (bo3 K3).c4
  obtain ⟨c3_3_0, c3_3_1⟩ := (bo4 K3).c2
  clear c3_0_0 c3_0_1 c3_1_0 c3_1_1 c3_2_0 c3_2_1 c3_2_2 c3_2_3 c3_3_0 c3_3_1
  have r3_0 : W3.cell? ⟨W1.heap.size, 0, none⟩ = some (.int .i64 0) := (K3.out.at (W1.heap.size) [.int .i64 0, .int .i64 d] (by simp)).c 0 rfl
  have sr3_0 : W3.frozen? ⟨W1.heap.size, 0, none⟩ = false := (K3.out.at (W1.heap.size) [.int .i64 0, .int .i64 d] (by simp)).f 0 rfl
  have r3_1 : W3.cell? ⟨W1.heap.size, 1, none⟩ = some (.int .i64 d) := (K3.out.at (W1.heap.size) [.int .i64 0, .int .i64 d] (by simp)).c 1 rfl
  have sr3_1 : W3.frozen? ⟨W1.heap.size, 1, none⟩ = false := (K3.out.at (W1.heap.size) [.int .i64 0, .int .i64 d] (by simp)).f 1 rfl
  have Mz3 : Hid (BS w [(W1.heap.size, [.int .i64 0, .int .i64 d1]), (w.heap.size + 2, [.int .i64 0, .int .i64 0]), (w.heap.size + 1, [.int .i64 j, .int .i64 M, .int .i64 D, .int .i64 U]), (w.heap.size, [.int .i64 0, .int .i64 u])] (W3.setCells (W1.heap.size) 0 [.int .i64 0, .int .i64 d1])) := ((K3.out.perm (l' := [(W1.heap.size, [.int .i64 0, .int .i64 d]), (w.heap.size + 2, [.int .i64 0, .int .i64 0]), (w.heap.size + 1, [.int .i64 j, .int .i64 M, .int .i64 D, .int .i64 U]), (w.heap.size, [.int .i64 0, .int .i64 u])]) (by intro x hx; simp only [List.mem_cons, List.not_mem_nil, or_false] at hx ⊢; rcases hx with h | h | h | h <;> simp [h])).set [.int .i64 0, .int .i64 d1] rfl (by intro x hx; simp only [List.mem_cons, List.not_mem_nil, or_false] at hx; rcases hx with rfl | rfl | rfl <;> simp only [] <;> omega))
  simp only [World.setCells, Nat.zero_add] at Mz3
  go_upto_region 5 with fail
  refine gen_to (BS w [(W1.heap.size, [.int .i64 0, .int .i64 d1]), (w.heap.size + 2, [.int .i64 0, .int .i64 0]), (w.heap.size + 1, [.int .i64 j, .int .i64 M, .int .i64 D, .int .i64 U]), (w.heap.size, [.int .i64 0, .int .i64 u])]) Mz3.out ?_
  clear r3_0 sr3_0 r3_1 sr3_1
  intro W4 K4'
  have K4 : Hid (BS w [(W1.heap.size, [.int .i64 0, .int .i64 d1]), (w.heap.size + 2, [.int .i64 0, .int .i64 0]), (w.heap.size + 1, [.int .i64 j, .int .i64 M, .int .i64 D, .int .i64 U]), (w.heap.size, [.int .i64 0, .int .i64 u])] W4) := K4'
  clear K4' Mz3 K3
  obtain ⟨c4_0_0, c4_0_1⟩ := (bo1 K4).c2
  obtain ⟨c4_1_0, c4_1_1⟩ := (bo2 K4).c2
  obtain ⟨c4_2_0, c4_2_1, c4_2_2, c4_2_3⟩ := (bo3 K4).c4
  obtain ⟨c4_3_0, c4_3_1⟩ := (bo4 K4).c2
  go_wp2_with fail
  refine (AD.out _).mono ?_
  rintro e W5 ⟨rfl, hb⟩
  have K5 := bsb K4 hb
  clear c4_0_0 c4_0_1 c4_1_0 c4_1_1 c4_2_0 c4_2_1 c4_2_2 c4_2_3 c4_3_0 c4_3_1
  clear hb K4
  obtain ⟨c5_0_0, c5_0_1⟩ := (bo1 K5).c2
  obtain ⟨c5_1_0, c5_1_1⟩ := (bo2 K5).c2
  obtain ⟨c5_2_0, c5_2_1, c5_2_2, c5_2_3⟩ := (bo3 K5).c4
  obtain ⟨c5_3_0, c5_3_1⟩ := (bo4 K5).c2
  clear c5_0_0 c5_0_1 c5_1_0 c5_1_1 c5_2_0 c5_2_1 c5_2_2 c5_2_3 c5_3_0 c5_3_1
  have r5_0 : W5.cell? ⟨W1.heap.size, 0, none⟩ = some (.int .i64 0) := (K5.out.at (W1.heap.size) [.int .i64 0, .int .i64 d1] (by simp)).c 0 rfl
  have sr5_0 : W5.frozen? ⟨W1.heap.size, 0, none⟩ = false := (K5.out.at (W1.heap.size) [.int .i64 0, .int .i64 d1] (by simp)).f 0 rfl
  have r5_1 : W5.cell? ⟨W1.heap.size, 1, none⟩ = some (.int .i64 d1) := (K5.out.at (W1.heap.size) [.int .i64 0, .int .i64 d1] (by simp)).c 1 rfl
  have sr5_1 : W5.frozen? ⟨W1.heap.size, 1, none⟩ = false := (K5.out.at (W1.heap.size) [.int .i64 0, .int .i64 d1] (by simp)).f 1 rfl
  have Mz5 : Hid (BS w [(W1.heap.size, [.int .i64 0, .int .i64 d2]), (w.heap.size + 2, [.int .i64 0, .int .i64 0]), (w.heap.size + 1, [.int .i64 j, .int .i64 M, .int .i64 D, .int .i64 U]), (w.heap.size, [.int .i64 0, .int .i64 u])] (W5.setCells (W1.heap.size) 0 [.int .i64 0, .int .i64 d2])) := ((K5.out.perm (l' := [(W1.heap.size, [.int .i64 0, .int .i64 d1]), (w.heap.size + 2, [.int .i64 0, .int .i64 0]), (w.heap.size + 1, [.int .i64 j, .int .i64 M, .int .i64 D, .int .i64 U]), (w.heap.size, [.int .i64 0, .int .i64 u])]) (by intro x hx; simp only [List.mem_cons, List.not_mem_nil, or_false] at hx ⊢; rcases hx with h | h | h | h <;> simp [h])).set [.int .i64 0, .int .i64 d2] rfl (by intro x hx; simp only [List.mem_cons, List.not_mem_nil, or_false] at hx; rcases hx with rfl | rfl | rfl <;> simp only [] <;> omega))
  simp only [World.setCells, Nat.zero_add] at Mz5
  go_upto_region 8 with fail
  refine gen_to (BS w [(W1.heap.size, [.int .i64 0, .int .i64 d2]), (w.heap.size + 2, [.int .i64 0, .int .i64 0]), (w.heap.size + 1, [.int .i64 j, .int .i64 M, .int .i64 D, .int .i64 U]), (w.heap.size, [.int .i64 0, .int .i64 u])]) Mz5.out ?_
  clear r5_0 sr5_0 r5_1 sr5_1
  intro W6 K6'
  have K6 : Hid (BS w [(W1.heap.size, [.int .i64 0, .int .i64 d2]), (w.heap.size + 2, [.int .i64 0, .int .i64 0]), (w.heap.size + 1, [.int .i64 j, .int .i64 M, .int .i64 D, .int .i64 U]), (w.heap.size, [.int .i64 0, .int .i64 u])] W6) := K6'
  clear K6' Mz5 K5
  obtain ⟨c6_0_0, c6_0_1⟩ := (bo1 K6).c2
  obtain ⟨c6_1_0, c6_1_1⟩ := (bo2 K6).c2
  obtain ⟨z6_1_0, z6_1_1⟩ := (bo2 K6).f2
  obtain ⟨c6_2_0, c6_2_1, c6_2_2, c6_2_3⟩ := (bo3 K6).c4
  obtain ⟨c6_3_0, c6_3_1⟩ := (bo4 K6).c2
  have XF : Hid (Bx (W6.setCells (w.heap.size + 2) 0 [.int .i64 0, .int .i64 0]) (w.heap.size + 2) [.int .i64 0, .int .i64 0]) := (K6.out.at (w.heap.size + 2) [.int .i64 0, .int .i64 0] (by simp)).setAll _ rfl
  have BF : Hid (Below w.heap.size w (W6.setCells (w.heap.size + 2) 0 [.int .i64 0, .int .i64 0])) := below_setCells (by omega) _ _ _ K6.out.1
  have y0 := XF.out.c 0 rfl
  have y1 := XF.out.c 1 rfl
  simp only [World.setCells, Nat.zero_add] at y0 y1
  clear XF
  go_wp2
  exact bodyPost_ret (v := .tuple #[.agg #[.int .i64 0, .int .i64 0], .int .i64 e]) (by simp [results, Tryz.results47, go_sem, y0, y1]) rfl ⟨rfl, BF.out⟩


end Go.Proofs.YtigeccplombggaaGreatDoor
