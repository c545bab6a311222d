/- reference 17: Age, way by way. -/
import Derived.Test.YtigeccplombggaaGreatDoorStSq
import Derived.Test.YtigeccplombggaaGreatDoorBxCq
namespace Go.Proofs.YtigeccplombggaaGreatDoor
open Go.RowKit
set_option linter.unusedVariables false

set_option maxRecDepth 100000 in
set_option maxHeartbeats 4000000 in
theorem rage_s1 (i a j b x0 x1 x2 x3 x4 : Int)
    (R : Hid (∀ w : World, Calls Tryz.prog 34 #[.agg #[.int .i64 i, .int .i64 a]] w fun r' w' => r' = .returned (.bool false) ∧ Below w.heap.size w w'))
    (SB : Hid (∀ w : World, Calls Tryz.prog 22 #[.agg #[.int .i64 i, .int .i64 a], .agg #[.int .i64 j, .int .i64 b]] w fun r' w' => r' = .returned (.tuple #[.agg #[.int .i64 x0, .int .i64 x1, .int .i64 x2, .int .i64 x3], .int .i64 x4]) ∧ Below w.heap.size w w'))
    (w : World) :
    Calls Tryz.prog 24 #[.agg #[.int .i64 i, .int .i64 a], .agg #[.int .i64 j, .int .i64 b]] w fun r' w' => r' = .returned (.tuple #[.agg #[.int .i64 x0, .int .i64 x1, .int .i64 x2, .int .i64 x3], .int .i64 x4]) ∧ Below w.heap.size w w' := by
  have K0 : Hid (BS w [(w.heap.size + 2, [.int .i64 0, .int .i64 0, .int .i64 0, .int .i64 0]), (w.heap.size + 1, [.int .i64 j, .int .i64 b]), (w.heap.size, [.int .i64 i, .int .i64 a])] (((w.alloc (.cells #[.int .i64 i, .int .i64 a] 36)).alloc (.cells #[.int .i64 j, .int .i64 b] 36)).alloc (.cells #[.int .i64 0, .int .i64 0, .int .i64 0, .int .i64 0] 59))) := ((((BS.start w).new [.int .i64 i, .int .i64 a] 36 rfl).new [.int .i64 j, .int .i64 b] 36 (by simp)).new [.int .i64 0, .int .i64 0, .int .i64 0, .int .i64 0] 59 (by simp))
  go_enter Tryz.func24, Tryz.ntmps24
  go_wp2_with fail
  refine (R.out _).mono ?_
  rintro e W1 ⟨rfl, hb⟩
  have K1 := bsb K0 hb
  clear hb K0
  obtain ⟨c1_0_0, c1_0_1, c1_0_2, c1_0_3⟩ := (bo1 K1).c4
  obtain ⟨c1_1_0, c1_1_1⟩ := (bo2 K1).c2
  obtain ⟨c1_2_0, c1_2_1⟩ := (bo3 K1).c2
  go_wp2_with fail
  refine (SB.out _).mono ?_
  rintro e W2 ⟨rfl, hb⟩
  have K2 := bsb K1 hb
  clear c1_0_0 c1_0_1 c1_0_2 c1_0_3 c1_1_0 c1_1_1 c1_2_0 c1_2_1
  clear hb K1
  obtain ⟨c2_0_0, c2_0_1, c2_0_2, c2_0_3⟩ := (bo1 K2).c4
  obtain ⟨z2_0_0, z2_0_1, z2_0_2, z2_0_3⟩ := (bo1 K2).f4
  obtain ⟨c2_1_0, c2_1_1⟩ := (bo2 K2).c2
  obtain ⟨c2_2_0, c2_2_1⟩ := (bo3 K2).c2
  have XF : Hid (Bx (W2.setCells (w.heap.size + 2) 0 [.int .i64 x0, .int .i64 x1, .int .i64 x2, .int .i64 x3]) (w.heap.size + 2) [.int .i64 x0, .int .i64 x1, .int .i64 x2, .int .i64 x3]) := (K2.out.at (w.heap.size + 2) [.int .i64 0, .int .i64 0, .int .i64 0, .int .i64 0] (by simp)).setAll _ rfl
  have BF : Hid (Below w.heap.size w (W2.setCells (w.heap.size + 2) 0 [.int .i64 x0, .int .i64 x1, .int .i64 x2, .int .i64 x3])) := below_setCells (by omega) _ _ _ K2.out.1
  have y0 := XF.out.c 0 rfl
  have y1 := XF.out.c 1 rfl
  have y2 := XF.out.c 2 rfl
  have y3 := XF.out.c 3 rfl
  simp only [World.setCells, Nat.zero_add, Nat.reduceAdd] at y0 y1 y2 y3
  clear XF
  go_wp2
  exact bodyPost_ret (v := .tuple #[.agg #[.int .i64 x0, .int .i64 x1, .int .i64 x2, .int .i64 x3], .int .i64 x4]) (by simp [results, Tryz.results24, go_sem, y0, y1, y2, y3]) rfl ⟨rfl, BF.out⟩

set_option maxRecDepth 100000 in
set_option maxHeartbeats 4000000 in
theorem rage_s2 (i a j b x0 x1 x2 x3 x4 : Int)
    (R : Hid (∀ w : World, Calls Tryz.prog 34 #[.agg #[.int .i64 i, .int .i64 a]] w fun r' w' => r' = .returned (.bool true) ∧ Below w.heap.size w w'))
    (R2 : Hid (∀ w : World, Calls Tryz.prog 34 #[.agg #[.int .i64 j, .int .i64 b]] w fun r' w' => r' = .returned (.bool false) ∧ Below w.heap.size w w'))
    (SB : Hid (∀ w : World, Calls Tryz.prog 22 #[.agg #[.int .i64 i, .int .i64 a], .agg #[.int .i64 j, .int .i64 b]] w fun r' w' => r' = .returned (.tuple #[.agg #[.int .i64 x0, .int .i64 x1, .int .i64 x2, .int .i64 x3], .int .i64 x4]) ∧ Below w.heap.size w w'))
    (w : World) :
    Calls Tryz.prog 24 #[.agg #[.int .i64 i, .int .i64 a], .agg #[.int .i64 j, .int .i64 b]] w fun r' w' => r' = .returned (.tuple #[.agg #[.int .i64 x0, .int .i64 x1, .int .i64 x2, .int .i64 x3], .int .i64 x4]) ∧ Below w.heap.size w w' := by
  have K0 : Hid (BS w [(w.heap.size + 2, [.int .i64 0, .int .i64 0, .int .i64 0, .int .i64 0]), (w.heap.size + 1, [.int .i64 j, .int .i64 b]), (w.heap.size, [.int .i64 i, .int .i64 a])] (((w.alloc (.cells #[.int .i64 i, .int .i64 a] 36)).alloc (.cells #[.int .i64 j, .int .i64 b] 36)).alloc (.cells #[.int .i64 0, .int .i64 0, .int .i64 0, .int .i64 0] 59))) := ((((BS.start w).new [.int .i64 i, .int .i64 a] 36 rfl).new [.int .i64 j, .int .i64 b] 36 (by simp)).new [.int .i64 0, .int .i64 0, .int .i64 0, .int .i64 0] 59 (by simp))
  go_enter Tryz.func24, Tryz.ntmps24
  go_wp2_with fail
  refine (R.out _).mono ?_
  rintro e W1 ⟨rfl, hb⟩
  have K1 := bsb K0 hb
  clear hb K0
  obtain ⟨c1_0_0, c1_0_1, c1_0_2, c1_0_3⟩ := (bo1 K1).c4
  obtain ⟨c1_1_0, c1_1_1⟩ := (bo2 K1).c2
  obtain ⟨c1_2_0, c1_2_1⟩ := (bo3 K1).c2
  go_wp2_with fail
  refine (R2.out _).mono ?_
  rintro e W2 ⟨rfl, hb⟩
  have K2 := bsb K1 hb
  clear c1_0_0 c1_0_1 c1_0_2 c1_0_3 c1_1_0 c1_1_1 c1_2_0 c1_2_1
  clear hb K1
  obtain ⟨c2_0_0, c2_0_1, c2_0_2, c2_0_3⟩ := (bo1 K2).c4
  obtain ⟨c2_1_0, c2_1_1⟩ := (bo2 K2).c2
  obtain ⟨c2_2_0, c2_2_1⟩ := (bo3 K2).c2
  go_wp2_with fail
  refine (SB.out _).mono ?_
  rintro e W3 ⟨rfl, hb⟩
  have K3 := bsb K2 hb
  clear c2_0_0 c2_0_1 c2_0_2 c2_0_3 c2_1_0 c2_1_1 c2_2_0 c2_2_1
  clear hb K2
  obtain ⟨c3_0_0, c3_0_1, c3_0_2, c3_0_3⟩ := (bo1 K3).c4
  obtain ⟨z3_0_0, z3_0_1, z3_0_2, z3_0_3⟩ := (bo1 K3).f4
  obtain ⟨c3_1_0, c3_1_1⟩ := (bo2 K3).c2
  obtain ⟨c3_2_0, c3_2_1⟩ := (bo3 K3).c2
  have XF : Hid (Bx (W3.setCells (w.heap.size + 2) 0 [.int .i64 x0, .int .i64 x1, .int .i64 x2, .int .i64 x3]) (w.heap.size + 2) [.int .i64 x0, .int .i64 x1, .int .i64 x2, .int .i64 x3]) := (K3.out.at (w.heap.size + 2) [.int .i64 0, .int .i64 0, .int .i64 0, .int .i64 0] (by simp)).setAll _ rfl
  have BF : Hid (Below w.heap.size w (W3.setCells (w.heap.size + 2) 0 [.int .i64 x0, .int .i64 x1, .int .i64 x2, .int .i64 x3])) := below_setCells (by omega) _ _ _ K3.out.1
  have y0 := XF.out.c 0 rfl
  have y1 := XF.out.c 1 rfl
  have y2 := XF.out.c 2 rfl
  have y3 := XF.out.c 3 rfl
  simp only [World.setCells, Nat.zero_add, Nat.reduceAdd] at y0 y1 y2 y3
  clear XF
  go_wp2
  exact bodyPost_ret (v := .tuple #[.agg #[.int .i64 x0, .int .i64 x1, .int .i64 x2, .int .i64 x3], .int .i64 x4]) (by simp [results, Tryz.results24, go_sem, y0, y1, y2, y3]) rfl ⟨rfl, BF.out⟩

set_option maxRecDepth 100000 in
set_option maxHeartbeats 4000000 in
theorem rage_s3 (i a j b x0 x1 x2 x3 x4 : Int) (h : i ≠ 0)
    (R : Hid (∀ w : World, Calls Tryz.prog 34 #[.agg #[.int .i64 i, .int .i64 a]] w fun r' w' => r' = .returned (.bool true) ∧ Below w.heap.size w w'))
    (R2 : Hid (∀ w : World, Calls Tryz.prog 34 #[.agg #[.int .i64 j, .int .i64 b]] w fun r' w' => r' = .returned (.bool true) ∧ Below w.heap.size w w'))
    (SB : Hid (∀ w : World, Calls Tryz.prog 22 #[.agg #[.int .i64 i, .int .i64 a], .agg #[.int .i64 j, .int .i64 b]] w fun r' w' => r' = .returned (.tuple #[.agg #[.int .i64 x0, .int .i64 x1, .int .i64 x2, .int .i64 x3], .int .i64 x4]) ∧ Below w.heap.size w w'))
    (w : World) :
    Calls Tryz.prog 24 #[.agg #[.int .i64 i, .int .i64 a], .agg #[.int .i64 j, .int .i64 b]] w fun r' w' => r' = .returned (.tuple #[.agg #[.int .i64 x0, .int .i64 x1, .int .i64 x2, .int .i64 x3], .int .i64 x4]) ∧ Below w.heap.size w w' := by
  have h1 : (i != 0) = true := bne_iff_ne.2 h
  have K0 : Hid (BS w [(w.heap.size + 2, [.int .i64 0, .int .i64 0, .int .i64 0, .int .i64 0]), (w.heap.size + 1, [.int .i64 j, .int .i64 b]), (w.heap.size, [.int .i64 i, .int .i64 a])] (((w.alloc (.cells #[.int .i64 i, .int .i64 a] 36)).alloc (.cells #[.int .i64 j, .int .i64 b] 36)).alloc (.cells #[.int .i64 0, .int .i64 0, .int .i64 0, .int .i64 0] 59))) := ((((BS.start w).new [.int .i64 i, .int .i64 a] 36 rfl).new [.int .i64 j, .int .i64 b] 36 (by simp)).new [.int .i64 0, .int .i64 0, .int .i64 0, .int .i64 0] 59 (by simp))
  go_enter Tryz.func24, Tryz.ntmps24
  go_wp2_with fail
  refine (R.out _).mono ?_
  rintro e W1 ⟨rfl, hb⟩
  have K1 := bsb K0 hb
  clear hb K0
  obtain ⟨c1_0_0, c1_0_1, c1_0_2, c1_0_3⟩ := (bo1 K1).c4
  obtain ⟨c1_1_0, c1_1_1⟩ := (bo2 K1).c2
  obtain ⟨c1_2_0, c1_2_1⟩ := (bo3 K1).c2
  go_wp2_with fail
  refine (R2.out _).mono ?_
  rintro e W2 ⟨rfl, hb⟩
  have K2 := bsb K1 hb
  clear c1_0_0 c1_0_1 c1_0_2 c1_0_3 c1_1_0 c1_1_1 c1_2_0 c1_2_1
  clear hb K1
  obtain ⟨c2_0_0, c2_0_1, c2_0_2, c2_0_3⟩ := (bo1 K2).c4
  obtain ⟨c2_1_0, c2_1_1⟩ := (bo2 K2).c2
  obtain ⟨c2_2_0, c2_2_1⟩ := (bo3 K2).c2
  go_wp2_with fail
  refine (SB.out _).mono ?_
  rintro e W3 ⟨rfl, hb⟩
  have K3 := bsb K2 hb
  clear c2_0_0 c2_0_1 c2_0_2 c2_0_3 c2_1_0 c2_1_1 c2_2_0 c2_2_1
  clear hb K2
  obtain ⟨c3_0_0, c3_0_1, c3_0_2, c3_0_3⟩ := (bo1 K3).c4
  obtain ⟨z3_0_0, z3_0_1, z3_0_2, z3_0_3⟩ := (bo1 K3).f4
  obtain ⟨c3_1_0, c3_1_1⟩ := (bo2 K3).c2
  obtain ⟨c3_2_0, c3_2_1⟩ := (bo3 K3).c2
  have XF : Hid (Bx (W3.setCells (w.heap.size + 2) 0 [.int .i64 x0, .int .i64 x1, .int .i64 x2, .int .i64 x3]) (w.heap.size + 2) [.int .i64 x0, .int .i64 x1, .int .i64 x2, .int .i64 x3]) := (K3.out.at (w.heap.size + 2) [.int .i64 0, .int .i64 0, .int .i64 0, .int .i64 0] (by simp)).setAll _ rfl
  have BF : Hid (Below w.heap.size w (W3.setCells (w.heap.size + 2) 0 [.int .i64 x0, .int .i64 x1, .int .i64 x2, .int .i64 x3])) := below_setCells (by omega) _ _ _ K3.out.1
  have y0 := XF.out.c 0 rfl
  have y1 := XF.out.c 1 rfl
  have y2 := XF.out.c 2 rfl
  have y3 := XF.out.c 3 rfl
  simp only [World.setCells, Nat.zero_add, Nat.reduceAdd] at y0 y1 y2 y3
  clear XF
  go_wp2
  exact bodyPost_ret (v := .tuple #[.agg #[.int .i64 x0, .int .i64 x1, .int .i64 x2, .int .i64 x3], .int .i64 x4]) (by simp [results, Tryz.results24, go_sem, y0, y1, y2, y3]) rfl ⟨rfl, BF.out⟩

set_option maxRecDepth 100000 in
set_option maxHeartbeats 4000000 in
theorem rage_s4 (a j b x0 x1 x2 x3 x4 : Int) (h : j ≠ 0)
    (R : Hid (∀ w : World, Calls Tryz.prog 34 #[.agg #[.int .i64 0, .int .i64 a]] w fun r' w' => r' = .returned (.bool true) ∧ Below w.heap.size w w'))
    (R2 : Hid (∀ w : World, Calls Tryz.prog 34 #[.agg #[.int .i64 j, .int .i64 b]] w fun r' w' => r' = .returned (.bool true) ∧ Below w.heap.size w w'))
    (SB : Hid (∀ w : World, Calls Tryz.prog 22 #[.agg #[.int .i64 0, .int .i64 a], .agg #[.int .i64 j, .int .i64 b]] w fun r' w' => r' = .returned (.tuple #[.agg #[.int .i64 x0, .int .i64 x1, .int .i64 x2, .int .i64 x3], .int .i64 x4]) ∧ Below w.heap.size w w'))
    (w : World) :
    Calls Tryz.prog 24 #[.agg #[.int .i64 0, .int .i64 a], .agg #[.int .i64 j, .int .i64 b]] w fun r' w' => r' = .returned (.tuple #[.agg #[.int .i64 x0, .int .i64 x1, .int .i64 x2, .int .i64 x3], .int .i64 x4]) ∧ Below w.heap.size w w' := by
  have h1 : (j != 0) = true := bne_iff_ne.2 h
  have K0 : Hid (BS w [(w.heap.size + 2, [.int .i64 0, .int .i64 0, .int .i64 0, .int .i64 0]), (w.heap.size + 1, [.int .i64 j, .int .i64 b]), (w.heap.size, [.int .i64 0, .int .i64 a])] (((w.alloc (.cells #[.int .i64 0, .int .i64 a] 36)).alloc (.cells #[.int .i64 j, .int .i64 b] 36)).alloc (.cells #[.int .i64 0, .int .i64 0, .int .i64 0, .int .i64 0] 59))) := ((((BS.start w).new [.int .i64 0, .int .i64 a] 36 rfl).new [.int .i64 j, .int .i64 b] 36 (by simp)).new [.int .i64 0, .int .i64 0, .int .i64 0, .int .i64 0] 59 (by simp))
  go_enter Tryz.func24, Tryz.ntmps24
  go_wp2_with fail
  refine (R.out _).mono ?_
  rintro e W1 ⟨rfl, hb⟩
  have K1 := bsb K0 hb
  clear hb K0
  obtain ⟨c1_0_0, c1_0_1, c1_0_2, c1_0_3⟩ := (bo1 K1).c4
  obtain ⟨c1_1_0, c1_1_1⟩ := (bo2 K1).c2
  obtain ⟨c1_2_0, c1_2_1⟩ := (bo3 K1).c2
  go_wp2_with fail
  refine (R2.out _).mono ?_
  rintro e W2 ⟨rfl, hb⟩
  have K2 := bsb K1 hb
  clear c1_0_0 c1_0_1 c1_0_2 c1_0_3 c1_1_0 c1_1_1 c1_2_0 c1_2_1
  clear hb K1
  obtain ⟨c2_0_0, c2_0_1, c2_0_2, c2_0_3⟩ := (bo1 K2).c4
  obtain ⟨c2_1_0, c2_1_1⟩ := (bo2 K2).c2
  obtain ⟨c2_2_0, c2_2_1⟩ := (bo3 K2).c2
  go_wp2_with fail
  refine (SB.out _).mono ?_
  rintro e W3 ⟨rfl, hb⟩
  have K3 := bsb K2 hb
  clear c2_0_0 c2_0_1 c2_0_2 c2_0_3 c2_1_0 c2_1_1 c2_2_0 c2_2_1
  clear hb K2
  obtain ⟨c3_0_0, c3_0_1, c3_0_2, c3_0_3⟩ := (bo1 K3).c4
  obtain ⟨z3_0_0, z3_0_1, z3_0_2, z3_0_3⟩ := (bo1 K3).f4
  obtain ⟨c3_1_0, c3_1_1⟩ := (bo2 K3).c2
  obtain ⟨c3_2_0, c3_2_1⟩ := (bo3 K3).c2
  have XF : Hid (Bx (W3.setCells (w.heap.size + 2) 0 [.int .i64 x0, .int .i64 x1, .int .i64 x2, .int .i64 x3]) (w.heap.size + 2) [.int .i64 x0, .int .i64 x1, .int .i64 x2, .int .i64 x3]) := (K3.out.at (w.heap.size + 2) [.int .i64 0, .int .i64 0, .int .i64 0, .int .i64 0] (by simp)).setAll _ rfl
  have BF : Hid (Below w.heap.size w (W3.setCells (w.heap.size + 2) 0 [.int .i64 x0, .int .i64 x1, .int .i64 x2, .int .i64 x3])) := below_setCells (by omega) _ _ _ K3.out.1
  have y0 := XF.out.c 0 rfl
  have y1 := XF.out.c 1 rfl
  have y2 := XF.out.c 2 rfl
  have y3 := XF.out.c 3 rfl
  simp only [World.setCells, Nat.zero_add, Nat.reduceAdd] at y0 y1 y2 y3
  clear XF
  go_wp2
  exact bodyPost_ret (v := .tuple #[.agg #[.int .i64 x0, .int .i64 x1, .int .i64 x2, .int .i64 x3], .int .i64 x4]) (by simp [results, Tryz.results24, go_sem, y0, y1, y2, y3]) rfl ⟨rfl, BF.out⟩

set_option maxRecDepth 100000 in
set_option maxHeartbeats 4000000 in
theorem rage_lt (a b c y0 y1 y2 y3 x0 x1 x2 x3 x4 : Int) (hc : c < 0)
    (R : Hid (∀ w : World, Calls Tryz.prog 34 #[.agg #[.int .i64 0, .int .i64 a]] w fun r' w' => r' = .returned (.bool true) ∧ Below w.heap.size w w'))
    (R2 : Hid (∀ w : World, Calls Tryz.prog 34 #[.agg #[.int .i64 0, .int .i64 b]] w fun r' w' => r' = .returned (.bool true) ∧ Below w.heap.size w w'))
    (CC : Hid (∀ w : World, Calls Tryz.prog 56 #[.agg #[.int .i64 0, .int .i64 a], .agg #[.int .i64 0, .int .i64 b]] w fun r' w' => r' = .returned (.int .i64 c) ∧ Below w.heap.size w w'))
    (GO : Hid (∀ w : World, Calls Tryz.prog 24 #[.agg #[.int .i64 0, .int .i64 b], .agg #[.int .i64 0, .int .i64 a]] w fun r' w' => r' = .returned (.tuple #[.agg #[.int .i64 y0, .int .i64 y1, .int .i64 y2, .int .i64 y3], .int .i64 0]) ∧ Below w.heap.size w w'))
    (NG : Hid (∀ w : World, Calls Tryz.prog 57 #[.agg #[.int .i64 y0, .int .i64 y1, .int .i64 y2, .int .i64 y3]] w fun r' w' => r' = .returned (.tuple #[.agg #[.int .i64 x0, .int .i64 x1, .int .i64 x2, .int .i64 x3], .int .i64 x4]) ∧ Below w.heap.size w w'))
    (w : World) :
    Calls Tryz.prog 24 #[.agg #[.int .i64 0, .int .i64 a], .agg #[.int .i64 0, .int .i64 b]] w fun r' w' => r' = .returned (.tuple #[.agg #[.int .i64 x0, .int .i64 x1, .int .i64 x2, .int .i64 x3], .int .i64 x4]) ∧ Below w.heap.size w w' := by
  have K0 : Hid (BS w [(w.heap.size + 2, [.int .i64 0, .int .i64 0, .int .i64 0, .int .i64 0]), (w.heap.size + 1, [.int .i64 0, .int .i64 b]), (w.heap.size, [.int .i64 0, .int .i64 a])] (((w.alloc (.cells #[.int .i64 0, .int .i64 a] 36)).alloc (.cells #[.int .i64 0, .int .i64 b] 36)).alloc (.cells #[.int .i64 0, .int .i64 0, .int .i64 0, .int .i64 0] 59))) := ((((BS.start w).new [.int .i64 0, .int .i64 a] 36 rfl).new [.int .i64 0, .int .i64 b] 36 (by simp)).new [.int .i64 0, .int .i64 0, .int .i64 0, .int .i64 0] 59 (by simp))
  go_enter Tryz.func24, Tryz.ntmps24
  go_wp2_with fail
  refine (R.out _).mono ?_
  rintro e W1 ⟨rfl, hb⟩
  have K1 := bsb K0 hb
  clear hb K0
  obtain ⟨c1_0_0, c1_0_1, c1_0_2, c1_0_3⟩ := (bo1 K1).c4
  obtain ⟨c1_1_0, c1_1_1⟩ := (bo2 K1).c2
  obtain ⟨c1_2_0, c1_2_1⟩ := (bo3 K1).c2
  go_wp2_with fail
  refine (R2.out _).mono ?_
  rintro e W2 ⟨rfl, hb⟩
  have K2 := bsb K1 hb
  clear c1_0_0 c1_0_1 c1_0_2 c1_0_3 c1_1_0 c1_1_1 c1_2_0 c1_2_1
  clear hb K1
  obtain ⟨c2_0_0, c2_0_1, c2_0_2, c2_0_3⟩ := (bo1 K2).c4
  obtain ⟨c2_1_0, c2_1_1⟩ := (bo2 K2).c2
  obtain ⟨c2_2_0, c2_2_1⟩ := (bo3 K2).c2
  go_wp2_with fail
  refine (CC.out _).mono ?_
  rintro e W3 ⟨rfl, hb⟩
  have K3 := bsb K2 hb
  clear c2_0_0 c2_0_1 c2_0_2 c2_0_3 c2_1_0 c2_1_1 c2_2_0 c2_2_1
  clear hb K2
  obtain ⟨c3_0_0, c3_0_1, c3_0_2, c3_0_3⟩ := (bo1 K3).c4
  obtain ⟨c3_1_0, c3_1_1⟩ := (bo2 K3).c2
  obtain ⟨c3_2_0, c3_2_1⟩ := (bo3 K3).c2
  go_wp2_with fail
  refine (GO.out _).mono ?_
  rintro e W4 ⟨rfl, hb⟩
  have K4 := bsb K3 hb
  clear c3_0_0 c3_0_1 c3_0_2 c3_0_3 c3_1_0 c3_1_1 c3_2_0 c3_2_1
  clear hb K3
  obtain ⟨c4_0_0, c4_0_1, c4_0_2, c4_0_3⟩ := (bo1 K4).c4
  obtain ⟨c4_1_0, c4_1_1⟩ := (bo2 K4).c2
  obtain ⟨c4_2_0, c4_2_1⟩ := (bo3 K4).c2
  have Mz4 := bsn K4 [.int .i64 y0, .int .i64 y1, .int .i64 y2, .int .i64 y3] 59
  have lt4_0 := (bo1 K4).1
  have lt4_1 := (bo2 K4).1
  have lt4_2 := (bo3 K4).1
  go_upto_region 5 with fail
  refine bs_to Mz4 ?_
  clear c4_0_0 c4_0_1 c4_0_2 c4_0_3 c4_1_0 c4_1_1 c4_2_0 c4_2_1
  intro W5 K5
  clear Mz4 K4
  obtain ⟨c5_0_0, c5_0_1, c5_0_2, c5_0_3⟩ := (bo1 K5).c4
  obtain ⟨c5_1_0, c5_1_1, c5_1_2, c5_1_3⟩ := (bo2 K5).c4
  obtain ⟨c5_2_0, c5_2_1⟩ := (bo3 K5).c2
  obtain ⟨c5_3_0, c5_3_1⟩ := (bo4 K5).c2
  go_wp2_with fail
  refine (NG.out _).mono ?_
  rintro e W6 ⟨rfl, hb⟩
  have K6 := bsb K5 hb
  clear c5_0_0 c5_0_1 c5_0_2 c5_0_3 c5_1_0 c5_1_1 c5_1_2 c5_1_3 c5_2_0 c5_2_1 c5_3_0 c5_3_1
  clear hb K5
  obtain ⟨c6_0_0, c6_0_1, c6_0_2, c6_0_3⟩ := (bo1 K6).c4
  obtain ⟨c6_1_0, c6_1_1, c6_1_2, c6_1_3⟩ := (bo2 K6).c4
  obtain ⟨z6_1_0, z6_1_1, z6_1_2, z6_1_3⟩ := (bo2 K6).f4
  obtain ⟨c6_2_0, c6_2_1⟩ := (bo3 K6).c2
  obtain ⟨c6_3_0, c6_3_1⟩ := (bo4 K6).c2
  have XF : Hid (Bx (W6.setCells (w.heap.size + 2) 0 [.int .i64 x0, .int .i64 x1, .int .i64 x2, .int .i64 x3]) (w.heap.size + 2) [.int .i64 x0, .int .i64 x1, .int .i64 x2, .int .i64 x3]) := (K6.out.at (w.heap.size + 2) [.int .i64 0, .int .i64 0, .int .i64 0, .int .i64 0] (by simp)).setAll _ rfl
  have BF : Hid (Below w.heap.size w (W6.setCells (w.heap.size + 2) 0 [.int .i64 x0, .int .i64 x1, .int .i64 x2, .int .i64 x3])) := below_setCells (by omega) _ _ _ K6.out.1
  have y0 := XF.out.c 0 rfl
  have y1 := XF.out.c 1 rfl
  have y2 := XF.out.c 2 rfl
  have y3 := XF.out.c 3 rfl
  simp only [World.setCells, Nat.zero_add, Nat.reduceAdd] at y0 y1 y2 y3
  clear XF
  go_wp2
  exact bodyPost_ret (v := .tuple #[.agg #[.int .i64 x0, .int .i64 x1, .int .i64 x2, .int .i64 x3], .int .i64 x4]) (by simp [results, Tryz.results24, go_sem, y0, y1, y2, y3]) rfl ⟨rfl, BF.out⟩

set_option maxRecDepth 100000 in
set_option maxHeartbeats 4000000 in
theorem rage_ge (a b c p pu r ru y m q y2 m2 q2 g D U : Int) (XV XE cv : Int → Int) (hc : ¬ c < 0) (Y1 : -1000000 ≤ y) (Y2 : y ≤ 1000000) (M1 : 0 ≤ m) (M2 : m ≤ 100) (Y3 : -1000000 ≤ y2) (Y4 : y2 ≤ 1000000) (M3 : 0 ≤ m2) (M4 : m2 ≤ 100) (g0 : 0 ≤ g) (g1 : g ≤ (12 * (y - y2) + m - m2 + 1))
    (R : Hid (∀ w : World, Calls Tryz.prog 34 #[.agg #[.int .i64 0, .int .i64 a]] w fun r' w' => r' = .returned (.bool true) ∧ Below w.heap.size w w'))
    (R2 : Hid (∀ w : World, Calls Tryz.prog 34 #[.agg #[.int .i64 0, .int .i64 b]] w fun r' w' => r' = .returned (.bool true) ∧ Below w.heap.size w w'))
    (CC : Hid (∀ w : World, Calls Tryz.prog 56 #[.agg #[.int .i64 0, .int .i64 a], .agg #[.int .i64 0, .int .i64 b]] w fun r' w' => r' = .returned (.int .i64 c) ∧ Below w.heap.size w w'))
    (OA : Hid (∀ w : World, Calls Tryz.prog 58 #[.agg #[.int .i64 0, .int .i64 a]] w fun r' w' => r' = .returned (.tuple #[.agg #[.int .i64 0, .int .i64 p], .int .i64 pu, .int .i64 0]) ∧ Below w.heap.size w w'))
    (OB : Hid (∀ w : World, Calls Tryz.prog 58 #[.agg #[.int .i64 0, .int .i64 b]] w fun r' w' => r' = .returned (.tuple #[.agg #[.int .i64 0, .int .i64 r], .int .i64 ru, .int .i64 0]) ∧ Below w.heap.size w w'))
    (PA : Hid (∀ w : World, Calls Tryz.prog 59 #[.agg #[.int .i64 0, .int .i64 p]] w fun r' w' => r' = .returned (.tuple #[.int .i64 y, .int .i64 m, .int .i64 q, .int .i64 0]) ∧ Below w.heap.size w w'))
    (PB : Hid (∀ w : World, Calls Tryz.prog 59 #[.agg #[.int .i64 0, .int .i64 r]] w fun r' w' => r' = .returned (.tuple #[.int .i64 y2, .int .i64 m2, .int .i64 q2, .int .i64 0]) ∧ Below w.heap.size w w'))
    (AD : ∀ k : Int, g ≤ k → k ≤ (12 * (y - y2) + m - m2 + 1) → Hid (∀ w : World, Calls Tryz.prog 18 #[.agg #[.int .i64 0, .int .i64 b], .agg #[.int .i64 0, .int .i64 k, .int .i64 0, .int .i64 0]] w fun r' w' => r' = .returned (.tuple #[.agg #[.int .i64 0, .int .i64 (XV k)], .int .i64 (XE k)]) ∧ Below w.heap.size w w'))
    (CM : ∀ k : Int, g ≤ k → k ≤ (12 * (y - y2) + m - m2 + 1) → Hid (∀ w : World, Calls Tryz.prog 56 #[.agg #[.int .i64 0, .int .i64 (XV k)], .agg #[.int .i64 0, .int .i64 a]] w fun r' w' => r' = .returned (.int .i64 (cv k)) ∧ Below w.heap.size w w'))
    (HG : Hid (∀ k : Int, g < k → k ≤ (12 * (y - y2) + m - m2 + 1) → XE k ≠ 0 ∨ (XE k = 0 ∧ ¬ cv k ≤ 0)))
    (HE : Hid (0 < g → XE g = 0 ∧ cv g ≤ 0))
    (SB : Hid (∀ w : World, Calls Tryz.prog 22 #[.agg #[.int .i64 0, .int .i64 a], .agg #[.int .i64 0, .int .i64 (XV g)]] w fun r' w' => r' = .returned (.tuple #[.agg #[.int .i64 0, .int .i64 0, .int .i64 D, .int .i64 U], .int .i64 0]) ∧ Below w.heap.size w w'))
    (w : World) :
    Calls Tryz.prog 24 #[.agg #[.int .i64 0, .int .i64 a], .agg #[.int .i64 0, .int .i64 b]] w fun r' w' => r' = .returned (.tuple #[.agg #[.int .i64 0, .int .i64 g, .int .i64 D, .int .i64 U], .int .i64 0]) ∧ Below w.heap.size w w' := by
  have hw0 : IntKind.i64.wrap (y - y2) = y - y2 := by rw [IntKind.wrap_i64]; omega
  have hw1 : IntKind.i64.wrap (12 * (y - y2)) = 12 * (y - y2) := by rw [IntKind.wrap_i64]; omega
  have hw2 : IntKind.i64.wrap (12 * (y - y2) + m) = 12 * (y - y2) + m := by rw [IntKind.wrap_i64]; omega
  have hw3 : IntKind.i64.wrap (12 * (y - y2) + m - m2) = 12 * (y - y2) + m - m2 := by rw [IntKind.wrap_i64]; omega
  have hw4 : IntKind.i64.wrap (12 * (y - y2) + m - m2 + 1) = 12 * (y - y2) + m - m2 + 1 := by rw [IntKind.wrap_i64]; omega
  have K0 : Hid (BS w [(w.heap.size + 2, [.int .i64 0, .int .i64 0, .int .i64 0, .int .i64 0]), (w.heap.size + 1, [.int .i64 0, .int .i64 b]), (w.heap.size, [.int .i64 0, .int .i64 a])] (((w.alloc (.cells #[.int .i64 0, .int .i64 a] 36)).alloc (.cells #[.int .i64 0, .int .i64 b] 36)).alloc (.cells #[.int .i64 0, .int .i64 0, .int .i64 0, .int .i64 0] 59))) := ((((BS.start w).new [.int .i64 0, .int .i64 a] 36 rfl).new [.int .i64 0, .int .i64 b] 36 (by simp)).new [.int .i64 0, .int .i64 0, .int .i64 0, .int .i64 0] 59 (by simp))
  go_enter Tryz.func24, Tryz.ntmps24
  go_wp2_with fail
  refine (R.out _).mono ?_
  rintro e W1 ⟨rfl, hb⟩
  have K1 := bsb K0 hb
  clear hb K0
  obtain ⟨c1_0_0, c1_0_1, c1_0_2, c1_0_3⟩ := (bo1 K1).c4
  obtain ⟨c1_1_0, c1_1_1⟩ := (bo2 K1).c2
  obtain ⟨c1_2_0, c1_2_1⟩ := (bo3 K1).c2
  go_wp2_with fail
  refine (R2.out _).mono ?_
  rintro e W2 ⟨rfl, hb⟩
  have K2 := bsb K1 hb
  clear c1_0_0 c1_0_1 c1_0_2 c1_0_3 c1_1_0 c1_1_1 c1_2_0 c1_2_1
  clear hb K1
  obtain ⟨c2_0_0, c2_0_1, c2_0_2, c2_0_3⟩ := (bo1 K2).c4
  obtain ⟨c2_1_0, c2_1_1⟩ := (bo2 K2).c2
  obtain ⟨c2_2_0, c2_2_1⟩ := (bo3 K2).c2
  go_wp2_with fail
  refine (CC.out _).mono ?_
  rintro e W3 ⟨rfl, hb⟩
  have K3 := bsb K2 hb
  clear c2_0_0 c2_0_1 c2_0_2 c2_0_3 c2_1_0 c2_1_1 c2_2_0 c2_2_1
  clear hb K2
  obtain ⟨c3_0_0, c3_0_1, c3_0_2, c3_0_3⟩ := (bo1 K3).c4
  obtain ⟨c3_1_0, c3_1_1⟩ := (bo2 K3).c2
  obtain ⟨c3_2_0, c3_2_1⟩ := (bo3 K3).c2
  go_wp2_with fail
  refine (OA.out _).mono ?_
  rintro e W4 ⟨rfl, hb⟩
  have K4 := bsb K3 hb
  clear c3_0_0 c3_0_1 c3_0_2 c3_0_3 c3_1_0 c3_1_1 c3_2_0 c3_2_1
  clear hb K3
  obtain ⟨c4_0_0, c4_0_1, c4_0_2, c4_0_3⟩ := (bo1 K4).c4
  obtain ⟨c4_1_0, c4_1_1⟩ := (bo2 K4).c2
  obtain ⟨c4_2_0, c4_2_1⟩ := (bo3 K4).c2
  have Mz4 := bsn K4 [.int .i64 0, .int .i64 p] 100
  have lt4_0 := (bo1 K4).1
  have lt4_1 := (bo2 K4).1
  have lt4_2 := (bo3 K4).1
  go_upto_region 9 with fail
  refine bs_to Mz4 ?_
  clear c4_0_0 c4_0_1 c4_0_2 c4_0_3 c4_1_0 c4_1_1 c4_2_0 c4_2_1
  intro W5 K5
  clear Mz4 K4
  obtain ⟨c5_0_0, c5_0_1⟩ := (bo1 K5).c2
  obtain ⟨c5_1_0, c5_1_1, c5_1_2, c5_1_3⟩ := (bo2 K5).c4
  obtain ⟨c5_2_0, c5_2_1⟩ := (bo3 K5).c2
  obtain ⟨c5_3_0, c5_3_1⟩ := (bo4 K5).c2
  go_wp2_with fail
  refine (OB.out _).mono ?_
  rintro e W6 ⟨rfl, hb⟩
  have K6 := bsb K5 hb
  clear c5_0_0 c5_0_1 c5_1_0 c5_1_1 c5_1_2 c5_1_3 c5_2_0 c5_2_1 c5_3_0 c5_3_1
  clear hb K5
  obtain ⟨c6_0_0, c6_0_1⟩ := (bo1 K6).c2
  obtain ⟨c6_1_0, c6_1_1, c6_1_2, c6_1_3⟩ := (bo2 K6).c4
  obtain ⟨c6_2_0, c6_2_1⟩ := (bo3 K6).c2
  obtain ⟨c6_3_0, c6_3_1⟩ := (bo4 K6).c2
  have Mz6 := bsn K6 [.int .i64 0, .int .i64 r] 100
  have lt6_0 := (bo1 K6).1
  have lt6_1 := (bo2 K6).1
  have lt6_2 := (bo3 K6).1
  have lt6_3 := (bo4 K6).1
  go_upto_region 10 with fail
  refine bs_to Mz6 ?_
  clear c6_0_0 c6_0_1 c6_1_0 c6_1_1 c6_1_2 c6_1_3 c6_2_0 c6_2_1 c6_3_0 c6_3_1
  intro W7 K7
  clear Mz6 K6
  obtain ⟨c7_0_0, c7_0_1⟩ := (bo1 K7).c2
  obtain ⟨c7_1_0, c7_1_1⟩ := (bo2 K7).c2
  obtain ⟨c7_2_0, c7_2_1, c7_2_2, c7_2_3⟩ := (bo3 K7).c4
  obtain ⟨c7_3_0, c7_3_1⟩ := (bo4 K7).c2
  obtain ⟨c7_4_0, c7_4_1⟩ := (bo5 K7).c2
  go_wp2_with fail
  refine (PA.out _).mono ?_
  rintro e W8 ⟨rfl, hb⟩
  have K8 := bsb K7 hb
  clear c7_0_0 c7_0_1 c7_1_0 c7_1_1 c7_2_0 c7_2_1 c7_2_2 c7_2_3 c7_3_0 c7_3_1 c7_4_0 c7_4_1
  clear hb K7
  obtain ⟨c8_0_0, c8_0_1⟩ := (bo1 K8).c2
  obtain ⟨c8_1_0, c8_1_1⟩ := (bo2 K8).c2
  obtain ⟨c8_2_0, c8_2_1, c8_2_2, c8_2_3⟩ := (bo3 K8).c4
  obtain ⟨c8_3_0, c8_3_1⟩ := (bo4 K8).c2
  obtain ⟨c8_4_0, c8_4_1⟩ := (bo5 K8).c2
  go_wp2_with fail
  refine (PB.out _).mono ?_
  rintro e W9 ⟨rfl, hb⟩
  have K9 := bsb K8 hb
  clear c8_0_0 c8_0_1 c8_1_0 c8_1_1 c8_2_0 c8_2_1 c8_2_2 c8_2_3 c8_3_0 c8_3_1 c8_4_0 c8_4_1
  clear hb K8
  obtain ⟨c9_0_0, c9_0_1⟩ := (bo1 K9).c2
  obtain ⟨c9_1_0, c9_1_1⟩ := (bo2 K9).c2
  obtain ⟨c9_2_0, c9_2_1, c9_2_2, c9_2_3⟩ := (bo3 K9).c4
  obtain ⟨c9_3_0, c9_3_1⟩ := (bo4 K9).c2
  obtain ⟨c9_4_0, c9_4_1⟩ := (bo5 K9).c2
  go_wp2_with fail
  clear c9_0_0 c9_0_1 c9_1_0 c9_1_1 c9_2_0 c9_2_1 c9_2_2 c9_2_3 c9_3_0 c9_3_1 c9_4_0 c9_4_1
  clear hw0 hw1 hw2 hw3 hw4
  go_loopw [22] (fun iv wr => ∃ x : Int, g ≤ x ∧ x ≤ (12 * (y - y2) + m - m2 + 1) ∧ iv = .int .i64 x ∧ Hid (BS w [(W6.heap.size, [.int .i64 0, .int .i64 r]), (W4.heap.size, [.int .i64 0, .int .i64 p]), (w.heap.size + 2, [.int .i64 0, .int .i64 0, .int .i64 0, .int .i64 0]), (w.heap.size + 1, [.int .i64 0, .int .i64 b]), (w.heap.size, [.int .i64 0, .int .i64 a])] wr) ∧ W9.heap.size ≤ wr.heap.size) (fun iv _ => (intOf iv).toNat)
  case atStart => exact ⟨_, g1, Int.le_refl _, rfl, K9, Nat.le_refl _⟩
  case round =>
    clear K9
    obtain ⟨x, x1, x2, rfl, KL, hsz⟩ := hrel
    by_cases hx0 : x ≤ 0
    · have hxg : x = g := by omega
      subst hxg
      have hxn : ¬ 0 < x := by omega
      obtain ⟨c9_0_0, c9_0_1⟩ := (bo1 KL).c2
      obtain ⟨c9_1_0, c9_1_1⟩ := (bo2 KL).c2
      obtain ⟨c9_2_0, c9_2_1, c9_2_2, c9_2_3⟩ := (bo3 KL).c4
      obtain ⟨c9_3_0, c9_3_1⟩ := (bo4 KL).c2
      obtain ⟨c9_4_0, c9_4_1⟩ := (bo5 KL).c2
      go_wp2_with fail
      refine ((AD x (Int.le_refl _) g1).out _).mono ?_
      rintro e W10 ⟨rfl, hb⟩
      have K10 := bsb KL hb
      clear c9_0_0 c9_0_1 c9_1_0 c9_1_1 c9_2_0 c9_2_1 c9_2_2 c9_2_3 c9_3_0 c9_3_1 c9_4_0 c9_4_1
      clear hb KL
      obtain ⟨c10_0_0, c10_0_1⟩ := (bo1 K10).c2
      obtain ⟨c10_1_0, c10_1_1⟩ := (bo2 K10).c2
      obtain ⟨c10_2_0, c10_2_1, c10_2_2, c10_2_3⟩ := (bo3 K10).c4
      obtain ⟨c10_3_0, c10_3_1⟩ := (bo4 K10).c2
      obtain ⟨c10_4_0, c10_4_1⟩ := (bo5 K10).c2
      have Mz10 := bsn K10 [.int .i64 0, .int .i64 (XV x)] 36
      have lt10_0 := (bo1 K10).1
      have lt10_1 := (bo2 K10).1
      have lt10_2 := (bo3 K10).1
      have lt10_3 := (bo4 K10).1
      have lt10_4 := (bo5 K10).1
      go_upto_region 18 with fail
      refine bs_to Mz10 ?_
      clear c10_0_0 c10_0_1 c10_1_0 c10_1_1 c10_2_0 c10_2_1 c10_2_2 c10_2_3 c10_3_0 c10_3_1 c10_4_0 c10_4_1
      intro W11 K11
      clear Mz10 K10
      obtain ⟨c11_0_0, c11_0_1⟩ := (bo1 K11).c2
      obtain ⟨c11_1_0, c11_1_1⟩ := (bo2 K11).c2
      obtain ⟨c11_2_0, c11_2_1⟩ := (bo3 K11).c2
      obtain ⟨c11_3_0, c11_3_1, c11_3_2, c11_3_3⟩ := (bo4 K11).c4
      obtain ⟨c11_4_0, c11_4_1⟩ := (bo5 K11).c2
      obtain ⟨c11_5_0, c11_5_1⟩ := (bo6 K11).c2
      go_wp2_with fail
      refine (SB.out _).mono ?_
      rintro e W12 ⟨rfl, hb⟩
      have K12 := bsb K11 hb
      clear c11_0_0 c11_0_1 c11_1_0 c11_1_1 c11_2_0 c11_2_1 c11_3_0 c11_3_1 c11_3_2 c11_3_3 c11_4_0 c11_4_1 c11_5_0 c11_5_1
      clear hb K11
      obtain ⟨c12_0_0, c12_0_1⟩ := (bo1 K12).c2
      obtain ⟨c12_1_0, c12_1_1⟩ := (bo2 K12).c2
      obtain ⟨c12_2_0, c12_2_1⟩ := (bo3 K12).c2
      obtain ⟨c12_3_0, c12_3_1, c12_3_2, c12_3_3⟩ := (bo4 K12).c4
      obtain ⟨c12_4_0, c12_4_1⟩ := (bo5 K12).c2
      obtain ⟨c12_5_0, c12_5_1⟩ := (bo6 K12).c2
      have Mz12 := bsn K12 [.int .i64 0, .int .i64 0, .int .i64 D, .int .i64 U] 59
      have lt12_0 := (bo1 K12).1
      have lt12_1 := (bo2 K12).1
      have lt12_2 := (bo3 K12).1
      have lt12_3 := (bo4 K12).1
      have lt12_4 := (bo5 K12).1
      have lt12_5 := (bo6 K12).1
      go_upto_region 19 with fail
      refine bs_to Mz12 ?_
      clear c12_0_0 c12_0_1 c12_1_0 c12_1_1 c12_2_0 c12_2_1 c12_3_0 c12_3_1 c12_3_2 c12_3_3 c12_4_0 c12_4_1 c12_5_0 c12_5_1
      intro W13 K13
      clear Mz12 K12
      obtain ⟨c13_0_0, c13_0_1, c13_0_2, c13_0_3⟩ := (bo1 K13).c4
      obtain ⟨c13_1_0, c13_1_1⟩ := (bo2 K13).c2
      obtain ⟨c13_2_0, c13_2_1⟩ := (bo3 K13).c2
      obtain ⟨c13_3_0, c13_3_1⟩ := (bo4 K13).c2
      obtain ⟨c13_4_0, c13_4_1, c13_4_2, c13_4_3⟩ := (bo5 K13).c4
      obtain ⟨c13_5_0, c13_5_1⟩ := (bo6 K13).c2
      obtain ⟨c13_6_0, c13_6_1⟩ := (bo7 K13).c2
      clear c13_0_0 c13_0_1 c13_0_2 c13_0_3 c13_1_0 c13_1_1 c13_2_0 c13_2_1 c13_3_0 c13_3_1 c13_4_0 c13_4_1 c13_4_2 c13_4_3 c13_5_0 c13_5_1 c13_6_0 c13_6_1
      obtain ⟨c13_0_0, c13_0_1, c13_0_2, c13_0_3⟩ := (bo1 K13).c4
      obtain ⟨z13_0_0, z13_0_1, z13_0_2, z13_0_3⟩ := (bo1 K13).f4
      have ne0 : W10.heap.size < W12.heap.size := lt12_0
      have ne1 : W6.heap.size < W12.heap.size := lt12_1
      have ne2 : W4.heap.size < W12.heap.size := lt12_2
      have ne3 : w.heap.size + 2 < W12.heap.size := lt12_3
      have ne4 : w.heap.size + 1 < W12.heap.size := lt12_4
      have ne5 : w.heap.size < W12.heap.size := lt12_5
      have Mq : Hid (BS w [(W12.heap.size, [.int .i64 0, .int .i64 x, .int .i64 D, .int .i64 U]), (W10.heap.size, [.int .i64 0, .int .i64 (XV x)]), (W6.heap.size, [.int .i64 0, .int .i64 r]), (W4.heap.size, [.int .i64 0, .int .i64 p]), (w.heap.size + 2, [.int .i64 0, .int .i64 0, .int .i64 0, .int .i64 0]), (w.heap.size + 1, [.int .i64 0, .int .i64 b]), (w.heap.size, [.int .i64 0, .int .i64 a])] (W13.setCell ⟨W12.heap.size, 1, none⟩ (.int .i64 x))) := K13.out.set1 1 (.int .i64 x) (by simp) (by intro x hx; simp only [List.mem_cons, List.not_mem_nil, or_false] at hx; rcases hx with rfl | rfl | rfl | rfl | rfl | rfl <;> simp only [] <;> omega)
      go_upto_region 22 with fail
      refine gen_to (BS w [(W12.heap.size, [.int .i64 0, .int .i64 x, .int .i64 D, .int .i64 U]), (W10.heap.size, [.int .i64 0, .int .i64 (XV x)]), (W6.heap.size, [.int .i64 0, .int .i64 r]), (W4.heap.size, [.int .i64 0, .int .i64 p]), (w.heap.size + 2, [.int .i64 0, .int .i64 0, .int .i64 0, .int .i64 0]), (w.heap.size + 1, [.int .i64 0, .int .i64 b]), (w.heap.size, [.int .i64 0, .int .i64 a])]) Mq.out ?_
      clear c13_0_0 c13_0_1 c13_0_2 c13_0_3 z13_0_0 z13_0_1 z13_0_2 z13_0_3
      intro W14 K14'
      have K14 : Hid (BS w [(W12.heap.size, [.int .i64 0, .int .i64 x, .int .i64 D, .int .i64 U]), (W10.heap.size, [.int .i64 0, .int .i64 (XV x)]), (W6.heap.size, [.int .i64 0, .int .i64 r]), (W4.heap.size, [.int .i64 0, .int .i64 p]), (w.heap.size + 2, [.int .i64 0, .int .i64 0, .int .i64 0, .int .i64 0]), (w.heap.size + 1, [.int .i64 0, .int .i64 b]), (w.heap.size, [.int .i64 0, .int .i64 a])] W14) := K14'
      clear K14' Mq K13
      obtain ⟨c14_0_0, c14_0_1, c14_0_2, c14_0_3⟩ := (bo1 K14).c4
      obtain ⟨c14_1_0, c14_1_1⟩ := (bo2 K14).c2
      obtain ⟨c14_2_0, c14_2_1⟩ := (bo3 K14).c2
      obtain ⟨c14_3_0, c14_3_1⟩ := (bo4 K14).c2
      obtain ⟨c14_4_0, c14_4_1, c14_4_2, c14_4_3⟩ := (bo5 K14).c4
      obtain ⟨z14_4_0, z14_4_1, z14_4_2, z14_4_3⟩ := (bo5 K14).f4
      obtain ⟨c14_5_0, c14_5_1⟩ := (bo6 K14).c2
      obtain ⟨c14_6_0, c14_6_1⟩ := (bo7 K14).c2
      have XF : Hid (Bx (W14.setCells (w.heap.size + 2) 0 [.int .i64 0, .int .i64 x, .int .i64 D, .int .i64 U]) (w.heap.size + 2) [.int .i64 0, .int .i64 x, .int .i64 D, .int .i64 U]) := (K14.out.at (w.heap.size + 2) [.int .i64 0, .int .i64 0, .int .i64 0, .int .i64 0] (by simp)).setAll _ rfl
      have BF : Hid (Below w.heap.size w (W14.setCells (w.heap.size + 2) 0 [.int .i64 0, .int .i64 x, .int .i64 D, .int .i64 U])) := below_setCells (by omega) _ _ _ K14.out.1
      have y0 := XF.out.c 0 rfl
      have y1 := XF.out.c 1 rfl
      have y2 := XF.out.c 2 rfl
      have y3 := XF.out.c 3 rfl
      simp only [World.setCells, Nat.zero_add, Nat.reduceAdd] at y0 y1 y2 y3
      clear XF
      go_wp2
      exact bodyPost_ret (v := .tuple #[.agg #[.int .i64 0, .int .i64 x, .int .i64 D, .int .i64 U], .int .i64 0]) (by simp [results, Tryz.results24, go_sem, y0, y1, y2, y3]) rfl ⟨rfl, BF.out⟩
    · have hxp : 0 < x := by omega
      by_cases hxg : x = g
      · subst hxg
        obtain ⟨e0, c0⟩ := HE.out hxp
        have A0 := AD x (Int.le_refl _) g1
        have C0 := CM x (Int.le_refl _) g1
        rw [e0] at A0
        obtain ⟨c14_0_0, c14_0_1⟩ := (bo1 KL).c2
        obtain ⟨c14_1_0, c14_1_1⟩ := (bo2 KL).c2
        obtain ⟨c14_2_0, c14_2_1, c14_2_2, c14_2_3⟩ := (bo3 KL).c4
        obtain ⟨c14_3_0, c14_3_1⟩ := (bo4 KL).c2
        obtain ⟨c14_4_0, c14_4_1⟩ := (bo5 KL).c2
        go_wp2_with fail
        refine (A0.out _).mono ?_
        rintro e W15 ⟨rfl, hb⟩
        have K15 := bsb KL hb
        clear c14_0_0 c14_0_1 c14_1_0 c14_1_1 c14_2_0 c14_2_1 c14_2_2 c14_2_3 c14_3_0 c14_3_1 c14_4_0 c14_4_1
        clear hb KL
        obtain ⟨c15_0_0, c15_0_1⟩ := (bo1 K15).c2
        obtain ⟨c15_1_0, c15_1_1⟩ := (bo2 K15).c2
        obtain ⟨c15_2_0, c15_2_1, c15_2_2, c15_2_3⟩ := (bo3 K15).c4
        obtain ⟨c15_3_0, c15_3_1⟩ := (bo4 K15).c2
        obtain ⟨c15_4_0, c15_4_1⟩ := (bo5 K15).c2
        have Mz15 := bsn K15 [.int .i64 0, .int .i64 (XV x)] 36
        have lt15_0 := (bo1 K15).1
        have lt15_1 := (bo2 K15).1
        have lt15_2 := (bo3 K15).1
        have lt15_3 := (bo4 K15).1
        have lt15_4 := (bo5 K15).1
        go_upto_region 15 with fail
        refine bs_to Mz15 ?_
        clear c15_0_0 c15_0_1 c15_1_0 c15_1_1 c15_2_0 c15_2_1 c15_2_2 c15_2_3 c15_3_0 c15_3_1 c15_4_0 c15_4_1
        intro W16 K16
        clear Mz15 K15
        obtain ⟨c16_0_0, c16_0_1⟩ := (bo1 K16).c2
        obtain ⟨c16_1_0, c16_1_1⟩ := (bo2 K16).c2
        obtain ⟨c16_2_0, c16_2_1⟩ := (bo3 K16).c2
        obtain ⟨c16_3_0, c16_3_1, c16_3_2, c16_3_3⟩ := (bo4 K16).c4
        obtain ⟨c16_4_0, c16_4_1⟩ := (bo5 K16).c2
        obtain ⟨c16_5_0, c16_5_1⟩ := (bo6 K16).c2
        go_wp2_with fail
        refine (C0.out _).mono ?_
        rintro e W17 ⟨rfl, hb⟩
        have K17 := bsb K16 hb
        clear c16_0_0 c16_0_1 c16_1_0 c16_1_1 c16_2_0 c16_2_1 c16_3_0 c16_3_1 c16_3_2 c16_3_3 c16_4_0 c16_4_1 c16_5_0 c16_5_1
        clear hb K16
        obtain ⟨c17_0_0, c17_0_1⟩ := (bo1 K17).c2
        obtain ⟨c17_1_0, c17_1_1⟩ := (bo2 K17).c2
        obtain ⟨c17_2_0, c17_2_1⟩ := (bo3 K17).c2
        obtain ⟨c17_3_0, c17_3_1, c17_3_2, c17_3_3⟩ := (bo4 K17).c4
        obtain ⟨c17_4_0, c17_4_1⟩ := (bo5 K17).c2
        obtain ⟨c17_5_0, c17_5_1⟩ := (bo6 K17).c2
        go_wp2_with fail
        refine ((AD x (Int.le_refl _) g1).out _).mono ?_
        rintro e W18 ⟨rfl, hb⟩
        have K18 := bsb K17 hb
        clear c17_0_0 c17_0_1 c17_1_0 c17_1_1 c17_2_0 c17_2_1 c17_3_0 c17_3_1 c17_3_2 c17_3_3 c17_4_0 c17_4_1 c17_5_0 c17_5_1
        clear hb K17
        obtain ⟨c18_0_0, c18_0_1⟩ := (bo1 K18).c2
        obtain ⟨c18_1_0, c18_1_1⟩ := (bo2 K18).c2
        obtain ⟨c18_2_0, c18_2_1⟩ := (bo3 K18).c2
        obtain ⟨c18_3_0, c18_3_1, c18_3_2, c18_3_3⟩ := (bo4 K18).c4
        obtain ⟨c18_4_0, c18_4_1⟩ := (bo5 K18).c2
        obtain ⟨c18_5_0, c18_5_1⟩ := (bo6 K18).c2
        have Mz18 := bsn K18 [.int .i64 0, .int .i64 (XV x)] 36
        have lt18_0 := (bo1 K18).1
        have lt18_1 := (bo2 K18).1
        have lt18_2 := (bo3 K18).1
        have lt18_3 := (bo4 K18).1
        have lt18_4 := (bo5 K18).1
        have lt18_5 := (bo6 K18).1
        go_upto_region 18 with fail
        refine bs_to Mz18 ?_
        clear c18_0_0 c18_0_1 c18_1_0 c18_1_1 c18_2_0 c18_2_1 c18_3_0 c18_3_1 c18_3_2 c18_3_3 c18_4_0 c18_4_1 c18_5_0 c18_5_1
        intro W19 K19
        clear Mz18 K18
        obtain ⟨c19_0_0, c19_0_1⟩ := (bo1 K19).c2
        obtain ⟨c19_1_0, c19_1_1⟩ := (bo2 K19).c2
        obtain ⟨c19_2_0, c19_2_1⟩ := (bo3 K19).c2
        obtain ⟨c19_3_0, c19_3_1⟩ := (bo4 K19).c2
        obtain ⟨c19_4_0, c19_4_1, c19_4_2, c19_4_3⟩ := (bo5 K19).c4
        obtain ⟨c19_5_0, c19_5_1⟩ := (bo6 K19).c2
        obtain ⟨c19_6_0, c19_6_1⟩ := (bo7 K19).c2
        go_wp2_with fail
        refine (SB.out _).mono ?_
        rintro e W20 ⟨rfl, hb⟩
        have K20 := bsb K19 hb
        clear c19_0_0 c19_0_1 c19_1_0 c19_1_1 c19_2_0 c19_2_1 c19_3_0 c19_3_1 c19_4_0 c19_4_1 c19_4_2 c19_4_3 c19_5_0 c19_5_1 c19_6_0 c19_6_1
        clear hb K19
        obtain ⟨c20_0_0, c20_0_1⟩ := (bo1 K20).c2
        obtain ⟨c20_1_0, c20_1_1⟩ := (bo2 K20).c2
        obtain ⟨c20_2_0, c20_2_1⟩ := (bo3 K20).c2
        obtain ⟨c20_3_0, c20_3_1⟩ := (bo4 K20).c2
        obtain ⟨c20_4_0, c20_4_1, c20_4_2, c20_4_3⟩ := (bo5 K20).c4
        obtain ⟨c20_5_0, c20_5_1⟩ := (bo6 K20).c2
        obtain ⟨c20_6_0, c20_6_1⟩ := (bo7 K20).c2
        have Mz20 := bsn K20 [.int .i64 0, .int .i64 0, .int .i64 D, .int .i64 U] 59
        have lt20_0 := (bo1 K20).1
        have lt20_1 := (bo2 K20).1
        have lt20_2 := (bo3 K20).1
        have lt20_3 := (bo4 K20).1
        have lt20_4 := (bo5 K20).1
        have lt20_5 := (bo6 K20).1
        have lt20_6 := (bo7 K20).1
        go_upto_region 19 with fail
        refine bs_to Mz20 ?_
        clear c20_0_0 c20_0_1 c20_1_0 c20_1_1 c20_2_0 c20_2_1 c20_3_0 c20_3_1 c20_4_0 c20_4_1 c20_4_2 c20_4_3 c20_5_0 c20_5_1 c20_6_0 c20_6_1
        intro W21 K21
        clear Mz20 K20
        obtain ⟨c21_0_0, c21_0_1, c21_0_2, c21_0_3⟩ := (bo1 K21).c4
        obtain ⟨c21_1_0, c21_1_1⟩ := (bo2 K21).c2
        obtain ⟨c21_2_0, c21_2_1⟩ := (bo3 K21).c2
        obtain ⟨c21_3_0, c21_3_1⟩ := (bo4 K21).c2
        obtain ⟨c21_4_0, c21_4_1⟩ := (bo5 K21).c2
        obtain ⟨c21_5_0, c21_5_1, c21_5_2, c21_5_3⟩ := (bo6 K21).c4
        obtain ⟨c21_6_0, c21_6_1⟩ := (bo7 K21).c2
        obtain ⟨c21_7_0, c21_7_1⟩ := (bo8 K21).c2
        clear c21_0_0 c21_0_1 c21_0_2 c21_0_3 c21_1_0 c21_1_1 c21_2_0 c21_2_1 c21_3_0 c21_3_1 c21_4_0 c21_4_1 c21_5_0 c21_5_1 c21_5_2 c21_5_3 c21_6_0 c21_6_1 c21_7_0 c21_7_1
        obtain ⟨c21_0_0, c21_0_1, c21_0_2, c21_0_3⟩ := (bo1 K21).c4
        obtain ⟨z21_0_0, z21_0_1, z21_0_2, z21_0_3⟩ := (bo1 K21).f4
        have ne0 : W18.heap.size < W20.heap.size := lt20_0
        have ne1 : W15.heap.size < W20.heap.size := lt20_1
        have ne2 : W6.heap.size < W20.heap.size := lt20_2
        have ne3 : W4.heap.size < W20.heap.size := lt20_3
        have ne4 : w.heap.size + 2 < W20.heap.size := lt20_4
        have ne5 : w.heap.size + 1 < W20.heap.size := lt20_5
        have ne6 : w.heap.size < W20.heap.size := lt20_6
        have Mq : Hid (BS w [(W20.heap.size, [.int .i64 0, .int .i64 x, .int .i64 D, .int .i64 U]), (W18.heap.size, [.int .i64 0, .int .i64 (XV x)]), (W15.heap.size, [.int .i64 0, .int .i64 (XV x)]), (W6.heap.size, [.int .i64 0, .int .i64 r]), (W4.heap.size, [.int .i64 0, .int .i64 p]), (w.heap.size + 2, [.int .i64 0, .int .i64 0, .int .i64 0, .int .i64 0]), (w.heap.size + 1, [.int .i64 0, .int .i64 b]), (w.heap.size, [.int .i64 0, .int .i64 a])] (W21.setCell ⟨W20.heap.size, 1, none⟩ (.int .i64 x))) := K21.out.set1 1 (.int .i64 x) (by simp) (by intro x hx; simp only [List.mem_cons, List.not_mem_nil, or_false] at hx; rcases hx with rfl | rfl | rfl | rfl | rfl | rfl | rfl <;> simp only [] <;> omega)
        go_upto_region 22 with fail
        refine gen_to (BS w [(W20.heap.size, [.int .i64 0, .int .i64 x, .int .i64 D, .int .i64 U]), (W18.heap.size, [.int .i64 0, .int .i64 (XV x)]), (W15.heap.size, [.int .i64 0, .int .i64 (XV x)]), (W6.heap.size, [.int .i64 0, .int .i64 r]), (W4.heap.size, [.int .i64 0, .int .i64 p]), (w.heap.size + 2, [.int .i64 0, .int .i64 0, .int .i64 0, .int .i64 0]), (w.heap.size + 1, [.int .i64 0, .int .i64 b]), (w.heap.size, [.int .i64 0, .int .i64 a])]) Mq.out ?_
        clear c21_0_0 c21_0_1 c21_0_2 c21_0_3 z21_0_0 z21_0_1 z21_0_2 z21_0_3
        intro W22 K22'
        have K22 : Hid (BS w [(W20.heap.size, [.int .i64 0, .int .i64 x, .int .i64 D, .int .i64 U]), (W18.heap.size, [.int .i64 0, .int .i64 (XV x)]), (W15.heap.size, [.int .i64 0, .int .i64 (XV x)]), (W6.heap.size, [.int .i64 0, .int .i64 r]), (W4.heap.size, [.int .i64 0, .int .i64 p]), (w.heap.size + 2, [.int .i64 0, .int .i64 0, .int .i64 0, .int .i64 0]), (w.heap.size + 1, [.int .i64 0, .int .i64 b]), (w.heap.size, [.int .i64 0, .int .i64 a])] W22) := K22'
        clear K22' Mq K21
        obtain ⟨c22_0_0, c22_0_1, c22_0_2, c22_0_3⟩ := (bo1 K22).c4
        obtain ⟨c22_1_0, c22_1_1⟩ := (bo2 K22).c2
        obtain ⟨c22_2_0, c22_2_1⟩ := (bo3 K22).c2
        obtain ⟨c22_3_0, c22_3_1⟩ := (bo4 K22).c2
        obtain ⟨c22_4_0, c22_4_1⟩ := (bo5 K22).c2
        obtain ⟨c22_5_0, c22_5_1, c22_5_2, c22_5_3⟩ := (bo6 K22).c4
        obtain ⟨z22_5_0, z22_5_1, z22_5_2, z22_5_3⟩ := (bo6 K22).f4
        obtain ⟨c22_6_0, c22_6_1⟩ := (bo7 K22).c2
        obtain ⟨c22_7_0, c22_7_1⟩ := (bo8 K22).c2
        have XF : Hid (Bx (W22.setCells (w.heap.size + 2) 0 [.int .i64 0, .int .i64 x, .int .i64 D, .int .i64 U]) (w.heap.size + 2) [.int .i64 0, .int .i64 x, .int .i64 D, .int .i64 U]) := (K22.out.at (w.heap.size + 2) [.int .i64 0, .int .i64 0, .int .i64 0, .int .i64 0] (by simp)).setAll _ rfl
        have BF : Hid (Below w.heap.size w (W22.setCells (w.heap.size + 2) 0 [.int .i64 0, .int .i64 x, .int .i64 D, .int .i64 U])) := below_setCells (by omega) _ _ _ K22.out.1
        have y0 := XF.out.c 0 rfl
        have y1 := XF.out.c 1 rfl
        have y2 := XF.out.c 2 rfl
        have y3 := XF.out.c 3 rfl
        simp only [World.setCells, Nat.zero_add, Nat.reduceAdd] at y0 y1 y2 y3
        clear XF
        go_wp2
        exact bodyPost_ret (v := .tuple #[.agg #[.int .i64 0, .int .i64 x, .int .i64 D, .int .i64 U], .int .i64 0]) (by simp [results, Tryz.results24, go_sem, y0, y1, y2, y3]) rfl ⟨rfl, BF.out⟩
      · have hwk : IntKind.i64.wrap (x - 1) = x - 1 := by rw [IntKind.wrap_i64]; omega
        have A0 := AD x x1 x2
        have C0 := CM x x1 x2
        rcases HG.out x (by omega) x2 with e0 | ⟨e0, c0⟩
        · have e1 : (XE x == 0) = false := by simpa using e0
          obtain ⟨c22_0_0, c22_0_1⟩ := (bo1 KL).c2
          obtain ⟨c22_1_0, c22_1_1⟩ := (bo2 KL).c2
          obtain ⟨c22_2_0, c22_2_1, c22_2_2, c22_2_3⟩ := (bo3 KL).c4
          obtain ⟨c22_3_0, c22_3_1⟩ := (bo4 KL).c2
          obtain ⟨c22_4_0, c22_4_1⟩ := (bo5 KL).c2
          go_wp2_with fail
          refine (A0.out _).mono ?_
          rintro e W23 ⟨rfl, hb⟩
          have hszb := hb.size
          have K23 := bsb KL hb
          clear c22_0_0 c22_0_1 c22_1_0 c22_1_1 c22_2_0 c22_2_1 c22_2_2 c22_2_3 c22_3_0 c22_3_1 c22_4_0 c22_4_1
          clear hb KL
          obtain ⟨c23_0_0, c23_0_1⟩ := (bo1 K23).c2
          obtain ⟨c23_1_0, c23_1_1⟩ := (bo2 K23).c2
          obtain ⟨c23_2_0, c23_2_1, c23_2_2, c23_2_3⟩ := (bo3 K23).c4
          obtain ⟨c23_3_0, c23_3_1⟩ := (bo4 K23).c2
          obtain ⟨c23_4_0, c23_4_1⟩ := (bo5 K23).c2
          have hs1 : W9.heap.size ≤ W23.heap.size := Nat.le_trans hsz hszb
          have hs2 : W9.heap.size ≤ (W23.alloc (.cells #[.int .i64 0, .int .i64 (XV x)] 36)).heap.size := by rw [World.size_alloc]; omega
          have Mz : Hid (BS w [(W23.heap.size, [.int .i64 0, .int .i64 (XV x)]), (W6.heap.size, [.int .i64 0, .int .i64 r]), (W4.heap.size, [.int .i64 0, .int .i64 p]), (w.heap.size + 2, [.int .i64 0, .int .i64 0, .int .i64 0, .int .i64 0]), (w.heap.size + 1, [.int .i64 0, .int .i64 b]), (w.heap.size, [.int .i64 0, .int .i64 a])] (W23.alloc (.cells #[.int .i64 0, .int .i64 (XV x)] 36)) ∧ W9.heap.size ≤ (W23.alloc (.cells #[.int .i64 0, .int .i64 (XV x)] 36)).heap.size) := ⟨K23.out.new [.int .i64 0, .int .i64 (XV x)] 36 rfl, hs2⟩
          go_upto_region 15 with fail
          refine gen_to (fun V => BS w [(W23.heap.size, [.int .i64 0, .int .i64 (XV x)]), (W6.heap.size, [.int .i64 0, .int .i64 r]), (W4.heap.size, [.int .i64 0, .int .i64 p]), (w.heap.size + 2, [.int .i64 0, .int .i64 0, .int .i64 0, .int .i64 0]), (w.heap.size + 1, [.int .i64 0, .int .i64 b]), (w.heap.size, [.int .i64 0, .int .i64 a])] V ∧ W9.heap.size ≤ V.heap.size) Mz.out ?_
          clear c23_0_0 c23_0_1 c23_1_0 c23_1_1 c23_2_0 c23_2_1 c23_2_2 c23_2_3 c23_3_0 c23_3_1 c23_4_0 c23_4_1
          intro W24 K24'
          have K24 : Hid (BS w [(W23.heap.size, [.int .i64 0, .int .i64 (XV x)]), (W6.heap.size, [.int .i64 0, .int .i64 r]), (W4.heap.size, [.int .i64 0, .int .i64 p]), (w.heap.size + 2, [.int .i64 0, .int .i64 0, .int .i64 0, .int .i64 0]), (w.heap.size + 1, [.int .i64 0, .int .i64 b]), (w.heap.size, [.int .i64 0, .int .i64 a])] W24) := K24'.1
          have hs3 := K24'.2
          clear K24' Mz K23 hs1 hs2
          obtain ⟨c24_0_0, c24_0_1⟩ := (bo1 K24).c2
          obtain ⟨c24_1_0, c24_1_1⟩ := (bo2 K24).c2
          obtain ⟨c24_2_0, c24_2_1⟩ := (bo3 K24).c2
          obtain ⟨c24_3_0, c24_3_1, c24_3_2, c24_3_3⟩ := (bo4 K24).c4
          obtain ⟨c24_4_0, c24_4_1⟩ := (bo5 K24).c2
          obtain ⟨c24_5_0, c24_5_1⟩ := (bo6 K24).c2
          go_wp2_with fail
          exact ⟨⟨x - 1, by omega, by omega, rfl, K24.out.tail, by omega⟩, by simp [intOf]; omega⟩
        · rw [e0] at A0
          obtain ⟨c24_0_0, c24_0_1⟩ := (bo1 KL).c2
          obtain ⟨c24_1_0, c24_1_1⟩ := (bo2 KL).c2
          obtain ⟨c24_2_0, c24_2_1, c24_2_2, c24_2_3⟩ := (bo3 KL).c4
          obtain ⟨c24_3_0, c24_3_1⟩ := (bo4 KL).c2
          obtain ⟨c24_4_0, c24_4_1⟩ := (bo5 KL).c2
          go_wp2_with fail
          refine (A0.out _).mono ?_
          rintro e W25 ⟨rfl, hb⟩
          have hszb := hb.size
          have K25 := bsb KL hb
          clear c24_0_0 c24_0_1 c24_1_0 c24_1_1 c24_2_0 c24_2_1 c24_2_2 c24_2_3 c24_3_0 c24_3_1 c24_4_0 c24_4_1
          clear hb KL
          obtain ⟨c25_0_0, c25_0_1⟩ := (bo1 K25).c2
          obtain ⟨c25_1_0, c25_1_1⟩ := (bo2 K25).c2
          obtain ⟨c25_2_0, c25_2_1, c25_2_2, c25_2_3⟩ := (bo3 K25).c4
          obtain ⟨c25_3_0, c25_3_1⟩ := (bo4 K25).c2
          obtain ⟨c25_4_0, c25_4_1⟩ := (bo5 K25).c2
          have hs1 : W9.heap.size ≤ W25.heap.size := Nat.le_trans hsz hszb
          have hs2 : W9.heap.size ≤ (W25.alloc (.cells #[.int .i64 0, .int .i64 (XV x)] 36)).heap.size := by rw [World.size_alloc]; omega
          have Mz : Hid (BS w [(W25.heap.size, [.int .i64 0, .int .i64 (XV x)]), (W6.heap.size, [.int .i64 0, .int .i64 r]), (W4.heap.size, [.int .i64 0, .int .i64 p]), (w.heap.size + 2, [.int .i64 0, .int .i64 0, .int .i64 0, .int .i64 0]), (w.heap.size + 1, [.int .i64 0, .int .i64 b]), (w.heap.size, [.int .i64 0, .int .i64 a])] (W25.alloc (.cells #[.int .i64 0, .int .i64 (XV x)] 36)) ∧ W9.heap.size ≤ (W25.alloc (.cells #[.int .i64 0, .int .i64 (XV x)] 36)).heap.size) := ⟨K25.out.new [.int .i64 0, .int .i64 (XV x)] 36 rfl, hs2⟩
          go_upto_region 15 with fail
          refine gen_to (fun V => BS w [(W25.heap.size, [.int .i64 0, .int .i64 (XV x)]), (W6.heap.size, [.int .i64 0, .int .i64 r]), (W4.heap.size, [.int .i64 0, .int .i64 p]), (w.heap.size + 2, [.int .i64 0, .int .i64 0, .int .i64 0, .int .i64 0]), (w.heap.size + 1, [.int .i64 0, .int .i64 b]), (w.heap.size, [.int .i64 0, .int .i64 a])] V ∧ W9.heap.size ≤ V.heap.size) Mz.out ?_
          clear c25_0_0 c25_0_1 c25_1_0 c25_1_1 c25_2_0 c25_2_1 c25_2_2 c25_2_3 c25_3_0 c25_3_1 c25_4_0 c25_4_1
          intro W26 K26'
          have K26 : Hid (BS w [(W25.heap.size, [.int .i64 0, .int .i64 (XV x)]), (W6.heap.size, [.int .i64 0, .int .i64 r]), (W4.heap.size, [.int .i64 0, .int .i64 p]), (w.heap.size + 2, [.int .i64 0, .int .i64 0, .int .i64 0, .int .i64 0]), (w.heap.size + 1, [.int .i64 0, .int .i64 b]), (w.heap.size, [.int .i64 0, .int .i64 a])] W26) := K26'.1
          have hs3 := K26'.2
          clear K26' Mz K25 hs1 hs2
          obtain ⟨c26_0_0, c26_0_1⟩ := (bo1 K26).c2
          obtain ⟨c26_1_0, c26_1_1⟩ := (bo2 K26).c2
          obtain ⟨c26_2_0, c26_2_1⟩ := (bo3 K26).c2
          obtain ⟨c26_3_0, c26_3_1, c26_3_2, c26_3_3⟩ := (bo4 K26).c4
          obtain ⟨c26_4_0, c26_4_1⟩ := (bo5 K26).c2
          obtain ⟨c26_5_0, c26_5_1⟩ := (bo6 K26).c2
          go_wp2_with fail
          refine (C0.out _).mono ?_
          rintro e W27 ⟨rfl, hb⟩
          have hszc := hb.size
          have K27 := bsb K26 hb
          clear c26_0_0 c26_0_1 c26_1_0 c26_1_1 c26_2_0 c26_2_1 c26_3_0 c26_3_1 c26_3_2 c26_3_3 c26_4_0 c26_4_1 c26_5_0 c26_5_1
          clear hb K26
          obtain ⟨c27_0_0, c27_0_1⟩ := (bo1 K27).c2
          obtain ⟨c27_1_0, c27_1_1⟩ := (bo2 K27).c2
          obtain ⟨c27_2_0, c27_2_1⟩ := (bo3 K27).c2
          obtain ⟨c27_3_0, c27_3_1, c27_3_2, c27_3_3⟩ := (bo4 K27).c4
          obtain ⟨c27_4_0, c27_4_1⟩ := (bo5 K27).c2
          obtain ⟨c27_5_0, c27_5_1⟩ := (bo6 K27).c2
          go_wp2_with fail
          exact ⟨⟨x - 1, by omega, by omega, rfl, K27.out.tail, by omega⟩, by simp [intOf]; omega⟩


end Go.Proofs.YtigeccplombggaaGreatDoor
