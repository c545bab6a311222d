/- The walk of StampSubs. -/
import Derived.Test.YtigeccplombggaaGreatDoorStLq
import Derived.Test.YtigeccplombggaaGreatDoorStXq
import Derived.Test.YtigeccplombggaaGreatDoorBxCq
import Derived.Deep.Cut
namespace Go.Proofs.YtigeccplombggaaGreatDoor
open Go.RowKit
set_option linter.unusedVariables false

set_option maxRecDepth 100000 in
set_option maxHeartbeats 4000000 in
theorem subs_run (i a j b I D U E x0 x1 x2 x3 x4 : Int)
    (S1 : Hid (∀ w : World, Cvl.Lens w → Calls Tryz.prog 21 #[.agg #[.int .i64 i, .int .i64 a], .agg #[.int .i64 j, .int .i64 b]] w fun r' w' => r' = .returned (.tuple #[.agg #[.int .i64 I, .int .i64 0, .int .i64 D, .int .i64 U], .int .i64 E]) ∧ Below w.heap.size w w'))
    (S2 : Hid (∀ w : World, Calls Tryz.prog 22 #[.agg #[.int .i64 i, .int .i64 a], .agg #[.int .i64 j, .int .i64 b]] w fun r' w' => r' = .returned (.tuple #[.agg #[.int .i64 I, .int .i64 0, .int .i64 D, .int .i64 U], .int .i64 E]) ∧ Below w.heap.size w w'))
    (A1 : Hid (∀ w : World, Cvl.Lens w → Calls Tryz.prog 23 #[.agg #[.int .i64 i, .int .i64 a], .agg #[.int .i64 j, .int .i64 b]] w fun r' w' => r' = .returned (.tuple #[.agg #[.int .i64 x0, .int .i64 x1, .int .i64 x2, .int .i64 x3], .int .i64 x4]) ∧ Below w.heap.size w w'))
    (A2 : Hid (∀ w : World, Calls Tryz.prog 24 #[.agg #[.int .i64 i, .int .i64 a], .agg #[.int .i64 j, .int .i64 b]] w fun r' w' => r' = .returned (.tuple #[.agg #[.int .i64 x0, .int .i64 x1, .int .i64 x2, .int .i64 x3], .int .i64 x4]) ∧ Below w.heap.size w w'))
    (KN : Hid (∀ w : World, Cvl.Lens w → Calls Tryz.prog 16 #[] w fun r' w' => r' = .returned (.bool true) ∧ Below w.heap.size w w'))
    (w : World) (hL : Hid (∀ W : World, Below w.heap.size w W → Cvl.Lens W)) :
    Calls Tryz.prog 5 #[.agg #[.int .i64 i, .int .i64 a], .agg #[.int .i64 j, .int .i64 b]] w fun r' w' => r' = .returned (.bool true) ∧ Below w.heap.size w w' := by
  have K0 : Hid (BS w [(w.heap.size + 1, [.int .i64 j, .int .i64 b]), (w.heap.size, [.int .i64 i, .int .i64 a])] ((w.alloc (.cells #[.int .i64 i, .int .i64 a] 36)).alloc (.cells #[.int .i64 j, .int .i64 b] 36))) := (((BS.start w).new [.int .i64 i, .int .i64 a] 36 rfl).new [.int .i64 j, .int .i64 b] 36 (by simp))
  go_enter Tryz.func5, Tryz.ntmps5
  go_wp2_with fail
  refine (S1.out _ (hL.out _ K0.out.1)).mono ?_
  rintro e W1 ⟨rfl, hb⟩
  have K1 := bsb K0 hb
  clear hb K0
  obtain ⟨c1_0_0, c1_0_1⟩ := (bo1 K1).c2
  obtain ⟨c1_1_0, c1_1_1⟩ := (bo2 K1).c2
  have Mz1 := bsn K1 [.int .i64 I, .int .i64 0, .int .i64 D, .int .i64 U] 59
  have lt1_0 := (bo1 K1).1
  have lt1_1 := (bo2 K1).1
  go_upto_region 2 with fail
  refine bs_to Mz1 ?_
  clear c1_0_0 c1_0_1 c1_1_0 c1_1_1
  intro W2 K2
  clear Mz1 K1
  obtain ⟨c2_0_0, c2_0_1, c2_0_2, c2_0_3⟩ := (bo1 K2).c4
  obtain ⟨c2_1_0, c2_1_1⟩ := (bo2 K2).c2
  obtain ⟨c2_2_0, c2_2_1⟩ := (bo3 K2).c2
  go_wp2_with fail
  refine (S2.out _).mono ?_
  rintro e W3 ⟨rfl, hb⟩
  have K3 := bsb K2 hb
  clear c2_0_0 c2_0_1 c2_0_2 c2_0_3 c2_1_0 c2_1_1 c2_2_0 c2_2_1
  clear hb K2
  obtain ⟨c3_0_0, c3_0_1, c3_0_2, c3_0_3⟩ := (bo1 K3).c4
  obtain ⟨c3_1_0, c3_1_1⟩ := (bo2 K3).c2
  obtain ⟨c3_2_0, c3_2_1⟩ := (bo3 K3).c2
  have Mz3 := bsn K3 [.int .i64 I, .int .i64 0, .int .i64 D, .int .i64 U] 59
  have lt3_0 := (bo1 K3).1
  have lt3_1 := (bo2 K3).1
  have lt3_2 := (bo3 K3).1
  go_upto_region 3 with fail
  refine bs_to Mz3 ?_
  clear c3_0_0 c3_0_1 c3_0_2 c3_0_3 c3_1_0 c3_1_1 c3_2_0 c3_2_1
  intro W4 K4
  clear Mz3 K3
  obtain ⟨c4_0_0, c4_0_1, c4_0_2, c4_0_3⟩ := (bo1 K4).c4
  obtain ⟨c4_1_0, c4_1_1, c4_1_2, c4_1_3⟩ := (bo2 K4).c4
  obtain ⟨c4_2_0, c4_2_1⟩ := (bo3 K4).c2
  obtain ⟨c4_3_0, c4_3_1⟩ := (bo4 K4).c2
  go_wp2_with fail
  refine (A1.out _ (hL.out _ K4.out.1)).mono ?_
  rintro e W5 ⟨rfl, hb⟩
  have K5 := bsb K4 hb
  clear c4_0_0 c4_0_1 c4_0_2 c4_0_3 c4_1_0 c4_1_1 c4_1_2 c4_1_3 c4_2_0 c4_2_1 c4_3_0 c4_3_1
  clear hb K4
  obtain ⟨c5_0_0, c5_0_1, c5_0_2, c5_0_3⟩ := (bo1 K5).c4
  obtain ⟨c5_1_0, c5_1_1, c5_1_2, c5_1_3⟩ := (bo2 K5).c4
  obtain ⟨c5_2_0, c5_2_1⟩ := (bo3 K5).c2
  obtain ⟨c5_3_0, c5_3_1⟩ := (bo4 K5).c2
  have Mz5 := bsn K5 [.int .i64 x0, .int .i64 x1, .int .i64 x2, .int .i64 x3] 59
  have lt5_0 := (bo1 K5).1
  have lt5_1 := (bo2 K5).1
  have lt5_2 := (bo3 K5).1
  have lt5_3 := (bo4 K5).1
  go_upto_region 4 with fail
  refine bs_to Mz5 ?_
  clear c5_0_0 c5_0_1 c5_0_2 c5_0_3 c5_1_0 c5_1_1 c5_1_2 c5_1_3 c5_2_0 c5_2_1 c5_3_0 c5_3_1
  intro W6 K6
  clear Mz5 K5
  obtain ⟨c6_0_0, c6_0_1, c6_0_2, c6_0_3⟩ := (bo1 K6).c4
  obtain ⟨c6_1_0, c6_1_1, c6_1_2, c6_1_3⟩ := (bo2 K6).c4
  obtain ⟨c6_2_0, c6_2_1, c6_2_2, c6_2_3⟩ := (bo3 K6).c4
  obtain ⟨c6_3_0, c6_3_1⟩ := (bo4 K6).c2
  obtain ⟨c6_4_0, c6_4_1⟩ := (bo5 K6).c2
  go_wp2_with fail
  refine (A2.out _).mono ?_
  rintro e W7 ⟨rfl, hb⟩
  have K7 := bsb K6 hb
  clear c6_0_0 c6_0_1 c6_0_2 c6_0_3 c6_1_0 c6_1_1 c6_1_2 c6_1_3 c6_2_0 c6_2_1 c6_2_2 c6_2_3 c6_3_0 c6_3_1 c6_4_0 c6_4_1
  clear hb K6
  obtain ⟨c7_0_0, c7_0_1, c7_0_2, c7_0_3⟩ := (bo1 K7).c4
  obtain ⟨c7_1_0, c7_1_1, c7_1_2, c7_1_3⟩ := (bo2 K7).c4
  obtain ⟨c7_2_0, c7_2_1, c7_2_2, c7_2_3⟩ := (bo3 K7).c4
  obtain ⟨c7_3_0, c7_3_1⟩ := (bo4 K7).c2
  obtain ⟨c7_4_0, c7_4_1⟩ := (bo5 K7).c2
  have Mz7 := bsn K7 [.int .i64 x0, .int .i64 x1, .int .i64 x2, .int .i64 x3] 59
  have lt7_0 := (bo1 K7).1
  have lt7_1 := (bo2 K7).1
  have lt7_2 := (bo3 K7).1
  have lt7_3 := (bo4 K7).1
  have lt7_4 := (bo5 K7).1
  go_upto_region 5 with fail
  refine bs_to Mz7 ?_
  clear c7_0_0 c7_0_1 c7_0_2 c7_0_3 c7_1_0 c7_1_1 c7_1_2 c7_1_3 c7_2_0 c7_2_1 c7_2_2 c7_2_3 c7_3_0 c7_3_1 c7_4_0 c7_4_1
  intro W8 K8
  clear Mz7 K7
  obtain ⟨c8_0_0, c8_0_1, c8_0_2, c8_0_3⟩ := (bo1 K8).c4
  obtain ⟨c8_1_0, c8_1_1, c8_1_2, c8_1_3⟩ := (bo2 K8).c4
  obtain ⟨c8_2_0, c8_2_1, c8_2_2, c8_2_3⟩ := (bo3 K8).c4
  obtain ⟨c8_3_0, c8_3_1, c8_3_2, c8_3_3⟩ := (bo4 K8).c4
  obtain ⟨c8_4_0, c8_4_1⟩ := (bo5 K8).c2
  obtain ⟨c8_5_0, c8_5_1⟩ := (bo6 K8).c2
  go_wp2_with fail
  refine (KN.out _ (hL.out _ K8.out.1)).mono ?_
  rintro e W9 ⟨rfl, hb⟩
  have K9 := bsb K8 hb
  clear c8_0_0 c8_0_1 c8_0_2 c8_0_3 c8_1_0 c8_1_1 c8_1_2 c8_1_3 c8_2_0 c8_2_1 c8_2_2 c8_2_3 c8_3_0 c8_3_1 c8_3_2 c8_3_3 c8_4_0 c8_4_1 c8_5_0 c8_5_1
  clear hb K8
  obtain ⟨c9_0_0, c9_0_1, c9_0_2, c9_0_3⟩ := (bo1 K9).c4
  obtain ⟨c9_1_0, c9_1_1, c9_1_2, c9_1_3⟩ := (bo2 K9).c4
  obtain ⟨c9_2_0, c9_2_1, c9_2_2, c9_2_3⟩ := (bo3 K9).c4
  obtain ⟨c9_3_0, c9_3_1, c9_3_2, c9_3_3⟩ := (bo4 K9).c4
  obtain ⟨c9_4_0, c9_4_1⟩ := (bo5 K9).c2
  obtain ⟨c9_5_0, c9_5_1⟩ := (bo6 K9).c2
  go_wp2
  go_ret
  exact ⟨rfl, K9.out.1⟩


end Go.Proofs.YtigeccplombggaaGreatDoor
