/- The walk of OpsOverlaps. -/
import Derived.Test.YtofmmdfdiaahhaaGreatDoorOpKq
import Derived.Test.YtofmmdfdiaahhaaGreatDoorOpOq
namespace Go.Proofs.YtofmmdfdiaahhaaGreatDoor
open Go.RowKit
set_option linter.unusedVariables false

set_option maxRecDepth 100000 in
set_option maxHeartbeats 4000000 in
theorem overlaps_run (i0 a i1 b i2 c i3 d e : Int) (x : Bool)
    (V1 : Hid (∀ w : World, LO w → Calls Tryz.prog 7 #[.agg #[.int .i64 i0, .int .i64 a], .agg #[.int .i64 i1, .int .i64 b], .agg #[.int .i64 i2, .int .i64 c], .agg #[.int .i64 i3, .int .i64 d]] w fun r' w' => r' = .returned (.tuple #[.bool x, .int .i64 e]) ∧ Below w.heap.size w w'))
    (V2 : Hid (∀ w : World, Calls Tryz.prog 8 #[.agg #[.int .i64 i0, .int .i64 a], .agg #[.int .i64 i1, .int .i64 b], .agg #[.int .i64 i2, .int .i64 c], .agg #[.int .i64 i3, .int .i64 d]] w fun r' w' => r' = .returned (.tuple #[.bool x, .int .i64 e]) ∧ Below w.heap.size w w'))
    (V3 : Hid (∀ w : World, LO w → Calls Tryz.prog 7 #[.agg #[.int .i64 i3, .int .i64 d], .agg #[.int .i64 i2, .int .i64 c], .agg #[.int .i64 i1, .int .i64 b], .agg #[.int .i64 i0, .int .i64 a]] w fun r' w' => r' = .returned (.tuple #[.bool x, .int .i64 e]) ∧ Below w.heap.size w w'))
    (KN : Hid (∀ w : World, LO w → Calls Tryz.prog 9 #[] w fun r' w' => r' = .returned (.bool true) ∧ Below w.heap.size w w'))
    (w : World) (hL : Hid (∀ W : World, Below w.heap.size w W → LO W)) :
    Calls Tryz.prog 3 #[.agg #[.int .i64 i0, .int .i64 a], .agg #[.int .i64 i1, .int .i64 b], .agg #[.int .i64 i2, .int .i64 c], .agg #[.int .i64 i3, .int .i64 d]] w fun r' w' => r' = .returned (.bool true) ∧ Below w.heap.size w w' := by
  have K0 : Hid (BS w [(w.heap.size + 3, [.int .i64 i3, .int .i64 d]), (w.heap.size + 2, [.int .i64 i2, .int .i64 c]), (w.heap.size + 1, [.int .i64 i1, .int .i64 b]), (w.heap.size, [.int .i64 i0, .int .i64 a])] ((((w.alloc (.cells #[.int .i64 i0, .int .i64 a] 23)).alloc (.cells #[.int .i64 i1, .int .i64 b] 23)).alloc (.cells #[.int .i64 i2, .int .i64 c] 23)).alloc (.cells #[.int .i64 i3, .int .i64 d] 23))) := (((((BS.start w).new [.int .i64 i0, .int .i64 a] 23 rfl).new [.int .i64 i1, .int .i64 b] 23 (by simp)).new [.int .i64 i2, .int .i64 c] 23 (by simp)).new [.int .i64 i3, .int .i64 d] 23 (by simp))
  go_enter Tryz.func3, Tryz.ntmps3
  go_wp2_with fail
  refine (V1.out _ (hL.out _ K0.out.1)).mono ?_
  rintro e W1 ⟨rfl, hb⟩
  have K1 := bsb K0 hb
  clear hb K0
  obtain ⟨c1_0_0, c1_0_1⟩ := (bo1 K1).c2
  obtain ⟨c1_1_0, c1_1_1⟩ := (bo2 K1).c2
  obtain ⟨c1_2_0, c1_2_1⟩ := (bo3 K1).c2
  obtain ⟨c1_3_0, c1_3_1⟩ := (bo4 K1).c2
  go_wp2_with fail
  refine (V2.out _).mono ?_
  rintro e W2 ⟨rfl, hb⟩
  have K2 := bsb K1 hb
  clear c1_0_0 c1_0_1 c1_1_0 c1_1_1 c1_2_0 c1_2_1 c1_3_0 c1_3_1
  clear hb K1
  obtain ⟨c2_0_0, c2_0_1⟩ := (bo1 K2).c2
  obtain ⟨c2_1_0, c2_1_1⟩ := (bo2 K2).c2
  obtain ⟨c2_2_0, c2_2_1⟩ := (bo3 K2).c2
  obtain ⟨c2_3_0, c2_3_1⟩ := (bo4 K2).c2
  go_wp2_with fail
  refine (V3.out _ (hL.out _ K2.out.1)).mono ?_
  rintro e W3 ⟨rfl, hb⟩
  have K3 := bsb K2 hb
  clear c2_0_0 c2_0_1 c2_1_0 c2_1_1 c2_2_0 c2_2_1 c2_3_0 c2_3_1
  clear hb K2
  obtain ⟨c3_0_0, c3_0_1⟩ := (bo1 K3).c2
  obtain ⟨c3_1_0, c3_1_1⟩ := (bo2 K3).c2
  obtain ⟨c3_2_0, c3_2_1⟩ := (bo3 K3).c2
  obtain ⟨c3_3_0, c3_3_1⟩ := (bo4 K3).c2
  go_wp2_with fail
  refine (KN.out _ (hL.out _ K3.out.1)).mono ?_
  rintro e W4 ⟨rfl, hb⟩
  have K4 := bsb K3 hb
  clear c3_0_0 c3_0_1 c3_1_0 c3_1_1 c3_2_0 c3_2_1 c3_3_0 c3_3_1
  clear hb K3
  obtain ⟨c4_0_0, c4_0_1⟩ := (bo1 K4).c2
  obtain ⟨c4_1_0, c4_1_1⟩ := (bo2 K4).c2
  obtain ⟨c4_2_0, c4_2_1⟩ := (bo3 K4).c2
  obtain ⟨c4_3_0, c4_3_1⟩ := (bo4 K4).c2
  go_wp2
  go_ret
  exact ⟨rfl, K4.out.1⟩


end Go.Proofs.YtofmmdfdiaahhaaGreatDoor
