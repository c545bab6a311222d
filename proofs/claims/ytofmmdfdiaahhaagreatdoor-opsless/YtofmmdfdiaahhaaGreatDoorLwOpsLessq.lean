/- The walk of OpsLess. -/
import Derived.Test.YtofmmdfdiaahhaaGreatDoorOpKq
namespace Go.Proofs.YtofmmdfdiaahhaaGreatDoor
open Go.RowKit
set_option linter.unusedVariables false

set_option maxRecDepth 100000 in
set_option maxHeartbeats 4000000 in
theorem less_e (s : ByteArray) (i u a v e : Int) (he : e ≠ 0)
    (T1 : Hid (∀ w : World, LO w → Calls Tryz.prog 10 #[.string s, .agg #[.int .i64 i, .int .i64 u]] w fun r' w' => r' = .returned (.tuple #[.agg #[.int .i64 a, .int .i64 v], .int .i64 e]) ∧ Below w.heap.size w w'))
    (KN : Hid (∀ w : World, LO w → Calls Tryz.prog 9 #[] w fun r' w' => r' = .returned (.bool true) ∧ Below w.heap.size w w'))
    (w : World) (hL : Hid (∀ W : World, Below w.heap.size w W → LO W)) :
    Calls Tryz.prog 4 #[.string s, .agg #[.int .i64 i, .int .i64 u]] w fun r' w' => r' = .returned (.bool true) ∧ Below w.heap.size w w' := by
  have e1 : (e != 0) = true := bne_iff_ne.2 he
  have K0 : Hid (BS w [(w.heap.size, [.int .i64 i, .int .i64 u])] (w.alloc (.cells #[.int .i64 i, .int .i64 u] 23))) := ((BS.start w).new [.int .i64 i, .int .i64 u] 23 rfl)
  go_enter Tryz.func4, Tryz.ntmps4
  go_wp2_with fail
  refine (T1.out _ (hL.out _ K0.out.1)).mono ?_
  rintro e W1 ⟨rfl, hb⟩
  have K1 := bsb K0 hb
  clear hb K0
  obtain ⟨c1_0_0, c1_0_1⟩ := (bo1 K1).c2
  have Mz1 := bsn K1 [.int .i64 a, .int .i64 v] 23
  have lt1_0 := (bo1 K1).1
  go_upto_region 2 with fail
  refine bs_to Mz1 ?_
  clear c1_0_0 c1_0_1
  intro W2 K2
  clear Mz1 K1
  obtain ⟨c2_0_0, c2_0_1⟩ := (bo1 K2).c2
  obtain ⟨c2_1_0, c2_1_1⟩ := (bo2 K2).c2
  go_wp2_with fail
  refine (KN.out _ (hL.out _ K2.out.1)).mono ?_
  rintro e W3 ⟨rfl, hb⟩
  have K3 := bsb K2 hb
  clear c2_0_0 c2_0_1 c2_1_0 c2_1_1
  clear hb K2
  obtain ⟨c3_0_0, c3_0_1⟩ := (bo1 K3).c2
  obtain ⟨c3_1_0, c3_1_1⟩ := (bo2 K3).c2
  go_wp2
  go_ret
  exact ⟨rfl, K3.out.1⟩

set_option maxRecDepth 100000 in
set_option maxHeartbeats 4000000 in
theorem less_ok (s : ByteArray) (i u a v y0 y1 m0 m1 d0 d1 c1 c2 c3 : Int) (h1 : ¬ 0 < c1) (h2 : c2 ≤ 0) (h3 : c3 ≤ 0)
    (T1 : Hid (∀ w : World, LO w → Calls Tryz.prog 10 #[.string s, .agg #[.int .i64 i, .int .i64 u]] w fun r' w' => r' = .returned (.tuple #[.agg #[.int .i64 a, .int .i64 v], .int .i64 0]) ∧ Below w.heap.size w w'))
    (T2 : Hid (∀ w : World, LO w → Calls Tryz.prog 10 #[.string s, .agg #[.int .i64 a, .int .i64 v]] w fun r' w' => r' = .returned (.tuple #[.agg #[.int .i64 a, .int .i64 v], .int .i64 0]) ∧ Below w.heap.size w w'))
    (C1 : Hid (∀ w : World, Calls Tryz.prog 11 #[.agg #[.int .i64 a, .int .i64 v], .agg #[.int .i64 i, .int .i64 u]] w fun r' w' => r' = .returned (.int .i64 c1) ∧ Below w.heap.size w w'))
    (TY : Hid (∀ w : World, LO w → Calls Tryz.prog 10 #[.string ⟨#[121, 101, 97, 114]⟩, .agg #[.int .i64 i, .int .i64 u]] w fun r' w' => r' = .returned (.tuple #[.agg #[.int .i64 y0, .int .i64 y1], .int .i64 0]) ∧ Below w.heap.size w w'))
    (TM : Hid (∀ w : World, LO w → Calls Tryz.prog 10 #[.string ⟨#[109, 111, 110, 116, 104]⟩, .agg #[.int .i64 i, .int .i64 u]] w fun r' w' => r' = .returned (.tuple #[.agg #[.int .i64 m0, .int .i64 m1], .int .i64 0]) ∧ Below w.heap.size w w'))
    (TD : Hid (∀ w : World, LO w → Calls Tryz.prog 10 #[.string ⟨#[100, 97, 121]⟩, .agg #[.int .i64 i, .int .i64 u]] w fun r' w' => r' = .returned (.tuple #[.agg #[.int .i64 d0, .int .i64 d1], .int .i64 0]) ∧ Below w.heap.size w w'))
    (C2 : Hid (∀ w : World, Calls Tryz.prog 11 #[.agg #[.int .i64 y0, .int .i64 y1], .agg #[.int .i64 m0, .int .i64 m1]] w fun r' w' => r' = .returned (.int .i64 c2) ∧ Below w.heap.size w w'))
    (C3 : Hid (∀ w : World, Calls Tryz.prog 11 #[.agg #[.int .i64 m0, .int .i64 m1], .agg #[.int .i64 d0, .int .i64 d1]] w fun r' w' => r' = .returned (.int .i64 c3) ∧ Below w.heap.size w w'))
    (KN : Hid (∀ w : World, LO w → Calls Tryz.prog 9 #[] w fun r' w' => r' = .returned (.bool true) ∧ Below w.heap.size w w'))
    (w : World) (hL : Hid (∀ W : World, Below w.heap.size w W → LO W)) :
    Calls Tryz.prog 4 #[.string s, .agg #[.int .i64 i, .int .i64 u]] w fun r' w' => r' = .returned (.bool true) ∧ Below w.heap.size w w' := by
  have K0 : Hid (BS w [(w.heap.size, [.int .i64 i, .int .i64 u])] (w.alloc (.cells #[.int .i64 i, .int .i64 u] 23))) := ((BS.start w).new [.int .i64 i, .int .i64 u] 23 rfl)
  go_enter Tryz.func4, Tryz.ntmps4
  go_wp2_with fail
  refine (T1.out _ (hL.out _ K0.out.1)).mono ?_
  rintro e W1 ⟨rfl, hb⟩
  have K1 := bsb K0 hb
  clear hb K0
  obtain ⟨c1_0_0, c1_0_1⟩ := (bo1 K1).c2
  have Mz1 := bsn K1 [.int .i64 a, .int .i64 v] 23
  have lt1_0 := (bo1 K1).1
  go_upto_region 2 with fail
  refine bs_to Mz1 ?_
  clear c1_0_0 c1_0_1
  intro W2 K2
  clear Mz1 K1
  obtain ⟨c2_0_0, c2_0_1⟩ := (bo1 K2).c2
  obtain ⟨c2_1_0, c2_1_1⟩ := (bo2 K2).c2
  go_wp2_with fail
  refine (T2.out _ (hL.out _ K2.out.1)).mono ?_
  rintro e W3 ⟨rfl, hb⟩
  have K3 := bsb K2 hb
  clear c2_0_0 c2_0_1 c2_1_0 c2_1_1
  clear hb K2
  obtain ⟨c3_0_0, c3_0_1⟩ := (bo1 K3).c2
  obtain ⟨c3_1_0, c3_1_1⟩ := (bo2 K3).c2
  have Mz3 := bsn K3 [.int .i64 a, .int .i64 v] 23
  have lt3_0 := (bo1 K3).1
  have lt3_1 := (bo2 K3).1
  go_upto_region 5 with fail
  refine bs_to Mz3 ?_
  clear c3_0_0 c3_0_1 c3_1_0 c3_1_1
  intro W4 K4
  clear Mz3 K3
  obtain ⟨c4_0_0, c4_0_1⟩ := (bo1 K4).c2
  obtain ⟨c4_1_0, c4_1_1⟩ := (bo2 K4).c2
  obtain ⟨c4_2_0, c4_2_1⟩ := (bo3 K4).c2
  go_wp2_with fail
  refine (C1.out _).mono ?_
  rintro e W5 ⟨rfl, hb⟩
  have K5 := bsb K4 hb
  clear c4_0_0 c4_0_1 c4_1_0 c4_1_1 c4_2_0 c4_2_1
  clear hb K4
  obtain ⟨c5_0_0, c5_0_1⟩ := (bo1 K5).c2
  obtain ⟨c5_1_0, c5_1_1⟩ := (bo2 K5).c2
  obtain ⟨c5_2_0, c5_2_1⟩ := (bo3 K5).c2
  go_wp2_with fail
  refine (TY.out _ (hL.out _ K5.out.1)).mono ?_
  rintro e W6 ⟨rfl, hb⟩
  have K6 := bsb K5 hb
  clear c5_0_0 c5_0_1 c5_1_0 c5_1_1 c5_2_0 c5_2_1
  clear hb K5
  obtain ⟨c6_0_0, c6_0_1⟩ := (bo1 K6).c2
  obtain ⟨c6_1_0, c6_1_1⟩ := (bo2 K6).c2
  obtain ⟨c6_2_0, c6_2_1⟩ := (bo3 K6).c2
  have Mz6 := bsn K6 [.int .i64 y0, .int .i64 y1] 23
  have lt6_0 := (bo1 K6).1
  have lt6_1 := (bo2 K6).1
  have lt6_2 := (bo3 K6).1
  go_upto_region 8 with fail
  refine bs_to Mz6 ?_
  clear c6_0_0 c6_0_1 c6_1_0 c6_1_1 c6_2_0 c6_2_1
  intro W7 K7
  clear Mz6 K6
  obtain ⟨c7_0_0, c7_0_1⟩ := (bo1 K7).c2
  obtain ⟨c7_1_0, c7_1_1⟩ := (bo2 K7).c2
  obtain ⟨c7_2_0, c7_2_1⟩ := (bo3 K7).c2
  obtain ⟨c7_3_0, c7_3_1⟩ := (bo4 K7).c2
  go_wp2_with fail
  refine (TM.out _ (hL.out _ K7.out.1)).mono ?_
  rintro e W8 ⟨rfl, hb⟩
  have K8 := bsb K7 hb
  clear c7_0_0 c7_0_1 c7_1_0 c7_1_1 c7_2_0 c7_2_1 c7_3_0 c7_3_1
  clear hb K7
  obtain ⟨c8_0_0, c8_0_1⟩ := (bo1 K8).c2
  obtain ⟨c8_1_0, c8_1_1⟩ := (bo2 K8).c2
  obtain ⟨c8_2_0, c8_2_1⟩ := (bo3 K8).c2
  obtain ⟨c8_3_0, c8_3_1⟩ := (bo4 K8).c2
  have Mz8 := bsn K8 [.int .i64 m0, .int .i64 m1] 23
  have lt8_0 := (bo1 K8).1
  have lt8_1 := (bo2 K8).1
  have lt8_2 := (bo3 K8).1
  have lt8_3 := (bo4 K8).1
  go_upto_region 9 with fail
  refine bs_to Mz8 ?_
  clear c8_0_0 c8_0_1 c8_1_0 c8_1_1 c8_2_0 c8_2_1 c8_3_0 c8_3_1
  intro W9 K9
  clear Mz8 K8
  obtain ⟨c9_0_0, c9_0_1⟩ := (bo1 K9).c2
  obtain ⟨c9_1_0, c9_1_1⟩ := (bo2 K9).c2
  obtain ⟨c9_2_0, c9_2_1⟩ := (bo3 K9).c2
  obtain ⟨c9_3_0, c9_3_1⟩ := (bo4 K9).c2
  obtain ⟨c9_4_0, c9_4_1⟩ := (bo5 K9).c2
  go_wp2_with fail
  refine (TD.out _ (hL.out _ K9.out.1)).mono ?_
  rintro e W10 ⟨rfl, hb⟩
  have K10 := bsb K9 hb
  clear c9_0_0 c9_0_1 c9_1_0 c9_1_1 c9_2_0 c9_2_1 c9_3_0 c9_3_1 c9_4_0 c9_4_1
  clear hb K9
  obtain ⟨c10_0_0, c10_0_1⟩ := (bo1 K10).c2
  obtain ⟨c10_1_0, c10_1_1⟩ := (bo2 K10).c2
  obtain ⟨c10_2_0, c10_2_1⟩ := (bo3 K10).c2
  obtain ⟨c10_3_0, c10_3_1⟩ := (bo4 K10).c2
  obtain ⟨c10_4_0, c10_4_1⟩ := (bo5 K10).c2
  have Mz10 := bsn K10 [.int .i64 d0, .int .i64 d1] 23
  have lt10_0 := (bo1 K10).1
  have lt10_1 := (bo2 K10).1
  have lt10_2 := (bo3 K10).1
  have lt10_3 := (bo4 K10).1
  have lt10_4 := (bo5 K10).1
  go_upto_region 10 with fail
  refine bs_to Mz10 ?_
  clear c10_0_0 c10_0_1 c10_1_0 c10_1_1 c10_2_0 c10_2_1 c10_3_0 c10_3_1 c10_4_0 c10_4_1
  intro W11 K11
  clear Mz10 K10
  obtain ⟨c11_0_0, c11_0_1⟩ := (bo1 K11).c2
  obtain ⟨c11_1_0, c11_1_1⟩ := (bo2 K11).c2
  obtain ⟨c11_2_0, c11_2_1⟩ := (bo3 K11).c2
  obtain ⟨c11_3_0, c11_3_1⟩ := (bo4 K11).c2
  obtain ⟨c11_4_0, c11_4_1⟩ := (bo5 K11).c2
  obtain ⟨c11_5_0, c11_5_1⟩ := (bo6 K11).c2
  go_wp2_with fail
  refine (C2.out _).mono ?_
  rintro e W12 ⟨rfl, hb⟩
  have K12 := bsb K11 hb
  clear c11_0_0 c11_0_1 c11_1_0 c11_1_1 c11_2_0 c11_2_1 c11_3_0 c11_3_1 c11_4_0 c11_4_1 c11_5_0 c11_5_1
  clear hb K11
  obtain ⟨c12_0_0, c12_0_1⟩ := (bo1 K12).c2
  obtain ⟨c12_1_0, c12_1_1⟩ := (bo2 K12).c2
  obtain ⟨c12_2_0, c12_2_1⟩ := (bo3 K12).c2
  obtain ⟨c12_3_0, c12_3_1⟩ := (bo4 K12).c2
  obtain ⟨c12_4_0, c12_4_1⟩ := (bo5 K12).c2
  obtain ⟨c12_5_0, c12_5_1⟩ := (bo6 K12).c2
  go_wp2_with fail
  refine (C3.out _).mono ?_
  rintro e W13 ⟨rfl, hb⟩
  have K13 := bsb K12 hb
  clear c12_0_0 c12_0_1 c12_1_0 c12_1_1 c12_2_0 c12_2_1 c12_3_0 c12_3_1 c12_4_0 c12_4_1 c12_5_0 c12_5_1
  clear hb K12
  obtain ⟨c13_0_0, c13_0_1⟩ := (bo1 K13).c2
  obtain ⟨c13_1_0, c13_1_1⟩ := (bo2 K13).c2
  obtain ⟨c13_2_0, c13_2_1⟩ := (bo3 K13).c2
  obtain ⟨c13_3_0, c13_3_1⟩ := (bo4 K13).c2
  obtain ⟨c13_4_0, c13_4_1⟩ := (bo5 K13).c2
  obtain ⟨c13_5_0, c13_5_1⟩ := (bo6 K13).c2
  go_wp2_with fail
  refine (KN.out _ (hL.out _ K13.out.1)).mono ?_
  rintro e W14 ⟨rfl, hb⟩
  have K14 := bsb K13 hb
  clear c13_0_0 c13_0_1 c13_1_0 c13_1_1 c13_2_0 c13_2_1 c13_3_0 c13_3_1 c13_4_0 c13_4_1 c13_5_0 c13_5_1
  clear hb K13
  obtain ⟨c14_0_0, c14_0_1⟩ := (bo1 K14).c2
  obtain ⟨c14_1_0, c14_1_1⟩ := (bo2 K14).c2
  obtain ⟨c14_2_0, c14_2_1⟩ := (bo3 K14).c2
  obtain ⟨c14_3_0, c14_3_1⟩ := (bo4 K14).c2
  obtain ⟨c14_4_0, c14_4_1⟩ := (bo5 K14).c2
  obtain ⟨c14_5_0, c14_5_1⟩ := (bo6 K14).c2
  go_wp2
  go_ret
  exact ⟨rfl, K14.out.1⟩


end Go.Proofs.YtofmmdfdiaahhaaGreatDoor
