/- The walk of StampSum. -/
import Derived.Test.YtigeccplombggaaGreatDoorStLq
import Derived.Deep.Cut
namespace Go.Proofs.YtigeccplombggaaGreatDoor
open Go.RowKit
set_option linter.unusedVariables false

set_option maxRecDepth 100000 in
set_option maxHeartbeats 4000000 in
theorem sum_i (i a j b : Int) (hi : i ≠ 0)
    (KN : Hid (∀ w : World, Cvl.Lens w → Calls Tryz.prog 16 #[] w fun r' w' => r' = .returned (.bool true) ∧ Below w.heap.size w w'))
    (w : World) (hL : Hid (∀ W : World, Below w.heap.size w W → Cvl.Lens W)) :
    Calls Tryz.prog 7 #[.agg #[.int .i64 i, .int .i64 a], .agg #[.int .i64 j, .int .i64 b]] w fun r' w' => r' = .returned (.bool true) ∧ Below w.heap.size w w' := by
  have h1 : (i != 0) = true := bne_iff_ne.2 hi
  have K0 : Hid (BS w [(w.heap.size + 1, [.int .i64 j, .int .i64 b]), (w.heap.size, [.int .i64 i, .int .i64 a])] ((w.alloc (.cells #[.int .i64 i, .int .i64 a] 36)).alloc (.cells #[.int .i64 j, .int .i64 b] 36))) := (((BS.start w).new [.int .i64 i, .int .i64 a] 36 rfl).new [.int .i64 j, .int .i64 b] 36 (by simp))
  go_enter Tryz.func7, Tryz.ntmps7
  go_wp2_with fail
  refine (KN.out _ (hL.out _ K0.out.1)).mono ?_
  rintro e W1 ⟨rfl, hb⟩
  have K1 : Hid (BS w [(w.heap.size + 1, [.int .i64 j, .int .i64 b]), (w.heap.size, [.int .i64 i, .int .i64 a])] W1) := K0.out.below hb
  clear hb K0
  have c1_0_0 : W1.cell? ⟨w.heap.size + 1, 0, none⟩ = some (.int .i64 j) := (K1.out.at (w.heap.size + 1) [.int .i64 j, .int .i64 b] (by simp)).c 0 rfl
  have c1_0_1 : W1.cell? ⟨w.heap.size + 1, 1, none⟩ = some (.int .i64 b) := (K1.out.at (w.heap.size + 1) [.int .i64 j, .int .i64 b] (by simp)).c 1 rfl
  have c1_1_0 : W1.cell? ⟨w.heap.size, 0, none⟩ = some (.int .i64 i) := (K1.out.at (w.heap.size) [.int .i64 i, .int .i64 a] (by simp)).c 0 rfl
  have c1_1_1 : W1.cell? ⟨w.heap.size, 1, none⟩ = some (.int .i64 a) := (K1.out.at (w.heap.size) [.int .i64 i, .int .i64 a] (by simp)).c 1 rfl
  go_wp2
  go_ret
  exact ⟨rfl, K1.out.1⟩


set_option maxRecDepth 100000 in
set_option maxHeartbeats 4000000 in
theorem sum_j (a j b : Int) (hj : j ≠ 0)
    (KN : Hid (∀ w : World, Cvl.Lens w → Calls Tryz.prog 16 #[] w fun r' w' => r' = .returned (.bool true) ∧ Below w.heap.size w w'))
    (w : World) (hL : Hid (∀ W : World, Below w.heap.size w W → Cvl.Lens W)) :
    Calls Tryz.prog 7 #[.agg #[.int .i64 0, .int .i64 a], .agg #[.int .i64 j, .int .i64 b]] w fun r' w' => r' = .returned (.bool true) ∧ Below w.heap.size w w' := by
  have h1 : (j != 0) = true := bne_iff_ne.2 hj
  have K0 : Hid (BS w [(w.heap.size + 1, [.int .i64 j, .int .i64 b]), (w.heap.size, [.int .i64 0, .int .i64 a])] ((w.alloc (.cells #[.int .i64 0, .int .i64 a] 36)).alloc (.cells #[.int .i64 j, .int .i64 b] 36))) := (((BS.start w).new [.int .i64 0, .int .i64 a] 36 rfl).new [.int .i64 j, .int .i64 b] 36 (by simp))
  go_enter Tryz.func7, Tryz.ntmps7
  go_wp2_with fail
  refine (KN.out _ (hL.out _ K0.out.1)).mono ?_
  rintro e W1 ⟨rfl, hb⟩
  have K1 : Hid (BS w [(w.heap.size + 1, [.int .i64 j, .int .i64 b]), (w.heap.size, [.int .i64 0, .int .i64 a])] W1) := K0.out.below hb
  clear hb K0
  have c1_0_0 : W1.cell? ⟨w.heap.size + 1, 0, none⟩ = some (.int .i64 j) := (K1.out.at (w.heap.size + 1) [.int .i64 j, .int .i64 b] (by simp)).c 0 rfl
  have c1_0_1 : W1.cell? ⟨w.heap.size + 1, 1, none⟩ = some (.int .i64 b) := (K1.out.at (w.heap.size + 1) [.int .i64 j, .int .i64 b] (by simp)).c 1 rfl
  have c1_1_0 : W1.cell? ⟨w.heap.size, 0, none⟩ = some (.int .i64 0) := (K1.out.at (w.heap.size) [.int .i64 0, .int .i64 a] (by simp)).c 0 rfl
  have c1_1_1 : W1.cell? ⟨w.heap.size, 1, none⟩ = some (.int .i64 a) := (K1.out.at (w.heap.size) [.int .i64 0, .int .i64 a] (by simp)).c 1 rfl
  go_wp2
  go_ret
  exact ⟨rfl, K1.out.1⟩


set_option maxRecDepth 100000 in
set_option maxHeartbeats 4000000 in
theorem sum_e (a b I D U E : Int) (hE : E ≠ 0)
    (SB : Hid (∀ w : World, Cvl.Lens w → Calls Tryz.prog 21 #[.agg #[.int .i64 0, .int .i64 a], .agg #[.int .i64 0, .int .i64 b]] w fun r' w' => r' = .returned (.tuple #[.agg #[.int .i64 I, .int .i64 0, .int .i64 D, .int .i64 U], .int .i64 E]) ∧ Below w.heap.size w w'))
    (KN : Hid (∀ w : World, Cvl.Lens w → Calls Tryz.prog 16 #[] w fun r' w' => r' = .returned (.bool true) ∧ Below w.heap.size w w'))
    (w : World) (hL : Hid (∀ W : World, Below w.heap.size w W → Cvl.Lens W)) :
    Calls Tryz.prog 7 #[.agg #[.int .i64 0, .int .i64 a], .agg #[.int .i64 0, .int .i64 b]] w fun r' w' => r' = .returned (.bool true) ∧ Below w.heap.size w w' := by
  have h1 : (E != 0) = true := bne_iff_ne.2 hE
  have K0 : Hid (BS w [(w.heap.size + 1, [.int .i64 0, .int .i64 b]), (w.heap.size, [.int .i64 0, .int .i64 a])] ((w.alloc (.cells #[.int .i64 0, .int .i64 a] 36)).alloc (.cells #[.int .i64 0, .int .i64 b] 36))) := (((BS.start w).new [.int .i64 0, .int .i64 a] 36 rfl).new [.int .i64 0, .int .i64 b] 36 (by simp))
  go_enter Tryz.func7, Tryz.ntmps7
  go_wp2_with fail
  refine (SB.out _ (hL.out _ K0.out.1)).mono ?_
  rintro e W1 ⟨rfl, hb⟩
  have K1 : Hid (BS w [(w.heap.size + 1, [.int .i64 0, .int .i64 b]), (w.heap.size, [.int .i64 0, .int .i64 a])] W1) := K0.out.below hb
  clear hb K0
  have c1_0_0 : W1.cell? ⟨w.heap.size + 1, 0, none⟩ = some (.int .i64 0) := (K1.out.at (w.heap.size + 1) [.int .i64 0, .int .i64 b] (by simp)).c 0 rfl
  have c1_0_1 : W1.cell? ⟨w.heap.size + 1, 1, none⟩ = some (.int .i64 b) := (K1.out.at (w.heap.size + 1) [.int .i64 0, .int .i64 b] (by simp)).c 1 rfl
  have c1_1_0 : W1.cell? ⟨w.heap.size, 0, none⟩ = some (.int .i64 0) := (K1.out.at (w.heap.size) [.int .i64 0, .int .i64 a] (by simp)).c 0 rfl
  have c1_1_1 : W1.cell? ⟨w.heap.size, 1, none⟩ = some (.int .i64 a) := (K1.out.at (w.heap.size) [.int .i64 0, .int .i64 a] (by simp)).c 1 rfl
  have Mz1 : Hid (BS w [(W1.heap.size, [.int .i64 I, .int .i64 0, .int .i64 D, .int .i64 U]), (w.heap.size + 1, [.int .i64 0, .int .i64 b]), (w.heap.size, [.int .i64 0, .int .i64 a])] (W1.alloc (.cells #[.int .i64 I, .int .i64 0, .int .i64 D, .int .i64 U] 59))) := K1.out.new [.int .i64 I, .int .i64 0, .int .i64 D, .int .i64 U] 59 rfl
  have lt1_0 : w.heap.size + 1 < W1.heap.size := (K1.out.at (w.heap.size + 1) [.int .i64 0, .int .i64 b] (by simp)).1
  have lt1_1 : w.heap.size < W1.heap.size := (K1.out.at (w.heap.size) [.int .i64 0, .int .i64 a] (by simp)).1
  go_upto_region 4 with fail
  refine gen_to (BS w [(W1.heap.size, [.int .i64 I, .int .i64 0, .int .i64 D, .int .i64 U]), (w.heap.size + 1, [.int .i64 0, .int .i64 b]), (w.heap.size, [.int .i64 0, .int .i64 a])]) Mz1.out ?_
  clear c1_0_0 c1_0_1 c1_1_0 c1_1_1
  intro W2 K2'
  have K2 : Hid (BS w [(W1.heap.size, [.int .i64 I, .int .i64 0, .int .i64 D, .int .i64 U]), (w.heap.size + 1, [.int .i64 0, .int .i64 b]), (w.heap.size, [.int .i64 0, .int .i64 a])] W2) := K2'
  clear K2' Mz1 K1
  have c2_0_0 : W2.cell? ⟨W1.heap.size, 0, none⟩ = some (.int .i64 I) := (K2.out.at (W1.heap.size) [.int .i64 I, .int .i64 0, .int .i64 D, .int .i64 U] (by simp)).c 0 rfl
  have c2_0_1 : W2.cell? ⟨W1.heap.size, 1, none⟩ = some (.int .i64 0) := (K2.out.at (W1.heap.size) [.int .i64 I, .int .i64 0, .int .i64 D, .int .i64 U] (by simp)).c 1 rfl
  have c2_0_2 : W2.cell? ⟨W1.heap.size, 2, none⟩ = some (.int .i64 D) := (K2.out.at (W1.heap.size) [.int .i64 I, .int .i64 0, .int .i64 D, .int .i64 U] (by simp)).c 2 rfl
  have c2_0_3 : W2.cell? ⟨W1.heap.size, 3, none⟩ = some (.int .i64 U) := (K2.out.at (W1.heap.size) [.int .i64 I, .int .i64 0, .int .i64 D, .int .i64 U] (by simp)).c 3 rfl
  have c2_1_0 : W2.cell? ⟨w.heap.size + 1, 0, none⟩ = some (.int .i64 0) := (K2.out.at (w.heap.size + 1) [.int .i64 0, .int .i64 b] (by simp)).c 0 rfl
  have c2_1_1 : W2.cell? ⟨w.heap.size + 1, 1, none⟩ = some (.int .i64 b) := (K2.out.at (w.heap.size + 1) [.int .i64 0, .int .i64 b] (by simp)).c 1 rfl
  have c2_2_0 : W2.cell? ⟨w.heap.size, 0, none⟩ = some (.int .i64 0) := (K2.out.at (w.heap.size) [.int .i64 0, .int .i64 a] (by simp)).c 0 rfl
  have c2_2_1 : W2.cell? ⟨w.heap.size, 1, none⟩ = some (.int .i64 a) := (K2.out.at (w.heap.size) [.int .i64 0, .int .i64 a] (by simp)).c 1 rfl
  go_wp2_with fail
  refine (KN.out _ (hL.out _ K2.out.1)).mono ?_
  rintro e W3 ⟨rfl, hb⟩
  have K3 : Hid (BS w [(W1.heap.size, [.int .i64 I, .int .i64 0, .int .i64 D, .int .i64 U]), (w.heap.size + 1, [.int .i64 0, .int .i64 b]), (w.heap.size, [.int .i64 0, .int .i64 a])] W3) := K2.out.below hb
  clear c2_0_0 c2_0_1 c2_0_2 c2_0_3 c2_1_0 c2_1_1 c2_2_0 c2_2_1
  clear hb K2
  have c3_0_0 : W3.cell? ⟨W1.heap.size, 0, none⟩ = some (.int .i64 I) := (K3.out.at (W1.heap.size) [.int .i64 I, .int .i64 0, .int .i64 D, .int .i64 U] (by simp)).c 0 rfl
  have c3_0_1 : W3.cell? ⟨W1.heap.size, 1, none⟩ = some (.int .i64 0) := (K3.out.at (W1.heap.size) [.int .i64 I, .int .i64 0, .int .i64 D, .int .i64 U] (by simp)).c 1 rfl
  have c3_0_2 : W3.cell? ⟨W1.heap.size, 2, none⟩ = some (.int .i64 D) := (K3.out.at (W1.heap.size) [.int .i64 I, .int .i64 0, .int .i64 D, .int .i64 U] (by simp)).c 2 rfl
  have c3_0_3 : W3.cell? ⟨W1.heap.size, 3, none⟩ = some (.int .i64 U) := (K3.out.at (W1.heap.size) [.int .i64 I, .int .i64 0, .int .i64 D, .int .i64 U] (by simp)).c 3 rfl
  have c3_1_0 : W3.cell? ⟨w.heap.size + 1, 0, none⟩ = some (.int .i64 0) := (K3.out.at (w.heap.size + 1) [.int .i64 0, .int .i64 b] (by simp)).c 0 rfl
  have c3_1_1 : W3.cell? ⟨w.heap.size + 1, 1, none⟩ = some (.int .i64 b) := (K3.out.at (w.heap.size + 1) [.int .i64 0, .int .i64 b] (by simp)).c 1 rfl
  have c3_2_0 : W3.cell? ⟨w.heap.size, 0, none⟩ = some (.int .i64 0) := (K3.out.at (w.heap.size) [.int .i64 0, .int .i64 a] (by simp)).c 0 rfl
  have c3_2_1 : W3.cell? ⟨w.heap.size, 1, none⟩ = some (.int .i64 a) := (K3.out.at (w.heap.size) [.int .i64 0, .int .i64 a] (by simp)).c 1 rfl
  go_wp2
  go_ret
  exact ⟨rfl, K3.out.1⟩


set_option maxRecDepth 100000 in
set_option maxHeartbeats 4000000 in
theorem sum_lt (a b D U : Int) (hab : a < b)
    (SB : Hid (∀ w : World, Cvl.Lens w → Calls Tryz.prog 21 #[.agg #[.int .i64 0, .int .i64 a], .agg #[.int .i64 0, .int .i64 b]] w fun r' w' => r' = .returned (.tuple #[.agg #[.int .i64 0, .int .i64 0, .int .i64 D, .int .i64 U], .int .i64 0]) ∧ Below w.heap.size w w'))
    (A1 : Hid (∀ w : World, Cvl.Lens w → Calls Tryz.prog 17 #[.agg #[.int .i64 0, .int .i64 b], .agg #[.int .i64 0, .int .i64 0, .int .i64 D, .int .i64 U]] w fun r' w' => r' = .returned (.tuple #[.agg #[.int .i64 0, .int .i64 a], .int .i64 0]) ∧ Below w.heap.size w w'))
    (KN : Hid (∀ w : World, Cvl.Lens w → Calls Tryz.prog 16 #[] w fun r' w' => r' = .returned (.bool true) ∧ Below w.heap.size w w'))
    (w : World) (hL : Hid (∀ W : World, Below w.heap.size w W → Cvl.Lens W)) :
    Calls Tryz.prog 7 #[.agg #[.int .i64 0, .int .i64 a], .agg #[.int .i64 0, .int .i64 b]] w fun r' w' => r' = .returned (.bool true) ∧ Below w.heap.size w w' := by
  have K0 : Hid (BS w [(w.heap.size + 1, [.int .i64 0, .int .i64 b]), (w.heap.size, [.int .i64 0, .int .i64 a])] ((w.alloc (.cells #[.int .i64 0, .int .i64 a] 36)).alloc (.cells #[.int .i64 0, .int .i64 b] 36))) := (((BS.start w).new [.int .i64 0, .int .i64 a] 36 rfl).new [.int .i64 0, .int .i64 b] 36 (by simp))
  go_enter Tryz.func7, Tryz.ntmps7
  go_wp2_with fail
  refine (SB.out _ (hL.out _ K0.out.1)).mono ?_
  rintro e W1 ⟨rfl, hb⟩
  have K1 : Hid (BS w [(w.heap.size + 1, [.int .i64 0, .int .i64 b]), (w.heap.size, [.int .i64 0, .int .i64 a])] W1) := K0.out.below hb
  clear hb K0
  have c1_0_0 : W1.cell? ⟨w.heap.size + 1, 0, none⟩ = some (.int .i64 0) := (K1.out.at (w.heap.size + 1) [.int .i64 0, .int .i64 b] (by simp)).c 0 rfl
  have c1_0_1 : W1.cell? ⟨w.heap.size + 1, 1, none⟩ = some (.int .i64 b) := (K1.out.at (w.heap.size + 1) [.int .i64 0, .int .i64 b] (by simp)).c 1 rfl
  have c1_1_0 : W1.cell? ⟨w.heap.size, 0, none⟩ = some (.int .i64 0) := (K1.out.at (w.heap.size) [.int .i64 0, .int .i64 a] (by simp)).c 0 rfl
  have c1_1_1 : W1.cell? ⟨w.heap.size, 1, none⟩ = some (.int .i64 a) := (K1.out.at (w.heap.size) [.int .i64 0, .int .i64 a] (by simp)).c 1 rfl
  have Mz1 : Hid (BS w [(W1.heap.size, [.int .i64 0, .int .i64 0, .int .i64 D, .int .i64 U]), (w.heap.size + 1, [.int .i64 0, .int .i64 b]), (w.heap.size, [.int .i64 0, .int .i64 a])] (W1.alloc (.cells #[.int .i64 0, .int .i64 0, .int .i64 D, .int .i64 U] 59))) := K1.out.new [.int .i64 0, .int .i64 0, .int .i64 D, .int .i64 U] 59 rfl
  have lt1_0 : w.heap.size + 1 < W1.heap.size := (K1.out.at (w.heap.size + 1) [.int .i64 0, .int .i64 b] (by simp)).1
  have lt1_1 : w.heap.size < W1.heap.size := (K1.out.at (w.heap.size) [.int .i64 0, .int .i64 a] (by simp)).1
  go_upto_region 4 with fail
  refine gen_to (BS w [(W1.heap.size, [.int .i64 0, .int .i64 0, .int .i64 D, .int .i64 U]), (w.heap.size + 1, [.int .i64 0, .int .i64 b]), (w.heap.size, [.int .i64 0, .int .i64 a])]) Mz1.out ?_
  clear c1_0_0 c1_0_1 c1_1_0 c1_1_1
  intro W2 K2'
  have K2 : Hid (BS w [(W1.heap.size, [.int .i64 0, .int .i64 0, .int .i64 D, .int .i64 U]), (w.heap.size + 1, [.int .i64 0, .int .i64 b]), (w.heap.size, [.int .i64 0, .int .i64 a])] W2) := K2'
  clear K2' Mz1 K1
  have c2_0_0 : W2.cell? ⟨W1.heap.size, 0, none⟩ = some (.int .i64 0) := (K2.out.at (W1.heap.size) [.int .i64 0, .int .i64 0, .int .i64 D, .int .i64 U] (by simp)).c 0 rfl
  have c2_0_1 : W2.cell? ⟨W1.heap.size, 1, none⟩ = some (.int .i64 0) := (K2.out.at (W1.heap.size) [.int .i64 0, .int .i64 0, .int .i64 D, .int .i64 U] (by simp)).c 1 rfl
  have c2_0_2 : W2.cell? ⟨W1.heap.size, 2, none⟩ = some (.int .i64 D) := (K2.out.at (W1.heap.size) [.int .i64 0, .int .i64 0, .int .i64 D, .int .i64 U] (by simp)).c 2 rfl
  have c2_0_3 : W2.cell? ⟨W1.heap.size, 3, none⟩ = some (.int .i64 U) := (K2.out.at (W1.heap.size) [.int .i64 0, .int .i64 0, .int .i64 D, .int .i64 U] (by simp)).c 3 rfl
  have c2_1_0 : W2.cell? ⟨w.heap.size + 1, 0, none⟩ = some (.int .i64 0) := (K2.out.at (w.heap.size + 1) [.int .i64 0, .int .i64 b] (by simp)).c 0 rfl
  have c2_1_1 : W2.cell? ⟨w.heap.size + 1, 1, none⟩ = some (.int .i64 b) := (K2.out.at (w.heap.size + 1) [.int .i64 0, .int .i64 b] (by simp)).c 1 rfl
  have c2_2_0 : W2.cell? ⟨w.heap.size, 0, none⟩ = some (.int .i64 0) := (K2.out.at (w.heap.size) [.int .i64 0, .int .i64 a] (by simp)).c 0 rfl
  have c2_2_1 : W2.cell? ⟨w.heap.size, 1, none⟩ = some (.int .i64 a) := (K2.out.at (w.heap.size) [.int .i64 0, .int .i64 a] (by simp)).c 1 rfl
  go_wp2_with fail
  refine (A1.out _ (hL.out _ K2.out.1)).mono ?_
  rintro e W3 ⟨rfl, hb⟩
  have K3 : Hid (BS w [(W1.heap.size, [.int .i64 0, .int .i64 0, .int .i64 D, .int .i64 U]), (w.heap.size + 1, [.int .i64 0, .int .i64 b]), (w.heap.size, [.int .i64 0, .int .i64 a])] W3) := K2.out.below hb
  clear c2_0_0 c2_0_1 c2_0_2 c2_0_3 c2_1_0 c2_1_1 c2_2_0 c2_2_1
  clear hb K2
  have c3_0_0 : W3.cell? ⟨W1.heap.size, 0, none⟩ = some (.int .i64 0) := (K3.out.at (W1.heap.size) [.int .i64 0, .int .i64 0, .int .i64 D, .int .i64 U] (by simp)).c 0 rfl
  have c3_0_1 : W3.cell? ⟨W1.heap.size, 1, none⟩ = some (.int .i64 0) := (K3.out.at (W1.heap.size) [.int .i64 0, .int .i64 0, .int .i64 D, .int .i64 U] (by simp)).c 1 rfl
  have c3_0_2 : W3.cell? ⟨W1.heap.size, 2, none⟩ = some (.int .i64 D) := (K3.out.at (W1.heap.size) [.int .i64 0, .int .i64 0, .int .i64 D, .int .i64 U] (by simp)).c 2 rfl
  have c3_0_3 : W3.cell? ⟨W1.heap.size, 3, none⟩ = some (.int .i64 U) := (K3.out.at (W1.heap.size) [.int .i64 0, .int .i64 0, .int .i64 D, .int .i64 U] (by simp)).c 3 rfl
  have c3_1_0 : W3.cell? ⟨w.heap.size + 1, 0, none⟩ = some (.int .i64 0) := (K3.out.at (w.heap.size + 1) [.int .i64 0, .int .i64 b] (by simp)).c 0 rfl
  have c3_1_1 : W3.cell? ⟨w.heap.size + 1, 1, none⟩ = some (.int .i64 b) := (K3.out.at (w.heap.size + 1) [.int .i64 0, .int .i64 b] (by simp)).c 1 rfl
  have c3_2_0 : W3.cell? ⟨w.heap.size, 0, none⟩ = some (.int .i64 0) := (K3.out.at (w.heap.size) [.int .i64 0, .int .i64 a] (by simp)).c 0 rfl
  have c3_2_1 : W3.cell? ⟨w.heap.size, 1, none⟩ = some (.int .i64 a) := (K3.out.at (w.heap.size) [.int .i64 0, .int .i64 a] (by simp)).c 1 rfl
  have Mz3 : Hid (BS w [(W3.heap.size, [.int .i64 0, .int .i64 a]), (W1.heap.size, [.int .i64 0, .int .i64 0, .int .i64 D, .int .i64 U]), (w.heap.size + 1, [.int .i64 0, .int .i64 b]), (w.heap.size, [.int .i64 0, .int .i64 a])] (W3.alloc (.cells #[.int .i64 0, .int .i64 a] 36))) := K3.out.new [.int .i64 0, .int .i64 a] 36 rfl
  have lt3_0 : W1.heap.size < W3.heap.size := (K3.out.at (W1.heap.size) [.int .i64 0, .int .i64 0, .int .i64 D, .int .i64 U] (by simp)).1
  have lt3_1 : w.heap.size + 1 < W3.heap.size := (K3.out.at (w.heap.size + 1) [.int .i64 0, .int .i64 b] (by simp)).1
  have lt3_2 : w.heap.size < W3.heap.size := (K3.out.at (w.heap.size) [.int .i64 0, .int .i64 a] (by simp)).1
  go_upto_region 7 with fail
  refine gen_to (BS w [(W3.heap.size, [.int .i64 0, .int .i64 a]), (W1.heap.size, [.int .i64 0, .int .i64 0, .int .i64 D, .int .i64 U]), (w.heap.size + 1, [.int .i64 0, .int .i64 b]), (w.heap.size, [.int .i64 0, .int .i64 a])]) Mz3.out ?_
  clear c3_0_0 c3_0_1 c3_0_2 c3_0_3 c3_1_0 c3_1_1 c3_2_0 c3_2_1
  intro W4 K4'
  have K4 : Hid (BS w [(W3.heap.size, [.int .i64 0, .int .i64 a]), (W1.heap.size, [.int .i64 0, .int .i64 0, .int .i64 D, .int .i64 U]), (w.heap.size + 1, [.int .i64 0, .int .i64 b]), (w.heap.size, [.int .i64 0, .int .i64 a])] W4) := K4'
  clear K4' Mz3 K3
  have c4_0_0 : W4.cell? ⟨W3.heap.size, 0, none⟩ = some (.int .i64 0) := (K4.out.at (W3.heap.size) [.int .i64 0, .int .i64 a] (by simp)).c 0 rfl
  have c4_0_1 : W4.cell? ⟨W3.heap.size, 1, none⟩ = some (.int .i64 a) := (K4.out.at (W3.heap.size) [.int .i64 0, .int .i64 a] (by simp)).c 1 rfl
  have c4_1_0 : W4.cell? ⟨W1.heap.size, 0, none⟩ = some (.int .i64 0) := (K4.out.at (W1.heap.size) [.int .i64 0, .int .i64 0, .int .i64 D, .int .i64 U] (by simp)).c 0 rfl
  have c4_1_1 : W4.cell? ⟨W1.heap.size, 1, none⟩ = some (.int .i64 0) := (K4.out.at (W1.heap.size) [.int .i64 0, .int .i64 0, .int .i64 D, .int .i64 U] (by simp)).c 1 rfl
  have c4_1_2 : W4.cell? ⟨W1.heap.size, 2, none⟩ = some (.int .i64 D) := (K4.out.at (W1.heap.size) [.int .i64 0, .int .i64 0, .int .i64 D, .int .i64 U] (by simp)).c 2 rfl
  have c4_1_3 : W4.cell? ⟨W1.heap.size, 3, none⟩ = some (.int .i64 U) := (K4.out.at (W1.heap.size) [.int .i64 0, .int .i64 0, .int .i64 D, .int .i64 U] (by simp)).c 3 rfl
  have c4_2_0 : W4.cell? ⟨w.heap.size + 1, 0, none⟩ = some (.int .i64 0) := (K4.out.at (w.heap.size + 1) [.int .i64 0, .int .i64 b] (by simp)).c 0 rfl
  have c4_2_1 : W4.cell? ⟨w.heap.size + 1, 1, none⟩ = some (.int .i64 b) := (K4.out.at (w.heap.size + 1) [.int .i64 0, .int .i64 b] (by simp)).c 1 rfl
  have c4_3_0 : W4.cell? ⟨w.heap.size, 0, none⟩ = some (.int .i64 0) := (K4.out.at (w.heap.size) [.int .i64 0, .int .i64 a] (by simp)).c 0 rfl
  have c4_3_1 : W4.cell? ⟨w.heap.size, 1, none⟩ = some (.int .i64 a) := (K4.out.at (w.heap.size) [.int .i64 0, .int .i64 a] (by simp)).c 1 rfl
  go_wp2_with fail
  refine (KN.out _ (hL.out _ K4.out.1)).mono ?_
  rintro e W5 ⟨rfl, hb⟩
  have K5 : Hid (BS w [(W3.heap.size, [.int .i64 0, .int .i64 a]), (W1.heap.size, [.int .i64 0, .int .i64 0, .int .i64 D, .int .i64 U]), (w.heap.size + 1, [.int .i64 0, .int .i64 b]), (w.heap.size, [.int .i64 0, .int .i64 a])] W5) := K4.out.below hb
  clear c4_0_0 c4_0_1 c4_1_0 c4_1_1 c4_1_2 c4_1_3 c4_2_0 c4_2_1 c4_3_0 c4_3_1
  clear hb K4
  have c5_0_0 : W5.cell? ⟨W3.heap.size, 0, none⟩ = some (.int .i64 0) := (K5.out.at (W3.heap.size) [.int .i64 0, .int .i64 a] (by simp)).c 0 rfl
  have c5_0_1 : W5.cell? ⟨W3.heap.size, 1, none⟩ = some (.int .i64 a) := (K5.out.at (W3.heap.size) [.int .i64 0, .int .i64 a] (by simp)).c 1 rfl
  have c5_1_0 : W5.cell? ⟨W1.heap.size, 0, none⟩ = some (.int .i64 0) := (K5.out.at (W1.heap.size) [.int .i64 0, .int .i64 0, .int .i64 D, .int .i64 U] (by simp)).c 0 rfl
  have c5_1_1 : W5.cell? ⟨W1.heap.size, 1, none⟩ = some (.int .i64 0) := (K5.out.at (W1.heap.size) [.int .i64 0, .int .i64 0, .int .i64 D, .int .i64 U] (by simp)).c 1 rfl
  have c5_1_2 : W5.cell? ⟨W1.heap.size, 2, none⟩ = some (.int .i64 D) := (K5.out.at (W1.heap.size) [.int .i64 0, .int .i64 0, .int .i64 D, .int .i64 U] (by simp)).c 2 rfl
  have c5_1_3 : W5.cell? ⟨W1.heap.size, 3, none⟩ = some (.int .i64 U) := (K5.out.at (W1.heap.size) [.int .i64 0, .int .i64 0, .int .i64 D, .int .i64 U] (by simp)).c 3 rfl
  have c5_2_0 : W5.cell? ⟨w.heap.size + 1, 0, none⟩ = some (.int .i64 0) := (K5.out.at (w.heap.size + 1) [.int .i64 0, .int .i64 b] (by simp)).c 0 rfl
  have c5_2_1 : W5.cell? ⟨w.heap.size + 1, 1, none⟩ = some (.int .i64 b) := (K5.out.at (w.heap.size + 1) [.int .i64 0, .int .i64 b] (by simp)).c 1 rfl
  have c5_3_0 : W5.cell? ⟨w.heap.size, 0, none⟩ = some (.int .i64 0) := (K5.out.at (w.heap.size) [.int .i64 0, .int .i64 a] (by simp)).c 0 rfl
  have c5_3_1 : W5.cell? ⟨w.heap.size, 1, none⟩ = some (.int .i64 a) := (K5.out.at (w.heap.size) [.int .i64 0, .int .i64 a] (by simp)).c 1 rfl
  go_wp2
  go_ret
  exact ⟨rfl, K5.out.1⟩


set_option maxRecDepth 100000 in
set_option maxHeartbeats 4000000 in
theorem sum_ge (a b D U M P V : Int) (hab : ¬ a < b) (hM : 0 ≤ M)
    (SB : Hid (∀ w : World, Cvl.Lens w → Calls Tryz.prog 21 #[.agg #[.int .i64 0, .int .i64 a], .agg #[.int .i64 0, .int .i64 b]] w fun r' w' => r' = .returned (.tuple #[.agg #[.int .i64 0, .int .i64 0, .int .i64 D, .int .i64 U], .int .i64 0]) ∧ Below w.heap.size w w'))
    (A1 : Hid (∀ w : World, Cvl.Lens w → Calls Tryz.prog 17 #[.agg #[.int .i64 0, .int .i64 b], .agg #[.int .i64 0, .int .i64 0, .int .i64 D, .int .i64 U]] w fun r' w' => r' = .returned (.tuple #[.agg #[.int .i64 0, .int .i64 a], .int .i64 0]) ∧ Below w.heap.size w w'))
    (AG : Hid (∀ w : World, Cvl.Lens w → Calls Tryz.prog 23 #[.agg #[.int .i64 0, .int .i64 a], .agg #[.int .i64 0, .int .i64 b]] w fun r' w' => r' = .returned (.tuple #[.agg #[.int .i64 0, .int .i64 M, .int .i64 P, .int .i64 V], .int .i64 0]) ∧ Below w.heap.size w w'))
    (A2 : Hid (∀ w : World, Cvl.Lens w → Calls Tryz.prog 17 #[.agg #[.int .i64 0, .int .i64 b], .agg #[.int .i64 0, .int .i64 M, .int .i64 P, .int .i64 V]] w fun r' w' => r' = .returned (.tuple #[.agg #[.int .i64 0, .int .i64 a], .int .i64 0]) ∧ Below w.heap.size w w'))
    (KN : Hid (∀ w : World, Cvl.Lens w → Calls Tryz.prog 16 #[] w fun r' w' => r' = .returned (.bool true) ∧ Below w.heap.size w w'))
    (w : World) (hL : Hid (∀ W : World, Below w.heap.size w W → Cvl.Lens W)) :
    Calls Tryz.prog 7 #[.agg #[.int .i64 0, .int .i64 a], .agg #[.int .i64 0, .int .i64 b]] w fun r' w' => r' = .returned (.bool true) ∧ Below w.heap.size w w' := by
  have K0 : Hid (BS w [(w.heap.size + 1, [.int .i64 0, .int .i64 b]), (w.heap.size, [.int .i64 0, .int .i64 a])] ((w.alloc (.cells #[.int .i64 0, .int .i64 a] 36)).alloc (.cells #[.int .i64 0, .int .i64 b] 36))) := (((BS.start w).new [.int .i64 0, .int .i64 a] 36 rfl).new [.int .i64 0, .int .i64 b] 36 (by simp))
  go_enter Tryz.func7, Tryz.ntmps7
  go_wp2_with fail
  refine (SB.out _ (hL.out _ K0.out.1)).mono ?_
  rintro e W1 ⟨rfl, hb⟩
  have K1 : Hid (BS w [(w.heap.size + 1, [.int .i64 0, .int .i64 b]), (w.heap.size, [.int .i64 0, .int .i64 a])] W1) := K0.out.below hb
  clear hb K0
  have c1_0_0 : W1.cell? ⟨w.heap.size + 1, 0, none⟩ = some (.int .i64 0) := (K1.out.at (w.heap.size + 1) [.int .i64 0, .int .i64 b] (by simp)).c 0 rfl
  have c1_0_1 : W1.cell? ⟨w.heap.size + 1, 1, none⟩ = some (.int .i64 b) := (K1.out.at (w.heap.size + 1) [.int .i64 0, .int .i64 b] (by simp)).c 1 rfl
  have c1_1_0 : W1.cell? ⟨w.heap.size, 0, none⟩ = some (.int .i64 0) := (K1.out.at (w.heap.size) [.int .i64 0, .int .i64 a] (by simp)).c 0 rfl
  have c1_1_1 : W1.cell? ⟨w.heap.size, 1, none⟩ = some (.int .i64 a) := (K1.out.at (w.heap.size) [.int .i64 0, .int .i64 a] (by simp)).c 1 rfl
  have Mz1 : Hid (BS w [(W1.heap.size, [.int .i64 0, .int .i64 0, .int .i64 D, .int .i64 U]), (w.heap.size + 1, [.int .i64 0, .int .i64 b]), (w.heap.size, [.int .i64 0, .int .i64 a])] (W1.alloc (.cells #[.int .i64 0, .int .i64 0, .int .i64 D, .int .i64 U] 59))) := K1.out.new [.int .i64 0, .int .i64 0, .int .i64 D, .int .i64 U] 59 rfl
  have lt1_0 : w.heap.size + 1 < W1.heap.size := (K1.out.at (w.heap.size + 1) [.int .i64 0, .int .i64 b] (by simp)).1
  have lt1_1 : w.heap.size < W1.heap.size := (K1.out.at (w.heap.size) [.int .i64 0, .int .i64 a] (by simp)).1
  go_upto_region 4 with fail
  refine gen_to (BS w [(W1.heap.size, [.int .i64 0, .int .i64 0, .int .i64 D, .int .i64 U]), (w.heap.size + 1, [.int .i64 0, .int .i64 b]), (w.heap.size, [.int .i64 0, .int .i64 a])]) Mz1.out ?_
  clear c1_0_0 c1_0_1 c1_1_0 c1_1_1
  intro W2 K2'
  have K2 : Hid (BS w [(W1.heap.size, [.int .i64 0, .int .i64 0, .int .i64 D, .int .i64 U]), (w.heap.size + 1, [.int .i64 0, .int .i64 b]), (w.heap.size, [.int .i64 0, .int .i64 a])] W2) := K2'
  clear K2' Mz1 K1
  have c2_0_0 : W2.cell? ⟨W1.heap.size, 0, none⟩ = some (.int .i64 0) := (K2.out.at (W1.heap.size) [.int .i64 0, .int .i64 0, .int .i64 D, .int .i64 U] (by simp)).c 0 rfl
  have c2_0_1 : W2.cell? ⟨W1.heap.size, 1, none⟩ = some (.int .i64 0) := (K2.out.at (W1.heap.size) [.int .i64 0, .int .i64 0, .int .i64 D, .int .i64 U] (by simp)).c 1 rfl
  have c2_0_2 : W2.cell? ⟨W1.heap.size, 2, none⟩ = some (.int .i64 D) := (K2.out.at (W1.heap.size) [.int .i64 0, .int .i64 0, .int .i64 D, .int .i64 U] (by simp)).c 2 rfl
  have c2_0_3 : W2.cell? ⟨W1.heap.size, 3, none⟩ = some (.int .i64 U) := (K2.out.at (W1.heap.size) [.int .i64 0, .int .i64 0, .int .i64 D, .int .i64 U] (by simp)).c 3 rfl
  have c2_1_0 : W2.cell? ⟨w.heap.size + 1, 0, none⟩ = some (.int .i64 0) := (K2.out.at (w.heap.size + 1) [.int .i64 0, .int .i64 b] (by simp)).c 0 rfl
  have c2_1_1 : W2.cell? ⟨w.heap.size + 1, 1, none⟩ = some (.int .i64 b) := (K2.out.at (w.heap.size + 1) [.int .i64 0, .int .i64 b] (by simp)).c 1 rfl
  have c2_2_0 : W2.cell? ⟨w.heap.size, 0, none⟩ = some (.int .i64 0) := (K2.out.at (w.heap.size) [.int .i64 0, .int .i64 a] (by simp)).c 0 rfl
  have c2_2_1 : W2.cell? ⟨w.heap.size, 1, none⟩ = some (.int .i64 a) := (K2.out.at (w.heap.size) [.int .i64 0, .int .i64 a] (by simp)).c 1 rfl
  go_wp2_with fail
  refine (A1.out _ (hL.out _ K2.out.1)).mono ?_
  rintro e W3 ⟨rfl, hb⟩
  have K3 : Hid (BS w [(W1.heap.size, [.int .i64 0, .int .i64 0, .int .i64 D, .int .i64 U]), (w.heap.size + 1, [.int .i64 0, .int .i64 b]), (w.heap.size, [.int .i64 0, .int .i64 a])] W3) := K2.out.below hb
  clear c2_0_0 c2_0_1 c2_0_2 c2_0_3 c2_1_0 c2_1_1 c2_2_0 c2_2_1
  clear hb K2
  have c3_0_0 : W3.cell? ⟨W1.heap.size, 0, none⟩ = some (.int .i64 0) := (K3.out.at (W1.heap.size) [.int .i64 0, .int .i64 0, .int .i64 D, .int .i64 U] (by simp)).c 0 rfl
  have c3_0_1 : W3.cell? ⟨W1.heap.size, 1, none⟩ = some (.int .i64 0) := (K3.out.at (W1.heap.size) [.int .i64 0, .int .i64 0, .int .i64 D, .int .i64 U] (by simp)).c 1 rfl
  have c3_0_2 : W3.cell? ⟨W1.heap.size, 2, none⟩ = some (.int .i64 D) := (K3.out.at (W1.heap.size) [.int .i64 0, .int .i64 0, .int .i64 D, .int .i64 U] (by simp)).c 2 rfl
  have c3_0_3 : W3.cell? ⟨W1.heap.size, 3, none⟩ = some (.int .i64 U) := (K3.out.at (W1.heap.size) [.int .i64 0, .int .i64 0, .int .i64 D, .int .i64 U] (by simp)).c 3 rfl
  have c3_1_0 : W3.cell? ⟨w.heap.size + 1, 0, none⟩ = some (.int .i64 0) := (K3.out.at (w.heap.size + 1) [.int .i64 0, .int .i64 b] (by simp)).c 0 rfl
  have c3_1_1 : W3.cell? ⟨w.heap.size + 1, 1, none⟩ = some (.int .i64 b) := (K3.out.at (w.heap.size + 1) [.int .i64 0, .int .i64 b] (by simp)).c 1 rfl
  have c3_2_0 : W3.cell? ⟨w.heap.size, 0, none⟩ = some (.int .i64 0) := (K3.out.at (w.heap.size) [.int .i64 0, .int .i64 a] (by simp)).c 0 rfl
  have c3_2_1 : W3.cell? ⟨w.heap.size, 1, none⟩ = some (.int .i64 a) := (K3.out.at (w.heap.size) [.int .i64 0, .int .i64 a] (by simp)).c 1 rfl
  have Mz3 : Hid (BS w [(W3.heap.size, [.int .i64 0, .int .i64 a]), (W1.heap.size, [.int .i64 0, .int .i64 0, .int .i64 D, .int .i64 U]), (w.heap.size + 1, [.int .i64 0, .int .i64 b]), (w.heap.size, [.int .i64 0, .int .i64 a])] (W3.alloc (.cells #[.int .i64 0, .int .i64 a] 36))) := K3.out.new [.int .i64 0, .int .i64 a] 36 rfl
  have lt3_0 : W1.heap.size < W3.heap.size := (K3.out.at (W1.heap.size) [.int .i64 0, .int .i64 0, .int .i64 D, .int .i64 U] (by simp)).1
  have lt3_1 : w.heap.size + 1 < W3.heap.size := (K3.out.at (w.heap.size + 1) [.int .i64 0, .int .i64 b] (by simp)).1
  have lt3_2 : w.heap.size < W3.heap.size := (K3.out.at (w.heap.size) [.int .i64 0, .int .i64 a] (by simp)).1
  go_upto_region 7 with fail
  refine gen_to (BS w [(W3.heap.size, [.int .i64 0, .int .i64 a]), (W1.heap.size, [.int .i64 0, .int .i64 0, .int .i64 D, .int .i64 U]), (w.heap.size + 1, [.int .i64 0, .int .i64 b]), (w.heap.size, [.int .i64 0, .int .i64 a])]) Mz3.out ?_
  clear c3_0_0 c3_0_1 c3_0_2 c3_0_3 c3_1_0 c3_1_1 c3_2_0 c3_2_1
  intro W4 K4'
  have K4 : Hid (BS w [(W3.heap.size, [.int .i64 0, .int .i64 a]), (W1.heap.size, [.int .i64 0, .int .i64 0, .int .i64 D, .int .i64 U]), (w.heap.size + 1, [.int .i64 0, .int .i64 b]), (w.heap.size, [.int .i64 0, .int .i64 a])] W4) := K4'
  clear K4' Mz3 K3
  have c4_0_0 : W4.cell? ⟨W3.heap.size, 0, none⟩ = some (.int .i64 0) := (K4.out.at (W3.heap.size) [.int .i64 0, .int .i64 a] (by simp)).c 0 rfl
  have c4_0_1 : W4.cell? ⟨W3.heap.size, 1, none⟩ = some (.int .i64 a) := (K4.out.at (W3.heap.size) [.int .i64 0, .int .i64 a] (by simp)).c 1 rfl
  have c4_1_0 : W4.cell? ⟨W1.heap.size, 0, none⟩ = some (.int .i64 0) := (K4.out.at (W1.heap.size) [.int .i64 0, .int .i64 0, .int .i64 D, .int .i64 U] (by simp)).c 0 rfl
  have c4_1_1 : W4.cell? ⟨W1.heap.size, 1, none⟩ = some (.int .i64 0) := (K4.out.at (W1.heap.size) [.int .i64 0, .int .i64 0, .int .i64 D, .int .i64 U] (by simp)).c 1 rfl
  have c4_1_2 : W4.cell? ⟨W1.heap.size, 2, none⟩ = some (.int .i64 D) := (K4.out.at (W1.heap.size) [.int .i64 0, .int .i64 0, .int .i64 D, .int .i64 U] (by simp)).c 2 rfl
  have c4_1_3 : W4.cell? ⟨W1.heap.size, 3, none⟩ = some (.int .i64 U) := (K4.out.at (W1.heap.size) [.int .i64 0, .int .i64 0, .int .i64 D, .int .i64 U] (by simp)).c 3 rfl
  have c4_2_0 : W4.cell? ⟨w.heap.size + 1, 0, none⟩ = some (.int .i64 0) := (K4.out.at (w.heap.size + 1) [.int .i64 0, .int .i64 b] (by simp)).c 0 rfl
  have c4_2_1 : W4.cell? ⟨w.heap.size + 1, 1, none⟩ = some (.int .i64 b) := (K4.out.at (w.heap.size + 1) [.int .i64 0, .int .i64 b] (by simp)).c 1 rfl
  have c4_3_0 : W4.cell? ⟨w.heap.size, 0, none⟩ = some (.int .i64 0) := (K4.out.at (w.heap.size) [.int .i64 0, .int .i64 a] (by simp)).c 0 rfl
  have c4_3_1 : W4.cell? ⟨w.heap.size, 1, none⟩ = some (.int .i64 a) := (K4.out.at (w.heap.size) [.int .i64 0, .int .i64 a] (by simp)).c 1 rfl
  go_wp2_with fail
  refine (AG.out _ (hL.out _ K4.out.1)).mono ?_
  rintro e W5 ⟨rfl, hb⟩
  have K5 : Hid (BS w [(W3.heap.size, [.int .i64 0, .int .i64 a]), (W1.heap.size, [.int .i64 0, .int .i64 0, .int .i64 D, .int .i64 U]), (w.heap.size + 1, [.int .i64 0, .int .i64 b]), (w.heap.size, [.int .i64 0, .int .i64 a])] W5) := K4.out.below hb
  clear c4_0_0 c4_0_1 c4_1_0 c4_1_1 c4_1_2 c4_1_3 c4_2_0 c4_2_1 c4_3_0 c4_3_1
  clear hb K4
  have c5_0_0 : W5.cell? ⟨W3.heap.size, 0, none⟩ = some (.int .i64 0) := (K5.out.at (W3.heap.size) [.int .i64 0, .int .i64 a] (by simp)).c 0 rfl
  have c5_0_1 : W5.cell? ⟨W3.heap.size, 1, none⟩ = some (.int .i64 a) := (K5.out.at (W3.heap.size) [.int .i64 0, .int .i64 a] (by simp)).c 1 rfl
  have c5_1_0 : W5.cell? ⟨W1.heap.size, 0, none⟩ = some (.int .i64 0) := (K5.out.at (W1.heap.size) [.int .i64 0, .int .i64 0, .int .i64 D, .int .i64 U] (by simp)).c 0 rfl
  have c5_1_1 : W5.cell? ⟨W1.heap.size, 1, none⟩ = some (.int .i64 0) := (K5.out.at (W1.heap.size) [.int .i64 0, .int .i64 0, .int .i64 D, .int .i64 U] (by simp)).c 1 rfl
  have c5_1_2 : W5.cell? ⟨W1.heap.size, 2, none⟩ = some (.int .i64 D) := (K5.out.at (W1.heap.size) [.int .i64 0, .int .i64 0, .int .i64 D, .int .i64 U] (by simp)).c 2 rfl
  have c5_1_3 : W5.cell? ⟨W1.heap.size, 3, none⟩ = some (.int .i64 U) := (K5.out.at (W1.heap.size) [.int .i64 0, .int .i64 0, .int .i64 D, .int .i64 U] (by simp)).c 3 rfl
  have c5_2_0 : W5.cell? ⟨w.heap.size + 1, 0, none⟩ = some (.int .i64 0) := (K5.out.at (w.heap.size + 1) [.int .i64 0, .int .i64 b] (by simp)).c 0 rfl
  have c5_2_1 : W5.cell? ⟨w.heap.size + 1, 1, none⟩ = some (.int .i64 b) := (K5.out.at (w.heap.size + 1) [.int .i64 0, .int .i64 b] (by simp)).c 1 rfl
  have c5_3_0 : W5.cell? ⟨w.heap.size, 0, none⟩ = some (.int .i64 0) := (K5.out.at (w.heap.size) [.int .i64 0, .int .i64 a] (by simp)).c 0 rfl
  have c5_3_1 : W5.cell? ⟨w.heap.size, 1, none⟩ = some (.int .i64 a) := (K5.out.at (w.heap.size) [.int .i64 0, .int .i64 a] (by simp)).c 1 rfl
  have Mz5 : Hid (BS w [(W5.heap.size, [.int .i64 0, .int .i64 M, .int .i64 P, .int .i64 V]), (W3.heap.size, [.int .i64 0, .int .i64 a]), (W1.heap.size, [.int .i64 0, .int .i64 0, .int .i64 D, .int .i64 U]), (w.heap.size + 1, [.int .i64 0, .int .i64 b]), (w.heap.size, [.int .i64 0, .int .i64 a])] (W5.alloc (.cells #[.int .i64 0, .int .i64 M, .int .i64 P, .int .i64 V] 59))) := K5.out.new [.int .i64 0, .int .i64 M, .int .i64 P, .int .i64 V] 59 rfl
  have lt5_0 : W3.heap.size < W5.heap.size := (K5.out.at (W3.heap.size) [.int .i64 0, .int .i64 a] (by simp)).1
  have lt5_1 : W1.heap.size < W5.heap.size := (K5.out.at (W1.heap.size) [.int .i64 0, .int .i64 0, .int .i64 D, .int .i64 U] (by simp)).1
  have lt5_2 : w.heap.size + 1 < W5.heap.size := (K5.out.at (w.heap.size + 1) [.int .i64 0, .int .i64 b] (by simp)).1
  have lt5_3 : w.heap.size < W5.heap.size := (K5.out.at (w.heap.size) [.int .i64 0, .int .i64 a] (by simp)).1
  go_upto_region 12 with fail
  refine gen_to (BS w [(W5.heap.size, [.int .i64 0, .int .i64 M, .int .i64 P, .int .i64 V]), (W3.heap.size, [.int .i64 0, .int .i64 a]), (W1.heap.size, [.int .i64 0, .int .i64 0, .int .i64 D, .int .i64 U]), (w.heap.size + 1, [.int .i64 0, .int .i64 b]), (w.heap.size, [.int .i64 0, .int .i64 a])]) Mz5.out ?_
  clear c5_0_0 c5_0_1 c5_1_0 c5_1_1 c5_1_2 c5_1_3 c5_2_0 c5_2_1 c5_3_0 c5_3_1
  intro W6 K6'
  have K6 : Hid (BS w [(W5.heap.size, [.int .i64 0, .int .i64 M, .int .i64 P, .int .i64 V]), (W3.heap.size, [.int .i64 0, .int .i64 a]), (W1.heap.size, [.int .i64 0, .int .i64 0, .int .i64 D, .int .i64 U]), (w.heap.size + 1, [.int .i64 0, .int .i64 b]), (w.heap.size, [.int .i64 0, .int .i64 a])] W6) := K6'
  clear K6' Mz5 K5
  have c6_0_0 : W6.cell? ⟨W5.heap.size, 0, none⟩ = some (.int .i64 0) := (K6.out.at (W5.heap.size) [.int .i64 0, .int .i64 M, .int .i64 P, .int .i64 V] (by simp)).c 0 rfl
  have c6_0_1 : W6.cell? ⟨W5.heap.size, 1, none⟩ = some (.int .i64 M) := (K6.out.at (W5.heap.size) [.int .i64 0, .int .i64 M, .int .i64 P, .int .i64 V] (by simp)).c 1 rfl
  have c6_0_2 : W6.cell? ⟨W5.heap.size, 2, none⟩ = some (.int .i64 P) := (K6.out.at (W5.heap.size) [.int .i64 0, .int .i64 M, .int .i64 P, .int .i64 V] (by simp)).c 2 rfl
  have c6_0_3 : W6.cell? ⟨W5.heap.size, 3, none⟩ = some (.int .i64 V) := (K6.out.at (W5.heap.size) [.int .i64 0, .int .i64 M, .int .i64 P, .int .i64 V] (by simp)).c 3 rfl
  have c6_1_0 : W6.cell? ⟨W3.heap.size, 0, none⟩ = some (.int .i64 0) := (K6.out.at (W3.heap.size) [.int .i64 0, .int .i64 a] (by simp)).c 0 rfl
  have c6_1_1 : W6.cell? ⟨W3.heap.size, 1, none⟩ = some (.int .i64 a) := (K6.out.at (W3.heap.size) [.int .i64 0, .int .i64 a] (by simp)).c 1 rfl
  have c6_2_0 : W6.cell? ⟨W1.heap.size, 0, none⟩ = some (.int .i64 0) := (K6.out.at (W1.heap.size) [.int .i64 0, .int .i64 0, .int .i64 D, .int .i64 U] (by simp)).c 0 rfl
  have c6_2_1 : W6.cell? ⟨W1.heap.size, 1, none⟩ = some (.int .i64 0) := (K6.out.at (W1.heap.size) [.int .i64 0, .int .i64 0, .int .i64 D, .int .i64 U] (by simp)).c 1 rfl
  have c6_2_2 : W6.cell? ⟨W1.heap.size, 2, none⟩ = some (.int .i64 D) := (K6.out.at (W1.heap.size) [.int .i64 0, .int .i64 0, .int .i64 D, .int .i64 U] (by simp)).c 2 rfl
  have c6_2_3 : W6.cell? ⟨W1.heap.size, 3, none⟩ = some (.int .i64 U) := (K6.out.at (W1.heap.size) [.int .i64 0, .int .i64 0, .int .i64 D, .int .i64 U] (by simp)).c 3 rfl
  have c6_3_0 : W6.cell? ⟨w.heap.size + 1, 0, none⟩ = some (.int .i64 0) := (K6.out.at (w.heap.size + 1) [.int .i64 0, .int .i64 b] (by simp)).c 0 rfl
  have c6_3_1 : W6.cell? ⟨w.heap.size + 1, 1, none⟩ = some (.int .i64 b) := (K6.out.at (w.heap.size + 1) [.int .i64 0, .int .i64 b] (by simp)).c 1 rfl
  have c6_4_0 : W6.cell? ⟨w.heap.size, 0, none⟩ = some (.int .i64 0) := (K6.out.at (w.heap.size) [.int .i64 0, .int .i64 a] (by simp)).c 0 rfl
  have c6_4_1 : W6.cell? ⟨w.heap.size, 1, none⟩ = some (.int .i64 a) := (K6.out.at (w.heap.size) [.int .i64 0, .int .i64 a] (by simp)).c 1 rfl
  go_wp2_with fail
  refine (A2.out _ (hL.out _ K6.out.1)).mono ?_
  rintro e W7 ⟨rfl, hb⟩
  have K7 : Hid (BS w [(W5.heap.size, [.int .i64 0, .int .i64 M, .int .i64 P, .int .i64 V]), (W3.heap.size, [.int .i64 0, .int .i64 a]), (W1.heap.size, [.int .i64 0, .int .i64 0, .int .i64 D, .int .i64 U]), (w.heap.size + 1, [.int .i64 0, .int .i64 b]), (w.heap.size, [.int .i64 0, .int .i64 a])] W7) := K6.out.below hb
  clear c6_0_0 c6_0_1 c6_0_2 c6_0_3 c6_1_0 c6_1_1 c6_2_0 c6_2_1 c6_2_2 c6_2_3 c6_3_0 c6_3_1 c6_4_0 c6_4_1
  clear hb K6
  have c7_0_0 : W7.cell? ⟨W5.heap.size, 0, none⟩ = some (.int .i64 0) := (K7.out.at (W5.heap.size) [.int .i64 0, .int .i64 M, .int .i64 P, .int .i64 V] (by simp)).c 0 rfl
  have c7_0_1 : W7.cell? ⟨W5.heap.size, 1, none⟩ = some (.int .i64 M) := (K7.out.at (W5.heap.size) [.int .i64 0, .int .i64 M, .int .i64 P, .int .i64 V] (by simp)).c 1 rfl
  have c7_0_2 : W7.cell? ⟨W5.heap.size, 2, none⟩ = some (.int .i64 P) := (K7.out.at (W5.heap.size) [.int .i64 0, .int .i64 M, .int .i64 P, .int .i64 V] (by simp)).c 2 rfl
  have c7_0_3 : W7.cell? ⟨W5.heap.size, 3, none⟩ = some (.int .i64 V) := (K7.out.at (W5.heap.size) [.int .i64 0, .int .i64 M, .int .i64 P, .int .i64 V] (by simp)).c 3 rfl
  have c7_1_0 : W7.cell? ⟨W3.heap.size, 0, none⟩ = some (.int .i64 0) := (K7.out.at (W3.heap.size) [.int .i64 0, .int .i64 a] (by simp)).c 0 rfl
  have c7_1_1 : W7.cell? ⟨W3.heap.size, 1, none⟩ = some (.int .i64 a) := (K7.out.at (W3.heap.size) [.int .i64 0, .int .i64 a] (by simp)).c 1 rfl
  have c7_2_0 : W7.cell? ⟨W1.heap.size, 0, none⟩ = some (.int .i64 0) := (K7.out.at (W1.heap.size) [.int .i64 0, .int .i64 0, .int .i64 D, .int .i64 U] (by simp)).c 0 rfl
  have c7_2_1 : W7.cell? ⟨W1.heap.size, 1, none⟩ = some (.int .i64 0) := (K7.out.at (W1.heap.size) [.int .i64 0, .int .i64 0, .int .i64 D, .int .i64 U] (by simp)).c 1 rfl
  have c7_2_2 : W7.cell? ⟨W1.heap.size, 2, none⟩ = some (.int .i64 D) := (K7.out.at (W1.heap.size) [.int .i64 0, .int .i64 0, .int .i64 D, .int .i64 U] (by simp)).c 2 rfl
  have c7_2_3 : W7.cell? ⟨W1.heap.size, 3, none⟩ = some (.int .i64 U) := (K7.out.at (W1.heap.size) [.int .i64 0, .int .i64 0, .int .i64 D, .int .i64 U] (by simp)).c 3 rfl
  have c7_3_0 : W7.cell? ⟨w.heap.size + 1, 0, none⟩ = some (.int .i64 0) := (K7.out.at (w.heap.size + 1) [.int .i64 0, .int .i64 b] (by simp)).c 0 rfl
  have c7_3_1 : W7.cell? ⟨w.heap.size + 1, 1, none⟩ = some (.int .i64 b) := (K7.out.at (w.heap.size + 1) [.int .i64 0, .int .i64 b] (by simp)).c 1 rfl
  have c7_4_0 : W7.cell? ⟨w.heap.size, 0, none⟩ = some (.int .i64 0) := (K7.out.at (w.heap.size) [.int .i64 0, .int .i64 a] (by simp)).c 0 rfl
  have c7_4_1 : W7.cell? ⟨w.heap.size, 1, none⟩ = some (.int .i64 a) := (K7.out.at (w.heap.size) [.int .i64 0, .int .i64 a] (by simp)).c 1 rfl
  have Mz7 : Hid (BS w [(W7.heap.size, [.int .i64 0, .int .i64 a]), (W5.heap.size, [.int .i64 0, .int .i64 M, .int .i64 P, .int .i64 V]), (W3.heap.size, [.int .i64 0, .int .i64 a]), (W1.heap.size, [.int .i64 0, .int .i64 0, .int .i64 D, .int .i64 U]), (w.heap.size + 1, [.int .i64 0, .int .i64 b]), (w.heap.size, [.int .i64 0, .int .i64 a])] (W7.alloc (.cells #[.int .i64 0, .int .i64 a] 36))) := K7.out.new [.int .i64 0, .int .i64 a] 36 rfl
  have lt7_0 : W5.heap.size < W7.heap.size := (K7.out.at (W5.heap.size) [.int .i64 0, .int .i64 M, .int .i64 P, .int .i64 V] (by simp)).1
  have lt7_1 : W3.heap.size < W7.heap.size := (K7.out.at (W3.heap.size) [.int .i64 0, .int .i64 a] (by simp)).1
  have lt7_2 : W1.heap.size < W7.heap.size := (K7.out.at (W1.heap.size) [.int .i64 0, .int .i64 0, .int .i64 D, .int .i64 U] (by simp)).1
  have lt7_3 : w.heap.size + 1 < W7.heap.size := (K7.out.at (w.heap.size + 1) [.int .i64 0, .int .i64 b] (by simp)).1
  have lt7_4 : w.heap.size < W7.heap.size := (K7.out.at (w.heap.size) [.int .i64 0, .int .i64 a] (by simp)).1
  go_upto_region 13 with fail
  refine gen_to (BS w [(W7.heap.size, [.int .i64 0, .int .i64 a]), (W5.heap.size, [.int .i64 0, .int .i64 M, .int .i64 P, .int .i64 V]), (W3.heap.size, [.int .i64 0, .int .i64 a]), (W1.heap.size, [.int .i64 0, .int .i64 0, .int .i64 D, .int .i64 U]), (w.heap.size + 1, [.int .i64 0, .int .i64 b]), (w.heap.size, [.int .i64 0, .int .i64 a])]) Mz7.out ?_
  clear c7_0_0 c7_0_1 c7_0_2 c7_0_3 c7_1_0 c7_1_1 c7_2_0 c7_2_1 c7_2_2 c7_2_3 c7_3_0 c7_3_1 c7_4_0 c7_4_1
  intro W8 K8'
  have K8 : Hid (BS w [(W7.heap.size, [.int .i64 0, .int .i64 a]), (W5.heap.size, [.int .i64 0, .int .i64 M, .int .i64 P, .int .i64 V]), (W3.heap.size, [.int .i64 0, .int .i64 a]), (W1.heap.size, [.int .i64 0, .int .i64 0, .int .i64 D, .int .i64 U]), (w.heap.size + 1, [.int .i64 0, .int .i64 b]), (w.heap.size, [.int .i64 0, .int .i64 a])] W8) := K8'
  clear K8' Mz7 K7
  have c8_0_0 : W8.cell? ⟨W7.heap.size, 0, none⟩ = some (.int .i64 0) := (K8.out.at (W7.heap.size) [.int .i64 0, .int .i64 a] (by simp)).c 0 rfl
  have c8_0_1 : W8.cell? ⟨W7.heap.size, 1, none⟩ = some (.int .i64 a) := (K8.out.at (W7.heap.size) [.int .i64 0, .int .i64 a] (by simp)).c 1 rfl
  have c8_1_0 : W8.cell? ⟨W5.heap.size, 0, none⟩ = some (.int .i64 0) := (K8.out.at (W5.heap.size) [.int .i64 0, .int .i64 M, .int .i64 P, .int .i64 V] (by simp)).c 0 rfl
  have c8_1_1 : W8.cell? ⟨W5.heap.size, 1, none⟩ = some (.int .i64 M) := (K8.out.at (W5.heap.size) [.int .i64 0, .int .i64 M, .int .i64 P, .int .i64 V] (by simp)).c 1 rfl
  have c8_1_2 : W8.cell? ⟨W5.heap.size, 2, none⟩ = some (.int .i64 P) := (K8.out.at (W5.heap.size) [.int .i64 0, .int .i64 M, .int .i64 P, .int .i64 V] (by simp)).c 2 rfl
  have c8_1_3 : W8.cell? ⟨W5.heap.size, 3, none⟩ = some (.int .i64 V) := (K8.out.at (W5.heap.size) [.int .i64 0, .int .i64 M, .int .i64 P, .int .i64 V] (by simp)).c 3 rfl
  have c8_2_0 : W8.cell? ⟨W3.heap.size, 0, none⟩ = some (.int .i64 0) := (K8.out.at (W3.heap.size) [.int .i64 0, .int .i64 a] (by simp)).c 0 rfl
  have c8_2_1 : W8.cell? ⟨W3.heap.size, 1, none⟩ = some (.int .i64 a) := (K8.out.at (W3.heap.size) [.int .i64 0, .int .i64 a] (by simp)).c 1 rfl
  have c8_3_0 : W8.cell? ⟨W1.heap.size, 0, none⟩ = some (.int .i64 0) := (K8.out.at (W1.heap.size) [.int .i64 0, .int .i64 0, .int .i64 D, .int .i64 U] (by simp)).c 0 rfl
  have c8_3_1 : W8.cell? ⟨W1.heap.size, 1, none⟩ = some (.int .i64 0) := (K8.out.at (W1.heap.size) [.int .i64 0, .int .i64 0, .int .i64 D, .int .i64 U] (by simp)).c 1 rfl
  have c8_3_2 : W8.cell? ⟨W1.heap.size, 2, none⟩ = some (.int .i64 D) := (K8.out.at (W1.heap.size) [.int .i64 0, .int .i64 0, .int .i64 D, .int .i64 U] (by simp)).c 2 rfl
  have c8_3_3 : W8.cell? ⟨W1.heap.size, 3, none⟩ = some (.int .i64 U) := (K8.out.at (W1.heap.size) [.int .i64 0, .int .i64 0, .int .i64 D, .int .i64 U] (by simp)).c 3 rfl
  have c8_4_0 : W8.cell? ⟨w.heap.size + 1, 0, none⟩ = some (.int .i64 0) := (K8.out.at (w.heap.size + 1) [.int .i64 0, .int .i64 b] (by simp)).c 0 rfl
  have c8_4_1 : W8.cell? ⟨w.heap.size + 1, 1, none⟩ = some (.int .i64 b) := (K8.out.at (w.heap.size + 1) [.int .i64 0, .int .i64 b] (by simp)).c 1 rfl
  have c8_5_0 : W8.cell? ⟨w.heap.size, 0, none⟩ = some (.int .i64 0) := (K8.out.at (w.heap.size) [.int .i64 0, .int .i64 a] (by simp)).c 0 rfl
  have c8_5_1 : W8.cell? ⟨w.heap.size, 1, none⟩ = some (.int .i64 a) := (K8.out.at (w.heap.size) [.int .i64 0, .int .i64 a] (by simp)).c 1 rfl
  go_wp2_with fail
  refine (KN.out _ (hL.out _ K8.out.1)).mono ?_
  rintro e W9 ⟨rfl, hb⟩
  have K9 : Hid (BS w [(W7.heap.size, [.int .i64 0, .int .i64 a]), (W5.heap.size, [.int .i64 0, .int .i64 M, .int .i64 P, .int .i64 V]), (W3.heap.size, [.int .i64 0, .int .i64 a]), (W1.heap.size, [.int .i64 0, .int .i64 0, .int .i64 D, .int .i64 U]), (w.heap.size + 1, [.int .i64 0, .int .i64 b]), (w.heap.size, [.int .i64 0, .int .i64 a])] W9) := K8.out.below hb
  clear c8_0_0 c8_0_1 c8_1_0 c8_1_1 c8_1_2 c8_1_3 c8_2_0 c8_2_1 c8_3_0 c8_3_1 c8_3_2 c8_3_3 c8_4_0 c8_4_1 c8_5_0 c8_5_1
  clear hb K8
  have c9_0_0 : W9.cell? ⟨W7.heap.size, 0, none⟩ = some (.int .i64 0) := (K9.out.at (W7.heap.size) [.int .i64 0, .int .i64 a] (by simp)).c 0 rfl
  have c9_0_1 : W9.cell? ⟨W7.heap.size, 1, none⟩ = some (.int .i64 a) := (K9.out.at (W7.heap.size) [.int .i64 0, .int .i64 a] (by simp)).c 1 rfl
  have c9_1_0 : W9.cell? ⟨W5.heap.size, 0, none⟩ = some (.int .i64 0) := (K9.out.at (W5.heap.size) [.int .i64 0, .int .i64 M, .int .i64 P, .int .i64 V] (by simp)).c 0 rfl
  have c9_1_1 : W9.cell? ⟨W5.heap.size, 1, none⟩ = some (.int .i64 M) := (K9.out.at (W5.heap.size) [.int .i64 0, .int .i64 M, .int .i64 P, .int .i64 V] (by simp)).c 1 rfl
  have c9_1_2 : W9.cell? ⟨W5.heap.size, 2, none⟩ = some (.int .i64 P) := (K9.out.at (W5.heap.size) [.int .i64 0, .int .i64 M, .int .i64 P, .int .i64 V] (by simp)).c 2 rfl
  have c9_1_3 : W9.cell? ⟨W5.heap.size, 3, none⟩ = some (.int .i64 V) := (K9.out.at (W5.heap.size) [.int .i64 0, .int .i64 M, .int .i64 P, .int .i64 V] (by simp)).c 3 rfl
  have c9_2_0 : W9.cell? ⟨W3.heap.size, 0, none⟩ = some (.int .i64 0) := (K9.out.at (W3.heap.size) [.int .i64 0, .int .i64 a] (by simp)).c 0 rfl
  have c9_2_1 : W9.cell? ⟨W3.heap.size, 1, none⟩ = some (.int .i64 a) := (K9.out.at (W3.heap.size) [.int .i64 0, .int .i64 a] (by simp)).c 1 rfl
  have c9_3_0 : W9.cell? ⟨W1.heap.size, 0, none⟩ = some (.int .i64 0) := (K9.out.at (W1.heap.size) [.int .i64 0, .int .i64 0, .int .i64 D, .int .i64 U] (by simp)).c 0 rfl
  have c9_3_1 : W9.cell? ⟨W1.heap.size, 1, none⟩ = some (.int .i64 0) := (K9.out.at (W1.heap.size) [.int .i64 0, .int .i64 0, .int .i64 D, .int .i64 U] (by simp)).c 1 rfl
  have c9_3_2 : W9.cell? ⟨W1.heap.size, 2, none⟩ = some (.int .i64 D) := (K9.out.at (W1.heap.size) [.int .i64 0, .int .i64 0, .int .i64 D, .int .i64 U] (by simp)).c 2 rfl
  have c9_3_3 : W9.cell? ⟨W1.heap.size, 3, none⟩ = some (.int .i64 U) := (K9.out.at (W1.heap.size) [.int .i64 0, .int .i64 0, .int .i64 D, .int .i64 U] (by simp)).c 3 rfl
  have c9_4_0 : W9.cell? ⟨w.heap.size + 1, 0, none⟩ = some (.int .i64 0) := (K9.out.at (w.heap.size + 1) [.int .i64 0, .int .i64 b] (by simp)).c 0 rfl
  have c9_4_1 : W9.cell? ⟨w.heap.size + 1, 1, none⟩ = some (.int .i64 b) := (K9.out.at (w.heap.size + 1) [.int .i64 0, .int .i64 b] (by simp)).c 1 rfl
  have c9_5_0 : W9.cell? ⟨w.heap.size, 0, none⟩ = some (.int .i64 0) := (K9.out.at (w.heap.size) [.int .i64 0, .int .i64 a] (by simp)).c 0 rfl
  have c9_5_1 : W9.cell? ⟨w.heap.size, 1, none⟩ = some (.int .i64 a) := (K9.out.at (w.heap.size) [.int .i64 0, .int .i64 a] (by simp)).c 1 rfl
  go_wp2
  go_ret
  exact ⟨rfl, K9.out.1⟩


end Go.Proofs.YtigeccplombggaaGreatDoor
