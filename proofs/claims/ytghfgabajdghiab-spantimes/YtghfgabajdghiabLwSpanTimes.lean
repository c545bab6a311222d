/- The walk of SpanTimes. -/
import Derived.Test.YtghfgabajdghiabSpA
import Derived.Deep.Cut
namespace Go.Proofs.Ytghfgabajdghiab
open Go.RowKit
set_option linter.unusedVariables false

set_option maxRecDepth 100000 in
set_option maxHeartbeats 4000000 in
theorem core_SpanTimes (i m d u n p q a1 a2 a3 a4 a5 b1 b2 b3 b4 b5 : Int)
    (M1 : Hid (∀ w : World, Calls Try.prog 18 #[.agg #[.int .i64 i, .int .i64 m, .int .i64 d, .int .i64 u], .int .i64 n] w fun r' w' => r' = .returned (.tuple #[.agg #[.int .i64 a1, .int .i64 a2, .int .i64 a3, .int .i64 a4], .int .i64 a5]) ∧ Below w.heap.size w w'))
    (M2 : Hid (∀ w : World, Calls Try.prog 19 #[.agg #[.int .i64 i, .int .i64 m, .int .i64 d, .int .i64 u], .int .i64 n] w fun r' w' => r' = .returned (.tuple #[.agg #[.int .i64 a1, .int .i64 a2, .int .i64 a3, .int .i64 a4], .int .i64 a5]) ∧ Below w.heap.size w w'))
    (P1 : Hid (∀ w : World, Calls Try.prog 20 #[.int .i64 p, .int .i64 q, .int .i64 n] w fun r' w' => r' = .returned (.tuple #[.agg #[.int .i64 b1, .int .i64 b2, .int .i64 b3, .int .i64 b4], .int .i64 b5]) ∧ Below w.heap.size w w'))
    (P2 : Hid (∀ w : World, Calls Try.prog 21 #[.int .i64 p, .int .i64 q, .int .i64 n] w fun r' w' => r' = .returned (.tuple #[.agg #[.int .i64 b1, .int .i64 b2, .int .i64 b3, .int .i64 b4], .int .i64 b5]) ∧ Below w.heap.size w w'))
    (KN : Hid (∀ w : World, Calls Try.prog 17 #[] w fun r' w' => r' = .returned (.bool true) ∧ Below w.heap.size w w'))
    (w : World) :
    Calls Try.prog 4 #[.agg #[.int .i64 i, .int .i64 m, .int .i64 d, .int .i64 u], .int .i64 n, .int .i64 p, .int .i64 q] w fun r' w' => r' = .returned (.bool true) ∧ Below w.heap.size w w' := by
  have K0 : Hid (BS w [(w.heap.size, [.int .i64 i, .int .i64 m, .int .i64 d, .int .i64 u])] (w.alloc (.cells #[.int .i64 i, .int .i64 m, .int .i64 d, .int .i64 u] 23))) := ((BS.start w).new [.int .i64 i, .int .i64 m, .int .i64 d, .int .i64 u] 23 rfl)
  go_enter Try.func4, Try.ntmps4
  go_wp2_with fail
  refine (M1.out _).mono ?_
  rintro e W1 ⟨rfl, hb⟩
  have K1 : Hid (BS w [(w.heap.size, [.int .i64 i, .int .i64 m, .int .i64 d, .int .i64 u])] W1) := K0.out.below hb
  clear hb K0
  have c1_0_0 : W1.cell? ⟨w.heap.size, 0, none⟩ = some (.int .i64 i) := (K1.out.at (w.heap.size) [.int .i64 i, .int .i64 m, .int .i64 d, .int .i64 u] (by simp)).c 0 rfl
  have c1_0_1 : W1.cell? ⟨w.heap.size, 1, none⟩ = some (.int .i64 m) := (K1.out.at (w.heap.size) [.int .i64 i, .int .i64 m, .int .i64 d, .int .i64 u] (by simp)).c 1 rfl
  have c1_0_2 : W1.cell? ⟨w.heap.size, 2, none⟩ = some (.int .i64 d) := (K1.out.at (w.heap.size) [.int .i64 i, .int .i64 m, .int .i64 d, .int .i64 u] (by simp)).c 2 rfl
  have c1_0_3 : W1.cell? ⟨w.heap.size, 3, none⟩ = some (.int .i64 u) := (K1.out.at (w.heap.size) [.int .i64 i, .int .i64 m, .int .i64 d, .int .i64 u] (by simp)).c 3 rfl
  have Mz1 : Hid (BS w [(W1.heap.size, [.int .i64 a1, .int .i64 a2, .int .i64 a3, .int .i64 a4]), (w.heap.size, [.int .i64 i, .int .i64 m, .int .i64 d, .int .i64 u])] (W1.alloc (.cells #[.int .i64 a1, .int .i64 a2, .int .i64 a3, .int .i64 a4] 23))) := K1.out.new [.int .i64 a1, .int .i64 a2, .int .i64 a3, .int .i64 a4] 23 rfl
  go_upto_region 2 with fail
  refine gen_to (BS w [(W1.heap.size, [.int .i64 a1, .int .i64 a2, .int .i64 a3, .int .i64 a4]), (w.heap.size, [.int .i64 i, .int .i64 m, .int .i64 d, .int .i64 u])]) Mz1.out ?_
  clear c1_0_0 c1_0_1 c1_0_2 c1_0_3
  intro W2 K2'
  have K2 : Hid (BS w [(W1.heap.size, [.int .i64 a1, .int .i64 a2, .int .i64 a3, .int .i64 a4]), (w.heap.size, [.int .i64 i, .int .i64 m, .int .i64 d, .int .i64 u])] W2) := K2'
  clear K2' Mz1 K1
  have c2_0_0 : W2.cell? ⟨W1.heap.size, 0, none⟩ = some (.int .i64 a1) := (K2.out.at (W1.heap.size) [.int .i64 a1, .int .i64 a2, .int .i64 a3, .int .i64 a4] (by simp)).c 0 rfl
  have c2_0_1 : W2.cell? ⟨W1.heap.size, 1, none⟩ = some (.int .i64 a2) := (K2.out.at (W1.heap.size) [.int .i64 a1, .int .i64 a2, .int .i64 a3, .int .i64 a4] (by simp)).c 1 rfl
  have c2_0_2 : W2.cell? ⟨W1.heap.size, 2, none⟩ = some (.int .i64 a3) := (K2.out.at (W1.heap.size) [.int .i64 a1, .int .i64 a2, .int .i64 a3, .int .i64 a4] (by simp)).c 2 rfl
  have c2_0_3 : W2.cell? ⟨W1.heap.size, 3, none⟩ = some (.int .i64 a4) := (K2.out.at (W1.heap.size) [.int .i64 a1, .int .i64 a2, .int .i64 a3, .int .i64 a4] (by simp)).c 3 rfl
  have c2_1_0 : W2.cell? ⟨w.heap.size, 0, none⟩ = some (.int .i64 i) := (K2.out.at (w.heap.size) [.int .i64 i, .int .i64 m, .int .i64 d, .int .i64 u] (by simp)).c 0 rfl
  have c2_1_1 : W2.cell? ⟨w.heap.size, 1, none⟩ = some (.int .i64 m) := (K2.out.at (w.heap.size) [.int .i64 i, .int .i64 m, .int .i64 d, .int .i64 u] (by simp)).c 1 rfl
  have c2_1_2 : W2.cell? ⟨w.heap.size, 2, none⟩ = some (.int .i64 d) := (K2.out.at (w.heap.size) [.int .i64 i, .int .i64 m, .int .i64 d, .int .i64 u] (by simp)).c 2 rfl
  have c2_1_3 : W2.cell? ⟨w.heap.size, 3, none⟩ = some (.int .i64 u) := (K2.out.at (w.heap.size) [.int .i64 i, .int .i64 m, .int .i64 d, .int .i64 u] (by simp)).c 3 rfl
  go_wp2_with fail
  refine (M2.out _).mono ?_
  rintro e W3 ⟨rfl, hb⟩
  have K3 : Hid (BS w [(W1.heap.size, [.int .i64 a1, .int .i64 a2, .int .i64 a3, .int .i64 a4]), (w.heap.size, [.int .i64 i, .int .i64 m, .int .i64 d, .int .i64 u])] W3) := K2.out.below hb
  clear c2_0_0 c2_0_1 c2_0_2 c2_0_3 c2_1_0 c2_1_1 c2_1_2 c2_1_3
  clear hb K2
  have c3_0_0 : W3.cell? ⟨W1.heap.size, 0, none⟩ = some (.int .i64 a1) := (K3.out.at (W1.heap.size) [.int .i64 a1, .int .i64 a2, .int .i64 a3, .int .i64 a4] (by simp)).c 0 rfl
  have c3_0_1 : W3.cell? ⟨W1.heap.size, 1, none⟩ = some (.int .i64 a2) := (K3.out.at (W1.heap.size) [.int .i64 a1, .int .i64 a2, .int .i64 a3, .int .i64 a4] (by simp)).c 1 rfl
  have c3_0_2 : W3.cell? ⟨W1.heap.size, 2, none⟩ = some (.int .i64 a3) := (K3.out.at (W1.heap.size) [.int .i64 a1, .int .i64 a2, .int .i64 a3, .int .i64 a4] (by simp)).c 2 rfl
  have c3_0_3 : W3.cell? ⟨W1.heap.size, 3, none⟩ = some (.int .i64 a4) := (K3.out.at (W1.heap.size) [.int .i64 a1, .int .i64 a2, .int .i64 a3, .int .i64 a4] (by simp)).c 3 rfl
  have c3_1_0 : W3.cell? ⟨w.heap.size, 0, none⟩ = some (.int .i64 i) := (K3.out.at (w.heap.size) [.int .i64 i, .int .i64 m, .int .i64 d, .int .i64 u] (by simp)).c 0 rfl
  have c3_1_1 : W3.cell? ⟨w.heap.size, 1, none⟩ = some (.int .i64 m) := (K3.out.at (w.heap.size) [.int .i64 i, .int .i64 m, .int .i64 d, .int .i64 u] (by simp)).c 1 rfl
  have c3_1_2 : W3.cell? ⟨w.heap.size, 2, none⟩ = some (.int .i64 d) := (K3.out.at (w.heap.size) [.int .i64 i, .int .i64 m, .int .i64 d, .int .i64 u] (by simp)).c 2 rfl
  have c3_1_3 : W3.cell? ⟨w.heap.size, 3, none⟩ = some (.int .i64 u) := (K3.out.at (w.heap.size) [.int .i64 i, .int .i64 m, .int .i64 d, .int .i64 u] (by simp)).c 3 rfl
  have Mz3 : Hid (BS w [(W3.heap.size, [.int .i64 a1, .int .i64 a2, .int .i64 a3, .int .i64 a4]), (W1.heap.size, [.int .i64 a1, .int .i64 a2, .int .i64 a3, .int .i64 a4]), (w.heap.size, [.int .i64 i, .int .i64 m, .int .i64 d, .int .i64 u])] (W3.alloc (.cells #[.int .i64 a1, .int .i64 a2, .int .i64 a3, .int .i64 a4] 23))) := K3.out.new [.int .i64 a1, .int .i64 a2, .int .i64 a3, .int .i64 a4] 23 rfl
  go_upto_region 3 with fail
  refine gen_to (BS w [(W3.heap.size, [.int .i64 a1, .int .i64 a2, .int .i64 a3, .int .i64 a4]), (W1.heap.size, [.int .i64 a1, .int .i64 a2, .int .i64 a3, .int .i64 a4]), (w.heap.size, [.int .i64 i, .int .i64 m, .int .i64 d, .int .i64 u])]) Mz3.out ?_
  clear c3_0_0 c3_0_1 c3_0_2 c3_0_3 c3_1_0 c3_1_1 c3_1_2 c3_1_3
  intro W4 K4'
  have K4 : Hid (BS w [(W3.heap.size, [.int .i64 a1, .int .i64 a2, .int .i64 a3, .int .i64 a4]), (W1.heap.size, [.int .i64 a1, .int .i64 a2, .int .i64 a3, .int .i64 a4]), (w.heap.size, [.int .i64 i, .int .i64 m, .int .i64 d, .int .i64 u])] W4) := K4'
  clear K4' Mz3 K3
  have c4_0_0 : W4.cell? ⟨W3.heap.size, 0, none⟩ = some (.int .i64 a1) := (K4.out.at (W3.heap.size) [.int .i64 a1, .int .i64 a2, .int .i64 a3, .int .i64 a4] (by simp)).c 0 rfl
  have c4_0_1 : W4.cell? ⟨W3.heap.size, 1, none⟩ = some (.int .i64 a2) := (K4.out.at (W3.heap.size) [.int .i64 a1, .int .i64 a2, .int .i64 a3, .int .i64 a4] (by simp)).c 1 rfl
  have c4_0_2 : W4.cell? ⟨W3.heap.size, 2, none⟩ = some (.int .i64 a3) := (K4.out.at (W3.heap.size) [.int .i64 a1, .int .i64 a2, .int .i64 a3, .int .i64 a4] (by simp)).c 2 rfl
  have c4_0_3 : W4.cell? ⟨W3.heap.size, 3, none⟩ = some (.int .i64 a4) := (K4.out.at (W3.heap.size) [.int .i64 a1, .int .i64 a2, .int .i64 a3, .int .i64 a4] (by simp)).c 3 rfl
  have c4_1_0 : W4.cell? ⟨W1.heap.size, 0, none⟩ = some (.int .i64 a1) := (K4.out.at (W1.heap.size) [.int .i64 a1, .int .i64 a2, .int .i64 a3, .int .i64 a4] (by simp)).c 0 rfl
  have c4_1_1 : W4.cell? ⟨W1.heap.size, 1, none⟩ = some (.int .i64 a2) := (K4.out.at (W1.heap.size) [.int .i64 a1, .int .i64 a2, .int .i64 a3, .int .i64 a4] (by simp)).c 1 rfl
  have c4_1_2 : W4.cell? ⟨W1.heap.size, 2, none⟩ = some (.int .i64 a3) := (K4.out.at (W1.heap.size) [.int .i64 a1, .int .i64 a2, .int .i64 a3, .int .i64 a4] (by simp)).c 2 rfl
  have c4_1_3 : W4.cell? ⟨W1.heap.size, 3, none⟩ = some (.int .i64 a4) := (K4.out.at (W1.heap.size) [.int .i64 a1, .int .i64 a2, .int .i64 a3, .int .i64 a4] (by simp)).c 3 rfl
  have c4_2_0 : W4.cell? ⟨w.heap.size, 0, none⟩ = some (.int .i64 i) := (K4.out.at (w.heap.size) [.int .i64 i, .int .i64 m, .int .i64 d, .int .i64 u] (by simp)).c 0 rfl
  have c4_2_1 : W4.cell? ⟨w.heap.size, 1, none⟩ = some (.int .i64 m) := (K4.out.at (w.heap.size) [.int .i64 i, .int .i64 m, .int .i64 d, .int .i64 u] (by simp)).c 1 rfl
  have c4_2_2 : W4.cell? ⟨w.heap.size, 2, none⟩ = some (.int .i64 d) := (K4.out.at (w.heap.size) [.int .i64 i, .int .i64 m, .int .i64 d, .int .i64 u] (by simp)).c 2 rfl
  have c4_2_3 : W4.cell? ⟨w.heap.size, 3, none⟩ = some (.int .i64 u) := (K4.out.at (w.heap.size) [.int .i64 i, .int .i64 m, .int .i64 d, .int .i64 u] (by simp)).c 3 rfl
  go_wp2_with fail
  refine (P1.out _).mono ?_
  rintro e W5 ⟨rfl, hb⟩
  have K5 : Hid (BS w [(W3.heap.size, [.int .i64 a1, .int .i64 a2, .int .i64 a3, .int .i64 a4]), (W1.heap.size, [.int .i64 a1, .int .i64 a2, .int .i64 a3, .int .i64 a4]), (w.heap.size, [.int .i64 i, .int .i64 m, .int .i64 d, .int .i64 u])] W5) := K4.out.below hb
  clear c4_0_0 c4_0_1 c4_0_2 c4_0_3 c4_1_0 c4_1_1 c4_1_2 c4_1_3 c4_2_0 c4_2_1 c4_2_2 c4_2_3
  clear hb K4
  have c5_0_0 : W5.cell? ⟨W3.heap.size, 0, none⟩ = some (.int .i64 a1) := (K5.out.at (W3.heap.size) [.int .i64 a1, .int .i64 a2, .int .i64 a3, .int .i64 a4] (by simp)).c 0 rfl
  have c5_0_1 : W5.cell? ⟨W3.heap.size, 1, none⟩ = some (.int .i64 a2) := (K5.out.at (W3.heap.size) [.int .i64 a1, .int .i64 a2, .int .i64 a3, .int .i64 a4] (by simp)).c 1 rfl
  have c5_0_2 : W5.cell? ⟨W3.heap.size, 2, none⟩ = some (.int .i64 a3) := (K5.out.at (W3.heap.size) [.int .i64 a1, .int .i64 a2, .int .i64 a3, .int .i64 a4] (by simp)).c 2 rfl
  have c5_0_3 : W5.cell? ⟨W3.heap.size, 3, none⟩ = some (.int .i64 a4) := (K5.out.at (W3.heap.size) [.int .i64 a1, .int .i64 a2, .int .i64 a3, .int .i64 a4] (by simp)).c 3 rfl
  have c5_1_0 : W5.cell? ⟨W1.heap.size, 0, none⟩ = some (.int .i64 a1) := (K5.out.at (W1.heap.size) [.int .i64 a1, .int .i64 a2, .int .i64 a3, .int .i64 a4] (by simp)).c 0 rfl
  have c5_1_1 : W5.cell? ⟨W1.heap.size, 1, none⟩ = some (.int .i64 a2) := (K5.out.at (W1.heap.size) [.int .i64 a1, .int .i64 a2, .int .i64 a3, .int .i64 a4] (by simp)).c 1 rfl
  have c5_1_2 : W5.cell? ⟨W1.heap.size, 2, none⟩ = some (.int .i64 a3) := (K5.out.at (W1.heap.size) [.int .i64 a1, .int .i64 a2, .int .i64 a3, .int .i64 a4] (by simp)).c 2 rfl
  have c5_1_3 : W5.cell? ⟨W1.heap.size, 3, none⟩ = some (.int .i64 a4) := (K5.out.at (W1.heap.size) [.int .i64 a1, .int .i64 a2, .int .i64 a3, .int .i64 a4] (by simp)).c 3 rfl
  have c5_2_0 : W5.cell? ⟨w.heap.size, 0, none⟩ = some (.int .i64 i) := (K5.out.at (w.heap.size) [.int .i64 i, .int .i64 m, .int .i64 d, .int .i64 u] (by simp)).c 0 rfl
  have c5_2_1 : W5.cell? ⟨w.heap.size, 1, none⟩ = some (.int .i64 m) := (K5.out.at (w.heap.size) [.int .i64 i, .int .i64 m, .int .i64 d, .int .i64 u] (by simp)).c 1 rfl
  have c5_2_2 : W5.cell? ⟨w.heap.size, 2, none⟩ = some (.int .i64 d) := (K5.out.at (w.heap.size) [.int .i64 i, .int .i64 m, .int .i64 d, .int .i64 u] (by simp)).c 2 rfl
  have c5_2_3 : W5.cell? ⟨w.heap.size, 3, none⟩ = some (.int .i64 u) := (K5.out.at (w.heap.size) [.int .i64 i, .int .i64 m, .int .i64 d, .int .i64 u] (by simp)).c 3 rfl
  have Mz5 : Hid (BS w [(W5.heap.size, [.int .i64 b1, .int .i64 b2, .int .i64 b3, .int .i64 b4]), (W3.heap.size, [.int .i64 a1, .int .i64 a2, .int .i64 a3, .int .i64 a4]), (W1.heap.size, [.int .i64 a1, .int .i64 a2, .int .i64 a3, .int .i64 a4]), (w.heap.size, [.int .i64 i, .int .i64 m, .int .i64 d, .int .i64 u])] (W5.alloc (.cells #[.int .i64 b1, .int .i64 b2, .int .i64 b3, .int .i64 b4] 23))) := K5.out.new [.int .i64 b1, .int .i64 b2, .int .i64 b3, .int .i64 b4] 23 rfl
  go_upto_region 4 with fail
  refine gen_to (BS w [(W5.heap.size, [.int .i64 b1, .int .i64 b2, .int .i64 b3, .int .i64 b4]), (W3.heap.size, [.int .i64 a1, .int .i64 a2, .int .i64 a3, .int .i64 a4]), (W1.heap.size, [.int .i64 a1, .int .i64 a2, .int .i64 a3, .int .i64 a4]), (w.heap.size, [.int .i64 i, .int .i64 m, .int .i64 d, .int .i64 u])]) Mz5.out ?_
  clear c5_0_0 c5_0_1 c5_0_2 c5_0_3 c5_1_0 c5_1_1 c5_1_2 c5_1_3 c5_2_0 c5_2_1 c5_2_2 c5_2_3
  intro W6 K6'
  have K6 : Hid (BS w [(W5.heap.size, [.int .i64 b1, .int .i64 b2, .int .i64 b3, .int .i64 b4]), (W3.heap.size, [.int .i64 a1, .int .i64 a2, .int .i64 a3, .int .i64 a4]), (W1.heap.size, [.int .i64 a1, .int .i64 a2, .int .i64 a3, .int .i64 a4]), (w.heap.size, [.int .i64 i, .int .i64 m, .int .i64 d, .int .i64 u])] W6) := K6'
  clear K6' Mz5 K5
  have c6_0_0 : W6.cell? ⟨W5.heap.size, 0, none⟩ = some (.int .i64 b1) := (K6.out.at (W5.heap.size) [.int .i64 b1, .int .i64 b2, .int .i64 b3, .int .i64 b4] (by simp)).c 0 rfl
  have c6_0_1 : W6.cell? ⟨W5.heap.size, 1, none⟩ = some (.int .i64 b2) := (K6.out.at (W5.heap.size) [.int .i64 b1, .int .i64 b2, .int .i64 b3, .int .i64 b4] (by simp)).c 1 rfl
  have c6_0_2 : W6.cell? ⟨W5.heap.size, 2, none⟩ = some (.int .i64 b3) := (K6.out.at (W5.heap.size) [.int .i64 b1, .int .i64 b2, .int .i64 b3, .int .i64 b4] (by simp)).c 2 rfl
  have c6_0_3 : W6.cell? ⟨W5.heap.size, 3, none⟩ = some (.int .i64 b4) := (K6.out.at (W5.heap.size) [.int .i64 b1, .int .i64 b2, .int .i64 b3, .int .i64 b4] (by simp)).c 3 rfl
  have c6_1_0 : W6.cell? ⟨W3.heap.size, 0, none⟩ = some (.int .i64 a1) := (K6.out.at (W3.heap.size) [.int .i64 a1, .int .i64 a2, .int .i64 a3, .int .i64 a4] (by simp)).c 0 rfl
  have c6_1_1 : W6.cell? ⟨W3.heap.size, 1, none⟩ = some (.int .i64 a2) := (K6.out.at (W3.heap.size) [.int .i64 a1, .int .i64 a2, .int .i64 a3, .int .i64 a4] (by simp)).c 1 rfl
  have c6_1_2 : W6.cell? ⟨W3.heap.size, 2, none⟩ = some (.int .i64 a3) := (K6.out.at (W3.heap.size) [.int .i64 a1, .int .i64 a2, .int .i64 a3, .int .i64 a4] (by simp)).c 2 rfl
  have c6_1_3 : W6.cell? ⟨W3.heap.size, 3, none⟩ = some (.int .i64 a4) := (K6.out.at (W3.heap.size) [.int .i64 a1, .int .i64 a2, .int .i64 a3, .int .i64 a4] (by simp)).c 3 rfl
  have c6_2_0 : W6.cell? ⟨W1.heap.size, 0, none⟩ = some (.int .i64 a1) := (K6.out.at (W1.heap.size) [.int .i64 a1, .int .i64 a2, .int .i64 a3, .int .i64 a4] (by simp)).c 0 rfl
  have c6_2_1 : W6.cell? ⟨W1.heap.size, 1, none⟩ = some (.int .i64 a2) := (K6.out.at (W1.heap.size) [.int .i64 a1, .int .i64 a2, .int .i64 a3, .int .i64 a4] (by simp)).c 1 rfl
  have c6_2_2 : W6.cell? ⟨W1.heap.size, 2, none⟩ = some (.int .i64 a3) := (K6.out.at (W1.heap.size) [.int .i64 a1, .int .i64 a2, .int .i64 a3, .int .i64 a4] (by simp)).c 2 rfl
  have c6_2_3 : W6.cell? ⟨W1.heap.size, 3, none⟩ = some (.int .i64 a4) := (K6.out.at (W1.heap.size) [.int .i64 a1, .int .i64 a2, .int .i64 a3, .int .i64 a4] (by simp)).c 3 rfl
  have c6_3_0 : W6.cell? ⟨w.heap.size, 0, none⟩ = some (.int .i64 i) := (K6.out.at (w.heap.size) [.int .i64 i, .int .i64 m, .int .i64 d, .int .i64 u] (by simp)).c 0 rfl
  have c6_3_1 : W6.cell? ⟨w.heap.size, 1, none⟩ = some (.int .i64 m) := (K6.out.at (w.heap.size) [.int .i64 i, .int .i64 m, .int .i64 d, .int .i64 u] (by simp)).c 1 rfl
  have c6_3_2 : W6.cell? ⟨w.heap.size, 2, none⟩ = some (.int .i64 d) := (K6.out.at (w.heap.size) [.int .i64 i, .int .i64 m, .int .i64 d, .int .i64 u] (by simp)).c 2 rfl
  have c6_3_3 : W6.cell? ⟨w.heap.size, 3, none⟩ = some (.int .i64 u) := (K6.out.at (w.heap.size) [.int .i64 i, .int .i64 m, .int .i64 d, .int .i64 u] (by simp)).c 3 rfl
  go_wp2_with fail
  refine (P2.out _).mono ?_
  rintro e W7 ⟨rfl, hb⟩
  have K7 : Hid (BS w [(W5.heap.size, [.int .i64 b1, .int .i64 b2, .int .i64 b3, .int .i64 b4]), (W3.heap.size, [.int .i64 a1, .int .i64 a2, .int .i64 a3, .int .i64 a4]), (W1.heap.size, [.int .i64 a1, .int .i64 a2, .int .i64 a3, .int .i64 a4]), (w.heap.size, [.int .i64 i, .int .i64 m, .int .i64 d, .int .i64 u])] W7) := K6.out.below hb
  clear c6_0_0 c6_0_1 c6_0_2 c6_0_3 c6_1_0 c6_1_1 c6_1_2 c6_1_3 c6_2_0 c6_2_1 c6_2_2 c6_2_3 c6_3_0 c6_3_1 c6_3_2 c6_3_3
  clear hb K6
  have c7_0_0 : W7.cell? ⟨W5.heap.size, 0, none⟩ = some (.int .i64 b1) := (K7.out.at (W5.heap.size) [.int .i64 b1, .int .i64 b2, .int .i64 b3, .int .i64 b4] (by simp)).c 0 rfl
  have c7_0_1 : W7.cell? ⟨W5.heap.size, 1, none⟩ = some (.int .i64 b2) := (K7.out.at (W5.heap.size) [.int .i64 b1, .int .i64 b2, .int .i64 b3, .int .i64 b4] (by simp)).c 1 rfl
  have c7_0_2 : W7.cell? ⟨W5.heap.size, 2, none⟩ = some (.int .i64 b3) := (K7.out.at (W5.heap.size) [.int .i64 b1, .int .i64 b2, .int .i64 b3, .int .i64 b4] (by simp)).c 2 rfl
  have c7_0_3 : W7.cell? ⟨W5.heap.size, 3, none⟩ = some (.int .i64 b4) := (K7.out.at (W5.heap.size) [.int .i64 b1, .int .i64 b2, .int .i64 b3, .int .i64 b4] (by simp)).c 3 rfl
  have c7_1_0 : W7.cell? ⟨W3.heap.size, 0, none⟩ = some (.int .i64 a1) := (K7.out.at (W3.heap.size) [.int .i64 a1, .int .i64 a2, .int .i64 a3, .int .i64 a4] (by simp)).c 0 rfl
  have c7_1_1 : W7.cell? ⟨W3.heap.size, 1, none⟩ = some (.int .i64 a2) := (K7.out.at (W3.heap.size) [.int .i64 a1, .int .i64 a2, .int .i64 a3, .int .i64 a4] (by simp)).c 1 rfl
  have c7_1_2 : W7.cell? ⟨W3.heap.size, 2, none⟩ = some (.int .i64 a3) := (K7.out.at (W3.heap.size) [.int .i64 a1, .int .i64 a2, .int .i64 a3, .int .i64 a4] (by simp)).c 2 rfl
  have c7_1_3 : W7.cell? ⟨W3.heap.size, 3, none⟩ = some (.int .i64 a4) := (K7.out.at (W3.heap.size) [.int .i64 a1, .int .i64 a2, .int .i64 a3, .int .i64 a4] (by simp)).c 3 rfl
  have c7_2_0 : W7.cell? ⟨W1.heap.size, 0, none⟩ = some (.int .i64 a1) := (K7.out.at (W1.heap.size) [.int .i64 a1, .int .i64 a2, .int .i64 a3, .int .i64 a4] (by simp)).c 0 rfl
  have c7_2_1 : W7.cell? ⟨W1.heap.size, 1, none⟩ = some (.int .i64 a2) := (K7.out.at (W1.heap.size) [.int .i64 a1, .int .i64 a2, .int .i64 a3, .int .i64 a4] (by simp)).c 1 rfl
  have c7_2_2 : W7.cell? ⟨W1.heap.size, 2, none⟩ = some (.int .i64 a3) := (K7.out.at (W1.heap.size) [.int .i64 a1, .int .i64 a2, .int .i64 a3, .int .i64 a4] (by simp)).c 2 rfl
  have c7_2_3 : W7.cell? ⟨W1.heap.size, 3, none⟩ = some (.int .i64 a4) := (K7.out.at (W1.heap.size) [.int .i64 a1, .int .i64 a2, .int .i64 a3, .int .i64 a4] (by simp)).c 3 rfl
  have c7_3_0 : W7.cell? ⟨w.heap.size, 0, none⟩ = some (.int .i64 i) := (K7.out.at (w.heap.size) [.int .i64 i, .int .i64 m, .int .i64 d, .int .i64 u] (by simp)).c 0 rfl
  have c7_3_1 : W7.cell? ⟨w.heap.size, 1, none⟩ = some (.int .i64 m) := (K7.out.at (w.heap.size) [.int .i64 i, .int .i64 m, .int .i64 d, .int .i64 u] (by simp)).c 1 rfl
  have c7_3_2 : W7.cell? ⟨w.heap.size, 2, none⟩ = some (.int .i64 d) := (K7.out.at (w.heap.size) [.int .i64 i, .int .i64 m, .int .i64 d, .int .i64 u] (by simp)).c 2 rfl
  have c7_3_3 : W7.cell? ⟨w.heap.size, 3, none⟩ = some (.int .i64 u) := (K7.out.at (w.heap.size) [.int .i64 i, .int .i64 m, .int .i64 d, .int .i64 u] (by simp)).c 3 rfl
  have Mz7 : Hid (BS w [(W7.heap.size, [.int .i64 b1, .int .i64 b2, .int .i64 b3, .int .i64 b4]), (W5.heap.size, [.int .i64 b1, .int .i64 b2, .int .i64 b3, .int .i64 b4]), (W3.heap.size, [.int .i64 a1, .int .i64 a2, .int .i64 a3, .int .i64 a4]), (W1.heap.size, [.int .i64 a1, .int .i64 a2, .int .i64 a3, .int .i64 a4]), (w.heap.size, [.int .i64 i, .int .i64 m, .int .i64 d, .int .i64 u])] (W7.alloc (.cells #[.int .i64 b1, .int .i64 b2, .int .i64 b3, .int .i64 b4] 23))) := K7.out.new [.int .i64 b1, .int .i64 b2, .int .i64 b3, .int .i64 b4] 23 rfl
  go_upto_region 5 with fail
  refine gen_to (BS w [(W7.heap.size, [.int .i64 b1, .int .i64 b2, .int .i64 b3, .int .i64 b4]), (W5.heap.size, [.int .i64 b1, .int .i64 b2, .int .i64 b3, .int .i64 b4]), (W3.heap.size, [.int .i64 a1, .int .i64 a2, .int .i64 a3, .int .i64 a4]), (W1.heap.size, [.int .i64 a1, .int .i64 a2, .int .i64 a3, .int .i64 a4]), (w.heap.size, [.int .i64 i, .int .i64 m, .int .i64 d, .int .i64 u])]) Mz7.out ?_
  clear c7_0_0 c7_0_1 c7_0_2 c7_0_3 c7_1_0 c7_1_1 c7_1_2 c7_1_3 c7_2_0 c7_2_1 c7_2_2 c7_2_3 c7_3_0 c7_3_1 c7_3_2 c7_3_3
  intro W8 K8'
  have K8 : Hid (BS w [(W7.heap.size, [.int .i64 b1, .int .i64 b2, .int .i64 b3, .int .i64 b4]), (W5.heap.size, [.int .i64 b1, .int .i64 b2, .int .i64 b3, .int .i64 b4]), (W3.heap.size, [.int .i64 a1, .int .i64 a2, .int .i64 a3, .int .i64 a4]), (W1.heap.size, [.int .i64 a1, .int .i64 a2, .int .i64 a3, .int .i64 a4]), (w.heap.size, [.int .i64 i, .int .i64 m, .int .i64 d, .int .i64 u])] W8) := K8'
  clear K8' Mz7 K7
  have c8_0_0 : W8.cell? ⟨W7.heap.size, 0, none⟩ = some (.int .i64 b1) := (K8.out.at (W7.heap.size) [.int .i64 b1, .int .i64 b2, .int .i64 b3, .int .i64 b4] (by simp)).c 0 rfl
  have c8_0_1 : W8.cell? ⟨W7.heap.size, 1, none⟩ = some (.int .i64 b2) := (K8.out.at (W7.heap.size) [.int .i64 b1, .int .i64 b2, .int .i64 b3, .int .i64 b4] (by simp)).c 1 rfl
  have c8_0_2 : W8.cell? ⟨W7.heap.size, 2, none⟩ = some (.int .i64 b3) := (K8.out.at (W7.heap.size) [.int .i64 b1, .int .i64 b2, .int .i64 b3, .int .i64 b4] (by simp)).c 2 rfl
  have c8_0_3 : W8.cell? ⟨W7.heap.size, 3, none⟩ = some (.int .i64 b4) := (K8.out.at (W7.heap.size) [.int .i64 b1, .int .i64 b2, .int .i64 b3, .int .i64 b4] (by simp)).c 3 rfl
  have c8_1_0 : W8.cell? ⟨W5.heap.size, 0, none⟩ = some (.int .i64 b1) := (K8.out.at (W5.heap.size) [.int .i64 b1, .int .i64 b2, .int .i64 b3, .int .i64 b4] (by simp)).c 0 rfl
  have c8_1_1 : W8.cell? ⟨W5.heap.size, 1, none⟩ = some (.int .i64 b2) := (K8.out.at (W5.heap.size) [.int .i64 b1, .int .i64 b2, .int .i64 b3, .int .i64 b4] (by simp)).c 1 rfl
  have c8_1_2 : W8.cell? ⟨W5.heap.size, 2, none⟩ = some (.int .i64 b3) := (K8.out.at (W5.heap.size) [.int .i64 b1, .int .i64 b2, .int .i64 b3, .int .i64 b4] (by simp)).c 2 rfl
  have c8_1_3 : W8.cell? ⟨W5.heap.size, 3, none⟩ = some (.int .i64 b4) := (K8.out.at (W5.heap.size) [.int .i64 b1, .int .i64 b2, .int .i64 b3, .int .i64 b4] (by simp)).c 3 rfl
  have c8_2_0 : W8.cell? ⟨W3.heap.size, 0, none⟩ = some (.int .i64 a1) := (K8.out.at (W3.heap.size) [.int .i64 a1, .int .i64 a2, .int .i64 a3, .int .i64 a4] (by simp)).c 0 rfl
  have c8_2_1 : W8.cell? ⟨W3.heap.size, 1, none⟩ = some (.int .i64 a2) := (K8.out.at (W3.heap.size) [.int .i64 a1, .int .i64 a2, .int .i64 a3, .int .i64 a4] (by simp)).c 1 rfl
  have c8_2_2 : W8.cell? ⟨W3.heap.size, 2, none⟩ = some (.int .i64 a3) := (K8.out.at (W3.heap.size) [.int .i64 a1, .int .i64 a2, .int .i64 a3, .int .i64 a4] (by simp)).c 2 rfl
  have c8_2_3 : W8.cell? ⟨W3.heap.size, 3, none⟩ = some (.int .i64 a4) := (K8.out.at (W3.heap.size) [.int .i64 a1, .int .i64 a2, .int .i64 a3, .int .i64 a4] (by simp)).c 3 rfl
  have c8_3_0 : W8.cell? ⟨W1.heap.size, 0, none⟩ = some (.int .i64 a1) := (K8.out.at (W1.heap.size) [.int .i64 a1, .int .i64 a2, .int .i64 a3, .int .i64 a4] (by simp)).c 0 rfl
  have c8_3_1 : W8.cell? ⟨W1.heap.size, 1, none⟩ = some (.int .i64 a2) := (K8.out.at (W1.heap.size) [.int .i64 a1, .int .i64 a2, .int .i64 a3, .int .i64 a4] (by simp)).c 1 rfl
  have c8_3_2 : W8.cell? ⟨W1.heap.size, 2, none⟩ = some (.int .i64 a3) := (K8.out.at (W1.heap.size) [.int .i64 a1, .int .i64 a2, .int .i64 a3, .int .i64 a4] (by simp)).c 2 rfl
  have c8_3_3 : W8.cell? ⟨W1.heap.size, 3, none⟩ = some (.int .i64 a4) := (K8.out.at (W1.heap.size) [.int .i64 a1, .int .i64 a2, .int .i64 a3, .int .i64 a4] (by simp)).c 3 rfl
  have c8_4_0 : W8.cell? ⟨w.heap.size, 0, none⟩ = some (.int .i64 i) := (K8.out.at (w.heap.size) [.int .i64 i, .int .i64 m, .int .i64 d, .int .i64 u] (by simp)).c 0 rfl
  have c8_4_1 : W8.cell? ⟨w.heap.size, 1, none⟩ = some (.int .i64 m) := (K8.out.at (w.heap.size) [.int .i64 i, .int .i64 m, .int .i64 d, .int .i64 u] (by simp)).c 1 rfl
  have c8_4_2 : W8.cell? ⟨w.heap.size, 2, none⟩ = some (.int .i64 d) := (K8.out.at (w.heap.size) [.int .i64 i, .int .i64 m, .int .i64 d, .int .i64 u] (by simp)).c 2 rfl
  have c8_4_3 : W8.cell? ⟨w.heap.size, 3, none⟩ = some (.int .i64 u) := (K8.out.at (w.heap.size) [.int .i64 i, .int .i64 m, .int .i64 d, .int .i64 u] (by simp)).c 3 rfl
  go_wp2_with fail
  refine (KN.out _).mono ?_
  rintro e W9 ⟨rfl, hb⟩
  have K9 : Hid (BS w [(W7.heap.size, [.int .i64 b1, .int .i64 b2, .int .i64 b3, .int .i64 b4]), (W5.heap.size, [.int .i64 b1, .int .i64 b2, .int .i64 b3, .int .i64 b4]), (W3.heap.size, [.int .i64 a1, .int .i64 a2, .int .i64 a3, .int .i64 a4]), (W1.heap.size, [.int .i64 a1, .int .i64 a2, .int .i64 a3, .int .i64 a4]), (w.heap.size, [.int .i64 i, .int .i64 m, .int .i64 d, .int .i64 u])] W9) := K8.out.below hb
  clear c8_0_0 c8_0_1 c8_0_2 c8_0_3 c8_1_0 c8_1_1 c8_1_2 c8_1_3 c8_2_0 c8_2_1 c8_2_2 c8_2_3 c8_3_0 c8_3_1 c8_3_2 c8_3_3 c8_4_0 c8_4_1 c8_4_2 c8_4_3
  clear hb K8
  have c9_0_0 : W9.cell? ⟨W7.heap.size, 0, none⟩ = some (.int .i64 b1) := (K9.out.at (W7.heap.size) [.int .i64 b1, .int .i64 b2, .int .i64 b3, .int .i64 b4] (by simp)).c 0 rfl
  have c9_0_1 : W9.cell? ⟨W7.heap.size, 1, none⟩ = some (.int .i64 b2) := (K9.out.at (W7.heap.size) [.int .i64 b1, .int .i64 b2, .int .i64 b3, .int .i64 b4] (by simp)).c 1 rfl
  have c9_0_2 : W9.cell? ⟨W7.heap.size, 2, none⟩ = some (.int .i64 b3) := (K9.out.at (W7.heap.size) [.int .i64 b1, .int .i64 b2, .int .i64 b3, .int .i64 b4] (by simp)).c 2 rfl
  have c9_0_3 : W9.cell? ⟨W7.heap.size, 3, none⟩ = some (.int .i64 b4) := (K9.out.at (W7.heap.size) [.int .i64 b1, .int .i64 b2, .int .i64 b3, .int .i64 b4] (by simp)).c 3 rfl
  have c9_1_0 : W9.cell? ⟨W5.heap.size, 0, none⟩ = some (.int .i64 b1) := (K9.out.at (W5.heap.size) [.int .i64 b1, .int .i64 b2, .int .i64 b3, .int .i64 b4] (by simp)).c 0 rfl
  have c9_1_1 : W9.cell? ⟨W5.heap.size, 1, none⟩ = some (.int .i64 b2) := (K9.out.at (W5.heap.size) [.int .i64 b1, .int .i64 b2, .int .i64 b3, .int .i64 b4] (by simp)).c 1 rfl
  have c9_1_2 : W9.cell? ⟨W5.heap.size, 2, none⟩ = some (.int .i64 b3) := (K9.out.at (W5.heap.size) [.int .i64 b1, .int .i64 b2, .int .i64 b3, .int .i64 b4] (by simp)).c 2 rfl
  have c9_1_3 : W9.cell? ⟨W5.heap.size, 3, none⟩ = some (.int .i64 b4) := (K9.out.at (W5.heap.size) [.int .i64 b1, .int .i64 b2, .int .i64 b3, .int .i64 b4] (by simp)).c 3 rfl
  have c9_2_0 : W9.cell? ⟨W3.heap.size, 0, none⟩ = some (.int .i64 a1) := (K9.out.at (W3.heap.size) [.int .i64 a1, .int .i64 a2, .int .i64 a3, .int .i64 a4] (by simp)).c 0 rfl
  have c9_2_1 : W9.cell? ⟨W3.heap.size, 1, none⟩ = some (.int .i64 a2) := (K9.out.at (W3.heap.size) [.int .i64 a1, .int .i64 a2, .int .i64 a3, .int .i64 a4] (by simp)).c 1 rfl
  have c9_2_2 : W9.cell? ⟨W3.heap.size, 2, none⟩ = some (.int .i64 a3) := (K9.out.at (W3.heap.size) [.int .i64 a1, .int .i64 a2, .int .i64 a3, .int .i64 a4] (by simp)).c 2 rfl
  have c9_2_3 : W9.cell? ⟨W3.heap.size, 3, none⟩ = some (.int .i64 a4) := (K9.out.at (W3.heap.size) [.int .i64 a1, .int .i64 a2, .int .i64 a3, .int .i64 a4] (by simp)).c 3 rfl
  have c9_3_0 : W9.cell? ⟨W1.heap.size, 0, none⟩ = some (.int .i64 a1) := (K9.out.at (W1.heap.size) [.int .i64 a1, .int .i64 a2, .int .i64 a3, .int .i64 a4] (by simp)).c 0 rfl
  have c9_3_1 : W9.cell? ⟨W1.heap.size, 1, none⟩ = some (.int .i64 a2) := (K9.out.at (W1.heap.size) [.int .i64 a1, .int .i64 a2, .int .i64 a3, .int .i64 a4] (by simp)).c 1 rfl
  have c9_3_2 : W9.cell? ⟨W1.heap.size, 2, none⟩ = some (.int .i64 a3) := (K9.out.at (W1.heap.size) [.int .i64 a1, .int .i64 a2, .int .i64 a3, .int .i64 a4] (by simp)).c 2 rfl
  have c9_3_3 : W9.cell? ⟨W1.heap.size, 3, none⟩ = some (.int .i64 a4) := (K9.out.at (W1.heap.size) [.int .i64 a1, .int .i64 a2, .int .i64 a3, .int .i64 a4] (by simp)).c 3 rfl
  have c9_4_0 : W9.cell? ⟨w.heap.size, 0, none⟩ = some (.int .i64 i) := (K9.out.at (w.heap.size) [.int .i64 i, .int .i64 m, .int .i64 d, .int .i64 u] (by simp)).c 0 rfl
  have c9_4_1 : W9.cell? ⟨w.heap.size, 1, none⟩ = some (.int .i64 m) := (K9.out.at (w.heap.size) [.int .i64 i, .int .i64 m, .int .i64 d, .int .i64 u] (by simp)).c 1 rfl
  have c9_4_2 : W9.cell? ⟨w.heap.size, 2, none⟩ = some (.int .i64 d) := (K9.out.at (w.heap.size) [.int .i64 i, .int .i64 m, .int .i64 d, .int .i64 u] (by simp)).c 2 rfl
  have c9_4_3 : W9.cell? ⟨w.heap.size, 3, none⟩ = some (.int .i64 u) := (K9.out.at (w.heap.size) [.int .i64 i, .int .i64 m, .int .i64 d, .int .i64 u] (by simp)).c 3 rfl
  go_wp2
  go_ret
  exact ⟨rfl, K9.out.1⟩


end Go.Proofs.Ytghfgabajdghiab
