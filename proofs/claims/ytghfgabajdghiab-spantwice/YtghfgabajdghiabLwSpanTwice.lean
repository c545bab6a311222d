/- The walk of SpanTwice. -/
import Derived.Test.YtghfgabajdghiabSpA
import Derived.Deep.Cut
namespace Go.Proofs.Ytghfgabajdghiab
open Go.RowKit
set_option linter.unusedVariables false

set_option maxRecDepth 100000 in
set_option maxHeartbeats 4000000 in
theorem core_SpanTwice1 (m d u n k a1 a2 a3 a4 b1 b2 b3 b4 i f g : Int) (k1 : 0 ≤ k) (k2 : k ≤ 1000) (he : f ≠ 0)
    (CT : Hid (∀ w : World, Calls Try.prog 28 #[.int .i64 n, .int .i64 1000] w fun r' w' => r' = .returned (.int .i64 k) ∧ w' = w))
    (M1 : Hid (∀ w : World, Calls Try.prog 18 #[.agg #[.int .i64 i, .int .i64 m, .int .i64 d, .int .i64 u], .int .i64 k] w fun r' w' => r' = .returned (.tuple #[.agg #[.int .i64 a1, .int .i64 a2, .int .i64 a3, .int .i64 a4], .int .i64 f]) ∧ Below w.heap.size w w'))
    (M2 : Hid (∀ w : World, Calls Try.prog 18 #[.agg #[.int .i64 i, .int .i64 m, .int .i64 d, .int .i64 u], .int .i64 (k + 1)] w fun r' w' => r' = .returned (.tuple #[.agg #[.int .i64 b1, .int .i64 b2, .int .i64 b3, .int .i64 b4], .int .i64 g]) ∧ Below w.heap.size w w'))
    (KN : Hid (∀ w : World, Calls Try.prog 17 #[] w fun r' w' => r' = .returned (.bool true) ∧ Below w.heap.size w w'))
    (w : World) :
    Calls Try.prog 8 #[.agg #[.int .i64 i, .int .i64 m, .int .i64 d, .int .i64 u], .int .i64 n] w fun r' w' => r' = .returned (.bool true) ∧ Below w.heap.size w w' := by
  have g1 : (f != 0) = true := bne_iff_ne.2 he
  have K0 : Hid (BS w [(w.heap.size, [.int .i64 i, .int .i64 m, .int .i64 d, .int .i64 u])] (w.alloc (.cells #[.int .i64 i, .int .i64 m, .int .i64 d, .int .i64 u] 23))) := ((BS.start w).new [.int .i64 i, .int .i64 m, .int .i64 d, .int .i64 u] 23 rfl)
  go_enter Try.func8, Try.ntmps8
  go_wp2_with fail
  refine (CT.out _).mono ?_
  rintro e W1 ⟨rfl, rfl⟩
  go_wp2_with fail
  refine (M1.out _).mono ?_
  rintro e W2 ⟨rfl, hb⟩
  have K2 : Hid (BS w [(w.heap.size, [.int .i64 i, .int .i64 m, .int .i64 d, .int .i64 u])] W2) := K0.out.below hb
  clear hb K0
  have c2_0_0 : W2.cell? ⟨w.heap.size, 0, none⟩ = some (.int .i64 i) := (K2.out.at (w.heap.size) [.int .i64 i, .int .i64 m, .int .i64 d, .int .i64 u] (by simp)).c 0 rfl
  have c2_0_1 : W2.cell? ⟨w.heap.size, 1, none⟩ = some (.int .i64 m) := (K2.out.at (w.heap.size) [.int .i64 i, .int .i64 m, .int .i64 d, .int .i64 u] (by simp)).c 1 rfl
  have c2_0_2 : W2.cell? ⟨w.heap.size, 2, none⟩ = some (.int .i64 d) := (K2.out.at (w.heap.size) [.int .i64 i, .int .i64 m, .int .i64 d, .int .i64 u] (by simp)).c 2 rfl
  have c2_0_3 : W2.cell? ⟨w.heap.size, 3, none⟩ = some (.int .i64 u) := (K2.out.at (w.heap.size) [.int .i64 i, .int .i64 m, .int .i64 d, .int .i64 u] (by simp)).c 3 rfl
  have Mz2 : Hid (BS w [(W2.heap.size, [.int .i64 a1, .int .i64 a2, .int .i64 a3, .int .i64 a4]), (w.heap.size, [.int .i64 i, .int .i64 m, .int .i64 d, .int .i64 u])] (W2.alloc (.cells #[.int .i64 a1, .int .i64 a2, .int .i64 a3, .int .i64 a4] 23))) := K2.out.new [.int .i64 a1, .int .i64 a2, .int .i64 a3, .int .i64 a4] 23 rfl
  go_upto_region 3 with fail
  refine gen_to (BS w [(W2.heap.size, [.int .i64 a1, .int .i64 a2, .int .i64 a3, .int .i64 a4]), (w.heap.size, [.int .i64 i, .int .i64 m, .int .i64 d, .int .i64 u])]) Mz2.out ?_
  clear c2_0_0 c2_0_1 c2_0_2 c2_0_3
  intro W3 K3'
  have K3 : Hid (BS w [(W2.heap.size, [.int .i64 a1, .int .i64 a2, .int .i64 a3, .int .i64 a4]), (w.heap.size, [.int .i64 i, .int .i64 m, .int .i64 d, .int .i64 u])] W3) := K3'
  clear K3' Mz2 K2
  have c3_0_0 : W3.cell? ⟨W2.heap.size, 0, none⟩ = some (.int .i64 a1) := (K3.out.at (W2.heap.size) [.int .i64 a1, .int .i64 a2, .int .i64 a3, .int .i64 a4] (by simp)).c 0 rfl
  have c3_0_1 : W3.cell? ⟨W2.heap.size, 1, none⟩ = some (.int .i64 a2) := (K3.out.at (W2.heap.size) [.int .i64 a1, .int .i64 a2, .int .i64 a3, .int .i64 a4] (by simp)).c 1 rfl
  have c3_0_2 : W3.cell? ⟨W2.heap.size, 2, none⟩ = some (.int .i64 a3) := (K3.out.at (W2.heap.size) [.int .i64 a1, .int .i64 a2, .int .i64 a3, .int .i64 a4] (by simp)).c 2 rfl
  have c3_0_3 : W3.cell? ⟨W2.heap.size, 3, none⟩ = some (.int .i64 a4) := (K3.out.at (W2.heap.size) [.int .i64 a1, .int .i64 a2, .int .i64 a3, .int .i64 a4] (by simp)).c 3 rfl
  have c3_1_0 : W3.cell? ⟨w.heap.size, 0, none⟩ = some (.int .i64 i) := (K3.out.at (w.heap.size) [.int .i64 i, .int .i64 m, .int .i64 d, .int .i64 u] (by simp)).c 0 rfl
  have c3_1_1 : W3.cell? ⟨w.heap.size, 1, none⟩ = some (.int .i64 m) := (K3.out.at (w.heap.size) [.int .i64 i, .int .i64 m, .int .i64 d, .int .i64 u] (by simp)).c 1 rfl
  have c3_1_2 : W3.cell? ⟨w.heap.size, 2, none⟩ = some (.int .i64 d) := (K3.out.at (w.heap.size) [.int .i64 i, .int .i64 m, .int .i64 d, .int .i64 u] (by simp)).c 2 rfl
  have c3_1_3 : W3.cell? ⟨w.heap.size, 3, none⟩ = some (.int .i64 u) := (K3.out.at (w.heap.size) [.int .i64 i, .int .i64 m, .int .i64 d, .int .i64 u] (by simp)).c 3 rfl
  go_wp2_with fail
  refine (M2.out _).mono ?_
  rintro e W4 ⟨rfl, hb⟩
  have K4 : Hid (BS w [(W2.heap.size, [.int .i64 a1, .int .i64 a2, .int .i64 a3, .int .i64 a4]), (w.heap.size, [.int .i64 i, .int .i64 m, .int .i64 d, .int .i64 u])] W4) := K3.out.below hb
  clear c3_0_0 c3_0_1 c3_0_2 c3_0_3 c3_1_0 c3_1_1 c3_1_2 c3_1_3
  clear hb K3
  have c4_0_0 : W4.cell? ⟨W2.heap.size, 0, none⟩ = some (.int .i64 a1) := (K4.out.at (W2.heap.size) [.int .i64 a1, .int .i64 a2, .int .i64 a3, .int .i64 a4] (by simp)).c 0 rfl
  have c4_0_1 : W4.cell? ⟨W2.heap.size, 1, none⟩ = some (.int .i64 a2) := (K4.out.at (W2.heap.size) [.int .i64 a1, .int .i64 a2, .int .i64 a3, .int .i64 a4] (by simp)).c 1 rfl
  have c4_0_2 : W4.cell? ⟨W2.heap.size, 2, none⟩ = some (.int .i64 a3) := (K4.out.at (W2.heap.size) [.int .i64 a1, .int .i64 a2, .int .i64 a3, .int .i64 a4] (by simp)).c 2 rfl
  have c4_0_3 : W4.cell? ⟨W2.heap.size, 3, none⟩ = some (.int .i64 a4) := (K4.out.at (W2.heap.size) [.int .i64 a1, .int .i64 a2, .int .i64 a3, .int .i64 a4] (by simp)).c 3 rfl
  have c4_1_0 : W4.cell? ⟨w.heap.size, 0, none⟩ = some (.int .i64 i) := (K4.out.at (w.heap.size) [.int .i64 i, .int .i64 m, .int .i64 d, .int .i64 u] (by simp)).c 0 rfl
  have c4_1_1 : W4.cell? ⟨w.heap.size, 1, none⟩ = some (.int .i64 m) := (K4.out.at (w.heap.size) [.int .i64 i, .int .i64 m, .int .i64 d, .int .i64 u] (by simp)).c 1 rfl
  have c4_1_2 : W4.cell? ⟨w.heap.size, 2, none⟩ = some (.int .i64 d) := (K4.out.at (w.heap.size) [.int .i64 i, .int .i64 m, .int .i64 d, .int .i64 u] (by simp)).c 2 rfl
  have c4_1_3 : W4.cell? ⟨w.heap.size, 3, none⟩ = some (.int .i64 u) := (K4.out.at (w.heap.size) [.int .i64 i, .int .i64 m, .int .i64 d, .int .i64 u] (by simp)).c 3 rfl
  have Mz4 : Hid (BS w [(W4.heap.size, [.int .i64 b1, .int .i64 b2, .int .i64 b3, .int .i64 b4]), (W2.heap.size, [.int .i64 a1, .int .i64 a2, .int .i64 a3, .int .i64 a4]), (w.heap.size, [.int .i64 i, .int .i64 m, .int .i64 d, .int .i64 u])] (W4.alloc (.cells #[.int .i64 b1, .int .i64 b2, .int .i64 b3, .int .i64 b4] 23))) := K4.out.new [.int .i64 b1, .int .i64 b2, .int .i64 b3, .int .i64 b4] 23 rfl
  go_upto_region 4 with fail
  refine gen_to (BS w [(W4.heap.size, [.int .i64 b1, .int .i64 b2, .int .i64 b3, .int .i64 b4]), (W2.heap.size, [.int .i64 a1, .int .i64 a2, .int .i64 a3, .int .i64 a4]), (w.heap.size, [.int .i64 i, .int .i64 m, .int .i64 d, .int .i64 u])]) Mz4.out ?_
  clear c4_0_0 c4_0_1 c4_0_2 c4_0_3 c4_1_0 c4_1_1 c4_1_2 c4_1_3
  intro W5 K5'
  have K5 : Hid (BS w [(W4.heap.size, [.int .i64 b1, .int .i64 b2, .int .i64 b3, .int .i64 b4]), (W2.heap.size, [.int .i64 a1, .int .i64 a2, .int .i64 a3, .int .i64 a4]), (w.heap.size, [.int .i64 i, .int .i64 m, .int .i64 d, .int .i64 u])] W5) := K5'
  clear K5' Mz4 K4
  have c5_0_0 : W5.cell? ⟨W4.heap.size, 0, none⟩ = some (.int .i64 b1) := (K5.out.at (W4.heap.size) [.int .i64 b1, .int .i64 b2, .int .i64 b3, .int .i64 b4] (by simp)).c 0 rfl
  have c5_0_1 : W5.cell? ⟨W4.heap.size, 1, none⟩ = some (.int .i64 b2) := (K5.out.at (W4.heap.size) [.int .i64 b1, .int .i64 b2, .int .i64 b3, .int .i64 b4] (by simp)).c 1 rfl
  have c5_0_2 : W5.cell? ⟨W4.heap.size, 2, none⟩ = some (.int .i64 b3) := (K5.out.at (W4.heap.size) [.int .i64 b1, .int .i64 b2, .int .i64 b3, .int .i64 b4] (by simp)).c 2 rfl
  have c5_0_3 : W5.cell? ⟨W4.heap.size, 3, none⟩ = some (.int .i64 b4) := (K5.out.at (W4.heap.size) [.int .i64 b1, .int .i64 b2, .int .i64 b3, .int .i64 b4] (by simp)).c 3 rfl
  have c5_1_0 : W5.cell? ⟨W2.heap.size, 0, none⟩ = some (.int .i64 a1) := (K5.out.at (W2.heap.size) [.int .i64 a1, .int .i64 a2, .int .i64 a3, .int .i64 a4] (by simp)).c 0 rfl
  have c5_1_1 : W5.cell? ⟨W2.heap.size, 1, none⟩ = some (.int .i64 a2) := (K5.out.at (W2.heap.size) [.int .i64 a1, .int .i64 a2, .int .i64 a3, .int .i64 a4] (by simp)).c 1 rfl
  have c5_1_2 : W5.cell? ⟨W2.heap.size, 2, none⟩ = some (.int .i64 a3) := (K5.out.at (W2.heap.size) [.int .i64 a1, .int .i64 a2, .int .i64 a3, .int .i64 a4] (by simp)).c 2 rfl
  have c5_1_3 : W5.cell? ⟨W2.heap.size, 3, none⟩ = some (.int .i64 a4) := (K5.out.at (W2.heap.size) [.int .i64 a1, .int .i64 a2, .int .i64 a3, .int .i64 a4] (by simp)).c 3 rfl
  have c5_2_0 : W5.cell? ⟨w.heap.size, 0, none⟩ = some (.int .i64 i) := (K5.out.at (w.heap.size) [.int .i64 i, .int .i64 m, .int .i64 d, .int .i64 u] (by simp)).c 0 rfl
  have c5_2_1 : W5.cell? ⟨w.heap.size, 1, none⟩ = some (.int .i64 m) := (K5.out.at (w.heap.size) [.int .i64 i, .int .i64 m, .int .i64 d, .int .i64 u] (by simp)).c 1 rfl
  have c5_2_2 : W5.cell? ⟨w.heap.size, 2, none⟩ = some (.int .i64 d) := (K5.out.at (w.heap.size) [.int .i64 i, .int .i64 m, .int .i64 d, .int .i64 u] (by simp)).c 2 rfl
  have c5_2_3 : W5.cell? ⟨w.heap.size, 3, none⟩ = some (.int .i64 u) := (K5.out.at (w.heap.size) [.int .i64 i, .int .i64 m, .int .i64 d, .int .i64 u] (by simp)).c 3 rfl
  go_wp2_with fail
  refine (KN.out _).mono ?_
  rintro e W6 ⟨rfl, hb⟩
  have K6 : Hid (BS w [(W4.heap.size, [.int .i64 b1, .int .i64 b2, .int .i64 b3, .int .i64 b4]), (W2.heap.size, [.int .i64 a1, .int .i64 a2, .int .i64 a3, .int .i64 a4]), (w.heap.size, [.int .i64 i, .int .i64 m, .int .i64 d, .int .i64 u])] W6) := K5.out.below hb
  clear c5_0_0 c5_0_1 c5_0_2 c5_0_3 c5_1_0 c5_1_1 c5_1_2 c5_1_3 c5_2_0 c5_2_1 c5_2_2 c5_2_3
  clear hb K5
  have c6_0_0 : W6.cell? ⟨W4.heap.size, 0, none⟩ = some (.int .i64 b1) := (K6.out.at (W4.heap.size) [.int .i64 b1, .int .i64 b2, .int .i64 b3, .int .i64 b4] (by simp)).c 0 rfl
  have c6_0_1 : W6.cell? ⟨W4.heap.size, 1, none⟩ = some (.int .i64 b2) := (K6.out.at (W4.heap.size) [.int .i64 b1, .int .i64 b2, .int .i64 b3, .int .i64 b4] (by simp)).c 1 rfl
  have c6_0_2 : W6.cell? ⟨W4.heap.size, 2, none⟩ = some (.int .i64 b3) := (K6.out.at (W4.heap.size) [.int .i64 b1, .int .i64 b2, .int .i64 b3, .int .i64 b4] (by simp)).c 2 rfl
  have c6_0_3 : W6.cell? ⟨W4.heap.size, 3, none⟩ = some (.int .i64 b4) := (K6.out.at (W4.heap.size) [.int .i64 b1, .int .i64 b2, .int .i64 b3, .int .i64 b4] (by simp)).c 3 rfl
  have c6_1_0 : W6.cell? ⟨W2.heap.size, 0, none⟩ = some (.int .i64 a1) := (K6.out.at (W2.heap.size) [.int .i64 a1, .int .i64 a2, .int .i64 a3, .int .i64 a4] (by simp)).c 0 rfl
  have c6_1_1 : W6.cell? ⟨W2.heap.size, 1, none⟩ = some (.int .i64 a2) := (K6.out.at (W2.heap.size) [.int .i64 a1, .int .i64 a2, .int .i64 a3, .int .i64 a4] (by simp)).c 1 rfl
  have c6_1_2 : W6.cell? ⟨W2.heap.size, 2, none⟩ = some (.int .i64 a3) := (K6.out.at (W2.heap.size) [.int .i64 a1, .int .i64 a2, .int .i64 a3, .int .i64 a4] (by simp)).c 2 rfl
  have c6_1_3 : W6.cell? ⟨W2.heap.size, 3, none⟩ = some (.int .i64 a4) := (K6.out.at (W2.heap.size) [.int .i64 a1, .int .i64 a2, .int .i64 a3, .int .i64 a4] (by simp)).c 3 rfl
  have c6_2_0 : W6.cell? ⟨w.heap.size, 0, none⟩ = some (.int .i64 i) := (K6.out.at (w.heap.size) [.int .i64 i, .int .i64 m, .int .i64 d, .int .i64 u] (by simp)).c 0 rfl
  have c6_2_1 : W6.cell? ⟨w.heap.size, 1, none⟩ = some (.int .i64 m) := (K6.out.at (w.heap.size) [.int .i64 i, .int .i64 m, .int .i64 d, .int .i64 u] (by simp)).c 1 rfl
  have c6_2_2 : W6.cell? ⟨w.heap.size, 2, none⟩ = some (.int .i64 d) := (K6.out.at (w.heap.size) [.int .i64 i, .int .i64 m, .int .i64 d, .int .i64 u] (by simp)).c 2 rfl
  have c6_2_3 : W6.cell? ⟨w.heap.size, 3, none⟩ = some (.int .i64 u) := (K6.out.at (w.heap.size) [.int .i64 i, .int .i64 m, .int .i64 d, .int .i64 u] (by simp)).c 3 rfl
  go_wp2
  go_ret
  exact ⟨rfl, K6.out.1⟩

set_option maxRecDepth 100000 in
set_option maxHeartbeats 4000000 in
theorem core_SpanTwice2 (m d u n k a1 a2 a3 a4 b1 b2 b3 b4 i g : Int) (k1 : 0 ≤ k) (k2 : k ≤ 1000) (he : g ≠ 0)
    (CT : Hid (∀ w : World, Calls Try.prog 28 #[.int .i64 n, .int .i64 1000] w fun r' w' => r' = .returned (.int .i64 k) ∧ w' = w))
    (M1 : Hid (∀ w : World, Calls Try.prog 18 #[.agg #[.int .i64 i, .int .i64 m, .int .i64 d, .int .i64 u], .int .i64 k] w fun r' w' => r' = .returned (.tuple #[.agg #[.int .i64 a1, .int .i64 a2, .int .i64 a3, .int .i64 a4], .int .i64 0]) ∧ Below w.heap.size w w'))
    (M2 : Hid (∀ w : World, Calls Try.prog 18 #[.agg #[.int .i64 i, .int .i64 m, .int .i64 d, .int .i64 u], .int .i64 (k + 1)] w fun r' w' => r' = .returned (.tuple #[.agg #[.int .i64 b1, .int .i64 b2, .int .i64 b3, .int .i64 b4], .int .i64 g]) ∧ Below w.heap.size w w'))
    (KN : Hid (∀ w : World, Calls Try.prog 17 #[] w fun r' w' => r' = .returned (.bool true) ∧ Below w.heap.size w w'))
    (w : World) :
    Calls Try.prog 8 #[.agg #[.int .i64 i, .int .i64 m, .int .i64 d, .int .i64 u], .int .i64 n] w fun r' w' => r' = .returned (.bool true) ∧ Below w.heap.size w w' := by
  have g1 : (g != 0) = true := bne_iff_ne.2 he
  have K0 : Hid (BS w [(w.heap.size, [.int .i64 i, .int .i64 m, .int .i64 d, .int .i64 u])] (w.alloc (.cells #[.int .i64 i, .int .i64 m, .int .i64 d, .int .i64 u] 23))) := ((BS.start w).new [.int .i64 i, .int .i64 m, .int .i64 d, .int .i64 u] 23 rfl)
  go_enter Try.func8, Try.ntmps8
  go_wp2_with fail
  refine (CT.out _).mono ?_
  rintro e W1 ⟨rfl, rfl⟩
  go_wp2_with fail
  refine (M1.out _).mono ?_
  rintro e W2 ⟨rfl, hb⟩
  have K2 : Hid (BS w [(w.heap.size, [.int .i64 i, .int .i64 m, .int .i64 d, .int .i64 u])] W2) := K0.out.below hb
  clear hb K0
  have c2_0_0 : W2.cell? ⟨w.heap.size, 0, none⟩ = some (.int .i64 i) := (K2.out.at (w.heap.size) [.int .i64 i, .int .i64 m, .int .i64 d, .int .i64 u] (by simp)).c 0 rfl
  have c2_0_1 : W2.cell? ⟨w.heap.size, 1, none⟩ = some (.int .i64 m) := (K2.out.at (w.heap.size) [.int .i64 i, .int .i64 m, .int .i64 d, .int .i64 u] (by simp)).c 1 rfl
  have c2_0_2 : W2.cell? ⟨w.heap.size, 2, none⟩ = some (.int .i64 d) := (K2.out.at (w.heap.size) [.int .i64 i, .int .i64 m, .int .i64 d, .int .i64 u] (by simp)).c 2 rfl
  have c2_0_3 : W2.cell? ⟨w.heap.size, 3, none⟩ = some (.int .i64 u) := (K2.out.at (w.heap.size) [.int .i64 i, .int .i64 m, .int .i64 d, .int .i64 u] (by simp)).c 3 rfl
  have Mz2 : Hid (BS w [(W2.heap.size, [.int .i64 a1, .int .i64 a2, .int .i64 a3, .int .i64 a4]), (w.heap.size, [.int .i64 i, .int .i64 m, .int .i64 d, .int .i64 u])] (W2.alloc (.cells #[.int .i64 a1, .int .i64 a2, .int .i64 a3, .int .i64 a4] 23))) := K2.out.new [.int .i64 a1, .int .i64 a2, .int .i64 a3, .int .i64 a4] 23 rfl
  go_upto_region 3 with fail
  refine gen_to (BS w [(W2.heap.size, [.int .i64 a1, .int .i64 a2, .int .i64 a3, .int .i64 a4]), (w.heap.size, [.int .i64 i, .int .i64 m, .int .i64 d, .int .i64 u])]) Mz2.out ?_
  clear c2_0_0 c2_0_1 c2_0_2 c2_0_3
  intro W3 K3'
  have K3 : Hid (BS w [(W2.heap.size, [.int .i64 a1, .int .i64 a2, .int .i64 a3, .int .i64 a4]), (w.heap.size, [.int .i64 i, .int .i64 m, .int .i64 d, .int .i64 u])] W3) := K3'
  clear K3' Mz2 K2
  have c3_0_0 : W3.cell? ⟨W2.heap.size, 0, none⟩ = some (.int .i64 a1) := (K3.out.at (W2.heap.size) [.int .i64 a1, .int .i64 a2, .int .i64 a3, .int .i64 a4] (by simp)).c 0 rfl
  have c3_0_1 : W3.cell? ⟨W2.heap.size, 1, none⟩ = some (.int .i64 a2) := (K3.out.at (W2.heap.size) [.int .i64 a1, .int .i64 a2, .int .i64 a3, .int .i64 a4] (by simp)).c 1 rfl
  have c3_0_2 : W3.cell? ⟨W2.heap.size, 2, none⟩ = some (.int .i64 a3) := (K3.out.at (W2.heap.size) [.int .i64 a1, .int .i64 a2, .int .i64 a3, .int .i64 a4] (by simp)).c 2 rfl
  have c3_0_3 : W3.cell? ⟨W2.heap.size, 3, none⟩ = some (.int .i64 a4) := (K3.out.at (W2.heap.size) [.int .i64 a1, .int .i64 a2, .int .i64 a3, .int .i64 a4] (by simp)).c 3 rfl
  have c3_1_0 : W3.cell? ⟨w.heap.size, 0, none⟩ = some (.int .i64 i) := (K3.out.at (w.heap.size) [.int .i64 i, .int .i64 m, .int .i64 d, .int .i64 u] (by simp)).c 0 rfl
  have c3_1_1 : W3.cell? ⟨w.heap.size, 1, none⟩ = some (.int .i64 m) := (K3.out.at (w.heap.size) [.int .i64 i, .int .i64 m, .int .i64 d, .int .i64 u] (by simp)).c 1 rfl
  have c3_1_2 : W3.cell? ⟨w.heap.size, 2, none⟩ = some (.int .i64 d) := (K3.out.at (w.heap.size) [.int .i64 i, .int .i64 m, .int .i64 d, .int .i64 u] (by simp)).c 2 rfl
  have c3_1_3 : W3.cell? ⟨w.heap.size, 3, none⟩ = some (.int .i64 u) := (K3.out.at (w.heap.size) [.int .i64 i, .int .i64 m, .int .i64 d, .int .i64 u] (by simp)).c 3 rfl
  go_wp2_with fail
  refine (M2.out _).mono ?_
  rintro e W4 ⟨rfl, hb⟩
  have K4 : Hid (BS w [(W2.heap.size, [.int .i64 a1, .int .i64 a2, .int .i64 a3, .int .i64 a4]), (w.heap.size, [.int .i64 i, .int .i64 m, .int .i64 d, .int .i64 u])] W4) := K3.out.below hb
  clear c3_0_0 c3_0_1 c3_0_2 c3_0_3 c3_1_0 c3_1_1 c3_1_2 c3_1_3
  clear hb K3
  have c4_0_0 : W4.cell? ⟨W2.heap.size, 0, none⟩ = some (.int .i64 a1) := (K4.out.at (W2.heap.size) [.int .i64 a1, .int .i64 a2, .int .i64 a3, .int .i64 a4] (by simp)).c 0 rfl
  have c4_0_1 : W4.cell? ⟨W2.heap.size, 1, none⟩ = some (.int .i64 a2) := (K4.out.at (W2.heap.size) [.int .i64 a1, .int .i64 a2, .int .i64 a3, .int .i64 a4] (by simp)).c 1 rfl
  have c4_0_2 : W4.cell? ⟨W2.heap.size, 2, none⟩ = some (.int .i64 a3) := (K4.out.at (W2.heap.size) [.int .i64 a1, .int .i64 a2, .int .i64 a3, .int .i64 a4] (by simp)).c 2 rfl
  have c4_0_3 : W4.cell? ⟨W2.heap.size, 3, none⟩ = some (.int .i64 a4) := (K4.out.at (W2.heap.size) [.int .i64 a1, .int .i64 a2, .int .i64 a3, .int .i64 a4] (by simp)).c 3 rfl
  have c4_1_0 : W4.cell? ⟨w.heap.size, 0, none⟩ = some (.int .i64 i) := (K4.out.at (w.heap.size) [.int .i64 i, .int .i64 m, .int .i64 d, .int .i64 u] (by simp)).c 0 rfl
  have c4_1_1 : W4.cell? ⟨w.heap.size, 1, none⟩ = some (.int .i64 m) := (K4.out.at (w.heap.size) [.int .i64 i, .int .i64 m, .int .i64 d, .int .i64 u] (by simp)).c 1 rfl
  have c4_1_2 : W4.cell? ⟨w.heap.size, 2, none⟩ = some (.int .i64 d) := (K4.out.at (w.heap.size) [.int .i64 i, .int .i64 m, .int .i64 d, .int .i64 u] (by simp)).c 2 rfl
  have c4_1_3 : W4.cell? ⟨w.heap.size, 3, none⟩ = some (.int .i64 u) := (K4.out.at (w.heap.size) [.int .i64 i, .int .i64 m, .int .i64 d, .int .i64 u] (by simp)).c 3 rfl
  have Mz4 : Hid (BS w [(W4.heap.size, [.int .i64 b1, .int .i64 b2, .int .i64 b3, .int .i64 b4]), (W2.heap.size, [.int .i64 a1, .int .i64 a2, .int .i64 a3, .int .i64 a4]), (w.heap.size, [.int .i64 i, .int .i64 m, .int .i64 d, .int .i64 u])] (W4.alloc (.cells #[.int .i64 b1, .int .i64 b2, .int .i64 b3, .int .i64 b4] 23))) := K4.out.new [.int .i64 b1, .int .i64 b2, .int .i64 b3, .int .i64 b4] 23 rfl
  go_upto_region 4 with fail
  refine gen_to (BS w [(W4.heap.size, [.int .i64 b1, .int .i64 b2, .int .i64 b3, .int .i64 b4]), (W2.heap.size, [.int .i64 a1, .int .i64 a2, .int .i64 a3, .int .i64 a4]), (w.heap.size, [.int .i64 i, .int .i64 m, .int .i64 d, .int .i64 u])]) Mz4.out ?_
  clear c4_0_0 c4_0_1 c4_0_2 c4_0_3 c4_1_0 c4_1_1 c4_1_2 c4_1_3
  intro W5 K5'
  have K5 : Hid (BS w [(W4.heap.size, [.int .i64 b1, .int .i64 b2, .int .i64 b3, .int .i64 b4]), (W2.heap.size, [.int .i64 a1, .int .i64 a2, .int .i64 a3, .int .i64 a4]), (w.heap.size, [.int .i64 i, .int .i64 m, .int .i64 d, .int .i64 u])] W5) := K5'
  clear K5' Mz4 K4
  have c5_0_0 : W5.cell? ⟨W4.heap.size, 0, none⟩ = some (.int .i64 b1) := (K5.out.at (W4.heap.size) [.int .i64 b1, .int .i64 b2, .int .i64 b3, .int .i64 b4] (by simp)).c 0 rfl
  have c5_0_1 : W5.cell? ⟨W4.heap.size, 1, none⟩ = some (.int .i64 b2) := (K5.out.at (W4.heap.size) [.int .i64 b1, .int .i64 b2, .int .i64 b3, .int .i64 b4] (by simp)).c 1 rfl
  have c5_0_2 : W5.cell? ⟨W4.heap.size, 2, none⟩ = some (.int .i64 b3) := (K5.out.at (W4.heap.size) [.int .i64 b1, .int .i64 b2, .int .i64 b3, .int .i64 b4] (by simp)).c 2 rfl
  have c5_0_3 : W5.cell? ⟨W4.heap.size, 3, none⟩ = some (.int .i64 b4) := (K5.out.at (W4.heap.size) [.int .i64 b1, .int .i64 b2, .int .i64 b3, .int .i64 b4] (by simp)).c 3 rfl
  have c5_1_0 : W5.cell? ⟨W2.heap.size, 0, none⟩ = some (.int .i64 a1) := (K5.out.at (W2.heap.size) [.int .i64 a1, .int .i64 a2, .int .i64 a3, .int .i64 a4] (by simp)).c 0 rfl
  have c5_1_1 : W5.cell? ⟨W2.heap.size, 1, none⟩ = some (.int .i64 a2) := (K5.out.at (W2.heap.size) [.int .i64 a1, .int .i64 a2, .int .i64 a3, .int .i64 a4] (by simp)).c 1 rfl
  have c5_1_2 : W5.cell? ⟨W2.heap.size, 2, none⟩ = some (.int .i64 a3) := (K5.out.at (W2.heap.size) [.int .i64 a1, .int .i64 a2, .int .i64 a3, .int .i64 a4] (by simp)).c 2 rfl
  have c5_1_3 : W5.cell? ⟨W2.heap.size, 3, none⟩ = some (.int .i64 a4) := (K5.out.at (W2.heap.size) [.int .i64 a1, .int .i64 a2, .int .i64 a3, .int .i64 a4] (by simp)).c 3 rfl
  have c5_2_0 : W5.cell? ⟨w.heap.size, 0, none⟩ = some (.int .i64 i) := (K5.out.at (w.heap.size) [.int .i64 i, .int .i64 m, .int .i64 d, .int .i64 u] (by simp)).c 0 rfl
  have c5_2_1 : W5.cell? ⟨w.heap.size, 1, none⟩ = some (.int .i64 m) := (K5.out.at (w.heap.size) [.int .i64 i, .int .i64 m, .int .i64 d, .int .i64 u] (by simp)).c 1 rfl
  have c5_2_2 : W5.cell? ⟨w.heap.size, 2, none⟩ = some (.int .i64 d) := (K5.out.at (w.heap.size) [.int .i64 i, .int .i64 m, .int .i64 d, .int .i64 u] (by simp)).c 2 rfl
  have c5_2_3 : W5.cell? ⟨w.heap.size, 3, none⟩ = some (.int .i64 u) := (K5.out.at (w.heap.size) [.int .i64 i, .int .i64 m, .int .i64 d, .int .i64 u] (by simp)).c 3 rfl
  go_wp2_with fail
  refine (KN.out _).mono ?_
  rintro e W6 ⟨rfl, hb⟩
  have K6 : Hid (BS w [(W4.heap.size, [.int .i64 b1, .int .i64 b2, .int .i64 b3, .int .i64 b4]), (W2.heap.size, [.int .i64 a1, .int .i64 a2, .int .i64 a3, .int .i64 a4]), (w.heap.size, [.int .i64 i, .int .i64 m, .int .i64 d, .int .i64 u])] W6) := K5.out.below hb
  clear c5_0_0 c5_0_1 c5_0_2 c5_0_3 c5_1_0 c5_1_1 c5_1_2 c5_1_3 c5_2_0 c5_2_1 c5_2_2 c5_2_3
  clear hb K5
  have c6_0_0 : W6.cell? ⟨W4.heap.size, 0, none⟩ = some (.int .i64 b1) := (K6.out.at (W4.heap.size) [.int .i64 b1, .int .i64 b2, .int .i64 b3, .int .i64 b4] (by simp)).c 0 rfl
  have c6_0_1 : W6.cell? ⟨W4.heap.size, 1, none⟩ = some (.int .i64 b2) := (K6.out.at (W4.heap.size) [.int .i64 b1, .int .i64 b2, .int .i64 b3, .int .i64 b4] (by simp)).c 1 rfl
  have c6_0_2 : W6.cell? ⟨W4.heap.size, 2, none⟩ = some (.int .i64 b3) := (K6.out.at (W4.heap.size) [.int .i64 b1, .int .i64 b2, .int .i64 b3, .int .i64 b4] (by simp)).c 2 rfl
  have c6_0_3 : W6.cell? ⟨W4.heap.size, 3, none⟩ = some (.int .i64 b4) := (K6.out.at (W4.heap.size) [.int .i64 b1, .int .i64 b2, .int .i64 b3, .int .i64 b4] (by simp)).c 3 rfl
  have c6_1_0 : W6.cell? ⟨W2.heap.size, 0, none⟩ = some (.int .i64 a1) := (K6.out.at (W2.heap.size) [.int .i64 a1, .int .i64 a2, .int .i64 a3, .int .i64 a4] (by simp)).c 0 rfl
  have c6_1_1 : W6.cell? ⟨W2.heap.size, 1, none⟩ = some (.int .i64 a2) := (K6.out.at (W2.heap.size) [.int .i64 a1, .int .i64 a2, .int .i64 a3, .int .i64 a4] (by simp)).c 1 rfl
  have c6_1_2 : W6.cell? ⟨W2.heap.size, 2, none⟩ = some (.int .i64 a3) := (K6.out.at (W2.heap.size) [.int .i64 a1, .int .i64 a2, .int .i64 a3, .int .i64 a4] (by simp)).c 2 rfl
  have c6_1_3 : W6.cell? ⟨W2.heap.size, 3, none⟩ = some (.int .i64 a4) := (K6.out.at (W2.heap.size) [.int .i64 a1, .int .i64 a2, .int .i64 a3, .int .i64 a4] (by simp)).c 3 rfl
  have c6_2_0 : W6.cell? ⟨w.heap.size, 0, none⟩ = some (.int .i64 i) := (K6.out.at (w.heap.size) [.int .i64 i, .int .i64 m, .int .i64 d, .int .i64 u] (by simp)).c 0 rfl
  have c6_2_1 : W6.cell? ⟨w.heap.size, 1, none⟩ = some (.int .i64 m) := (K6.out.at (w.heap.size) [.int .i64 i, .int .i64 m, .int .i64 d, .int .i64 u] (by simp)).c 1 rfl
  have c6_2_2 : W6.cell? ⟨w.heap.size, 2, none⟩ = some (.int .i64 d) := (K6.out.at (w.heap.size) [.int .i64 i, .int .i64 m, .int .i64 d, .int .i64 u] (by simp)).c 2 rfl
  have c6_2_3 : W6.cell? ⟨w.heap.size, 3, none⟩ = some (.int .i64 u) := (K6.out.at (w.heap.size) [.int .i64 i, .int .i64 m, .int .i64 d, .int .i64 u] (by simp)).c 3 rfl
  go_wp2
  go_ret
  exact ⟨rfl, K6.out.1⟩

set_option maxRecDepth 100000 in
set_option maxHeartbeats 4000000 in
theorem core_SpanTwice3 (m d u n k a1 a2 a3 a4 b1 b2 b3 b4 i : Int) (k1 : 0 ≤ k) (k2 : k ≤ 1000) (he : i ≠ 0)
    (CT : Hid (∀ w : World, Calls Try.prog 28 #[.int .i64 n, .int .i64 1000] w fun r' w' => r' = .returned (.int .i64 k) ∧ w' = w))
    (M1 : Hid (∀ w : World, Calls Try.prog 18 #[.agg #[.int .i64 i, .int .i64 m, .int .i64 d, .int .i64 u], .int .i64 k] w fun r' w' => r' = .returned (.tuple #[.agg #[.int .i64 a1, .int .i64 a2, .int .i64 a3, .int .i64 a4], .int .i64 0]) ∧ Below w.heap.size w w'))
    (M2 : Hid (∀ w : World, Calls Try.prog 18 #[.agg #[.int .i64 i, .int .i64 m, .int .i64 d, .int .i64 u], .int .i64 (k + 1)] w fun r' w' => r' = .returned (.tuple #[.agg #[.int .i64 b1, .int .i64 b2, .int .i64 b3, .int .i64 b4], .int .i64 0]) ∧ Below w.heap.size w w'))
    (KN : Hid (∀ w : World, Calls Try.prog 17 #[] w fun r' w' => r' = .returned (.bool true) ∧ Below w.heap.size w w'))
    (w : World) :
    Calls Try.prog 8 #[.agg #[.int .i64 i, .int .i64 m, .int .i64 d, .int .i64 u], .int .i64 n] w fun r' w' => r' = .returned (.bool true) ∧ Below w.heap.size w w' := by
  have g1 : (i != 0) = true := bne_iff_ne.2 he
  have K0 : Hid (BS w [(w.heap.size, [.int .i64 i, .int .i64 m, .int .i64 d, .int .i64 u])] (w.alloc (.cells #[.int .i64 i, .int .i64 m, .int .i64 d, .int .i64 u] 23))) := ((BS.start w).new [.int .i64 i, .int .i64 m, .int .i64 d, .int .i64 u] 23 rfl)
  go_enter Try.func8, Try.ntmps8
  go_wp2_with fail
  refine (CT.out _).mono ?_
  rintro e W1 ⟨rfl, rfl⟩
  go_wp2_with fail
  refine (M1.out _).mono ?_
  rintro e W2 ⟨rfl, hb⟩
  have K2 : Hid (BS w [(w.heap.size, [.int .i64 i, .int .i64 m, .int .i64 d, .int .i64 u])] W2) := K0.out.below hb
  clear hb K0
  have c2_0_0 : W2.cell? ⟨w.heap.size, 0, none⟩ = some (.int .i64 i) := (K2.out.at (w.heap.size) [.int .i64 i, .int .i64 m, .int .i64 d, .int .i64 u] (by simp)).c 0 rfl
  have c2_0_1 : W2.cell? ⟨w.heap.size, 1, none⟩ = some (.int .i64 m) := (K2.out.at (w.heap.size) [.int .i64 i, .int .i64 m, .int .i64 d, .int .i64 u] (by simp)).c 1 rfl
  have c2_0_2 : W2.cell? ⟨w.heap.size, 2, none⟩ = some (.int .i64 d) := (K2.out.at (w.heap.size) [.int .i64 i, .int .i64 m, .int .i64 d, .int .i64 u] (by simp)).c 2 rfl
  have c2_0_3 : W2.cell? ⟨w.heap.size, 3, none⟩ = some (.int .i64 u) := (K2.out.at (w.heap.size) [.int .i64 i, .int .i64 m, .int .i64 d, .int .i64 u] (by simp)).c 3 rfl
  have Mz2 : Hid (BS w [(W2.heap.size, [.int .i64 a1, .int .i64 a2, .int .i64 a3, .int .i64 a4]), (w.heap.size, [.int .i64 i, .int .i64 m, .int .i64 d, .int .i64 u])] (W2.alloc (.cells #[.int .i64 a1, .int .i64 a2, .int .i64 a3, .int .i64 a4] 23))) := K2.out.new [.int .i64 a1, .int .i64 a2, .int .i64 a3, .int .i64 a4] 23 rfl
  go_upto_region 3 with fail
  refine gen_to (BS w [(W2.heap.size, [.int .i64 a1, .int .i64 a2, .int .i64 a3, .int .i64 a4]), (w.heap.size, [.int .i64 i, .int .i64 m, .int .i64 d, .int .i64 u])]) Mz2.out ?_
  clear c2_0_0 c2_0_1 c2_0_2 c2_0_3
  intro W3 K3'
  have K3 : Hid (BS w [(W2.heap.size, [.int .i64 a1, .int .i64 a2, .int .i64 a3, .int .i64 a4]), (w.heap.size, [.int .i64 i, .int .i64 m, .int .i64 d, .int .i64 u])] W3) := K3'
  clear K3' Mz2 K2
  have c3_0_0 : W3.cell? ⟨W2.heap.size, 0, none⟩ = some (.int .i64 a1) := (K3.out.at (W2.heap.size) [.int .i64 a1, .int .i64 a2, .int .i64 a3, .int .i64 a4] (by simp)).c 0 rfl
  have c3_0_1 : W3.cell? ⟨W2.heap.size, 1, none⟩ = some (.int .i64 a2) := (K3.out.at (W2.heap.size) [.int .i64 a1, .int .i64 a2, .int .i64 a3, .int .i64 a4] (by simp)).c 1 rfl
  have c3_0_2 : W3.cell? ⟨W2.heap.size, 2, none⟩ = some (.int .i64 a3) := (K3.out.at (W2.heap.size) [.int .i64 a1, .int .i64 a2, .int .i64 a3, .int .i64 a4] (by simp)).c 2 rfl
  have c3_0_3 : W3.cell? ⟨W2.heap.size, 3, none⟩ = some (.int .i64 a4) := (K3.out.at (W2.heap.size) [.int .i64 a1, .int .i64 a2, .int .i64 a3, .int .i64 a4] (by simp)).c 3 rfl
  have c3_1_0 : W3.cell? ⟨w.heap.size, 0, none⟩ = some (.int .i64 i) := (K3.out.at (w.heap.size) [.int .i64 i, .int .i64 m, .int .i64 d, .int .i64 u] (by simp)).c 0 rfl
  have c3_1_1 : W3.cell? ⟨w.heap.size, 1, none⟩ = some (.int .i64 m) := (K3.out.at (w.heap.size) [.int .i64 i, .int .i64 m, .int .i64 d, .int .i64 u] (by simp)).c 1 rfl
  have c3_1_2 : W3.cell? ⟨w.heap.size, 2, none⟩ = some (.int .i64 d) := (K3.out.at (w.heap.size) [.int .i64 i, .int .i64 m, .int .i64 d, .int .i64 u] (by simp)).c 2 rfl
  have c3_1_3 : W3.cell? ⟨w.heap.size, 3, none⟩ = some (.int .i64 u) := (K3.out.at (w.heap.size) [.int .i64 i, .int .i64 m, .int .i64 d, .int .i64 u] (by simp)).c 3 rfl
  go_wp2_with fail
  refine (M2.out _).mono ?_
  rintro e W4 ⟨rfl, hb⟩
  have K4 : Hid (BS w [(W2.heap.size, [.int .i64 a1, .int .i64 a2, .int .i64 a3, .int .i64 a4]), (w.heap.size, [.int .i64 i, .int .i64 m, .int .i64 d, .int .i64 u])] W4) := K3.out.below hb
  clear c3_0_0 c3_0_1 c3_0_2 c3_0_3 c3_1_0 c3_1_1 c3_1_2 c3_1_3
  clear hb K3
  have c4_0_0 : W4.cell? ⟨W2.heap.size, 0, none⟩ = some (.int .i64 a1) := (K4.out.at (W2.heap.size) [.int .i64 a1, .int .i64 a2, .int .i64 a3, .int .i64 a4] (by simp)).c 0 rfl
  have c4_0_1 : W4.cell? ⟨W2.heap.size, 1, none⟩ = some (.int .i64 a2) := (K4.out.at (W2.heap.size) [.int .i64 a1, .int .i64 a2, .int .i64 a3, .int .i64 a4] (by simp)).c 1 rfl
  have c4_0_2 : W4.cell? ⟨W2.heap.size, 2, none⟩ = some (.int .i64 a3) := (K4.out.at (W2.heap.size) [.int .i64 a1, .int .i64 a2, .int .i64 a3, .int .i64 a4] (by simp)).c 2 rfl
  have c4_0_3 : W4.cell? ⟨W2.heap.size, 3, none⟩ = some (.int .i64 a4) := (K4.out.at (W2.heap.size) [.int .i64 a1, .int .i64 a2, .int .i64 a3, .int .i64 a4] (by simp)).c 3 rfl
  have c4_1_0 : W4.cell? ⟨w.heap.size, 0, none⟩ = some (.int .i64 i) := (K4.out.at (w.heap.size) [.int .i64 i, .int .i64 m, .int .i64 d, .int .i64 u] (by simp)).c 0 rfl
  have c4_1_1 : W4.cell? ⟨w.heap.size, 1, none⟩ = some (.int .i64 m) := (K4.out.at (w.heap.size) [.int .i64 i, .int .i64 m, .int .i64 d, .int .i64 u] (by simp)).c 1 rfl
  have c4_1_2 : W4.cell? ⟨w.heap.size, 2, none⟩ = some (.int .i64 d) := (K4.out.at (w.heap.size) [.int .i64 i, .int .i64 m, .int .i64 d, .int .i64 u] (by simp)).c 2 rfl
  have c4_1_3 : W4.cell? ⟨w.heap.size, 3, none⟩ = some (.int .i64 u) := (K4.out.at (w.heap.size) [.int .i64 i, .int .i64 m, .int .i64 d, .int .i64 u] (by simp)).c 3 rfl
  have Mz4 : Hid (BS w [(W4.heap.size, [.int .i64 b1, .int .i64 b2, .int .i64 b3, .int .i64 b4]), (W2.heap.size, [.int .i64 a1, .int .i64 a2, .int .i64 a3, .int .i64 a4]), (w.heap.size, [.int .i64 i, .int .i64 m, .int .i64 d, .int .i64 u])] (W4.alloc (.cells #[.int .i64 b1, .int .i64 b2, .int .i64 b3, .int .i64 b4] 23))) := K4.out.new [.int .i64 b1, .int .i64 b2, .int .i64 b3, .int .i64 b4] 23 rfl
  go_upto_region 4 with fail
  refine gen_to (BS w [(W4.heap.size, [.int .i64 b1, .int .i64 b2, .int .i64 b3, .int .i64 b4]), (W2.heap.size, [.int .i64 a1, .int .i64 a2, .int .i64 a3, .int .i64 a4]), (w.heap.size, [.int .i64 i, .int .i64 m, .int .i64 d, .int .i64 u])]) Mz4.out ?_
  clear c4_0_0 c4_0_1 c4_0_2 c4_0_3 c4_1_0 c4_1_1 c4_1_2 c4_1_3
  intro W5 K5'
  have K5 : Hid (BS w [(W4.heap.size, [.int .i64 b1, .int .i64 b2, .int .i64 b3, .int .i64 b4]), (W2.heap.size, [.int .i64 a1, .int .i64 a2, .int .i64 a3, .int .i64 a4]), (w.heap.size, [.int .i64 i, .int .i64 m, .int .i64 d, .int .i64 u])] W5) := K5'
  clear K5' Mz4 K4
  have c5_0_0 : W5.cell? ⟨W4.heap.size, 0, none⟩ = some (.int .i64 b1) := (K5.out.at (W4.heap.size) [.int .i64 b1, .int .i64 b2, .int .i64 b3, .int .i64 b4] (by simp)).c 0 rfl
  have c5_0_1 : W5.cell? ⟨W4.heap.size, 1, none⟩ = some (.int .i64 b2) := (K5.out.at (W4.heap.size) [.int .i64 b1, .int .i64 b2, .int .i64 b3, .int .i64 b4] (by simp)).c 1 rfl
  have c5_0_2 : W5.cell? ⟨W4.heap.size, 2, none⟩ = some (.int .i64 b3) := (K5.out.at (W4.heap.size) [.int .i64 b1, .int .i64 b2, .int .i64 b3, .int .i64 b4] (by simp)).c 2 rfl
  have c5_0_3 : W5.cell? ⟨W4.heap.size, 3, none⟩ = some (.int .i64 b4) := (K5.out.at (W4.heap.size) [.int .i64 b1, .int .i64 b2, .int .i64 b3, .int .i64 b4] (by simp)).c 3 rfl
  have c5_1_0 : W5.cell? ⟨W2.heap.size, 0, none⟩ = some (.int .i64 a1) := (K5.out.at (W2.heap.size) [.int .i64 a1, .int .i64 a2, .int .i64 a3, .int .i64 a4] (by simp)).c 0 rfl
  have c5_1_1 : W5.cell? ⟨W2.heap.size, 1, none⟩ = some (.int .i64 a2) := (K5.out.at (W2.heap.size) [.int .i64 a1, .int .i64 a2, .int .i64 a3, .int .i64 a4] (by simp)).c 1 rfl
  have c5_1_2 : W5.cell? ⟨W2.heap.size, 2, none⟩ = some (.int .i64 a3) := (K5.out.at (W2.heap.size) [.int .i64 a1, .int .i64 a2, .int .i64 a3, .int .i64 a4] (by simp)).c 2 rfl
  have c5_1_3 : W5.cell? ⟨W2.heap.size, 3, none⟩ = some (.int .i64 a4) := (K5.out.at (W2.heap.size) [.int .i64 a1, .int .i64 a2, .int .i64 a3, .int .i64 a4] (by simp)).c 3 rfl
  have c5_2_0 : W5.cell? ⟨w.heap.size, 0, none⟩ = some (.int .i64 i) := (K5.out.at (w.heap.size) [.int .i64 i, .int .i64 m, .int .i64 d, .int .i64 u] (by simp)).c 0 rfl
  have c5_2_1 : W5.cell? ⟨w.heap.size, 1, none⟩ = some (.int .i64 m) := (K5.out.at (w.heap.size) [.int .i64 i, .int .i64 m, .int .i64 d, .int .i64 u] (by simp)).c 1 rfl
  have c5_2_2 : W5.cell? ⟨w.heap.size, 2, none⟩ = some (.int .i64 d) := (K5.out.at (w.heap.size) [.int .i64 i, .int .i64 m, .int .i64 d, .int .i64 u] (by simp)).c 2 rfl
  have c5_2_3 : W5.cell? ⟨w.heap.size, 3, none⟩ = some (.int .i64 u) := (K5.out.at (w.heap.size) [.int .i64 i, .int .i64 m, .int .i64 d, .int .i64 u] (by simp)).c 3 rfl
  go_wp2_with fail
  refine (KN.out _).mono ?_
  rintro e W6 ⟨rfl, hb⟩
  have K6 : Hid (BS w [(W4.heap.size, [.int .i64 b1, .int .i64 b2, .int .i64 b3, .int .i64 b4]), (W2.heap.size, [.int .i64 a1, .int .i64 a2, .int .i64 a3, .int .i64 a4]), (w.heap.size, [.int .i64 i, .int .i64 m, .int .i64 d, .int .i64 u])] W6) := K5.out.below hb
  clear c5_0_0 c5_0_1 c5_0_2 c5_0_3 c5_1_0 c5_1_1 c5_1_2 c5_1_3 c5_2_0 c5_2_1 c5_2_2 c5_2_3
  clear hb K5
  have c6_0_0 : W6.cell? ⟨W4.heap.size, 0, none⟩ = some (.int .i64 b1) := (K6.out.at (W4.heap.size) [.int .i64 b1, .int .i64 b2, .int .i64 b3, .int .i64 b4] (by simp)).c 0 rfl
  have c6_0_1 : W6.cell? ⟨W4.heap.size, 1, none⟩ = some (.int .i64 b2) := (K6.out.at (W4.heap.size) [.int .i64 b1, .int .i64 b2, .int .i64 b3, .int .i64 b4] (by simp)).c 1 rfl
  have c6_0_2 : W6.cell? ⟨W4.heap.size, 2, none⟩ = some (.int .i64 b3) := (K6.out.at (W4.heap.size) [.int .i64 b1, .int .i64 b2, .int .i64 b3, .int .i64 b4] (by simp)).c 2 rfl
  have c6_0_3 : W6.cell? ⟨W4.heap.size, 3, none⟩ = some (.int .i64 b4) := (K6.out.at (W4.heap.size) [.int .i64 b1, .int .i64 b2, .int .i64 b3, .int .i64 b4] (by simp)).c 3 rfl
  have c6_1_0 : W6.cell? ⟨W2.heap.size, 0, none⟩ = some (.int .i64 a1) := (K6.out.at (W2.heap.size) [.int .i64 a1, .int .i64 a2, .int .i64 a3, .int .i64 a4] (by simp)).c 0 rfl
  have c6_1_1 : W6.cell? ⟨W2.heap.size, 1, none⟩ = some (.int .i64 a2) := (K6.out.at (W2.heap.size) [.int .i64 a1, .int .i64 a2, .int .i64 a3, .int .i64 a4] (by simp)).c 1 rfl
  have c6_1_2 : W6.cell? ⟨W2.heap.size, 2, none⟩ = some (.int .i64 a3) := (K6.out.at (W2.heap.size) [.int .i64 a1, .int .i64 a2, .int .i64 a3, .int .i64 a4] (by simp)).c 2 rfl
  have c6_1_3 : W6.cell? ⟨W2.heap.size, 3, none⟩ = some (.int .i64 a4) := (K6.out.at (W2.heap.size) [.int .i64 a1, .int .i64 a2, .int .i64 a3, .int .i64 a4] (by simp)).c 3 rfl
  have c6_2_0 : W6.cell? ⟨w.heap.size, 0, none⟩ = some (.int .i64 i) := (K6.out.at (w.heap.size) [.int .i64 i, .int .i64 m, .int .i64 d, .int .i64 u] (by simp)).c 0 rfl
  have c6_2_1 : W6.cell? ⟨w.heap.size, 1, none⟩ = some (.int .i64 m) := (K6.out.at (w.heap.size) [.int .i64 i, .int .i64 m, .int .i64 d, .int .i64 u] (by simp)).c 1 rfl
  have c6_2_2 : W6.cell? ⟨w.heap.size, 2, none⟩ = some (.int .i64 d) := (K6.out.at (w.heap.size) [.int .i64 i, .int .i64 m, .int .i64 d, .int .i64 u] (by simp)).c 2 rfl
  have c6_2_3 : W6.cell? ⟨w.heap.size, 3, none⟩ = some (.int .i64 u) := (K6.out.at (w.heap.size) [.int .i64 i, .int .i64 m, .int .i64 d, .int .i64 u] (by simp)).c 3 rfl
  go_wp2
  go_ret
  exact ⟨rfl, K6.out.1⟩

set_option maxRecDepth 100000 in
set_option maxHeartbeats 4000000 in
theorem core_SpanTwice4 (m d u n k a1 a2 a3 a4 b1 b2 b3 b4 : Int) (k1 : 0 ≤ k) (k2 : k ≤ 1000)
    (CT : Hid (∀ w : World, Calls Try.prog 28 #[.int .i64 n, .int .i64 1000] w fun r' w' => r' = .returned (.int .i64 k) ∧ w' = w))
    (M1 : Hid (∀ w : World, Calls Try.prog 18 #[.agg #[.int .i64 0, .int .i64 m, .int .i64 d, .int .i64 u], .int .i64 k] w fun r' w' => r' = .returned (.tuple #[.agg #[.int .i64 a1, .int .i64 a2, .int .i64 a3, .int .i64 a4], .int .i64 0]) ∧ Below w.heap.size w w'))
    (M2 : Hid (∀ w : World, Calls Try.prog 18 #[.agg #[.int .i64 0, .int .i64 m, .int .i64 d, .int .i64 u], .int .i64 (k + 1)] w fun r' w' => r' = .returned (.tuple #[.agg #[.int .i64 b1, .int .i64 b2, .int .i64 b3, .int .i64 b4], .int .i64 0]) ∧ Below w.heap.size w w'))
    (A1 : Hid (∀ w : World, Calls Try.prog 11 #[.agg #[.int .i64 a1, .int .i64 a2, .int .i64 a3, .int .i64 a4], .agg #[.int .i64 0, .int .i64 m, .int .i64 d, .int .i64 u]] w fun r' w' => r' = .returned (.tuple #[.agg #[.int .i64 b1, .int .i64 b2, .int .i64 b3, .int .i64 b4], .int .i64 0]) ∧ Below w.heap.size w w'))
    (KN : Hid (∀ w : World, Calls Try.prog 17 #[] w fun r' w' => r' = .returned (.bool true) ∧ Below w.heap.size w w'))
    (w : World) :
    Calls Try.prog 8 #[.agg #[.int .i64 0, .int .i64 m, .int .i64 d, .int .i64 u], .int .i64 n] w fun r' w' => r' = .returned (.bool true) ∧ Below w.heap.size w w' := by
  have K0 : Hid (BS w [(w.heap.size, [.int .i64 0, .int .i64 m, .int .i64 d, .int .i64 u])] (w.alloc (.cells #[.int .i64 0, .int .i64 m, .int .i64 d, .int .i64 u] 23))) := ((BS.start w).new [.int .i64 0, .int .i64 m, .int .i64 d, .int .i64 u] 23 rfl)
  go_enter Try.func8, Try.ntmps8
  go_wp2_with fail
  refine (CT.out _).mono ?_
  rintro e W1 ⟨rfl, rfl⟩
  go_wp2_with fail
  refine (M1.out _).mono ?_
  rintro e W2 ⟨rfl, hb⟩
  have K2 : Hid (BS w [(w.heap.size, [.int .i64 0, .int .i64 m, .int .i64 d, .int .i64 u])] W2) := K0.out.below hb
  clear hb K0
  have c2_0_0 : W2.cell? ⟨w.heap.size, 0, none⟩ = some (.int .i64 0) := (K2.out.at (w.heap.size) [.int .i64 0, .int .i64 m, .int .i64 d, .int .i64 u] (by simp)).c 0 rfl
  have c2_0_1 : W2.cell? ⟨w.heap.size, 1, none⟩ = some (.int .i64 m) := (K2.out.at (w.heap.size) [.int .i64 0, .int .i64 m, .int .i64 d, .int .i64 u] (by simp)).c 1 rfl
  have c2_0_2 : W2.cell? ⟨w.heap.size, 2, none⟩ = some (.int .i64 d) := (K2.out.at (w.heap.size) [.int .i64 0, .int .i64 m, .int .i64 d, .int .i64 u] (by simp)).c 2 rfl
  have c2_0_3 : W2.cell? ⟨w.heap.size, 3, none⟩ = some (.int .i64 u) := (K2.out.at (w.heap.size) [.int .i64 0, .int .i64 m, .int .i64 d, .int .i64 u] (by simp)).c 3 rfl
  have Mz2 : Hid (BS w [(W2.heap.size, [.int .i64 a1, .int .i64 a2, .int .i64 a3, .int .i64 a4]), (w.heap.size, [.int .i64 0, .int .i64 m, .int .i64 d, .int .i64 u])] (W2.alloc (.cells #[.int .i64 a1, .int .i64 a2, .int .i64 a3, .int .i64 a4] 23))) := K2.out.new [.int .i64 a1, .int .i64 a2, .int .i64 a3, .int .i64 a4] 23 rfl
  go_upto_region 3 with fail
  refine gen_to (BS w [(W2.heap.size, [.int .i64 a1, .int .i64 a2, .int .i64 a3, .int .i64 a4]), (w.heap.size, [.int .i64 0, .int .i64 m, .int .i64 d, .int .i64 u])]) Mz2.out ?_
  clear c2_0_0 c2_0_1 c2_0_2 c2_0_3
  intro W3 K3'
  have K3 : Hid (BS w [(W2.heap.size, [.int .i64 a1, .int .i64 a2, .int .i64 a3, .int .i64 a4]), (w.heap.size, [.int .i64 0, .int .i64 m, .int .i64 d, .int .i64 u])] W3) := K3'
  clear K3' Mz2 K2
  have c3_0_0 : W3.cell? ⟨W2.heap.size, 0, none⟩ = some (.int .i64 a1) := (K3.out.at (W2.heap.size) [.int .i64 a1, .int .i64 a2, .int .i64 a3, .int .i64 a4] (by simp)).c 0 rfl
  have c3_0_1 : W3.cell? ⟨W2.heap.size, 1, none⟩ = some (.int .i64 a2) := (K3.out.at (W2.heap.size) [.int .i64 a1, .int .i64 a2, .int .i64 a3, .int .i64 a4] (by simp)).c 1 rfl
  have c3_0_2 : W3.cell? ⟨W2.heap.size, 2, none⟩ = some (.int .i64 a3) := (K3.out.at (W2.heap.size) [.int .i64 a1, .int .i64 a2, .int .i64 a3, .int .i64 a4] (by simp)).c 2 rfl
  have c3_0_3 : W3.cell? ⟨W2.heap.size, 3, none⟩ = some (.int .i64 a4) := (K3.out.at (W2.heap.size) [.int .i64 a1, .int .i64 a2, .int .i64 a3, .int .i64 a4] (by simp)).c 3 rfl
  have c3_1_0 : W3.cell? ⟨w.heap.size, 0, none⟩ = some (.int .i64 0) := (K3.out.at (w.heap.size) [.int .i64 0, .int .i64 m, .int .i64 d, .int .i64 u] (by simp)).c 0 rfl
  have c3_1_1 : W3.cell? ⟨w.heap.size, 1, none⟩ = some (.int .i64 m) := (K3.out.at (w.heap.size) [.int .i64 0, .int .i64 m, .int .i64 d, .int .i64 u] (by simp)).c 1 rfl
  have c3_1_2 : W3.cell? ⟨w.heap.size, 2, none⟩ = some (.int .i64 d) := (K3.out.at (w.heap.size) [.int .i64 0, .int .i64 m, .int .i64 d, .int .i64 u] (by simp)).c 2 rfl
  have c3_1_3 : W3.cell? ⟨w.heap.size, 3, none⟩ = some (.int .i64 u) := (K3.out.at (w.heap.size) [.int .i64 0, .int .i64 m, .int .i64 d, .int .i64 u] (by simp)).c 3 rfl
  go_wp2_with fail
  refine (M2.out _).mono ?_
  rintro e W4 ⟨rfl, hb⟩
  have K4 : Hid (BS w [(W2.heap.size, [.int .i64 a1, .int .i64 a2, .int .i64 a3, .int .i64 a4]), (w.heap.size, [.int .i64 0, .int .i64 m, .int .i64 d, .int .i64 u])] W4) := K3.out.below hb
  clear c3_0_0 c3_0_1 c3_0_2 c3_0_3 c3_1_0 c3_1_1 c3_1_2 c3_1_3
  clear hb K3
  have c4_0_0 : W4.cell? ⟨W2.heap.size, 0, none⟩ = some (.int .i64 a1) := (K4.out.at (W2.heap.size) [.int .i64 a1, .int .i64 a2, .int .i64 a3, .int .i64 a4] (by simp)).c 0 rfl
  have c4_0_1 : W4.cell? ⟨W2.heap.size, 1, none⟩ = some (.int .i64 a2) := (K4.out.at (W2.heap.size) [.int .i64 a1, .int .i64 a2, .int .i64 a3, .int .i64 a4] (by simp)).c 1 rfl
  have c4_0_2 : W4.cell? ⟨W2.heap.size, 2, none⟩ = some (.int .i64 a3) := (K4.out.at (W2.heap.size) [.int .i64 a1, .int .i64 a2, .int .i64 a3, .int .i64 a4] (by simp)).c 2 rfl
  have c4_0_3 : W4.cell? ⟨W2.heap.size, 3, none⟩ = some (.int .i64 a4) := (K4.out.at (W2.heap.size) [.int .i64 a1, .int .i64 a2, .int .i64 a3, .int .i64 a4] (by simp)).c 3 rfl
  have c4_1_0 : W4.cell? ⟨w.heap.size, 0, none⟩ = some (.int .i64 0) := (K4.out.at (w.heap.size) [.int .i64 0, .int .i64 m, .int .i64 d, .int .i64 u] (by simp)).c 0 rfl
  have c4_1_1 : W4.cell? ⟨w.heap.size, 1, none⟩ = some (.int .i64 m) := (K4.out.at (w.heap.size) [.int .i64 0, .int .i64 m, .int .i64 d, .int .i64 u] (by simp)).c 1 rfl
  have c4_1_2 : W4.cell? ⟨w.heap.size, 2, none⟩ = some (.int .i64 d) := (K4.out.at (w.heap.size) [.int .i64 0, .int .i64 m, .int .i64 d, .int .i64 u] (by simp)).c 2 rfl
  have c4_1_3 : W4.cell? ⟨w.heap.size, 3, none⟩ = some (.int .i64 u) := (K4.out.at (w.heap.size) [.int .i64 0, .int .i64 m, .int .i64 d, .int .i64 u] (by simp)).c 3 rfl
  have Mz4 : Hid (BS w [(W4.heap.size, [.int .i64 b1, .int .i64 b2, .int .i64 b3, .int .i64 b4]), (W2.heap.size, [.int .i64 a1, .int .i64 a2, .int .i64 a3, .int .i64 a4]), (w.heap.size, [.int .i64 0, .int .i64 m, .int .i64 d, .int .i64 u])] (W4.alloc (.cells #[.int .i64 b1, .int .i64 b2, .int .i64 b3, .int .i64 b4] 23))) := K4.out.new [.int .i64 b1, .int .i64 b2, .int .i64 b3, .int .i64 b4] 23 rfl
  go_upto_region 4 with fail
  refine gen_to (BS w [(W4.heap.size, [.int .i64 b1, .int .i64 b2, .int .i64 b3, .int .i64 b4]), (W2.heap.size, [.int .i64 a1, .int .i64 a2, .int .i64 a3, .int .i64 a4]), (w.heap.size, [.int .i64 0, .int .i64 m, .int .i64 d, .int .i64 u])]) Mz4.out ?_
  clear c4_0_0 c4_0_1 c4_0_2 c4_0_3 c4_1_0 c4_1_1 c4_1_2 c4_1_3
  intro W5 K5'
  have K5 : Hid (BS w [(W4.heap.size, [.int .i64 b1, .int .i64 b2, .int .i64 b3, .int .i64 b4]), (W2.heap.size, [.int .i64 a1, .int .i64 a2, .int .i64 a3, .int .i64 a4]), (w.heap.size, [.int .i64 0, .int .i64 m, .int .i64 d, .int .i64 u])] W5) := K5'
  clear K5' Mz4 K4
  have c5_0_0 : W5.cell? ⟨W4.heap.size, 0, none⟩ = some (.int .i64 b1) := (K5.out.at (W4.heap.size) [.int .i64 b1, .int .i64 b2, .int .i64 b3, .int .i64 b4] (by simp)).c 0 rfl
  have c5_0_1 : W5.cell? ⟨W4.heap.size, 1, none⟩ = some (.int .i64 b2) := (K5.out.at (W4.heap.size) [.int .i64 b1, .int .i64 b2, .int .i64 b3, .int .i64 b4] (by simp)).c 1 rfl
  have c5_0_2 : W5.cell? ⟨W4.heap.size, 2, none⟩ = some (.int .i64 b3) := (K5.out.at (W4.heap.size) [.int .i64 b1, .int .i64 b2, .int .i64 b3, .int .i64 b4] (by simp)).c 2 rfl
  have c5_0_3 : W5.cell? ⟨W4.heap.size, 3, none⟩ = some (.int .i64 b4) := (K5.out.at (W4.heap.size) [.int .i64 b1, .int .i64 b2, .int .i64 b3, .int .i64 b4] (by simp)).c 3 rfl
  have c5_1_0 : W5.cell? ⟨W2.heap.size, 0, none⟩ = some (.int .i64 a1) := (K5.out.at (W2.heap.size) [.int .i64 a1, .int .i64 a2, .int .i64 a3, .int .i64 a4] (by simp)).c 0 rfl
  have c5_1_1 : W5.cell? ⟨W2.heap.size, 1, none⟩ = some (.int .i64 a2) := (K5.out.at (W2.heap.size) [.int .i64 a1, .int .i64 a2, .int .i64 a3, .int .i64 a4] (by simp)).c 1 rfl
  have c5_1_2 : W5.cell? ⟨W2.heap.size, 2, none⟩ = some (.int .i64 a3) := (K5.out.at (W2.heap.size) [.int .i64 a1, .int .i64 a2, .int .i64 a3, .int .i64 a4] (by simp)).c 2 rfl
  have c5_1_3 : W5.cell? ⟨W2.heap.size, 3, none⟩ = some (.int .i64 a4) := (K5.out.at (W2.heap.size) [.int .i64 a1, .int .i64 a2, .int .i64 a3, .int .i64 a4] (by simp)).c 3 rfl
  have c5_2_0 : W5.cell? ⟨w.heap.size, 0, none⟩ = some (.int .i64 0) := (K5.out.at (w.heap.size) [.int .i64 0, .int .i64 m, .int .i64 d, .int .i64 u] (by simp)).c 0 rfl
  have c5_2_1 : W5.cell? ⟨w.heap.size, 1, none⟩ = some (.int .i64 m) := (K5.out.at (w.heap.size) [.int .i64 0, .int .i64 m, .int .i64 d, .int .i64 u] (by simp)).c 1 rfl
  have c5_2_2 : W5.cell? ⟨w.heap.size, 2, none⟩ = some (.int .i64 d) := (K5.out.at (w.heap.size) [.int .i64 0, .int .i64 m, .int .i64 d, .int .i64 u] (by simp)).c 2 rfl
  have c5_2_3 : W5.cell? ⟨w.heap.size, 3, none⟩ = some (.int .i64 u) := (K5.out.at (w.heap.size) [.int .i64 0, .int .i64 m, .int .i64 d, .int .i64 u] (by simp)).c 3 rfl
  go_wp2_with fail
  refine (A1.out _).mono ?_
  rintro e W6 ⟨rfl, hb⟩
  have K6 : Hid (BS w [(W4.heap.size, [.int .i64 b1, .int .i64 b2, .int .i64 b3, .int .i64 b4]), (W2.heap.size, [.int .i64 a1, .int .i64 a2, .int .i64 a3, .int .i64 a4]), (w.heap.size, [.int .i64 0, .int .i64 m, .int .i64 d, .int .i64 u])] W6) := K5.out.below hb
  clear c5_0_0 c5_0_1 c5_0_2 c5_0_3 c5_1_0 c5_1_1 c5_1_2 c5_1_3 c5_2_0 c5_2_1 c5_2_2 c5_2_3
  clear hb K5
  have c6_0_0 : W6.cell? ⟨W4.heap.size, 0, none⟩ = some (.int .i64 b1) := (K6.out.at (W4.heap.size) [.int .i64 b1, .int .i64 b2, .int .i64 b3, .int .i64 b4] (by simp)).c 0 rfl
  have c6_0_1 : W6.cell? ⟨W4.heap.size, 1, none⟩ = some (.int .i64 b2) := (K6.out.at (W4.heap.size) [.int .i64 b1, .int .i64 b2, .int .i64 b3, .int .i64 b4] (by simp)).c 1 rfl
  have c6_0_2 : W6.cell? ⟨W4.heap.size, 2, none⟩ = some (.int .i64 b3) := (K6.out.at (W4.heap.size) [.int .i64 b1, .int .i64 b2, .int .i64 b3, .int .i64 b4] (by simp)).c 2 rfl
  have c6_0_3 : W6.cell? ⟨W4.heap.size, 3, none⟩ = some (.int .i64 b4) := (K6.out.at (W4.heap.size) [.int .i64 b1, .int .i64 b2, .int .i64 b3, .int .i64 b4] (by simp)).c 3 rfl
  have c6_1_0 : W6.cell? ⟨W2.heap.size, 0, none⟩ = some (.int .i64 a1) := (K6.out.at (W2.heap.size) [.int .i64 a1, .int .i64 a2, .int .i64 a3, .int .i64 a4] (by simp)).c 0 rfl
  have c6_1_1 : W6.cell? ⟨W2.heap.size, 1, none⟩ = some (.int .i64 a2) := (K6.out.at (W2.heap.size) [.int .i64 a1, .int .i64 a2, .int .i64 a3, .int .i64 a4] (by simp)).c 1 rfl
  have c6_1_2 : W6.cell? ⟨W2.heap.size, 2, none⟩ = some (.int .i64 a3) := (K6.out.at (W2.heap.size) [.int .i64 a1, .int .i64 a2, .int .i64 a3, .int .i64 a4] (by simp)).c 2 rfl
  have c6_1_3 : W6.cell? ⟨W2.heap.size, 3, none⟩ = some (.int .i64 a4) := (K6.out.at (W2.heap.size) [.int .i64 a1, .int .i64 a2, .int .i64 a3, .int .i64 a4] (by simp)).c 3 rfl
  have c6_2_0 : W6.cell? ⟨w.heap.size, 0, none⟩ = some (.int .i64 0) := (K6.out.at (w.heap.size) [.int .i64 0, .int .i64 m, .int .i64 d, .int .i64 u] (by simp)).c 0 rfl
  have c6_2_1 : W6.cell? ⟨w.heap.size, 1, none⟩ = some (.int .i64 m) := (K6.out.at (w.heap.size) [.int .i64 0, .int .i64 m, .int .i64 d, .int .i64 u] (by simp)).c 1 rfl
  have c6_2_2 : W6.cell? ⟨w.heap.size, 2, none⟩ = some (.int .i64 d) := (K6.out.at (w.heap.size) [.int .i64 0, .int .i64 m, .int .i64 d, .int .i64 u] (by simp)).c 2 rfl
  have c6_2_3 : W6.cell? ⟨w.heap.size, 3, none⟩ = some (.int .i64 u) := (K6.out.at (w.heap.size) [.int .i64 0, .int .i64 m, .int .i64 d, .int .i64 u] (by simp)).c 3 rfl
  have Mz6 : Hid (BS w [(W6.heap.size, [.int .i64 b1, .int .i64 b2, .int .i64 b3, .int .i64 b4]), (W4.heap.size, [.int .i64 b1, .int .i64 b2, .int .i64 b3, .int .i64 b4]), (W2.heap.size, [.int .i64 a1, .int .i64 a2, .int .i64 a3, .int .i64 a4]), (w.heap.size, [.int .i64 0, .int .i64 m, .int .i64 d, .int .i64 u])] (W6.alloc (.cells #[.int .i64 b1, .int .i64 b2, .int .i64 b3, .int .i64 b4] 23))) := K6.out.new [.int .i64 b1, .int .i64 b2, .int .i64 b3, .int .i64 b4] 23 rfl
  go_upto_region 7 with fail
  refine gen_to (BS w [(W6.heap.size, [.int .i64 b1, .int .i64 b2, .int .i64 b3, .int .i64 b4]), (W4.heap.size, [.int .i64 b1, .int .i64 b2, .int .i64 b3, .int .i64 b4]), (W2.heap.size, [.int .i64 a1, .int .i64 a2, .int .i64 a3, .int .i64 a4]), (w.heap.size, [.int .i64 0, .int .i64 m, .int .i64 d, .int .i64 u])]) Mz6.out ?_
  clear c6_0_0 c6_0_1 c6_0_2 c6_0_3 c6_1_0 c6_1_1 c6_1_2 c6_1_3 c6_2_0 c6_2_1 c6_2_2 c6_2_3
  intro W7 K7'
  have K7 : Hid (BS w [(W6.heap.size, [.int .i64 b1, .int .i64 b2, .int .i64 b3, .int .i64 b4]), (W4.heap.size, [.int .i64 b1, .int .i64 b2, .int .i64 b3, .int .i64 b4]), (W2.heap.size, [.int .i64 a1, .int .i64 a2, .int .i64 a3, .int .i64 a4]), (w.heap.size, [.int .i64 0, .int .i64 m, .int .i64 d, .int .i64 u])] W7) := K7'
  clear K7' Mz6 K6
  have c7_0_0 : W7.cell? ⟨W6.heap.size, 0, none⟩ = some (.int .i64 b1) := (K7.out.at (W6.heap.size) [.int .i64 b1, .int .i64 b2, .int .i64 b3, .int .i64 b4] (by simp)).c 0 rfl
  have c7_0_1 : W7.cell? ⟨W6.heap.size, 1, none⟩ = some (.int .i64 b2) := (K7.out.at (W6.heap.size) [.int .i64 b1, .int .i64 b2, .int .i64 b3, .int .i64 b4] (by simp)).c 1 rfl
  have c7_0_2 : W7.cell? ⟨W6.heap.size, 2, none⟩ = some (.int .i64 b3) := (K7.out.at (W6.heap.size) [.int .i64 b1, .int .i64 b2, .int .i64 b3, .int .i64 b4] (by simp)).c 2 rfl
  have c7_0_3 : W7.cell? ⟨W6.heap.size, 3, none⟩ = some (.int .i64 b4) := (K7.out.at (W6.heap.size) [.int .i64 b1, .int .i64 b2, .int .i64 b3, .int .i64 b4] (by simp)).c 3 rfl
  have c7_1_0 : W7.cell? ⟨W4.heap.size, 0, none⟩ = some (.int .i64 b1) := (K7.out.at (W4.heap.size) [.int .i64 b1, .int .i64 b2, .int .i64 b3, .int .i64 b4] (by simp)).c 0 rfl
  have c7_1_1 : W7.cell? ⟨W4.heap.size, 1, none⟩ = some (.int .i64 b2) := (K7.out.at (W4.heap.size) [.int .i64 b1, .int .i64 b2, .int .i64 b3, .int .i64 b4] (by simp)).c 1 rfl
  have c7_1_2 : W7.cell? ⟨W4.heap.size, 2, none⟩ = some (.int .i64 b3) := (K7.out.at (W4.heap.size) [.int .i64 b1, .int .i64 b2, .int .i64 b3, .int .i64 b4] (by simp)).c 2 rfl
  have c7_1_3 : W7.cell? ⟨W4.heap.size, 3, none⟩ = some (.int .i64 b4) := (K7.out.at (W4.heap.size) [.int .i64 b1, .int .i64 b2, .int .i64 b3, .int .i64 b4] (by simp)).c 3 rfl
  have c7_2_0 : W7.cell? ⟨W2.heap.size, 0, none⟩ = some (.int .i64 a1) := (K7.out.at (W2.heap.size) [.int .i64 a1, .int .i64 a2, .int .i64 a3, .int .i64 a4] (by simp)).c 0 rfl
  have c7_2_1 : W7.cell? ⟨W2.heap.size, 1, none⟩ = some (.int .i64 a2) := (K7.out.at (W2.heap.size) [.int .i64 a1, .int .i64 a2, .int .i64 a3, .int .i64 a4] (by simp)).c 1 rfl
  have c7_2_2 : W7.cell? ⟨W2.heap.size, 2, none⟩ = some (.int .i64 a3) := (K7.out.at (W2.heap.size) [.int .i64 a1, .int .i64 a2, .int .i64 a3, .int .i64 a4] (by simp)).c 2 rfl
  have c7_2_3 : W7.cell? ⟨W2.heap.size, 3, none⟩ = some (.int .i64 a4) := (K7.out.at (W2.heap.size) [.int .i64 a1, .int .i64 a2, .int .i64 a3, .int .i64 a4] (by simp)).c 3 rfl
  have c7_3_0 : W7.cell? ⟨w.heap.size, 0, none⟩ = some (.int .i64 0) := (K7.out.at (w.heap.size) [.int .i64 0, .int .i64 m, .int .i64 d, .int .i64 u] (by simp)).c 0 rfl
  have c7_3_1 : W7.cell? ⟨w.heap.size, 1, none⟩ = some (.int .i64 m) := (K7.out.at (w.heap.size) [.int .i64 0, .int .i64 m, .int .i64 d, .int .i64 u] (by simp)).c 1 rfl
  have c7_3_2 : W7.cell? ⟨w.heap.size, 2, none⟩ = some (.int .i64 d) := (K7.out.at (w.heap.size) [.int .i64 0, .int .i64 m, .int .i64 d, .int .i64 u] (by simp)).c 2 rfl
  have c7_3_3 : W7.cell? ⟨w.heap.size, 3, none⟩ = some (.int .i64 u) := (K7.out.at (w.heap.size) [.int .i64 0, .int .i64 m, .int .i64 d, .int .i64 u] (by simp)).c 3 rfl
  go_wp2_with fail
  refine (KN.out _).mono ?_
  rintro e W8 ⟨rfl, hb⟩
  have K8 : Hid (BS w [(W6.heap.size, [.int .i64 b1, .int .i64 b2, .int .i64 b3, .int .i64 b4]), (W4.heap.size, [.int .i64 b1, .int .i64 b2, .int .i64 b3, .int .i64 b4]), (W2.heap.size, [.int .i64 a1, .int .i64 a2, .int .i64 a3, .int .i64 a4]), (w.heap.size, [.int .i64 0, .int .i64 m, .int .i64 d, .int .i64 u])] W8) := K7.out.below hb
  clear c7_0_0 c7_0_1 c7_0_2 c7_0_3 c7_1_0 c7_1_1 c7_1_2 c7_1_3 c7_2_0 c7_2_1 c7_2_2 c7_2_3 c7_3_0 c7_3_1 c7_3_2 c7_3_3
  clear hb K7
  have c8_0_0 : W8.cell? ⟨W6.heap.size, 0, none⟩ = some (.int .i64 b1) := (K8.out.at (W6.heap.size) [.int .i64 b1, .int .i64 b2, .int .i64 b3, .int .i64 b4] (by simp)).c 0 rfl
  have c8_0_1 : W8.cell? ⟨W6.heap.size, 1, none⟩ = some (.int .i64 b2) := (K8.out.at (W6.heap.size) [.int .i64 b1, .int .i64 b2, .int .i64 b3, .int .i64 b4] (by simp)).c 1 rfl
  have c8_0_2 : W8.cell? ⟨W6.heap.size, 2, none⟩ = some (.int .i64 b3) := (K8.out.at (W6.heap.size) [.int .i64 b1, .int .i64 b2, .int .i64 b3, .int .i64 b4] (by simp)).c 2 rfl
  have c8_0_3 : W8.cell? ⟨W6.heap.size, 3, none⟩ = some (.int .i64 b4) := (K8.out.at (W6.heap.size) [.int .i64 b1, .int .i64 b2, .int .i64 b3, .int .i64 b4] (by simp)).c 3 rfl
  have c8_1_0 : W8.cell? ⟨W4.heap.size, 0, none⟩ = some (.int .i64 b1) := (K8.out.at (W4.heap.size) [.int .i64 b1, .int .i64 b2, .int .i64 b3, .int .i64 b4] (by simp)).c 0 rfl
  have c8_1_1 : W8.cell? ⟨W4.heap.size, 1, none⟩ = some (.int .i64 b2) := (K8.out.at (W4.heap.size) [.int .i64 b1, .int .i64 b2, .int .i64 b3, .int .i64 b4] (by simp)).c 1 rfl
  have c8_1_2 : W8.cell? ⟨W4.heap.size, 2, none⟩ = some (.int .i64 b3) := (K8.out.at (W4.heap.size) [.int .i64 b1, .int .i64 b2, .int .i64 b3, .int .i64 b4] (by simp)).c 2 rfl
  have c8_1_3 : W8.cell? ⟨W4.heap.size, 3, none⟩ = some (.int .i64 b4) := (K8.out.at (W4.heap.size) [.int .i64 b1, .int .i64 b2, .int .i64 b3, .int .i64 b4] (by simp)).c 3 rfl
  have c8_2_0 : W8.cell? ⟨W2.heap.size, 0, none⟩ = some (.int .i64 a1) := (K8.out.at (W2.heap.size) [.int .i64 a1, .int .i64 a2, .int .i64 a3, .int .i64 a4] (by simp)).c 0 rfl
  have c8_2_1 : W8.cell? ⟨W2.heap.size, 1, none⟩ = some (.int .i64 a2) := (K8.out.at (W2.heap.size) [.int .i64 a1, .int .i64 a2, .int .i64 a3, .int .i64 a4] (by simp)).c 1 rfl
  have c8_2_2 : W8.cell? ⟨W2.heap.size, 2, none⟩ = some (.int .i64 a3) := (K8.out.at (W2.heap.size) [.int .i64 a1, .int .i64 a2, .int .i64 a3, .int .i64 a4] (by simp)).c 2 rfl
  have c8_2_3 : W8.cell? ⟨W2.heap.size, 3, none⟩ = some (.int .i64 a4) := (K8.out.at (W2.heap.size) [.int .i64 a1, .int .i64 a2, .int .i64 a3, .int .i64 a4] (by simp)).c 3 rfl
  have c8_3_0 : W8.cell? ⟨w.heap.size, 0, none⟩ = some (.int .i64 0) := (K8.out.at (w.heap.size) [.int .i64 0, .int .i64 m, .int .i64 d, .int .i64 u] (by simp)).c 0 rfl
  have c8_3_1 : W8.cell? ⟨w.heap.size, 1, none⟩ = some (.int .i64 m) := (K8.out.at (w.heap.size) [.int .i64 0, .int .i64 m, .int .i64 d, .int .i64 u] (by simp)).c 1 rfl
  have c8_3_2 : W8.cell? ⟨w.heap.size, 2, none⟩ = some (.int .i64 d) := (K8.out.at (w.heap.size) [.int .i64 0, .int .i64 m, .int .i64 d, .int .i64 u] (by simp)).c 2 rfl
  have c8_3_3 : W8.cell? ⟨w.heap.size, 3, none⟩ = some (.int .i64 u) := (K8.out.at (w.heap.size) [.int .i64 0, .int .i64 m, .int .i64 d, .int .i64 u] (by simp)).c 3 rfl
  go_wp2
  go_ret
  exact ⟨rfl, K8.out.1⟩

set_option maxRecDepth 100000 in
set_option maxHeartbeats 4000000 in
theorem count_a (n : Int) (h : 0 ≤ n.tmod 1000)
    (w : World) :
    Calls Try.prog 28 #[.int .i64 n, .int .i64 1000] w fun r' w' => r' = .returned (.int .i64 (n.tmod 1000)) ∧ w' = w := by
  have h1 : ¬ n.tmod 1000 < 0 := by omega
  go_enter Try.func28, Try.ntmps28
  go_wp2
  go_ret
  exact ⟨rfl, rfl⟩

set_option maxRecDepth 100000 in
set_option maxHeartbeats 4000000 in
theorem count_b (n : Int) (h : n.tmod 1000 < 0) (h1 : -1000 < n.tmod 1000)
    (w : World) :
    Calls Try.prog 28 #[.int .i64 n, .int .i64 1000] w fun r' w' => r' = .returned (.int .i64 (n.tmod 1000 + 1000)) ∧ w' = w := by
  go_enter Try.func28, Try.ntmps28
  go_wp2
  go_ret
  exact ⟨rfl, rfl⟩


end Go.Proofs.Ytghfgabajdghiab
