/- The walk of SpanBack. -/
import Derived.Test.YtghfgabajdghiabSpA
import Derived.Deep.Cut
namespace Go.Proofs.Ytghfgabajdghiab
open Go.RowKit
set_option linter.unusedVariables false

set_option maxRecDepth 100000 in
set_option maxHeartbeats 4000000 in
theorem core_SpanBack1 (i m d u j n e v a1 a2 a3 a4 g : Int) (he : g ≠ 0)
    (A1 : Hid (∀ w : World, Calls Try.prog 11 #[.agg #[.int .i64 i, .int .i64 m, .int .i64 d, .int .i64 u], .agg #[.int .i64 j, .int .i64 n, .int .i64 e, .int .i64 v]] w fun r' w' => r' = .returned (.tuple #[.agg #[.int .i64 a1, .int .i64 a2, .int .i64 a3, .int .i64 a4], .int .i64 g]) ∧ Below w.heap.size w w'))
    (A2 : Hid (∀ w : World, Calls Try.prog 11 #[.agg #[.int .i64 j, .int .i64 n, .int .i64 e, .int .i64 v], .agg #[.int .i64 i, .int .i64 m, .int .i64 d, .int .i64 u]] w fun r' w' => r' = .returned (.tuple #[.agg #[.int .i64 a1, .int .i64 a2, .int .i64 a3, .int .i64 a4], .int .i64 g]) ∧ Below w.heap.size w w'))
    (KN : Hid (∀ w : World, Calls Try.prog 17 #[] w fun r' w' => r' = .returned (.bool true) ∧ Below w.heap.size w w'))
    (w : World) :
    Calls Try.prog 7 #[.agg #[.int .i64 i, .int .i64 m, .int .i64 d, .int .i64 u], .agg #[.int .i64 j, .int .i64 n, .int .i64 e, .int .i64 v]] w fun r' w' => r' = .returned (.bool true) ∧ Below w.heap.size w w' := by
  have g1 : (g != 0) = true := bne_iff_ne.2 he
  have K0 : Hid (BS w [(w.heap.size + 1, [.int .i64 j, .int .i64 n, .int .i64 e, .int .i64 v]), (w.heap.size, [.int .i64 i, .int .i64 m, .int .i64 d, .int .i64 u])] ((w.alloc (.cells #[.int .i64 i, .int .i64 m, .int .i64 d, .int .i64 u] 23)).alloc (.cells #[.int .i64 j, .int .i64 n, .int .i64 e, .int .i64 v] 23))) := (((BS.start w).new [.int .i64 i, .int .i64 m, .int .i64 d, .int .i64 u] 23 rfl).new [.int .i64 j, .int .i64 n, .int .i64 e, .int .i64 v] 23 (by simp))
  go_enter Try.func7, Try.ntmps7
  go_wp2_with fail
  refine (A1.out _).mono ?_
  rintro e W1 ⟨rfl, hb⟩
  have K1 : Hid (BS w [(w.heap.size + 1, [.int .i64 j, .int .i64 n, .int .i64 e, .int .i64 v]), (w.heap.size, [.int .i64 i, .int .i64 m, .int .i64 d, .int .i64 u])] W1) := K0.out.below hb
  clear hb K0
  have c1_0_0 : W1.cell? ⟨w.heap.size + 1, 0, none⟩ = some (.int .i64 j) := (K1.out.at (w.heap.size + 1) [.int .i64 j, .int .i64 n, .int .i64 e, .int .i64 v] (by simp)).c 0 rfl
  have c1_0_1 : W1.cell? ⟨w.heap.size + 1, 1, none⟩ = some (.int .i64 n) := (K1.out.at (w.heap.size + 1) [.int .i64 j, .int .i64 n, .int .i64 e, .int .i64 v] (by simp)).c 1 rfl
  have c1_0_2 : W1.cell? ⟨w.heap.size + 1, 2, none⟩ = some (.int .i64 e) := (K1.out.at (w.heap.size + 1) [.int .i64 j, .int .i64 n, .int .i64 e, .int .i64 v] (by simp)).c 2 rfl
  have c1_0_3 : W1.cell? ⟨w.heap.size + 1, 3, none⟩ = some (.int .i64 v) := (K1.out.at (w.heap.size + 1) [.int .i64 j, .int .i64 n, .int .i64 e, .int .i64 v] (by simp)).c 3 rfl
  have c1_1_0 : W1.cell? ⟨w.heap.size, 0, none⟩ = some (.int .i64 i) := (K1.out.at (w.heap.size) [.int .i64 i, .int .i64 m, .int .i64 d, .int .i64 u] (by simp)).c 0 rfl
  have c1_1_1 : W1.cell? ⟨w.heap.size, 1, none⟩ = some (.int .i64 m) := (K1.out.at (w.heap.size) [.int .i64 i, .int .i64 m, .int .i64 d, .int .i64 u] (by simp)).c 1 rfl
  have c1_1_2 : W1.cell? ⟨w.heap.size, 2, none⟩ = some (.int .i64 d) := (K1.out.at (w.heap.size) [.int .i64 i, .int .i64 m, .int .i64 d, .int .i64 u] (by simp)).c 2 rfl
  have c1_1_3 : W1.cell? ⟨w.heap.size, 3, none⟩ = some (.int .i64 u) := (K1.out.at (w.heap.size) [.int .i64 i, .int .i64 m, .int .i64 d, .int .i64 u] (by simp)).c 3 rfl
  have Mz1 : Hid (BS w [(W1.heap.size, [.int .i64 a1, .int .i64 a2, .int .i64 a3, .int .i64 a4]), (w.heap.size + 1, [.int .i64 j, .int .i64 n, .int .i64 e, .int .i64 v]), (w.heap.size, [.int .i64 i, .int .i64 m, .int .i64 d, .int .i64 u])] (W1.alloc (.cells #[.int .i64 a1, .int .i64 a2, .int .i64 a3, .int .i64 a4] 23))) := K1.out.new [.int .i64 a1, .int .i64 a2, .int .i64 a3, .int .i64 a4] 23 rfl
  go_upto_region 2 with fail
  refine gen_to (BS w [(W1.heap.size, [.int .i64 a1, .int .i64 a2, .int .i64 a3, .int .i64 a4]), (w.heap.size + 1, [.int .i64 j, .int .i64 n, .int .i64 e, .int .i64 v]), (w.heap.size, [.int .i64 i, .int .i64 m, .int .i64 d, .int .i64 u])]) Mz1.out ?_
  clear c1_0_0 c1_0_1 c1_0_2 c1_0_3 c1_1_0 c1_1_1 c1_1_2 c1_1_3
  intro W2 K2'
  have K2 : Hid (BS w [(W1.heap.size, [.int .i64 a1, .int .i64 a2, .int .i64 a3, .int .i64 a4]), (w.heap.size + 1, [.int .i64 j, .int .i64 n, .int .i64 e, .int .i64 v]), (w.heap.size, [.int .i64 i, .int .i64 m, .int .i64 d, .int .i64 u])] W2) := K2'
  clear K2' Mz1 K1
  have c2_0_0 : W2.cell? ⟨W1.heap.size, 0, none⟩ = some (.int .i64 a1) := (K2.out.at (W1.heap.size) [.int .i64 a1, .int .i64 a2, .int .i64 a3, .int .i64 a4] (by simp)).c 0 rfl
  have c2_0_1 : W2.cell? ⟨W1.heap.size, 1, none⟩ = some (.int .i64 a2) := (K2.out.at (W1.heap.size) [.int .i64 a1, .int .i64 a2, .int .i64 a3, .int .i64 a4] (by simp)).c 1 rfl
  have c2_0_2 : W2.cell? ⟨W1.heap.size, 2, none⟩ = some (.int .i64 a3) := (K2.out.at (W1.heap.size) [.int .i64 a1, .int .i64 a2, .int .i64 a3, .int .i64 a4] (by simp)).c 2 rfl
  have c2_0_3 : W2.cell? ⟨W1.heap.size, 3, none⟩ = some (.int .i64 a4) := (K2.out.at (W1.heap.size) [.int .i64 a1, .int .i64 a2, .int .i64 a3, .int .i64 a4] (by simp)).c 3 rfl
  have c2_1_0 : W2.cell? ⟨w.heap.size + 1, 0, none⟩ = some (.int .i64 j) := (K2.out.at (w.heap.size + 1) [.int .i64 j, .int .i64 n, .int .i64 e, .int .i64 v] (by simp)).c 0 rfl
  have c2_1_1 : W2.cell? ⟨w.heap.size + 1, 1, none⟩ = some (.int .i64 n) := (K2.out.at (w.heap.size + 1) [.int .i64 j, .int .i64 n, .int .i64 e, .int .i64 v] (by simp)).c 1 rfl
  have c2_1_2 : W2.cell? ⟨w.heap.size + 1, 2, none⟩ = some (.int .i64 e) := (K2.out.at (w.heap.size + 1) [.int .i64 j, .int .i64 n, .int .i64 e, .int .i64 v] (by simp)).c 2 rfl
  have c2_1_3 : W2.cell? ⟨w.heap.size + 1, 3, none⟩ = some (.int .i64 v) := (K2.out.at (w.heap.size + 1) [.int .i64 j, .int .i64 n, .int .i64 e, .int .i64 v] (by simp)).c 3 rfl
  have c2_2_0 : W2.cell? ⟨w.heap.size, 0, none⟩ = some (.int .i64 i) := (K2.out.at (w.heap.size) [.int .i64 i, .int .i64 m, .int .i64 d, .int .i64 u] (by simp)).c 0 rfl
  have c2_2_1 : W2.cell? ⟨w.heap.size, 1, none⟩ = some (.int .i64 m) := (K2.out.at (w.heap.size) [.int .i64 i, .int .i64 m, .int .i64 d, .int .i64 u] (by simp)).c 1 rfl
  have c2_2_2 : W2.cell? ⟨w.heap.size, 2, none⟩ = some (.int .i64 d) := (K2.out.at (w.heap.size) [.int .i64 i, .int .i64 m, .int .i64 d, .int .i64 u] (by simp)).c 2 rfl
  have c2_2_3 : W2.cell? ⟨w.heap.size, 3, none⟩ = some (.int .i64 u) := (K2.out.at (w.heap.size) [.int .i64 i, .int .i64 m, .int .i64 d, .int .i64 u] (by simp)).c 3 rfl
  go_wp2_with fail
  refine (A2.out _).mono ?_
  rintro e W3 ⟨rfl, hb⟩
  have K3 : Hid (BS w [(W1.heap.size, [.int .i64 a1, .int .i64 a2, .int .i64 a3, .int .i64 a4]), (w.heap.size + 1, [.int .i64 j, .int .i64 n, .int .i64 e, .int .i64 v]), (w.heap.size, [.int .i64 i, .int .i64 m, .int .i64 d, .int .i64 u])] W3) := K2.out.below hb
  clear c2_0_0 c2_0_1 c2_0_2 c2_0_3 c2_1_0 c2_1_1 c2_1_2 c2_1_3 c2_2_0 c2_2_1 c2_2_2 c2_2_3
  clear hb K2
  have c3_0_0 : W3.cell? ⟨W1.heap.size, 0, none⟩ = some (.int .i64 a1) := (K3.out.at (W1.heap.size) [.int .i64 a1, .int .i64 a2, .int .i64 a3, .int .i64 a4] (by simp)).c 0 rfl
  have c3_0_1 : W3.cell? ⟨W1.heap.size, 1, none⟩ = some (.int .i64 a2) := (K3.out.at (W1.heap.size) [.int .i64 a1, .int .i64 a2, .int .i64 a3, .int .i64 a4] (by simp)).c 1 rfl
  have c3_0_2 : W3.cell? ⟨W1.heap.size, 2, none⟩ = some (.int .i64 a3) := (K3.out.at (W1.heap.size) [.int .i64 a1, .int .i64 a2, .int .i64 a3, .int .i64 a4] (by simp)).c 2 rfl
  have c3_0_3 : W3.cell? ⟨W1.heap.size, 3, none⟩ = some (.int .i64 a4) := (K3.out.at (W1.heap.size) [.int .i64 a1, .int .i64 a2, .int .i64 a3, .int .i64 a4] (by simp)).c 3 rfl
  have c3_1_0 : W3.cell? ⟨w.heap.size + 1, 0, none⟩ = some (.int .i64 j) := (K3.out.at (w.heap.size + 1) [.int .i64 j, .int .i64 n, .int .i64 e, .int .i64 v] (by simp)).c 0 rfl
  have c3_1_1 : W3.cell? ⟨w.heap.size + 1, 1, none⟩ = some (.int .i64 n) := (K3.out.at (w.heap.size + 1) [.int .i64 j, .int .i64 n, .int .i64 e, .int .i64 v] (by simp)).c 1 rfl
  have c3_1_2 : W3.cell? ⟨w.heap.size + 1, 2, none⟩ = some (.int .i64 e) := (K3.out.at (w.heap.size + 1) [.int .i64 j, .int .i64 n, .int .i64 e, .int .i64 v] (by simp)).c 2 rfl
  have c3_1_3 : W3.cell? ⟨w.heap.size + 1, 3, none⟩ = some (.int .i64 v) := (K3.out.at (w.heap.size + 1) [.int .i64 j, .int .i64 n, .int .i64 e, .int .i64 v] (by simp)).c 3 rfl
  have c3_2_0 : W3.cell? ⟨w.heap.size, 0, none⟩ = some (.int .i64 i) := (K3.out.at (w.heap.size) [.int .i64 i, .int .i64 m, .int .i64 d, .int .i64 u] (by simp)).c 0 rfl
  have c3_2_1 : W3.cell? ⟨w.heap.size, 1, none⟩ = some (.int .i64 m) := (K3.out.at (w.heap.size) [.int .i64 i, .int .i64 m, .int .i64 d, .int .i64 u] (by simp)).c 1 rfl
  have c3_2_2 : W3.cell? ⟨w.heap.size, 2, none⟩ = some (.int .i64 d) := (K3.out.at (w.heap.size) [.int .i64 i, .int .i64 m, .int .i64 d, .int .i64 u] (by simp)).c 2 rfl
  have c3_2_3 : W3.cell? ⟨w.heap.size, 3, none⟩ = some (.int .i64 u) := (K3.out.at (w.heap.size) [.int .i64 i, .int .i64 m, .int .i64 d, .int .i64 u] (by simp)).c 3 rfl
  have Mz3 : Hid (BS w [(W3.heap.size, [.int .i64 a1, .int .i64 a2, .int .i64 a3, .int .i64 a4]), (W1.heap.size, [.int .i64 a1, .int .i64 a2, .int .i64 a3, .int .i64 a4]), (w.heap.size + 1, [.int .i64 j, .int .i64 n, .int .i64 e, .int .i64 v]), (w.heap.size, [.int .i64 i, .int .i64 m, .int .i64 d, .int .i64 u])] (W3.alloc (.cells #[.int .i64 a1, .int .i64 a2, .int .i64 a3, .int .i64 a4] 23))) := K3.out.new [.int .i64 a1, .int .i64 a2, .int .i64 a3, .int .i64 a4] 23 rfl
  go_upto_region 3 with fail
  refine gen_to (BS w [(W3.heap.size, [.int .i64 a1, .int .i64 a2, .int .i64 a3, .int .i64 a4]), (W1.heap.size, [.int .i64 a1, .int .i64 a2, .int .i64 a3, .int .i64 a4]), (w.heap.size + 1, [.int .i64 j, .int .i64 n, .int .i64 e, .int .i64 v]), (w.heap.size, [.int .i64 i, .int .i64 m, .int .i64 d, .int .i64 u])]) Mz3.out ?_
  clear c3_0_0 c3_0_1 c3_0_2 c3_0_3 c3_1_0 c3_1_1 c3_1_2 c3_1_3 c3_2_0 c3_2_1 c3_2_2 c3_2_3
  intro W4 K4'
  have K4 : Hid (BS w [(W3.heap.size, [.int .i64 a1, .int .i64 a2, .int .i64 a3, .int .i64 a4]), (W1.heap.size, [.int .i64 a1, .int .i64 a2, .int .i64 a3, .int .i64 a4]), (w.heap.size + 1, [.int .i64 j, .int .i64 n, .int .i64 e, .int .i64 v]), (w.heap.size, [.int .i64 i, .int .i64 m, .int .i64 d, .int .i64 u])] W4) := K4'
  clear K4' Mz3 K3
  have c4_0_0 : W4.cell? ⟨W3.heap.size, 0, none⟩ = some (.int .i64 a1) := (K4.out.at (W3.heap.size) [.int .i64 a1, .int .i64 a2, .int .i64 a3, .int .i64 a4] (by simp)).c 0 rfl
  have c4_0_1 : W4.cell? ⟨W3.heap.size, 1, none⟩ = some (.int .i64 a2) := (K4.out.at (W3.heap.size) [.int .i64 a1, .int .i64 a2, .int .i64 a3, .int .i64 a4] (by simp)).c 1 rfl
  have c4_0_2 : W4.cell? ⟨W3.heap.size, 2, none⟩ = some (.int .i64 a3) := (K4.out.at (W3.heap.size) [.int .i64 a1, .int .i64 a2, .int .i64 a3, .int .i64 a4] (by simp)).c 2 rfl
  have c4_0_3 : W4.cell? ⟨W3.heap.size, 3, none⟩ = some (.int .i64 a4) := (K4.out.at (W3.heap.size) [.int .i64 a1, .int .i64 a2, .int .i64 a3, .int .i64 a4] (by simp)).c 3 rfl
  have c4_1_0 : W4.cell? ⟨W1.heap.size, 0, none⟩ = some (.int .i64 a1) := (K4.out.at (W1.heap.size) [.int .i64 a1, .int .i64 a2, .int .i64 a3, .int .i64 a4] (by simp)).c 0 rfl
  have c4_1_1 : W4.cell? ⟨W1.heap.size, 1, none⟩ = some (.int .i64 a2) := (K4.out.at (W1.heap.size) [.int .i64 a1, .int .i64 a2, .int .i64 a3, .int .i64 a4] (by simp)).c 1 rfl
  have c4_1_2 : W4.cell? ⟨W1.heap.size, 2, none⟩ = some (.int .i64 a3) := (K4.out.at (W1.heap.size) [.int .i64 a1, .int .i64 a2, .int .i64 a3, .int .i64 a4] (by simp)).c 2 rfl
  have c4_1_3 : W4.cell? ⟨W1.heap.size, 3, none⟩ = some (.int .i64 a4) := (K4.out.at (W1.heap.size) [.int .i64 a1, .int .i64 a2, .int .i64 a3, .int .i64 a4] (by simp)).c 3 rfl
  have c4_2_0 : W4.cell? ⟨w.heap.size + 1, 0, none⟩ = some (.int .i64 j) := (K4.out.at (w.heap.size + 1) [.int .i64 j, .int .i64 n, .int .i64 e, .int .i64 v] (by simp)).c 0 rfl
  have c4_2_1 : W4.cell? ⟨w.heap.size + 1, 1, none⟩ = some (.int .i64 n) := (K4.out.at (w.heap.size + 1) [.int .i64 j, .int .i64 n, .int .i64 e, .int .i64 v] (by simp)).c 1 rfl
  have c4_2_2 : W4.cell? ⟨w.heap.size + 1, 2, none⟩ = some (.int .i64 e) := (K4.out.at (w.heap.size + 1) [.int .i64 j, .int .i64 n, .int .i64 e, .int .i64 v] (by simp)).c 2 rfl
  have c4_2_3 : W4.cell? ⟨w.heap.size + 1, 3, none⟩ = some (.int .i64 v) := (K4.out.at (w.heap.size + 1) [.int .i64 j, .int .i64 n, .int .i64 e, .int .i64 v] (by simp)).c 3 rfl
  have c4_3_0 : W4.cell? ⟨w.heap.size, 0, none⟩ = some (.int .i64 i) := (K4.out.at (w.heap.size) [.int .i64 i, .int .i64 m, .int .i64 d, .int .i64 u] (by simp)).c 0 rfl
  have c4_3_1 : W4.cell? ⟨w.heap.size, 1, none⟩ = some (.int .i64 m) := (K4.out.at (w.heap.size) [.int .i64 i, .int .i64 m, .int .i64 d, .int .i64 u] (by simp)).c 1 rfl
  have c4_3_2 : W4.cell? ⟨w.heap.size, 2, none⟩ = some (.int .i64 d) := (K4.out.at (w.heap.size) [.int .i64 i, .int .i64 m, .int .i64 d, .int .i64 u] (by simp)).c 2 rfl
  have c4_3_3 : W4.cell? ⟨w.heap.size, 3, none⟩ = some (.int .i64 u) := (K4.out.at (w.heap.size) [.int .i64 i, .int .i64 m, .int .i64 d, .int .i64 u] (by simp)).c 3 rfl
  go_wp2_with fail
  refine (KN.out _).mono ?_
  rintro e W5 ⟨rfl, hb⟩
  have K5 : Hid (BS w [(W3.heap.size, [.int .i64 a1, .int .i64 a2, .int .i64 a3, .int .i64 a4]), (W1.heap.size, [.int .i64 a1, .int .i64 a2, .int .i64 a3, .int .i64 a4]), (w.heap.size + 1, [.int .i64 j, .int .i64 n, .int .i64 e, .int .i64 v]), (w.heap.size, [.int .i64 i, .int .i64 m, .int .i64 d, .int .i64 u])] W5) := K4.out.below hb
  clear c4_0_0 c4_0_1 c4_0_2 c4_0_3 c4_1_0 c4_1_1 c4_1_2 c4_1_3 c4_2_0 c4_2_1 c4_2_2 c4_2_3 c4_3_0 c4_3_1 c4_3_2 c4_3_3
  clear hb K4
  have c5_0_0 : W5.cell? ⟨W3.heap.size, 0, none⟩ = some (.int .i64 a1) := (K5.out.at (W3.heap.size) [.int .i64 a1, .int .i64 a2, .int .i64 a3, .int .i64 a4] (by simp)).c 0 rfl
  have c5_0_1 : W5.cell? ⟨W3.heap.size, 1, none⟩ = some (.int .i64 a2) := (K5.out.at (W3.heap.size) [.int .i64 a1, .int .i64 a2, .int .i64 a3, .int .i64 a4] (by simp)).c 1 rfl
  have c5_0_2 : W5.cell? ⟨W3.heap.size, 2, none⟩ = some (.int .i64 a3) := (K5.out.at (W3.heap.size) [.int .i64 a1, .int .i64 a2, .int .i64 a3, .int .i64 a4] (by simp)).c 2 rfl
  have c5_0_3 : W5.cell? ⟨W3.heap.size, 3, none⟩ = some (.int .i64 a4) := (K5.out.at (W3.heap.size) [.int .i64 a1, .int .i64 a2, .int .i64 a3, .int .i64 a4] (by simp)).c 3 rfl
  have c5_1_0 : W5.cell? ⟨W1.heap.size, 0, none⟩ = some (.int .i64 a1) := (K5.out.at (W1.heap.size) [.int .i64 a1, .int .i64 a2, .int .i64 a3, .int .i64 a4] (by simp)).c 0 rfl
  have c5_1_1 : W5.cell? ⟨W1.heap.size, 1, none⟩ = some (.int .i64 a2) := (K5.out.at (W1.heap.size) [.int .i64 a1, .int .i64 a2, .int .i64 a3, .int .i64 a4] (by simp)).c 1 rfl
  have c5_1_2 : W5.cell? ⟨W1.heap.size, 2, none⟩ = some (.int .i64 a3) := (K5.out.at (W1.heap.size) [.int .i64 a1, .int .i64 a2, .int .i64 a3, .int .i64 a4] (by simp)).c 2 rfl
  have c5_1_3 : W5.cell? ⟨W1.heap.size, 3, none⟩ = some (.int .i64 a4) := (K5.out.at (W1.heap.size) [.int .i64 a1, .int .i64 a2, .int .i64 a3, .int .i64 a4] (by simp)).c 3 rfl
  have c5_2_0 : W5.cell? ⟨w.heap.size + 1, 0, none⟩ = some (.int .i64 j) := (K5.out.at (w.heap.size + 1) [.int .i64 j, .int .i64 n, .int .i64 e, .int .i64 v] (by simp)).c 0 rfl
  have c5_2_1 : W5.cell? ⟨w.heap.size + 1, 1, none⟩ = some (.int .i64 n) := (K5.out.at (w.heap.size + 1) [.int .i64 j, .int .i64 n, .int .i64 e, .int .i64 v] (by simp)).c 1 rfl
  have c5_2_2 : W5.cell? ⟨w.heap.size + 1, 2, none⟩ = some (.int .i64 e) := (K5.out.at (w.heap.size + 1) [.int .i64 j, .int .i64 n, .int .i64 e, .int .i64 v] (by simp)).c 2 rfl
  have c5_2_3 : W5.cell? ⟨w.heap.size + 1, 3, none⟩ = some (.int .i64 v) := (K5.out.at (w.heap.size + 1) [.int .i64 j, .int .i64 n, .int .i64 e, .int .i64 v] (by simp)).c 3 rfl
  have c5_3_0 : W5.cell? ⟨w.heap.size, 0, none⟩ = some (.int .i64 i) := (K5.out.at (w.heap.size) [.int .i64 i, .int .i64 m, .int .i64 d, .int .i64 u] (by simp)).c 0 rfl
  have c5_3_1 : W5.cell? ⟨w.heap.size, 1, none⟩ = some (.int .i64 m) := (K5.out.at (w.heap.size) [.int .i64 i, .int .i64 m, .int .i64 d, .int .i64 u] (by simp)).c 1 rfl
  have c5_3_2 : W5.cell? ⟨w.heap.size, 2, none⟩ = some (.int .i64 d) := (K5.out.at (w.heap.size) [.int .i64 i, .int .i64 m, .int .i64 d, .int .i64 u] (by simp)).c 2 rfl
  have c5_3_3 : W5.cell? ⟨w.heap.size, 3, none⟩ = some (.int .i64 u) := (K5.out.at (w.heap.size) [.int .i64 i, .int .i64 m, .int .i64 d, .int .i64 u] (by simp)).c 3 rfl
  go_wp2
  go_ret
  exact ⟨rfl, K5.out.1⟩

set_option maxRecDepth 100000 in
set_option maxHeartbeats 4000000 in
theorem core_SpanBack2 (i m d u j n e v a1 a2 a3 a4 : Int) (he : i ≠ 0)
    (A1 : Hid (∀ w : World, Calls Try.prog 11 #[.agg #[.int .i64 i, .int .i64 m, .int .i64 d, .int .i64 u], .agg #[.int .i64 j, .int .i64 n, .int .i64 e, .int .i64 v]] w fun r' w' => r' = .returned (.tuple #[.agg #[.int .i64 a1, .int .i64 a2, .int .i64 a3, .int .i64 a4], .int .i64 0]) ∧ Below w.heap.size w w'))
    (A2 : Hid (∀ w : World, Calls Try.prog 11 #[.agg #[.int .i64 j, .int .i64 n, .int .i64 e, .int .i64 v], .agg #[.int .i64 i, .int .i64 m, .int .i64 d, .int .i64 u]] w fun r' w' => r' = .returned (.tuple #[.agg #[.int .i64 a1, .int .i64 a2, .int .i64 a3, .int .i64 a4], .int .i64 0]) ∧ Below w.heap.size w w'))
    (KN : Hid (∀ w : World, Calls Try.prog 17 #[] w fun r' w' => r' = .returned (.bool true) ∧ Below w.heap.size w w'))
    (w : World) :
    Calls Try.prog 7 #[.agg #[.int .i64 i, .int .i64 m, .int .i64 d, .int .i64 u], .agg #[.int .i64 j, .int .i64 n, .int .i64 e, .int .i64 v]] w fun r' w' => r' = .returned (.bool true) ∧ Below w.heap.size w w' := by
  have g1 : (i != 0) = true := bne_iff_ne.2 he
  have K0 : Hid (BS w [(w.heap.size + 1, [.int .i64 j, .int .i64 n, .int .i64 e, .int .i64 v]), (w.heap.size, [.int .i64 i, .int .i64 m, .int .i64 d, .int .i64 u])] ((w.alloc (.cells #[.int .i64 i, .int .i64 m, .int .i64 d, .int .i64 u] 23)).alloc (.cells #[.int .i64 j, .int .i64 n, .int .i64 e, .int .i64 v] 23))) := (((BS.start w).new [.int .i64 i, .int .i64 m, .int .i64 d, .int .i64 u] 23 rfl).new [.int .i64 j, .int .i64 n, .int .i64 e, .int .i64 v] 23 (by simp))
  go_enter Try.func7, Try.ntmps7
  go_wp2_with fail
  refine (A1.out _).mono ?_
  rintro e W1 ⟨rfl, hb⟩
  have K1 : Hid (BS w [(w.heap.size + 1, [.int .i64 j, .int .i64 n, .int .i64 e, .int .i64 v]), (w.heap.size, [.int .i64 i, .int .i64 m, .int .i64 d, .int .i64 u])] W1) := K0.out.below hb
  clear hb K0
  have c1_0_0 : W1.cell? ⟨w.heap.size + 1, 0, none⟩ = some (.int .i64 j) := (K1.out.at (w.heap.size + 1) [.int .i64 j, .int .i64 n, .int .i64 e, .int .i64 v] (by simp)).c 0 rfl
  have c1_0_1 : W1.cell? ⟨w.heap.size + 1, 1, none⟩ = some (.int .i64 n) := (K1.out.at (w.heap.size + 1) [.int .i64 j, .int .i64 n, .int .i64 e, .int .i64 v] (by simp)).c 1 rfl
  have c1_0_2 : W1.cell? ⟨w.heap.size + 1, 2, none⟩ = some (.int .i64 e) := (K1.out.at (w.heap.size + 1) [.int .i64 j, .int .i64 n, .int .i64 e, .int .i64 v] (by simp)).c 2 rfl
  have c1_0_3 : W1.cell? ⟨w.heap.size + 1, 3, none⟩ = some (.int .i64 v) := (K1.out.at (w.heap.size + 1) [.int .i64 j, .int .i64 n, .int .i64 e, .int .i64 v] (by simp)).c 3 rfl
  have c1_1_0 : W1.cell? ⟨w.heap.size, 0, none⟩ = some (.int .i64 i) := (K1.out.at (w.heap.size) [.int .i64 i, .int .i64 m, .int .i64 d, .int .i64 u] (by simp)).c 0 rfl
  have c1_1_1 : W1.cell? ⟨w.heap.size, 1, none⟩ = some (.int .i64 m) := (K1.out.at (w.heap.size) [.int .i64 i, .int .i64 m, .int .i64 d, .int .i64 u] (by simp)).c 1 rfl
  have c1_1_2 : W1.cell? ⟨w.heap.size, 2, none⟩ = some (.int .i64 d) := (K1.out.at (w.heap.size) [.int .i64 i, .int .i64 m, .int .i64 d, .int .i64 u] (by simp)).c 2 rfl
  have c1_1_3 : W1.cell? ⟨w.heap.size, 3, none⟩ = some (.int .i64 u) := (K1.out.at (w.heap.size) [.int .i64 i, .int .i64 m, .int .i64 d, .int .i64 u] (by simp)).c 3 rfl
  have Mz1 : Hid (BS w [(W1.heap.size, [.int .i64 a1, .int .i64 a2, .int .i64 a3, .int .i64 a4]), (w.heap.size + 1, [.int .i64 j, .int .i64 n, .int .i64 e, .int .i64 v]), (w.heap.size, [.int .i64 i, .int .i64 m, .int .i64 d, .int .i64 u])] (W1.alloc (.cells #[.int .i64 a1, .int .i64 a2, .int .i64 a3, .int .i64 a4] 23))) := K1.out.new [.int .i64 a1, .int .i64 a2, .int .i64 a3, .int .i64 a4] 23 rfl
  go_upto_region 2 with fail
  refine gen_to (BS w [(W1.heap.size, [.int .i64 a1, .int .i64 a2, .int .i64 a3, .int .i64 a4]), (w.heap.size + 1, [.int .i64 j, .int .i64 n, .int .i64 e, .int .i64 v]), (w.heap.size, [.int .i64 i, .int .i64 m, .int .i64 d, .int .i64 u])]) Mz1.out ?_
  clear c1_0_0 c1_0_1 c1_0_2 c1_0_3 c1_1_0 c1_1_1 c1_1_2 c1_1_3
  intro W2 K2'
  have K2 : Hid (BS w [(W1.heap.size, [.int .i64 a1, .int .i64 a2, .int .i64 a3, .int .i64 a4]), (w.heap.size + 1, [.int .i64 j, .int .i64 n, .int .i64 e, .int .i64 v]), (w.heap.size, [.int .i64 i, .int .i64 m, .int .i64 d, .int .i64 u])] W2) := K2'
  clear K2' Mz1 K1
  have c2_0_0 : W2.cell? ⟨W1.heap.size, 0, none⟩ = some (.int .i64 a1) := (K2.out.at (W1.heap.size) [.int .i64 a1, .int .i64 a2, .int .i64 a3, .int .i64 a4] (by simp)).c 0 rfl
  have c2_0_1 : W2.cell? ⟨W1.heap.size, 1, none⟩ = some (.int .i64 a2) := (K2.out.at (W1.heap.size) [.int .i64 a1, .int .i64 a2, .int .i64 a3, .int .i64 a4] (by simp)).c 1 rfl
  have c2_0_2 : W2.cell? ⟨W1.heap.size, 2, none⟩ = some (.int .i64 a3) := (K2.out.at (W1.heap.size) [.int .i64 a1, .int .i64 a2, .int .i64 a3, .int .i64 a4] (by simp)).c 2 rfl
  have c2_0_3 : W2.cell? ⟨W1.heap.size, 3, none⟩ = some (.int .i64 a4) := (K2.out.at (W1.heap.size) [.int .i64 a1, .int .i64 a2, .int .i64 a3, .int .i64 a4] (by simp)).c 3 rfl
  have c2_1_0 : W2.cell? ⟨w.heap.size + 1, 0, none⟩ = some (.int .i64 j) := (K2.out.at (w.heap.size + 1) [.int .i64 j, .int .i64 n, .int .i64 e, .int .i64 v] (by simp)).c 0 rfl
  have c2_1_1 : W2.cell? ⟨w.heap.size + 1, 1, none⟩ = some (.int .i64 n) := (K2.out.at (w.heap.size + 1) [.int .i64 j, .int .i64 n, .int .i64 e, .int .i64 v] (by simp)).c 1 rfl
  have c2_1_2 : W2.cell? ⟨w.heap.size + 1, 2, none⟩ = some (.int .i64 e) := (K2.out.at (w.heap.size + 1) [.int .i64 j, .int .i64 n, .int .i64 e, .int .i64 v] (by simp)).c 2 rfl
  have c2_1_3 : W2.cell? ⟨w.heap.size + 1, 3, none⟩ = some (.int .i64 v) := (K2.out.at (w.heap.size + 1) [.int .i64 j, .int .i64 n, .int .i64 e, .int .i64 v] (by simp)).c 3 rfl
  have c2_2_0 : W2.cell? ⟨w.heap.size, 0, none⟩ = some (.int .i64 i) := (K2.out.at (w.heap.size) [.int .i64 i, .int .i64 m, .int .i64 d, .int .i64 u] (by simp)).c 0 rfl
  have c2_2_1 : W2.cell? ⟨w.heap.size, 1, none⟩ = some (.int .i64 m) := (K2.out.at (w.heap.size) [.int .i64 i, .int .i64 m, .int .i64 d, .int .i64 u] (by simp)).c 1 rfl
  have c2_2_2 : W2.cell? ⟨w.heap.size, 2, none⟩ = some (.int .i64 d) := (K2.out.at (w.heap.size) [.int .i64 i, .int .i64 m, .int .i64 d, .int .i64 u] (by simp)).c 2 rfl
  have c2_2_3 : W2.cell? ⟨w.heap.size, 3, none⟩ = some (.int .i64 u) := (K2.out.at (w.heap.size) [.int .i64 i, .int .i64 m, .int .i64 d, .int .i64 u] (by simp)).c 3 rfl
  go_wp2_with fail
  refine (A2.out _).mono ?_
  rintro e W3 ⟨rfl, hb⟩
  have K3 : Hid (BS w [(W1.heap.size, [.int .i64 a1, .int .i64 a2, .int .i64 a3, .int .i64 a4]), (w.heap.size + 1, [.int .i64 j, .int .i64 n, .int .i64 e, .int .i64 v]), (w.heap.size, [.int .i64 i, .int .i64 m, .int .i64 d, .int .i64 u])] W3) := K2.out.below hb
  clear c2_0_0 c2_0_1 c2_0_2 c2_0_3 c2_1_0 c2_1_1 c2_1_2 c2_1_3 c2_2_0 c2_2_1 c2_2_2 c2_2_3
  clear hb K2
  have c3_0_0 : W3.cell? ⟨W1.heap.size, 0, none⟩ = some (.int .i64 a1) := (K3.out.at (W1.heap.size) [.int .i64 a1, .int .i64 a2, .int .i64 a3, .int .i64 a4] (by simp)).c 0 rfl
  have c3_0_1 : W3.cell? ⟨W1.heap.size, 1, none⟩ = some (.int .i64 a2) := (K3.out.at (W1.heap.size) [.int .i64 a1, .int .i64 a2, .int .i64 a3, .int .i64 a4] (by simp)).c 1 rfl
  have c3_0_2 : W3.cell? ⟨W1.heap.size, 2, none⟩ = some (.int .i64 a3) := (K3.out.at (W1.heap.size) [.int .i64 a1, .int .i64 a2, .int .i64 a3, .int .i64 a4] (by simp)).c 2 rfl
  have c3_0_3 : W3.cell? ⟨W1.heap.size, 3, none⟩ = some (.int .i64 a4) := (K3.out.at (W1.heap.size) [.int .i64 a1, .int .i64 a2, .int .i64 a3, .int .i64 a4] (by simp)).c 3 rfl
  have c3_1_0 : W3.cell? ⟨w.heap.size + 1, 0, none⟩ = some (.int .i64 j) := (K3.out.at (w.heap.size + 1) [.int .i64 j, .int .i64 n, .int .i64 e, .int .i64 v] (by simp)).c 0 rfl
  have c3_1_1 : W3.cell? ⟨w.heap.size + 1, 1, none⟩ = some (.int .i64 n) := (K3.out.at (w.heap.size + 1) [.int .i64 j, .int .i64 n, .int .i64 e, .int .i64 v] (by simp)).c 1 rfl
  have c3_1_2 : W3.cell? ⟨w.heap.size + 1, 2, none⟩ = some (.int .i64 e) := (K3.out.at (w.heap.size + 1) [.int .i64 j, .int .i64 n, .int .i64 e, .int .i64 v] (by simp)).c 2 rfl
  have c3_1_3 : W3.cell? ⟨w.heap.size + 1, 3, none⟩ = some (.int .i64 v) := (K3.out.at (w.heap.size + 1) [.int .i64 j, .int .i64 n, .int .i64 e, .int .i64 v] (by simp)).c 3 rfl
  have c3_2_0 : W3.cell? ⟨w.heap.size, 0, none⟩ = some (.int .i64 i) := (K3.out.at (w.heap.size) [.int .i64 i, .int .i64 m, .int .i64 d, .int .i64 u] (by simp)).c 0 rfl
  have c3_2_1 : W3.cell? ⟨w.heap.size, 1, none⟩ = some (.int .i64 m) := (K3.out.at (w.heap.size) [.int .i64 i, .int .i64 m, .int .i64 d, .int .i64 u] (by simp)).c 1 rfl
  have c3_2_2 : W3.cell? ⟨w.heap.size, 2, none⟩ = some (.int .i64 d) := (K3.out.at (w.heap.size) [.int .i64 i, .int .i64 m, .int .i64 d, .int .i64 u] (by simp)).c 2 rfl
  have c3_2_3 : W3.cell? ⟨w.heap.size, 3, none⟩ = some (.int .i64 u) := (K3.out.at (w.heap.size) [.int .i64 i, .int .i64 m, .int .i64 d, .int .i64 u] (by simp)).c 3 rfl
  have Mz3 : Hid (BS w [(W3.heap.size, [.int .i64 a1, .int .i64 a2, .int .i64 a3, .int .i64 a4]), (W1.heap.size, [.int .i64 a1, .int .i64 a2, .int .i64 a3, .int .i64 a4]), (w.heap.size + 1, [.int .i64 j, .int .i64 n, .int .i64 e, .int .i64 v]), (w.heap.size, [.int .i64 i, .int .i64 m, .int .i64 d, .int .i64 u])] (W3.alloc (.cells #[.int .i64 a1, .int .i64 a2, .int .i64 a3, .int .i64 a4] 23))) := K3.out.new [.int .i64 a1, .int .i64 a2, .int .i64 a3, .int .i64 a4] 23 rfl
  go_upto_region 3 with fail
  refine gen_to (BS w [(W3.heap.size, [.int .i64 a1, .int .i64 a2, .int .i64 a3, .int .i64 a4]), (W1.heap.size, [.int .i64 a1, .int .i64 a2, .int .i64 a3, .int .i64 a4]), (w.heap.size + 1, [.int .i64 j, .int .i64 n, .int .i64 e, .int .i64 v]), (w.heap.size, [.int .i64 i, .int .i64 m, .int .i64 d, .int .i64 u])]) Mz3.out ?_
  clear c3_0_0 c3_0_1 c3_0_2 c3_0_3 c3_1_0 c3_1_1 c3_1_2 c3_1_3 c3_2_0 c3_2_1 c3_2_2 c3_2_3
  intro W4 K4'
  have K4 : Hid (BS w [(W3.heap.size, [.int .i64 a1, .int .i64 a2, .int .i64 a3, .int .i64 a4]), (W1.heap.size, [.int .i64 a1, .int .i64 a2, .int .i64 a3, .int .i64 a4]), (w.heap.size + 1, [.int .i64 j, .int .i64 n, .int .i64 e, .int .i64 v]), (w.heap.size, [.int .i64 i, .int .i64 m, .int .i64 d, .int .i64 u])] W4) := K4'
  clear K4' Mz3 K3
  have c4_0_0 : W4.cell? ⟨W3.heap.size, 0, none⟩ = some (.int .i64 a1) := (K4.out.at (W3.heap.size) [.int .i64 a1, .int .i64 a2, .int .i64 a3, .int .i64 a4] (by simp)).c 0 rfl
  have c4_0_1 : W4.cell? ⟨W3.heap.size, 1, none⟩ = some (.int .i64 a2) := (K4.out.at (W3.heap.size) [.int .i64 a1, .int .i64 a2, .int .i64 a3, .int .i64 a4] (by simp)).c 1 rfl
  have c4_0_2 : W4.cell? ⟨W3.heap.size, 2, none⟩ = some (.int .i64 a3) := (K4.out.at (W3.heap.size) [.int .i64 a1, .int .i64 a2, .int .i64 a3, .int .i64 a4] (by simp)).c 2 rfl
  have c4_0_3 : W4.cell? ⟨W3.heap.size, 3, none⟩ = some (.int .i64 a4) := (K4.out.at (W3.heap.size) [.int .i64 a1, .int .i64 a2, .int .i64 a3, .int .i64 a4] (by simp)).c 3 rfl
  have c4_1_0 : W4.cell? ⟨W1.heap.size, 0, none⟩ = some (.int .i64 a1) := (K4.out.at (W1.heap.size) [.int .i64 a1, .int .i64 a2, .int .i64 a3, .int .i64 a4] (by simp)).c 0 rfl
  have c4_1_1 : W4.cell? ⟨W1.heap.size, 1, none⟩ = some (.int .i64 a2) := (K4.out.at (W1.heap.size) [.int .i64 a1, .int .i64 a2, .int .i64 a3, .int .i64 a4] (by simp)).c 1 rfl
  have c4_1_2 : W4.cell? ⟨W1.heap.size, 2, none⟩ = some (.int .i64 a3) := (K4.out.at (W1.heap.size) [.int .i64 a1, .int .i64 a2, .int .i64 a3, .int .i64 a4] (by simp)).c 2 rfl
  have c4_1_3 : W4.cell? ⟨W1.heap.size, 3, none⟩ = some (.int .i64 a4) := (K4.out.at (W1.heap.size) [.int .i64 a1, .int .i64 a2, .int .i64 a3, .int .i64 a4] (by simp)).c 3 rfl
  have c4_2_0 : W4.cell? ⟨w.heap.size + 1, 0, none⟩ = some (.int .i64 j) := (K4.out.at (w.heap.size + 1) [.int .i64 j, .int .i64 n, .int .i64 e, .int .i64 v] (by simp)).c 0 rfl
  have c4_2_1 : W4.cell? ⟨w.heap.size + 1, 1, none⟩ = some (.int .i64 n) := (K4.out.at (w.heap.size + 1) [.int .i64 j, .int .i64 n, .int .i64 e, .int .i64 v] (by simp)).c 1 rfl
  have c4_2_2 : W4.cell? ⟨w.heap.size + 1, 2, none⟩ = some (.int .i64 e) := (K4.out.at (w.heap.size + 1) [.int .i64 j, .int .i64 n, .int .i64 e, .int .i64 v] (by simp)).c 2 rfl
  have c4_2_3 : W4.cell? ⟨w.heap.size + 1, 3, none⟩ = some (.int .i64 v) := (K4.out.at (w.heap.size + 1) [.int .i64 j, .int .i64 n, .int .i64 e, .int .i64 v] (by simp)).c 3 rfl
  have c4_3_0 : W4.cell? ⟨w.heap.size, 0, none⟩ = some (.int .i64 i) := (K4.out.at (w.heap.size) [.int .i64 i, .int .i64 m, .int .i64 d, .int .i64 u] (by simp)).c 0 rfl
  have c4_3_1 : W4.cell? ⟨w.heap.size, 1, none⟩ = some (.int .i64 m) := (K4.out.at (w.heap.size) [.int .i64 i, .int .i64 m, .int .i64 d, .int .i64 u] (by simp)).c 1 rfl
  have c4_3_2 : W4.cell? ⟨w.heap.size, 2, none⟩ = some (.int .i64 d) := (K4.out.at (w.heap.size) [.int .i64 i, .int .i64 m, .int .i64 d, .int .i64 u] (by simp)).c 2 rfl
  have c4_3_3 : W4.cell? ⟨w.heap.size, 3, none⟩ = some (.int .i64 u) := (K4.out.at (w.heap.size) [.int .i64 i, .int .i64 m, .int .i64 d, .int .i64 u] (by simp)).c 3 rfl
  go_wp2_with fail
  refine (KN.out _).mono ?_
  rintro e W5 ⟨rfl, hb⟩
  have K5 : Hid (BS w [(W3.heap.size, [.int .i64 a1, .int .i64 a2, .int .i64 a3, .int .i64 a4]), (W1.heap.size, [.int .i64 a1, .int .i64 a2, .int .i64 a3, .int .i64 a4]), (w.heap.size + 1, [.int .i64 j, .int .i64 n, .int .i64 e, .int .i64 v]), (w.heap.size, [.int .i64 i, .int .i64 m, .int .i64 d, .int .i64 u])] W5) := K4.out.below hb
  clear c4_0_0 c4_0_1 c4_0_2 c4_0_3 c4_1_0 c4_1_1 c4_1_2 c4_1_3 c4_2_0 c4_2_1 c4_2_2 c4_2_3 c4_3_0 c4_3_1 c4_3_2 c4_3_3
  clear hb K4
  have c5_0_0 : W5.cell? ⟨W3.heap.size, 0, none⟩ = some (.int .i64 a1) := (K5.out.at (W3.heap.size) [.int .i64 a1, .int .i64 a2, .int .i64 a3, .int .i64 a4] (by simp)).c 0 rfl
  have c5_0_1 : W5.cell? ⟨W3.heap.size, 1, none⟩ = some (.int .i64 a2) := (K5.out.at (W3.heap.size) [.int .i64 a1, .int .i64 a2, .int .i64 a3, .int .i64 a4] (by simp)).c 1 rfl
  have c5_0_2 : W5.cell? ⟨W3.heap.size, 2, none⟩ = some (.int .i64 a3) := (K5.out.at (W3.heap.size) [.int .i64 a1, .int .i64 a2, .int .i64 a3, .int .i64 a4] (by simp)).c 2 rfl
  have c5_0_3 : W5.cell? ⟨W3.heap.size, 3, none⟩ = some (.int .i64 a4) := (K5.out.at (W3.heap.size) [.int .i64 a1, .int .i64 a2, .int .i64 a3, .int .i64 a4] (by simp)).c 3 rfl
  have c5_1_0 : W5.cell? ⟨W1.heap.size, 0, none⟩ = some (.int .i64 a1) := (K5.out.at (W1.heap.size) [.int .i64 a1, .int .i64 a2, .int .i64 a3, .int .i64 a4] (by simp)).c 0 rfl
  have c5_1_1 : W5.cell? ⟨W1.heap.size, 1, none⟩ = some (.int .i64 a2) := (K5.out.at (W1.heap.size) [.int .i64 a1, .int .i64 a2, .int .i64 a3, .int .i64 a4] (by simp)).c 1 rfl
  have c5_1_2 : W5.cell? ⟨W1.heap.size, 2, none⟩ = some (.int .i64 a3) := (K5.out.at (W1.heap.size) [.int .i64 a1, .int .i64 a2, .int .i64 a3, .int .i64 a4] (by simp)).c 2 rfl
  have c5_1_3 : W5.cell? ⟨W1.heap.size, 3, none⟩ = some (.int .i64 a4) := (K5.out.at (W1.heap.size) [.int .i64 a1, .int .i64 a2, .int .i64 a3, .int .i64 a4] (by simp)).c 3 rfl
  have c5_2_0 : W5.cell? ⟨w.heap.size + 1, 0, none⟩ = some (.int .i64 j) := (K5.out.at (w.heap.size + 1) [.int .i64 j, .int .i64 n, .int .i64 e, .int .i64 v] (by simp)).c 0 rfl
  have c5_2_1 : W5.cell? ⟨w.heap.size + 1, 1, none⟩ = some (.int .i64 n) := (K5.out.at (w.heap.size + 1) [.int .i64 j, .int .i64 n, .int .i64 e, .int .i64 v] (by simp)).c 1 rfl
  have c5_2_2 : W5.cell? ⟨w.heap.size + 1, 2, none⟩ = some (.int .i64 e) := (K5.out.at (w.heap.size + 1) [.int .i64 j, .int .i64 n, .int .i64 e, .int .i64 v] (by simp)).c 2 rfl
  have c5_2_3 : W5.cell? ⟨w.heap.size + 1, 3, none⟩ = some (.int .i64 v) := (K5.out.at (w.heap.size + 1) [.int .i64 j, .int .i64 n, .int .i64 e, .int .i64 v] (by simp)).c 3 rfl
  have c5_3_0 : W5.cell? ⟨w.heap.size, 0, none⟩ = some (.int .i64 i) := (K5.out.at (w.heap.size) [.int .i64 i, .int .i64 m, .int .i64 d, .int .i64 u] (by simp)).c 0 rfl
  have c5_3_1 : W5.cell? ⟨w.heap.size, 1, none⟩ = some (.int .i64 m) := (K5.out.at (w.heap.size) [.int .i64 i, .int .i64 m, .int .i64 d, .int .i64 u] (by simp)).c 1 rfl
  have c5_3_2 : W5.cell? ⟨w.heap.size, 2, none⟩ = some (.int .i64 d) := (K5.out.at (w.heap.size) [.int .i64 i, .int .i64 m, .int .i64 d, .int .i64 u] (by simp)).c 2 rfl
  have c5_3_3 : W5.cell? ⟨w.heap.size, 3, none⟩ = some (.int .i64 u) := (K5.out.at (w.heap.size) [.int .i64 i, .int .i64 m, .int .i64 d, .int .i64 u] (by simp)).c 3 rfl
  go_wp2
  go_ret
  exact ⟨rfl, K5.out.1⟩

set_option maxRecDepth 100000 in
set_option maxHeartbeats 4000000 in
theorem core_SpanBack3 (m d u j n e v a1 a2 a3 a4 : Int) (he : j ≠ 0)
    (A1 : Hid (∀ w : World, Calls Try.prog 11 #[.agg #[.int .i64 0, .int .i64 m, .int .i64 d, .int .i64 u], .agg #[.int .i64 j, .int .i64 n, .int .i64 e, .int .i64 v]] w fun r' w' => r' = .returned (.tuple #[.agg #[.int .i64 a1, .int .i64 a2, .int .i64 a3, .int .i64 a4], .int .i64 0]) ∧ Below w.heap.size w w'))
    (A2 : Hid (∀ w : World, Calls Try.prog 11 #[.agg #[.int .i64 j, .int .i64 n, .int .i64 e, .int .i64 v], .agg #[.int .i64 0, .int .i64 m, .int .i64 d, .int .i64 u]] w fun r' w' => r' = .returned (.tuple #[.agg #[.int .i64 a1, .int .i64 a2, .int .i64 a3, .int .i64 a4], .int .i64 0]) ∧ Below w.heap.size w w'))
    (KN : Hid (∀ w : World, Calls Try.prog 17 #[] w fun r' w' => r' = .returned (.bool true) ∧ Below w.heap.size w w'))
    (w : World) :
    Calls Try.prog 7 #[.agg #[.int .i64 0, .int .i64 m, .int .i64 d, .int .i64 u], .agg #[.int .i64 j, .int .i64 n, .int .i64 e, .int .i64 v]] w fun r' w' => r' = .returned (.bool true) ∧ Below w.heap.size w w' := by
  have g1 : (j != 0) = true := bne_iff_ne.2 he
  have K0 : Hid (BS w [(w.heap.size + 1, [.int .i64 j, .int .i64 n, .int .i64 e, .int .i64 v]), (w.heap.size, [.int .i64 0, .int .i64 m, .int .i64 d, .int .i64 u])] ((w.alloc (.cells #[.int .i64 0, .int .i64 m, .int .i64 d, .int .i64 u] 23)).alloc (.cells #[.int .i64 j, .int .i64 n, .int .i64 e, .int .i64 v] 23))) := (((BS.start w).new [.int .i64 0, .int .i64 m, .int .i64 d, .int .i64 u] 23 rfl).new [.int .i64 j, .int .i64 n, .int .i64 e, .int .i64 v] 23 (by simp))
  go_enter Try.func7, Try.ntmps7
  go_wp2_with fail
  refine (A1.out _).mono ?_
  rintro e W1 ⟨rfl, hb⟩
  have K1 : Hid (BS w [(w.heap.size + 1, [.int .i64 j, .int .i64 n, .int .i64 e, .int .i64 v]), (w.heap.size, [.int .i64 0, .int .i64 m, .int .i64 d, .int .i64 u])] W1) := K0.out.below hb
  clear hb K0
  have c1_0_0 : W1.cell? ⟨w.heap.size + 1, 0, none⟩ = some (.int .i64 j) := (K1.out.at (w.heap.size + 1) [.int .i64 j, .int .i64 n, .int .i64 e, .int .i64 v] (by simp)).c 0 rfl
  have c1_0_1 : W1.cell? ⟨w.heap.size + 1, 1, none⟩ = some (.int .i64 n) := (K1.out.at (w.heap.size + 1) [.int .i64 j, .int .i64 n, .int .i64 e, .int .i64 v] (by simp)).c 1 rfl
  have c1_0_2 : W1.cell? ⟨w.heap.size + 1, 2, none⟩ = some (.int .i64 e) := (K1.out.at (w.heap.size + 1) [.int .i64 j, .int .i64 n, .int .i64 e, .int .i64 v] (by simp)).c 2 rfl
  have c1_0_3 : W1.cell? ⟨w.heap.size + 1, 3, none⟩ = some (.int .i64 v) := (K1.out.at (w.heap.size + 1) [.int .i64 j, .int .i64 n, .int .i64 e, .int .i64 v] (by simp)).c 3 rfl
  have c1_1_0 : W1.cell? ⟨w.heap.size, 0, none⟩ = some (.int .i64 0) := (K1.out.at (w.heap.size) [.int .i64 0, .int .i64 m, .int .i64 d, .int .i64 u] (by simp)).c 0 rfl
  have c1_1_1 : W1.cell? ⟨w.heap.size, 1, none⟩ = some (.int .i64 m) := (K1.out.at (w.heap.size) [.int .i64 0, .int .i64 m, .int .i64 d, .int .i64 u] (by simp)).c 1 rfl
  have c1_1_2 : W1.cell? ⟨w.heap.size, 2, none⟩ = some (.int .i64 d) := (K1.out.at (w.heap.size) [.int .i64 0, .int .i64 m, .int .i64 d, .int .i64 u] (by simp)).c 2 rfl
  have c1_1_3 : W1.cell? ⟨w.heap.size, 3, none⟩ = some (.int .i64 u) := (K1.out.at (w.heap.size) [.int .i64 0, .int .i64 m, .int .i64 d, .int .i64 u] (by simp)).c 3 rfl
  have Mz1 : Hid (BS w [(W1.heap.size, [.int .i64 a1, .int .i64 a2, .int .i64 a3, .int .i64 a4]), (w.heap.size + 1, [.int .i64 j, .int .i64 n, .int .i64 e, .int .i64 v]), (w.heap.size, [.int .i64 0, .int .i64 m, .int .i64 d, .int .i64 u])] (W1.alloc (.cells #[.int .i64 a1, .int .i64 a2, .int .i64 a3, .int .i64 a4] 23))) := K1.out.new [.int .i64 a1, .int .i64 a2, .int .i64 a3, .int .i64 a4] 23 rfl
  go_upto_region 2 with fail
  refine gen_to (BS w [(W1.heap.size, [.int .i64 a1, .int .i64 a2, .int .i64 a3, .int .i64 a4]), (w.heap.size + 1, [.int .i64 j, .int .i64 n, .int .i64 e, .int .i64 v]), (w.heap.size, [.int .i64 0, .int .i64 m, .int .i64 d, .int .i64 u])]) Mz1.out ?_
  clear c1_0_0 c1_0_1 c1_0_2 c1_0_3 c1_1_0 c1_1_1 c1_1_2 c1_1_3
  intro W2 K2'
  have K2 : Hid (BS w [(W1.heap.size, [.int .i64 a1, .int .i64 a2, .int .i64 a3, .int .i64 a4]), (w.heap.size + 1, [.int .i64 j, .int .i64 n, .int .i64 e, .int .i64 v]), (w.heap.size, [.int .i64 0, .int .i64 m, .int .i64 d, .int .i64 u])] W2) := K2'
  clear K2' Mz1 K1
  have c2_0_0 : W2.cell? ⟨W1.heap.size, 0, none⟩ = some (.int .i64 a1) := (K2.out.at (W1.heap.size) [.int .i64 a1, .int .i64 a2, .int .i64 a3, .int .i64 a4] (by simp)).c 0 rfl
  have c2_0_1 : W2.cell? ⟨W1.heap.size, 1, none⟩ = some (.int .i64 a2) := (K2.out.at (W1.heap.size) [.int .i64 a1, .int .i64 a2, .int .i64 a3, .int .i64 a4] (by simp)).c 1 rfl
  have c2_0_2 : W2.cell? ⟨W1.heap.size, 2, none⟩ = some (.int .i64 a3) := (K2.out.at (W1.heap.size) [.int .i64 a1, .int .i64 a2, .int .i64 a3, .int .i64 a4] (by simp)).c 2 rfl
  have c2_0_3 : W2.cell? ⟨W1.heap.size, 3, none⟩ = some (.int .i64 a4) := (K2.out.at (W1.heap.size) [.int .i64 a1, .int .i64 a2, .int .i64 a3, .int .i64 a4] (by simp)).c 3 rfl
  have c2_1_0 : W2.cell? ⟨w.heap.size + 1, 0, none⟩ = some (.int .i64 j) := (K2.out.at (w.heap.size + 1) [.int .i64 j, .int .i64 n, .int .i64 e, .int .i64 v] (by simp)).c 0 rfl
  have c2_1_1 : W2.cell? ⟨w.heap.size + 1, 1, none⟩ = some (.int .i64 n) := (K2.out.at (w.heap.size + 1) [.int .i64 j, .int .i64 n, .int .i64 e, .int .i64 v] (by simp)).c 1 rfl
  have c2_1_2 : W2.cell? ⟨w.heap.size + 1, 2, none⟩ = some (.int .i64 e) := (K2.out.at (w.heap.size + 1) [.int .i64 j, .int .i64 n, .int .i64 e, .int .i64 v] (by simp)).c 2 rfl
  have c2_1_3 : W2.cell? ⟨w.heap.size + 1, 3, none⟩ = some (.int .i64 v) := (K2.out.at (w.heap.size + 1) [.int .i64 j, .int .i64 n, .int .i64 e, .int .i64 v] (by simp)).c 3 rfl
  have c2_2_0 : W2.cell? ⟨w.heap.size, 0, none⟩ = some (.int .i64 0) := (K2.out.at (w.heap.size) [.int .i64 0, .int .i64 m, .int .i64 d, .int .i64 u] (by simp)).c 0 rfl
  have c2_2_1 : W2.cell? ⟨w.heap.size, 1, none⟩ = some (.int .i64 m) := (K2.out.at (w.heap.size) [.int .i64 0, .int .i64 m, .int .i64 d, .int .i64 u] (by simp)).c 1 rfl
  have c2_2_2 : W2.cell? ⟨w.heap.size, 2, none⟩ = some (.int .i64 d) := (K2.out.at (w.heap.size) [.int .i64 0, .int .i64 m, .int .i64 d, .int .i64 u] (by simp)).c 2 rfl
  have c2_2_3 : W2.cell? ⟨w.heap.size, 3, none⟩ = some (.int .i64 u) := (K2.out.at (w.heap.size) [.int .i64 0, .int .i64 m, .int .i64 d, .int .i64 u] (by simp)).c 3 rfl
  go_wp2_with fail
  refine (A2.out _).mono ?_
  rintro e W3 ⟨rfl, hb⟩
  have K3 : Hid (BS w [(W1.heap.size, [.int .i64 a1, .int .i64 a2, .int .i64 a3, .int .i64 a4]), (w.heap.size + 1, [.int .i64 j, .int .i64 n, .int .i64 e, .int .i64 v]), (w.heap.size, [.int .i64 0, .int .i64 m, .int .i64 d, .int .i64 u])] W3) := K2.out.below hb
  clear c2_0_0 c2_0_1 c2_0_2 c2_0_3 c2_1_0 c2_1_1 c2_1_2 c2_1_3 c2_2_0 c2_2_1 c2_2_2 c2_2_3
  clear hb K2
  have c3_0_0 : W3.cell? ⟨W1.heap.size, 0, none⟩ = some (.int .i64 a1) := (K3.out.at (W1.heap.size) [.int .i64 a1, .int .i64 a2, .int .i64 a3, .int .i64 a4] (by simp)).c 0 rfl
  have c3_0_1 : W3.cell? ⟨W1.heap.size, 1, none⟩ = some (.int .i64 a2) := (K3.out.at (W1.heap.size) [.int .i64 a1, .int .i64 a2, .int .i64 a3, .int .i64 a4] (by simp)).c 1 rfl
  have c3_0_2 : W3.cell? ⟨W1.heap.size, 2, none⟩ = some (.int .i64 a3) := (K3.out.at (W1.heap.size) [.int .i64 a1, .int .i64 a2, .int .i64 a3, .int .i64 a4] (by simp)).c 2 rfl
  have c3_0_3 : W3.cell? ⟨W1.heap.size, 3, none⟩ = some (.int .i64 a4) := (K3.out.at (W1.heap.size) [.int .i64 a1, .int .i64 a2, .int .i64 a3, .int .i64 a4] (by simp)).c 3 rfl
  have c3_1_0 : W3.cell? ⟨w.heap.size + 1, 0, none⟩ = some (.int .i64 j) := (K3.out.at (w.heap.size + 1) [.int .i64 j, .int .i64 n, .int .i64 e, .int .i64 v] (by simp)).c 0 rfl
  have c3_1_1 : W3.cell? ⟨w.heap.size + 1, 1, none⟩ = some (.int .i64 n) := (K3.out.at (w.heap.size + 1) [.int .i64 j, .int .i64 n, .int .i64 e, .int .i64 v] (by simp)).c 1 rfl
  have c3_1_2 : W3.cell? ⟨w.heap.size + 1, 2, none⟩ = some (.int .i64 e) := (K3.out.at (w.heap.size + 1) [.int .i64 j, .int .i64 n, .int .i64 e, .int .i64 v] (by simp)).c 2 rfl
  have c3_1_3 : W3.cell? ⟨w.heap.size + 1, 3, none⟩ = some (.int .i64 v) := (K3.out.at (w.heap.size + 1) [.int .i64 j, .int .i64 n, .int .i64 e, .int .i64 v] (by simp)).c 3 rfl
  have c3_2_0 : W3.cell? ⟨w.heap.size, 0, none⟩ = some (.int .i64 0) := (K3.out.at (w.heap.size) [.int .i64 0, .int .i64 m, .int .i64 d, .int .i64 u] (by simp)).c 0 rfl
  have c3_2_1 : W3.cell? ⟨w.heap.size, 1, none⟩ = some (.int .i64 m) := (K3.out.at (w.heap.size) [.int .i64 0, .int .i64 m, .int .i64 d, .int .i64 u] (by simp)).c 1 rfl
  have c3_2_2 : W3.cell? ⟨w.heap.size, 2, none⟩ = some (.int .i64 d) := (K3.out.at (w.heap.size) [.int .i64 0, .int .i64 m, .int .i64 d, .int .i64 u] (by simp)).c 2 rfl
  have c3_2_3 : W3.cell? ⟨w.heap.size, 3, none⟩ = some (.int .i64 u) := (K3.out.at (w.heap.size) [.int .i64 0, .int .i64 m, .int .i64 d, .int .i64 u] (by simp)).c 3 rfl
  have Mz3 : Hid (BS w [(W3.heap.size, [.int .i64 a1, .int .i64 a2, .int .i64 a3, .int .i64 a4]), (W1.heap.size, [.int .i64 a1, .int .i64 a2, .int .i64 a3, .int .i64 a4]), (w.heap.size + 1, [.int .i64 j, .int .i64 n, .int .i64 e, .int .i64 v]), (w.heap.size, [.int .i64 0, .int .i64 m, .int .i64 d, .int .i64 u])] (W3.alloc (.cells #[.int .i64 a1, .int .i64 a2, .int .i64 a3, .int .i64 a4] 23))) := K3.out.new [.int .i64 a1, .int .i64 a2, .int .i64 a3, .int .i64 a4] 23 rfl
  go_upto_region 3 with fail
  refine gen_to (BS w [(W3.heap.size, [.int .i64 a1, .int .i64 a2, .int .i64 a3, .int .i64 a4]), (W1.heap.size, [.int .i64 a1, .int .i64 a2, .int .i64 a3, .int .i64 a4]), (w.heap.size + 1, [.int .i64 j, .int .i64 n, .int .i64 e, .int .i64 v]), (w.heap.size, [.int .i64 0, .int .i64 m, .int .i64 d, .int .i64 u])]) Mz3.out ?_
  clear c3_0_0 c3_0_1 c3_0_2 c3_0_3 c3_1_0 c3_1_1 c3_1_2 c3_1_3 c3_2_0 c3_2_1 c3_2_2 c3_2_3
  intro W4 K4'
  have K4 : Hid (BS w [(W3.heap.size, [.int .i64 a1, .int .i64 a2, .int .i64 a3, .int .i64 a4]), (W1.heap.size, [.int .i64 a1, .int .i64 a2, .int .i64 a3, .int .i64 a4]), (w.heap.size + 1, [.int .i64 j, .int .i64 n, .int .i64 e, .int .i64 v]), (w.heap.size, [.int .i64 0, .int .i64 m, .int .i64 d, .int .i64 u])] W4) := K4'
  clear K4' Mz3 K3
  have c4_0_0 : W4.cell? ⟨W3.heap.size, 0, none⟩ = some (.int .i64 a1) := (K4.out.at (W3.heap.size) [.int .i64 a1, .int .i64 a2, .int .i64 a3, .int .i64 a4] (by simp)).c 0 rfl
  have c4_0_1 : W4.cell? ⟨W3.heap.size, 1, none⟩ = some (.int .i64 a2) := (K4.out.at (W3.heap.size) [.int .i64 a1, .int .i64 a2, .int .i64 a3, .int .i64 a4] (by simp)).c 1 rfl
  have c4_0_2 : W4.cell? ⟨W3.heap.size, 2, none⟩ = some (.int .i64 a3) := (K4.out.at (W3.heap.size) [.int .i64 a1, .int .i64 a2, .int .i64 a3, .int .i64 a4] (by simp)).c 2 rfl
  have c4_0_3 : W4.cell? ⟨W3.heap.size, 3, none⟩ = some (.int .i64 a4) := (K4.out.at (W3.heap.size) [.int .i64 a1, .int .i64 a2, .int .i64 a3, .int .i64 a4] (by simp)).c 3 rfl
  have c4_1_0 : W4.cell? ⟨W1.heap.size, 0, none⟩ = some (.int .i64 a1) := (K4.out.at (W1.heap.size) [.int .i64 a1, .int .i64 a2, .int .i64 a3, .int .i64 a4] (by simp)).c 0 rfl
  have c4_1_1 : W4.cell? ⟨W1.heap.size, 1, none⟩ = some (.int .i64 a2) := (K4.out.at (W1.heap.size) [.int .i64 a1, .int .i64 a2, .int .i64 a3, .int .i64 a4] (by simp)).c 1 rfl
  have c4_1_2 : W4.cell? ⟨W1.heap.size, 2, none⟩ = some (.int .i64 a3) := (K4.out.at (W1.heap.size) [.int .i64 a1, .int .i64 a2, .int .i64 a3, .int .i64 a4] (by simp)).c 2 rfl
  have c4_1_3 : W4.cell? ⟨W1.heap.size, 3, none⟩ = some (.int .i64 a4) := (K4.out.at (W1.heap.size) [.int .i64 a1, .int .i64 a2, .int .i64 a3, .int .i64 a4] (by simp)).c 3 rfl
  have c4_2_0 : W4.cell? ⟨w.heap.size + 1, 0, none⟩ = some (.int .i64 j) := (K4.out.at (w.heap.size + 1) [.int .i64 j, .int .i64 n, .int .i64 e, .int .i64 v] (by simp)).c 0 rfl
  have c4_2_1 : W4.cell? ⟨w.heap.size + 1, 1, none⟩ = some (.int .i64 n) := (K4.out.at (w.heap.size + 1) [.int .i64 j, .int .i64 n, .int .i64 e, .int .i64 v] (by simp)).c 1 rfl
  have c4_2_2 : W4.cell? ⟨w.heap.size + 1, 2, none⟩ = some (.int .i64 e) := (K4.out.at (w.heap.size + 1) [.int .i64 j, .int .i64 n, .int .i64 e, .int .i64 v] (by simp)).c 2 rfl
  have c4_2_3 : W4.cell? ⟨w.heap.size + 1, 3, none⟩ = some (.int .i64 v) := (K4.out.at (w.heap.size + 1) [.int .i64 j, .int .i64 n, .int .i64 e, .int .i64 v] (by simp)).c 3 rfl
  have c4_3_0 : W4.cell? ⟨w.heap.size, 0, none⟩ = some (.int .i64 0) := (K4.out.at (w.heap.size) [.int .i64 0, .int .i64 m, .int .i64 d, .int .i64 u] (by simp)).c 0 rfl
  have c4_3_1 : W4.cell? ⟨w.heap.size, 1, none⟩ = some (.int .i64 m) := (K4.out.at (w.heap.size) [.int .i64 0, .int .i64 m, .int .i64 d, .int .i64 u] (by simp)).c 1 rfl
  have c4_3_2 : W4.cell? ⟨w.heap.size, 2, none⟩ = some (.int .i64 d) := (K4.out.at (w.heap.size) [.int .i64 0, .int .i64 m, .int .i64 d, .int .i64 u] (by simp)).c 2 rfl
  have c4_3_3 : W4.cell? ⟨w.heap.size, 3, none⟩ = some (.int .i64 u) := (K4.out.at (w.heap.size) [.int .i64 0, .int .i64 m, .int .i64 d, .int .i64 u] (by simp)).c 3 rfl
  go_wp2_with fail
  refine (KN.out _).mono ?_
  rintro e W5 ⟨rfl, hb⟩
  have K5 : Hid (BS w [(W3.heap.size, [.int .i64 a1, .int .i64 a2, .int .i64 a3, .int .i64 a4]), (W1.heap.size, [.int .i64 a1, .int .i64 a2, .int .i64 a3, .int .i64 a4]), (w.heap.size + 1, [.int .i64 j, .int .i64 n, .int .i64 e, .int .i64 v]), (w.heap.size, [.int .i64 0, .int .i64 m, .int .i64 d, .int .i64 u])] W5) := K4.out.below hb
  clear c4_0_0 c4_0_1 c4_0_2 c4_0_3 c4_1_0 c4_1_1 c4_1_2 c4_1_3 c4_2_0 c4_2_1 c4_2_2 c4_2_3 c4_3_0 c4_3_1 c4_3_2 c4_3_3
  clear hb K4
  have c5_0_0 : W5.cell? ⟨W3.heap.size, 0, none⟩ = some (.int .i64 a1) := (K5.out.at (W3.heap.size) [.int .i64 a1, .int .i64 a2, .int .i64 a3, .int .i64 a4] (by simp)).c 0 rfl
  have c5_0_1 : W5.cell? ⟨W3.heap.size, 1, none⟩ = some (.int .i64 a2) := (K5.out.at (W3.heap.size) [.int .i64 a1, .int .i64 a2, .int .i64 a3, .int .i64 a4] (by simp)).c 1 rfl
  have c5_0_2 : W5.cell? ⟨W3.heap.size, 2, none⟩ = some (.int .i64 a3) := (K5.out.at (W3.heap.size) [.int .i64 a1, .int .i64 a2, .int .i64 a3, .int .i64 a4] (by simp)).c 2 rfl
  have c5_0_3 : W5.cell? ⟨W3.heap.size, 3, none⟩ = some (.int .i64 a4) := (K5.out.at (W3.heap.size) [.int .i64 a1, .int .i64 a2, .int .i64 a3, .int .i64 a4] (by simp)).c 3 rfl
  have c5_1_0 : W5.cell? ⟨W1.heap.size, 0, none⟩ = some (.int .i64 a1) := (K5.out.at (W1.heap.size) [.int .i64 a1, .int .i64 a2, .int .i64 a3, .int .i64 a4] (by simp)).c 0 rfl
  have c5_1_1 : W5.cell? ⟨W1.heap.size, 1, none⟩ = some (.int .i64 a2) := (K5.out.at (W1.heap.size) [.int .i64 a1, .int .i64 a2, .int .i64 a3, .int .i64 a4] (by simp)).c 1 rfl
  have c5_1_2 : W5.cell? ⟨W1.heap.size, 2, none⟩ = some (.int .i64 a3) := (K5.out.at (W1.heap.size) [.int .i64 a1, .int .i64 a2, .int .i64 a3, .int .i64 a4] (by simp)).c 2 rfl
  have c5_1_3 : W5.cell? ⟨W1.heap.size, 3, none⟩ = some (.int .i64 a4) := (K5.out.at (W1.heap.size) [.int .i64 a1, .int .i64 a2, .int .i64 a3, .int .i64 a4] (by simp)).c 3 rfl
  have c5_2_0 : W5.cell? ⟨w.heap.size + 1, 0, none⟩ = some (.int .i64 j) := (K5.out.at (w.heap.size + 1) [.int .i64 j, .int .i64 n, .int .i64 e, .int .i64 v] (by simp)).c 0 rfl
  have c5_2_1 : W5.cell? ⟨w.heap.size + 1, 1, none⟩ = some (.int .i64 n) := (K5.out.at (w.heap.size + 1) [.int .i64 j, .int .i64 n, .int .i64 e, .int .i64 v] (by simp)).c 1 rfl
  have c5_2_2 : W5.cell? ⟨w.heap.size + 1, 2, none⟩ = some (.int .i64 e) := (K5.out.at (w.heap.size + 1) [.int .i64 j, .int .i64 n, .int .i64 e, .int .i64 v] (by simp)).c 2 rfl
  have c5_2_3 : W5.cell? ⟨w.heap.size + 1, 3, none⟩ = some (.int .i64 v) := (K5.out.at (w.heap.size + 1) [.int .i64 j, .int .i64 n, .int .i64 e, .int .i64 v] (by simp)).c 3 rfl
  have c5_3_0 : W5.cell? ⟨w.heap.size, 0, none⟩ = some (.int .i64 0) := (K5.out.at (w.heap.size) [.int .i64 0, .int .i64 m, .int .i64 d, .int .i64 u] (by simp)).c 0 rfl
  have c5_3_1 : W5.cell? ⟨w.heap.size, 1, none⟩ = some (.int .i64 m) := (K5.out.at (w.heap.size) [.int .i64 0, .int .i64 m, .int .i64 d, .int .i64 u] (by simp)).c 1 rfl
  have c5_3_2 : W5.cell? ⟨w.heap.size, 2, none⟩ = some (.int .i64 d) := (K5.out.at (w.heap.size) [.int .i64 0, .int .i64 m, .int .i64 d, .int .i64 u] (by simp)).c 2 rfl
  have c5_3_3 : W5.cell? ⟨w.heap.size, 3, none⟩ = some (.int .i64 u) := (K5.out.at (w.heap.size) [.int .i64 0, .int .i64 m, .int .i64 d, .int .i64 u] (by simp)).c 3 rfl
  go_wp2
  go_ret
  exact ⟨rfl, K5.out.1⟩

set_option maxRecDepth 100000 in
set_option maxHeartbeats 4000000 in
theorem core_SpanBack4 (m d u n e v a1 a2 a3 a4 : Int)
    (A1 : Hid (∀ w : World, Calls Try.prog 11 #[.agg #[.int .i64 0, .int .i64 m, .int .i64 d, .int .i64 u], .agg #[.int .i64 0, .int .i64 n, .int .i64 e, .int .i64 v]] w fun r' w' => r' = .returned (.tuple #[.agg #[.int .i64 a1, .int .i64 a2, .int .i64 a3, .int .i64 a4], .int .i64 0]) ∧ Below w.heap.size w w'))
    (A2 : Hid (∀ w : World, Calls Try.prog 11 #[.agg #[.int .i64 0, .int .i64 n, .int .i64 e, .int .i64 v], .agg #[.int .i64 0, .int .i64 m, .int .i64 d, .int .i64 u]] w fun r' w' => r' = .returned (.tuple #[.agg #[.int .i64 a1, .int .i64 a2, .int .i64 a3, .int .i64 a4], .int .i64 0]) ∧ Below w.heap.size w w'))
    (S1 : Hid (∀ w : World, Calls Try.prog 13 #[.agg #[.int .i64 a1, .int .i64 a2, .int .i64 a3, .int .i64 a4], .agg #[.int .i64 0, .int .i64 n, .int .i64 e, .int .i64 v]] w fun r' w' => r' = .returned (.tuple #[.agg #[.int .i64 0, .int .i64 m, .int .i64 d, .int .i64 u], .int .i64 0]) ∧ Below w.heap.size w w'))
    (KN : Hid (∀ w : World, Calls Try.prog 17 #[] w fun r' w' => r' = .returned (.bool true) ∧ Below w.heap.size w w'))
    (w : World) :
    Calls Try.prog 7 #[.agg #[.int .i64 0, .int .i64 m, .int .i64 d, .int .i64 u], .agg #[.int .i64 0, .int .i64 n, .int .i64 e, .int .i64 v]] w fun r' w' => r' = .returned (.bool true) ∧ Below w.heap.size w w' := by
  have K0 : Hid (BS w [(w.heap.size + 1, [.int .i64 0, .int .i64 n, .int .i64 e, .int .i64 v]), (w.heap.size, [.int .i64 0, .int .i64 m, .int .i64 d, .int .i64 u])] ((w.alloc (.cells #[.int .i64 0, .int .i64 m, .int .i64 d, .int .i64 u] 23)).alloc (.cells #[.int .i64 0, .int .i64 n, .int .i64 e, .int .i64 v] 23))) := (((BS.start w).new [.int .i64 0, .int .i64 m, .int .i64 d, .int .i64 u] 23 rfl).new [.int .i64 0, .int .i64 n, .int .i64 e, .int .i64 v] 23 (by simp))
  go_enter Try.func7, Try.ntmps7
  go_wp2_with fail
  refine (A1.out _).mono ?_
  rintro e W1 ⟨rfl, hb⟩
  have K1 : Hid (BS w [(w.heap.size + 1, [.int .i64 0, .int .i64 n, .int .i64 e, .int .i64 v]), (w.heap.size, [.int .i64 0, .int .i64 m, .int .i64 d, .int .i64 u])] W1) := K0.out.below hb
  clear hb K0
  have c1_0_0 : W1.cell? ⟨w.heap.size + 1, 0, none⟩ = some (.int .i64 0) := (K1.out.at (w.heap.size + 1) [.int .i64 0, .int .i64 n, .int .i64 e, .int .i64 v] (by simp)).c 0 rfl
  have c1_0_1 : W1.cell? ⟨w.heap.size + 1, 1, none⟩ = some (.int .i64 n) := (K1.out.at (w.heap.size + 1) [.int .i64 0, .int .i64 n, .int .i64 e, .int .i64 v] (by simp)).c 1 rfl
  have c1_0_2 : W1.cell? ⟨w.heap.size + 1, 2, none⟩ = some (.int .i64 e) := (K1.out.at (w.heap.size + 1) [.int .i64 0, .int .i64 n, .int .i64 e, .int .i64 v] (by simp)).c 2 rfl
  have c1_0_3 : W1.cell? ⟨w.heap.size + 1, 3, none⟩ = some (.int .i64 v) := (K1.out.at (w.heap.size + 1) [.int .i64 0, .int .i64 n, .int .i64 e, .int .i64 v] (by simp)).c 3 rfl
  have c1_1_0 : W1.cell? ⟨w.heap.size, 0, none⟩ = some (.int .i64 0) := (K1.out.at (w.heap.size) [.int .i64 0, .int .i64 m, .int .i64 d, .int .i64 u] (by simp)).c 0 rfl
  have c1_1_1 : W1.cell? ⟨w.heap.size, 1, none⟩ = some (.int .i64 m) := (K1.out.at (w.heap.size) [.int .i64 0, .int .i64 m, .int .i64 d, .int .i64 u] (by simp)).c 1 rfl
  have c1_1_2 : W1.cell? ⟨w.heap.size, 2, none⟩ = some (.int .i64 d) := (K1.out.at (w.heap.size) [.int .i64 0, .int .i64 m, .int .i64 d, .int .i64 u] (by simp)).c 2 rfl
  have c1_1_3 : W1.cell? ⟨w.heap.size, 3, none⟩ = some (.int .i64 u) := (K1.out.at (w.heap.size) [.int .i64 0, .int .i64 m, .int .i64 d, .int .i64 u] (by simp)).c 3 rfl
  have Mz1 : Hid (BS w [(W1.heap.size, [.int .i64 a1, .int .i64 a2, .int .i64 a3, .int .i64 a4]), (w.heap.size + 1, [.int .i64 0, .int .i64 n, .int .i64 e, .int .i64 v]), (w.heap.size, [.int .i64 0, .int .i64 m, .int .i64 d, .int .i64 u])] (W1.alloc (.cells #[.int .i64 a1, .int .i64 a2, .int .i64 a3, .int .i64 a4] 23))) := K1.out.new [.int .i64 a1, .int .i64 a2, .int .i64 a3, .int .i64 a4] 23 rfl
  go_upto_region 2 with fail
  refine gen_to (BS w [(W1.heap.size, [.int .i64 a1, .int .i64 a2, .int .i64 a3, .int .i64 a4]), (w.heap.size + 1, [.int .i64 0, .int .i64 n, .int .i64 e, .int .i64 v]), (w.heap.size, [.int .i64 0, .int .i64 m, .int .i64 d, .int .i64 u])]) Mz1.out ?_
  clear c1_0_0 c1_0_1 c1_0_2 c1_0_3 c1_1_0 c1_1_1 c1_1_2 c1_1_3
  intro W2 K2'
  have K2 : Hid (BS w [(W1.heap.size, [.int .i64 a1, .int .i64 a2, .int .i64 a3, .int .i64 a4]), (w.heap.size + 1, [.int .i64 0, .int .i64 n, .int .i64 e, .int .i64 v]), (w.heap.size, [.int .i64 0, .int .i64 m, .int .i64 d, .int .i64 u])] W2) := K2'
  clear K2' Mz1 K1
  have c2_0_0 : W2.cell? ⟨W1.heap.size, 0, none⟩ = some (.int .i64 a1) := (K2.out.at (W1.heap.size) [.int .i64 a1, .int .i64 a2, .int .i64 a3, .int .i64 a4] (by simp)).c 0 rfl
  have c2_0_1 : W2.cell? ⟨W1.heap.size, 1, none⟩ = some (.int .i64 a2) := (K2.out.at (W1.heap.size) [.int .i64 a1, .int .i64 a2, .int .i64 a3, .int .i64 a4] (by simp)).c 1 rfl
  have c2_0_2 : W2.cell? ⟨W1.heap.size, 2, none⟩ = some (.int .i64 a3) := (K2.out.at (W1.heap.size) [.int .i64 a1, .int .i64 a2, .int .i64 a3, .int .i64 a4] (by simp)).c 2 rfl
  have c2_0_3 : W2.cell? ⟨W1.heap.size, 3, none⟩ = some (.int .i64 a4) := (K2.out.at (W1.heap.size) [.int .i64 a1, .int .i64 a2, .int .i64 a3, .int .i64 a4] (by simp)).c 3 rfl
  have c2_1_0 : W2.cell? ⟨w.heap.size + 1, 0, none⟩ = some (.int .i64 0) := (K2.out.at (w.heap.size + 1) [.int .i64 0, .int .i64 n, .int .i64 e, .int .i64 v] (by simp)).c 0 rfl
  have c2_1_1 : W2.cell? ⟨w.heap.size + 1, 1, none⟩ = some (.int .i64 n) := (K2.out.at (w.heap.size + 1) [.int .i64 0, .int .i64 n, .int .i64 e, .int .i64 v] (by simp)).c 1 rfl
  have c2_1_2 : W2.cell? ⟨w.heap.size + 1, 2, none⟩ = some (.int .i64 e) := (K2.out.at (w.heap.size + 1) [.int .i64 0, .int .i64 n, .int .i64 e, .int .i64 v] (by simp)).c 2 rfl
  have c2_1_3 : W2.cell? ⟨w.heap.size + 1, 3, none⟩ = some (.int .i64 v) := (K2.out.at (w.heap.size + 1) [.int .i64 0, .int .i64 n, .int .i64 e, .int .i64 v] (by simp)).c 3 rfl
  have c2_2_0 : W2.cell? ⟨w.heap.size, 0, none⟩ = some (.int .i64 0) := (K2.out.at (w.heap.size) [.int .i64 0, .int .i64 m, .int .i64 d, .int .i64 u] (by simp)).c 0 rfl
  have c2_2_1 : W2.cell? ⟨w.heap.size, 1, none⟩ = some (.int .i64 m) := (K2.out.at (w.heap.size) [.int .i64 0, .int .i64 m, .int .i64 d, .int .i64 u] (by simp)).c 1 rfl
  have c2_2_2 : W2.cell? ⟨w.heap.size, 2, none⟩ = some (.int .i64 d) := (K2.out.at (w.heap.size) [.int .i64 0, .int .i64 m, .int .i64 d, .int .i64 u] (by simp)).c 2 rfl
  have c2_2_3 : W2.cell? ⟨w.heap.size, 3, none⟩ = some (.int .i64 u) := (K2.out.at (w.heap.size) [.int .i64 0, .int .i64 m, .int .i64 d, .int .i64 u] (by simp)).c 3 rfl
  go_wp2_with fail
  refine (A2.out _).mono ?_
  rintro e W3 ⟨rfl, hb⟩
  have K3 : Hid (BS w [(W1.heap.size, [.int .i64 a1, .int .i64 a2, .int .i64 a3, .int .i64 a4]), (w.heap.size + 1, [.int .i64 0, .int .i64 n, .int .i64 e, .int .i64 v]), (w.heap.size, [.int .i64 0, .int .i64 m, .int .i64 d, .int .i64 u])] W3) := K2.out.below hb
  clear c2_0_0 c2_0_1 c2_0_2 c2_0_3 c2_1_0 c2_1_1 c2_1_2 c2_1_3 c2_2_0 c2_2_1 c2_2_2 c2_2_3
  clear hb K2
  have c3_0_0 : W3.cell? ⟨W1.heap.size, 0, none⟩ = some (.int .i64 a1) := (K3.out.at (W1.heap.size) [.int .i64 a1, .int .i64 a2, .int .i64 a3, .int .i64 a4] (by simp)).c 0 rfl
  have c3_0_1 : W3.cell? ⟨W1.heap.size, 1, none⟩ = some (.int .i64 a2) := (K3.out.at (W1.heap.size) [.int .i64 a1, .int .i64 a2, .int .i64 a3, .int .i64 a4] (by simp)).c 1 rfl
  have c3_0_2 : W3.cell? ⟨W1.heap.size, 2, none⟩ = some (.int .i64 a3) := (K3.out.at (W1.heap.size) [.int .i64 a1, .int .i64 a2, .int .i64 a3, .int .i64 a4] (by simp)).c 2 rfl
  have c3_0_3 : W3.cell? ⟨W1.heap.size, 3, none⟩ = some (.int .i64 a4) := (K3.out.at (W1.heap.size) [.int .i64 a1, .int .i64 a2, .int .i64 a3, .int .i64 a4] (by simp)).c 3 rfl
  have c3_1_0 : W3.cell? ⟨w.heap.size + 1, 0, none⟩ = some (.int .i64 0) := (K3.out.at (w.heap.size + 1) [.int .i64 0, .int .i64 n, .int .i64 e, .int .i64 v] (by simp)).c 0 rfl
  have c3_1_1 : W3.cell? ⟨w.heap.size + 1, 1, none⟩ = some (.int .i64 n) := (K3.out.at (w.heap.size + 1) [.int .i64 0, .int .i64 n, .int .i64 e, .int .i64 v] (by simp)).c 1 rfl
  have c3_1_2 : W3.cell? ⟨w.heap.size + 1, 2, none⟩ = some (.int .i64 e) := (K3.out.at (w.heap.size + 1) [.int .i64 0, .int .i64 n, .int .i64 e, .int .i64 v] (by simp)).c 2 rfl
  have c3_1_3 : W3.cell? ⟨w.heap.size + 1, 3, none⟩ = some (.int .i64 v) := (K3.out.at (w.heap.size + 1) [.int .i64 0, .int .i64 n, .int .i64 e, .int .i64 v] (by simp)).c 3 rfl
  have c3_2_0 : W3.cell? ⟨w.heap.size, 0, none⟩ = some (.int .i64 0) := (K3.out.at (w.heap.size) [.int .i64 0, .int .i64 m, .int .i64 d, .int .i64 u] (by simp)).c 0 rfl
  have c3_2_1 : W3.cell? ⟨w.heap.size, 1, none⟩ = some (.int .i64 m) := (K3.out.at (w.heap.size) [.int .i64 0, .int .i64 m, .int .i64 d, .int .i64 u] (by simp)).c 1 rfl
  have c3_2_2 : W3.cell? ⟨w.heap.size, 2, none⟩ = some (.int .i64 d) := (K3.out.at (w.heap.size) [.int .i64 0, .int .i64 m, .int .i64 d, .int .i64 u] (by simp)).c 2 rfl
  have c3_2_3 : W3.cell? ⟨w.heap.size, 3, none⟩ = some (.int .i64 u) := (K3.out.at (w.heap.size) [.int .i64 0, .int .i64 m, .int .i64 d, .int .i64 u] (by simp)).c 3 rfl
  have Mz3 : Hid (BS w [(W3.heap.size, [.int .i64 a1, .int .i64 a2, .int .i64 a3, .int .i64 a4]), (W1.heap.size, [.int .i64 a1, .int .i64 a2, .int .i64 a3, .int .i64 a4]), (w.heap.size + 1, [.int .i64 0, .int .i64 n, .int .i64 e, .int .i64 v]), (w.heap.size, [.int .i64 0, .int .i64 m, .int .i64 d, .int .i64 u])] (W3.alloc (.cells #[.int .i64 a1, .int .i64 a2, .int .i64 a3, .int .i64 a4] 23))) := K3.out.new [.int .i64 a1, .int .i64 a2, .int .i64 a3, .int .i64 a4] 23 rfl
  go_upto_region 3 with fail
  refine gen_to (BS w [(W3.heap.size, [.int .i64 a1, .int .i64 a2, .int .i64 a3, .int .i64 a4]), (W1.heap.size, [.int .i64 a1, .int .i64 a2, .int .i64 a3, .int .i64 a4]), (w.heap.size + 1, [.int .i64 0, .int .i64 n, .int .i64 e, .int .i64 v]), (w.heap.size, [.int .i64 0, .int .i64 m, .int .i64 d, .int .i64 u])]) Mz3.out ?_
  clear c3_0_0 c3_0_1 c3_0_2 c3_0_3 c3_1_0 c3_1_1 c3_1_2 c3_1_3 c3_2_0 c3_2_1 c3_2_2 c3_2_3
  intro W4 K4'
  have K4 : Hid (BS w [(W3.heap.size, [.int .i64 a1, .int .i64 a2, .int .i64 a3, .int .i64 a4]), (W1.heap.size, [.int .i64 a1, .int .i64 a2, .int .i64 a3, .int .i64 a4]), (w.heap.size + 1, [.int .i64 0, .int .i64 n, .int .i64 e, .int .i64 v]), (w.heap.size, [.int .i64 0, .int .i64 m, .int .i64 d, .int .i64 u])] W4) := K4'
  clear K4' Mz3 K3
  have c4_0_0 : W4.cell? ⟨W3.heap.size, 0, none⟩ = some (.int .i64 a1) := (K4.out.at (W3.heap.size) [.int .i64 a1, .int .i64 a2, .int .i64 a3, .int .i64 a4] (by simp)).c 0 rfl
  have c4_0_1 : W4.cell? ⟨W3.heap.size, 1, none⟩ = some (.int .i64 a2) := (K4.out.at (W3.heap.size) [.int .i64 a1, .int .i64 a2, .int .i64 a3, .int .i64 a4] (by simp)).c 1 rfl
  have c4_0_2 : W4.cell? ⟨W3.heap.size, 2, none⟩ = some (.int .i64 a3) := (K4.out.at (W3.heap.size) [.int .i64 a1, .int .i64 a2, .int .i64 a3, .int .i64 a4] (by simp)).c 2 rfl
  have c4_0_3 : W4.cell? ⟨W3.heap.size, 3, none⟩ = some (.int .i64 a4) := (K4.out.at (W3.heap.size) [.int .i64 a1, .int .i64 a2, .int .i64 a3, .int .i64 a4] (by simp)).c 3 rfl
  have c4_1_0 : W4.cell? ⟨W1.heap.size, 0, none⟩ = some (.int .i64 a1) := (K4.out.at (W1.heap.size) [.int .i64 a1, .int .i64 a2, .int .i64 a3, .int .i64 a4] (by simp)).c 0 rfl
  have c4_1_1 : W4.cell? ⟨W1.heap.size, 1, none⟩ = some (.int .i64 a2) := (K4.out.at (W1.heap.size) [.int .i64 a1, .int .i64 a2, .int .i64 a3, .int .i64 a4] (by simp)).c 1 rfl
  have c4_1_2 : W4.cell? ⟨W1.heap.size, 2, none⟩ = some (.int .i64 a3) := (K4.out.at (W1.heap.size) [.int .i64 a1, .int .i64 a2, .int .i64 a3, .int .i64 a4] (by simp)).c 2 rfl
  have c4_1_3 : W4.cell? ⟨W1.heap.size, 3, none⟩ = some (.int .i64 a4) := (K4.out.at (W1.heap.size) [.int .i64 a1, .int .i64 a2, .int .i64 a3, .int .i64 a4] (by simp)).c 3 rfl
  have c4_2_0 : W4.cell? ⟨w.heap.size + 1, 0, none⟩ = some (.int .i64 0) := (K4.out.at (w.heap.size + 1) [.int .i64 0, .int .i64 n, .int .i64 e, .int .i64 v] (by simp)).c 0 rfl
  have c4_2_1 : W4.cell? ⟨w.heap.size + 1, 1, none⟩ = some (.int .i64 n) := (K4.out.at (w.heap.size + 1) [.int .i64 0, .int .i64 n, .int .i64 e, .int .i64 v] (by simp)).c 1 rfl
  have c4_2_2 : W4.cell? ⟨w.heap.size + 1, 2, none⟩ = some (.int .i64 e) := (K4.out.at (w.heap.size + 1) [.int .i64 0, .int .i64 n, .int .i64 e, .int .i64 v] (by simp)).c 2 rfl
  have c4_2_3 : W4.cell? ⟨w.heap.size + 1, 3, none⟩ = some (.int .i64 v) := (K4.out.at (w.heap.size + 1) [.int .i64 0, .int .i64 n, .int .i64 e, .int .i64 v] (by simp)).c 3 rfl
  have c4_3_0 : W4.cell? ⟨w.heap.size, 0, none⟩ = some (.int .i64 0) := (K4.out.at (w.heap.size) [.int .i64 0, .int .i64 m, .int .i64 d, .int .i64 u] (by simp)).c 0 rfl
  have c4_3_1 : W4.cell? ⟨w.heap.size, 1, none⟩ = some (.int .i64 m) := (K4.out.at (w.heap.size) [.int .i64 0, .int .i64 m, .int .i64 d, .int .i64 u] (by simp)).c 1 rfl
  have c4_3_2 : W4.cell? ⟨w.heap.size, 2, none⟩ = some (.int .i64 d) := (K4.out.at (w.heap.size) [.int .i64 0, .int .i64 m, .int .i64 d, .int .i64 u] (by simp)).c 2 rfl
  have c4_3_3 : W4.cell? ⟨w.heap.size, 3, none⟩ = some (.int .i64 u) := (K4.out.at (w.heap.size) [.int .i64 0, .int .i64 m, .int .i64 d, .int .i64 u] (by simp)).c 3 rfl
  go_wp2_with fail
  refine (S1.out _).mono ?_
  rintro e W5 ⟨rfl, hb⟩
  have K5 : Hid (BS w [(W3.heap.size, [.int .i64 a1, .int .i64 a2, .int .i64 a3, .int .i64 a4]), (W1.heap.size, [.int .i64 a1, .int .i64 a2, .int .i64 a3, .int .i64 a4]), (w.heap.size + 1, [.int .i64 0, .int .i64 n, .int .i64 e, .int .i64 v]), (w.heap.size, [.int .i64 0, .int .i64 m, .int .i64 d, .int .i64 u])] W5) := K4.out.below hb
  clear c4_0_0 c4_0_1 c4_0_2 c4_0_3 c4_1_0 c4_1_1 c4_1_2 c4_1_3 c4_2_0 c4_2_1 c4_2_2 c4_2_3 c4_3_0 c4_3_1 c4_3_2 c4_3_3
  clear hb K4
  have c5_0_0 : W5.cell? ⟨W3.heap.size, 0, none⟩ = some (.int .i64 a1) := (K5.out.at (W3.heap.size) [.int .i64 a1, .int .i64 a2, .int .i64 a3, .int .i64 a4] (by simp)).c 0 rfl
  have c5_0_1 : W5.cell? ⟨W3.heap.size, 1, none⟩ = some (.int .i64 a2) := (K5.out.at (W3.heap.size) [.int .i64 a1, .int .i64 a2, .int .i64 a3, .int .i64 a4] (by simp)).c 1 rfl
  have c5_0_2 : W5.cell? ⟨W3.heap.size, 2, none⟩ = some (.int .i64 a3) := (K5.out.at (W3.heap.size) [.int .i64 a1, .int .i64 a2, .int .i64 a3, .int .i64 a4] (by simp)).c 2 rfl
  have c5_0_3 : W5.cell? ⟨W3.heap.size, 3, none⟩ = some (.int .i64 a4) := (K5.out.at (W3.heap.size) [.int .i64 a1, .int .i64 a2, .int .i64 a3, .int .i64 a4] (by simp)).c 3 rfl
  have c5_1_0 : W5.cell? ⟨W1.heap.size, 0, none⟩ = some (.int .i64 a1) := (K5.out.at (W1.heap.size) [.int .i64 a1, .int .i64 a2, .int .i64 a3, .int .i64 a4] (by simp)).c 0 rfl
  have c5_1_1 : W5.cell? ⟨W1.heap.size, 1, none⟩ = some (.int .i64 a2) := (K5.out.at (W1.heap.size) [.int .i64 a1, .int .i64 a2, .int .i64 a3, .int .i64 a4] (by simp)).c 1 rfl
  have c5_1_2 : W5.cell? ⟨W1.heap.size, 2, none⟩ = some (.int .i64 a3) := (K5.out.at (W1.heap.size) [.int .i64 a1, .int .i64 a2, .int .i64 a3, .int .i64 a4] (by simp)).c 2 rfl
  have c5_1_3 : W5.cell? ⟨W1.heap.size, 3, none⟩ = some (.int .i64 a4) := (K5.out.at (W1.heap.size) [.int .i64 a1, .int .i64 a2, .int .i64 a3, .int .i64 a4] (by simp)).c 3 rfl
  have c5_2_0 : W5.cell? ⟨w.heap.size + 1, 0, none⟩ = some (.int .i64 0) := (K5.out.at (w.heap.size + 1) [.int .i64 0, .int .i64 n, .int .i64 e, .int .i64 v] (by simp)).c 0 rfl
  have c5_2_1 : W5.cell? ⟨w.heap.size + 1, 1, none⟩ = some (.int .i64 n) := (K5.out.at (w.heap.size + 1) [.int .i64 0, .int .i64 n, .int .i64 e, .int .i64 v] (by simp)).c 1 rfl
  have c5_2_2 : W5.cell? ⟨w.heap.size + 1, 2, none⟩ = some (.int .i64 e) := (K5.out.at (w.heap.size + 1) [.int .i64 0, .int .i64 n, .int .i64 e, .int .i64 v] (by simp)).c 2 rfl
  have c5_2_3 : W5.cell? ⟨w.heap.size + 1, 3, none⟩ = some (.int .i64 v) := (K5.out.at (w.heap.size + 1) [.int .i64 0, .int .i64 n, .int .i64 e, .int .i64 v] (by simp)).c 3 rfl
  have c5_3_0 : W5.cell? ⟨w.heap.size, 0, none⟩ = some (.int .i64 0) := (K5.out.at (w.heap.size) [.int .i64 0, .int .i64 m, .int .i64 d, .int .i64 u] (by simp)).c 0 rfl
  have c5_3_1 : W5.cell? ⟨w.heap.size, 1, none⟩ = some (.int .i64 m) := (K5.out.at (w.heap.size) [.int .i64 0, .int .i64 m, .int .i64 d, .int .i64 u] (by simp)).c 1 rfl
  have c5_3_2 : W5.cell? ⟨w.heap.size, 2, none⟩ = some (.int .i64 d) := (K5.out.at (w.heap.size) [.int .i64 0, .int .i64 m, .int .i64 d, .int .i64 u] (by simp)).c 2 rfl
  have c5_3_3 : W5.cell? ⟨w.heap.size, 3, none⟩ = some (.int .i64 u) := (K5.out.at (w.heap.size) [.int .i64 0, .int .i64 m, .int .i64 d, .int .i64 u] (by simp)).c 3 rfl
  have Mz5 : Hid (BS w [(W5.heap.size, [.int .i64 0, .int .i64 m, .int .i64 d, .int .i64 u]), (W3.heap.size, [.int .i64 a1, .int .i64 a2, .int .i64 a3, .int .i64 a4]), (W1.heap.size, [.int .i64 a1, .int .i64 a2, .int .i64 a3, .int .i64 a4]), (w.heap.size + 1, [.int .i64 0, .int .i64 n, .int .i64 e, .int .i64 v]), (w.heap.size, [.int .i64 0, .int .i64 m, .int .i64 d, .int .i64 u])] (W5.alloc (.cells #[.int .i64 0, .int .i64 m, .int .i64 d, .int .i64 u] 23))) := K5.out.new [.int .i64 0, .int .i64 m, .int .i64 d, .int .i64 u] 23 rfl
  go_upto_region 8 with fail
  refine gen_to (BS w [(W5.heap.size, [.int .i64 0, .int .i64 m, .int .i64 d, .int .i64 u]), (W3.heap.size, [.int .i64 a1, .int .i64 a2, .int .i64 a3, .int .i64 a4]), (W1.heap.size, [.int .i64 a1, .int .i64 a2, .int .i64 a3, .int .i64 a4]), (w.heap.size + 1, [.int .i64 0, .int .i64 n, .int .i64 e, .int .i64 v]), (w.heap.size, [.int .i64 0, .int .i64 m, .int .i64 d, .int .i64 u])]) Mz5.out ?_
  clear c5_0_0 c5_0_1 c5_0_2 c5_0_3 c5_1_0 c5_1_1 c5_1_2 c5_1_3 c5_2_0 c5_2_1 c5_2_2 c5_2_3 c5_3_0 c5_3_1 c5_3_2 c5_3_3
  intro W6 K6'
  have K6 : Hid (BS w [(W5.heap.size, [.int .i64 0, .int .i64 m, .int .i64 d, .int .i64 u]), (W3.heap.size, [.int .i64 a1, .int .i64 a2, .int .i64 a3, .int .i64 a4]), (W1.heap.size, [.int .i64 a1, .int .i64 a2, .int .i64 a3, .int .i64 a4]), (w.heap.size + 1, [.int .i64 0, .int .i64 n, .int .i64 e, .int .i64 v]), (w.heap.size, [.int .i64 0, .int .i64 m, .int .i64 d, .int .i64 u])] W6) := K6'
  clear K6' Mz5 K5
  have c6_0_0 : W6.cell? ⟨W5.heap.size, 0, none⟩ = some (.int .i64 0) := (K6.out.at (W5.heap.size) [.int .i64 0, .int .i64 m, .int .i64 d, .int .i64 u] (by simp)).c 0 rfl
  have c6_0_1 : W6.cell? ⟨W5.heap.size, 1, none⟩ = some (.int .i64 m) := (K6.out.at (W5.heap.size) [.int .i64 0, .int .i64 m, .int .i64 d, .int .i64 u] (by simp)).c 1 rfl
  have c6_0_2 : W6.cell? ⟨W5.heap.size, 2, none⟩ = some (.int .i64 d) := (K6.out.at (W5.heap.size) [.int .i64 0, .int .i64 m, .int .i64 d, .int .i64 u] (by simp)).c 2 rfl
  have c6_0_3 : W6.cell? ⟨W5.heap.size, 3, none⟩ = some (.int .i64 u) := (K6.out.at (W5.heap.size) [.int .i64 0, .int .i64 m, .int .i64 d, .int .i64 u] (by simp)).c 3 rfl
  have c6_1_0 : W6.cell? ⟨W3.heap.size, 0, none⟩ = some (.int .i64 a1) := (K6.out.at (W3.heap.size) [.int .i64 a1, .int .i64 a2, .int .i64 a3, .int .i64 a4] (by simp)).c 0 rfl
  have c6_1_1 : W6.cell? ⟨W3.heap.size, 1, none⟩ = some (.int .i64 a2) := (K6.out.at (W3.heap.size) [.int .i64 a1, .int .i64 a2, .int .i64 a3, .int .i64 a4] (by simp)).c 1 rfl
  have c6_1_2 : W6.cell? ⟨W3.heap.size, 2, none⟩ = some (.int .i64 a3) := (K6.out.at (W3.heap.size) [.int .i64 a1, .int .i64 a2, .int .i64 a3, .int .i64 a4] (by simp)).c 2 rfl
  have c6_1_3 : W6.cell? ⟨W3.heap.size, 3, none⟩ = some (.int .i64 a4) := (K6.out.at (W3.heap.size) [.int .i64 a1, .int .i64 a2, .int .i64 a3, .int .i64 a4] (by simp)).c 3 rfl
  have c6_2_0 : W6.cell? ⟨W1.heap.size, 0, none⟩ = some (.int .i64 a1) := (K6.out.at (W1.heap.size) [.int .i64 a1, .int .i64 a2, .int .i64 a3, .int .i64 a4] (by simp)).c 0 rfl
  have c6_2_1 : W6.cell? ⟨W1.heap.size, 1, none⟩ = some (.int .i64 a2) := (K6.out.at (W1.heap.size) [.int .i64 a1, .int .i64 a2, .int .i64 a3, .int .i64 a4] (by simp)).c 1 rfl
  have c6_2_2 : W6.cell? ⟨W1.heap.size, 2, none⟩ = some (.int .i64 a3) := (K6.out.at (W1.heap.size) [.int .i64 a1, .int .i64 a2, .int .i64 a3, .int .i64 a4] (by simp)).c 2 rfl
  have c6_2_3 : W6.cell? ⟨W1.heap.size, 3, none⟩ = some (.int .i64 a4) := (K6.out.at (W1.heap.size) [.int .i64 a1, .int .i64 a2, .int .i64 a3, .int .i64 a4] (by simp)).c 3 rfl
  have c6_3_0 : W6.cell? ⟨w.heap.size + 1, 0, none⟩ = some (.int .i64 0) := (K6.out.at (w.heap.size + 1) [.int .i64 0, .int .i64 n, .int .i64 e, .int .i64 v] (by simp)).c 0 rfl
  have c6_3_1 : W6.cell? ⟨w.heap.size + 1, 1, none⟩ = some (.int .i64 n) := (K6.out.at (w.heap.size + 1) [.int .i64 0, .int .i64 n, .int .i64 e, .int .i64 v] (by simp)).c 1 rfl
  have c6_3_2 : W6.cell? ⟨w.heap.size + 1, 2, none⟩ = some (.int .i64 e) := (K6.out.at (w.heap.size + 1) [.int .i64 0, .int .i64 n, .int .i64 e, .int .i64 v] (by simp)).c 2 rfl
  have c6_3_3 : W6.cell? ⟨w.heap.size + 1, 3, none⟩ = some (.int .i64 v) := (K6.out.at (w.heap.size + 1) [.int .i64 0, .int .i64 n, .int .i64 e, .int .i64 v] (by simp)).c 3 rfl
  have c6_4_0 : W6.cell? ⟨w.heap.size, 0, none⟩ = some (.int .i64 0) := (K6.out.at (w.heap.size) [.int .i64 0, .int .i64 m, .int .i64 d, .int .i64 u] (by simp)).c 0 rfl
  have c6_4_1 : W6.cell? ⟨w.heap.size, 1, none⟩ = some (.int .i64 m) := (K6.out.at (w.heap.size) [.int .i64 0, .int .i64 m, .int .i64 d, .int .i64 u] (by simp)).c 1 rfl
  have c6_4_2 : W6.cell? ⟨w.heap.size, 2, none⟩ = some (.int .i64 d) := (K6.out.at (w.heap.size) [.int .i64 0, .int .i64 m, .int .i64 d, .int .i64 u] (by simp)).c 2 rfl
  have c6_4_3 : W6.cell? ⟨w.heap.size, 3, none⟩ = some (.int .i64 u) := (K6.out.at (w.heap.size) [.int .i64 0, .int .i64 m, .int .i64 d, .int .i64 u] (by simp)).c 3 rfl
  go_wp2_with fail
  refine (KN.out _).mono ?_
  rintro e W7 ⟨rfl, hb⟩
  have K7 : Hid (BS w [(W5.heap.size, [.int .i64 0, .int .i64 m, .int .i64 d, .int .i64 u]), (W3.heap.size, [.int .i64 a1, .int .i64 a2, .int .i64 a3, .int .i64 a4]), (W1.heap.size, [.int .i64 a1, .int .i64 a2, .int .i64 a3, .int .i64 a4]), (w.heap.size + 1, [.int .i64 0, .int .i64 n, .int .i64 e, .int .i64 v]), (w.heap.size, [.int .i64 0, .int .i64 m, .int .i64 d, .int .i64 u])] W7) := K6.out.below hb
  clear c6_0_0 c6_0_1 c6_0_2 c6_0_3 c6_1_0 c6_1_1 c6_1_2 c6_1_3 c6_2_0 c6_2_1 c6_2_2 c6_2_3 c6_3_0 c6_3_1 c6_3_2 c6_3_3 c6_4_0 c6_4_1 c6_4_2 c6_4_3
  clear hb K6
  have c7_0_0 : W7.cell? ⟨W5.heap.size, 0, none⟩ = some (.int .i64 0) := (K7.out.at (W5.heap.size) [.int .i64 0, .int .i64 m, .int .i64 d, .int .i64 u] (by simp)).c 0 rfl
  have c7_0_1 : W7.cell? ⟨W5.heap.size, 1, none⟩ = some (.int .i64 m) := (K7.out.at (W5.heap.size) [.int .i64 0, .int .i64 m, .int .i64 d, .int .i64 u] (by simp)).c 1 rfl
  have c7_0_2 : W7.cell? ⟨W5.heap.size, 2, none⟩ = some (.int .i64 d) := (K7.out.at (W5.heap.size) [.int .i64 0, .int .i64 m, .int .i64 d, .int .i64 u] (by simp)).c 2 rfl
  have c7_0_3 : W7.cell? ⟨W5.heap.size, 3, none⟩ = some (.int .i64 u) := (K7.out.at (W5.heap.size) [.int .i64 0, .int .i64 m, .int .i64 d, .int .i64 u] (by simp)).c 3 rfl
  have c7_1_0 : W7.cell? ⟨W3.heap.size, 0, none⟩ = some (.int .i64 a1) := (K7.out.at (W3.heap.size) [.int .i64 a1, .int .i64 a2, .int .i64 a3, .int .i64 a4] (by simp)).c 0 rfl
  have c7_1_1 : W7.cell? ⟨W3.heap.size, 1, none⟩ = some (.int .i64 a2) := (K7.out.at (W3.heap.size) [.int .i64 a1, .int .i64 a2, .int .i64 a3, .int .i64 a4] (by simp)).c 1 rfl
  have c7_1_2 : W7.cell? ⟨W3.heap.size, 2, none⟩ = some (.int .i64 a3) := (K7.out.at (W3.heap.size) [.int .i64 a1, .int .i64 a2, .int .i64 a3, .int .i64 a4] (by simp)).c 2 rfl
  have c7_1_3 : W7.cell? ⟨W3.heap.size, 3, none⟩ = some (.int .i64 a4) := (K7.out.at (W3.heap.size) [.int .i64 a1, .int .i64 a2, .int .i64 a3, .int .i64 a4] (by simp)).c 3 rfl
  have c7_2_0 : W7.cell? ⟨W1.heap.size, 0, none⟩ = some (.int .i64 a1) := (K7.out.at (W1.heap.size) [.int .i64 a1, .int .i64 a2, .int .i64 a3, .int .i64 a4] (by simp)).c 0 rfl
  have c7_2_1 : W7.cell? ⟨W1.heap.size, 1, none⟩ = some (.int .i64 a2) := (K7.out.at (W1.heap.size) [.int .i64 a1, .int .i64 a2, .int .i64 a3, .int .i64 a4] (by simp)).c 1 rfl
  have c7_2_2 : W7.cell? ⟨W1.heap.size, 2, none⟩ = some (.int .i64 a3) := (K7.out.at (W1.heap.size) [.int .i64 a1, .int .i64 a2, .int .i64 a3, .int .i64 a4] (by simp)).c 2 rfl
  have c7_2_3 : W7.cell? ⟨W1.heap.size, 3, none⟩ = some (.int .i64 a4) := (K7.out.at (W1.heap.size) [.int .i64 a1, .int .i64 a2, .int .i64 a3, .int .i64 a4] (by simp)).c 3 rfl
  have c7_3_0 : W7.cell? ⟨w.heap.size + 1, 0, none⟩ = some (.int .i64 0) := (K7.out.at (w.heap.size + 1) [.int .i64 0, .int .i64 n, .int .i64 e, .int .i64 v] (by simp)).c 0 rfl
  have c7_3_1 : W7.cell? ⟨w.heap.size + 1, 1, none⟩ = some (.int .i64 n) := (K7.out.at (w.heap.size + 1) [.int .i64 0, .int .i64 n, .int .i64 e, .int .i64 v] (by simp)).c 1 rfl
  have c7_3_2 : W7.cell? ⟨w.heap.size + 1, 2, none⟩ = some (.int .i64 e) := (K7.out.at (w.heap.size + 1) [.int .i64 0, .int .i64 n, .int .i64 e, .int .i64 v] (by simp)).c 2 rfl
  have c7_3_3 : W7.cell? ⟨w.heap.size + 1, 3, none⟩ = some (.int .i64 v) := (K7.out.at (w.heap.size + 1) [.int .i64 0, .int .i64 n, .int .i64 e, .int .i64 v] (by simp)).c 3 rfl
  have c7_4_0 : W7.cell? ⟨w.heap.size, 0, none⟩ = some (.int .i64 0) := (K7.out.at (w.heap.size) [.int .i64 0, .int .i64 m, .int .i64 d, .int .i64 u] (by simp)).c 0 rfl
  have c7_4_1 : W7.cell? ⟨w.heap.size, 1, none⟩ = some (.int .i64 m) := (K7.out.at (w.heap.size) [.int .i64 0, .int .i64 m, .int .i64 d, .int .i64 u] (by simp)).c 1 rfl
  have c7_4_2 : W7.cell? ⟨w.heap.size, 2, none⟩ = some (.int .i64 d) := (K7.out.at (w.heap.size) [.int .i64 0, .int .i64 m, .int .i64 d, .int .i64 u] (by simp)).c 2 rfl
  have c7_4_3 : W7.cell? ⟨w.heap.size, 3, none⟩ = some (.int .i64 u) := (K7.out.at (w.heap.size) [.int .i64 0, .int .i64 m, .int .i64 d, .int .i64 u] (by simp)).c 3 rfl
  go_wp2
  go_ret
  exact ⟨rfl, K7.out.1⟩


end Go.Proofs.Ytghfgabajdghiab
