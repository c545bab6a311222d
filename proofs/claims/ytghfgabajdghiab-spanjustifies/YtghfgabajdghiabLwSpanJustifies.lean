/- The walk of SpanJustifies. -/
import Derived.Test.YtghfgabajdghiabSpA
import Derived.Deep.Cut
namespace Go.Proofs.Ytghfgabajdghiab
open Go.RowKit
set_option linter.unusedVariables false

set_option maxRecDepth 100000 in
set_option maxHeartbeats 4000000 in
theorem core_SpanJusNo (i m d u a1 M D U g : Int) (hg : g ≠ 0)
    (J1 : Hid (∀ w : World, Calls Try.prog 26 #[.agg #[.int .i64 i, .int .i64 m, .int .i64 d, .int .i64 u]] w fun r' w' => r' = .returned (.tuple #[.agg #[.int .i64 a1, .int .i64 M, .int .i64 D, .int .i64 U], .int .i64 g]) ∧ Below w.heap.size w w'))
    (J2 : Hid (∀ w : World, Calls Try.prog 27 #[.agg #[.int .i64 i, .int .i64 m, .int .i64 d, .int .i64 u]] w fun r' w' => r' = .returned (.tuple #[.agg #[.int .i64 a1, .int .i64 M, .int .i64 D, .int .i64 U], .int .i64 g]) ∧ Below w.heap.size w w'))
    (KN : Hid (∀ w : World, Calls Try.prog 17 #[] w fun r' w' => r' = .returned (.bool true) ∧ Below w.heap.size w w'))
    (w : World) :
    Calls Try.prog 6 #[.agg #[.int .i64 i, .int .i64 m, .int .i64 d, .int .i64 u]] w fun r' w' => r' = .returned (.bool true) ∧ Below w.heap.size w w' := by
  have g1 : (g != 0) = true := bne_iff_ne.2 hg
  have K0 : Hid (BS w [(w.heap.size, [.int .i64 i, .int .i64 m, .int .i64 d, .int .i64 u])] (w.alloc (.cells #[.int .i64 i, .int .i64 m, .int .i64 d, .int .i64 u] 23))) := ((BS.start w).new [.int .i64 i, .int .i64 m, .int .i64 d, .int .i64 u] 23 rfl)
  go_enter Try.func6, Try.ntmps6
  go_wp2_with fail
  refine (J1.out _).mono ?_
  rintro e W1 ⟨rfl, hb⟩
  have K1 : Hid (BS w [(w.heap.size, [.int .i64 i, .int .i64 m, .int .i64 d, .int .i64 u])] W1) := K0.out.below hb
  clear hb K0
  have c1_0_0 : W1.cell? ⟨w.heap.size, 0, none⟩ = some (.int .i64 i) := (K1.out.at (w.heap.size) [.int .i64 i, .int .i64 m, .int .i64 d, .int .i64 u] (by simp)).c 0 rfl
  have c1_0_1 : W1.cell? ⟨w.heap.size, 1, none⟩ = some (.int .i64 m) := (K1.out.at (w.heap.size) [.int .i64 i, .int .i64 m, .int .i64 d, .int .i64 u] (by simp)).c 1 rfl
  have c1_0_2 : W1.cell? ⟨w.heap.size, 2, none⟩ = some (.int .i64 d) := (K1.out.at (w.heap.size) [.int .i64 i, .int .i64 m, .int .i64 d, .int .i64 u] (by simp)).c 2 rfl
  have c1_0_3 : W1.cell? ⟨w.heap.size, 3, none⟩ = some (.int .i64 u) := (K1.out.at (w.heap.size) [.int .i64 i, .int .i64 m, .int .i64 d, .int .i64 u] (by simp)).c 3 rfl
  have Mz1 : Hid (BS w [(W1.heap.size, [.int .i64 a1, .int .i64 M, .int .i64 D, .int .i64 U]), (w.heap.size, [.int .i64 i, .int .i64 m, .int .i64 d, .int .i64 u])] (W1.alloc (.cells #[.int .i64 a1, .int .i64 M, .int .i64 D, .int .i64 U] 23))) := K1.out.new [.int .i64 a1, .int .i64 M, .int .i64 D, .int .i64 U] 23 rfl
  go_upto_region 2 with fail
  refine gen_to (BS w [(W1.heap.size, [.int .i64 a1, .int .i64 M, .int .i64 D, .int .i64 U]), (w.heap.size, [.int .i64 i, .int .i64 m, .int .i64 d, .int .i64 u])]) Mz1.out ?_
  clear c1_0_0 c1_0_1 c1_0_2 c1_0_3
  intro W2 K2'
  have K2 : Hid (BS w [(W1.heap.size, [.int .i64 a1, .int .i64 M, .int .i64 D, .int .i64 U]), (w.heap.size, [.int .i64 i, .int .i64 m, .int .i64 d, .int .i64 u])] W2) := K2'
  clear K2' Mz1 K1
  have c2_0_0 : W2.cell? ⟨W1.heap.size, 0, none⟩ = some (.int .i64 a1) := (K2.out.at (W1.heap.size) [.int .i64 a1, .int .i64 M, .int .i64 D, .int .i64 U] (by simp)).c 0 rfl
  have c2_0_1 : W2.cell? ⟨W1.heap.size, 1, none⟩ = some (.int .i64 M) := (K2.out.at (W1.heap.size) [.int .i64 a1, .int .i64 M, .int .i64 D, .int .i64 U] (by simp)).c 1 rfl
  have c2_0_2 : W2.cell? ⟨W1.heap.size, 2, none⟩ = some (.int .i64 D) := (K2.out.at (W1.heap.size) [.int .i64 a1, .int .i64 M, .int .i64 D, .int .i64 U] (by simp)).c 2 rfl
  have c2_0_3 : W2.cell? ⟨W1.heap.size, 3, none⟩ = some (.int .i64 U) := (K2.out.at (W1.heap.size) [.int .i64 a1, .int .i64 M, .int .i64 D, .int .i64 U] (by simp)).c 3 rfl
  have c2_1_0 : W2.cell? ⟨w.heap.size, 0, none⟩ = some (.int .i64 i) := (K2.out.at (w.heap.size) [.int .i64 i, .int .i64 m, .int .i64 d, .int .i64 u] (by simp)).c 0 rfl
  have c2_1_1 : W2.cell? ⟨w.heap.size, 1, none⟩ = some (.int .i64 m) := (K2.out.at (w.heap.size) [.int .i64 i, .int .i64 m, .int .i64 d, .int .i64 u] (by simp)).c 1 rfl
  have c2_1_2 : W2.cell? ⟨w.heap.size, 2, none⟩ = some (.int .i64 d) := (K2.out.at (w.heap.size) [.int .i64 i, .int .i64 m, .int .i64 d, .int .i64 u] (by simp)).c 2 rfl
  have c2_1_3 : W2.cell? ⟨w.heap.size, 3, none⟩ = some (.int .i64 u) := (K2.out.at (w.heap.size) [.int .i64 i, .int .i64 m, .int .i64 d, .int .i64 u] (by simp)).c 3 rfl
  go_wp2_with fail
  refine (J2.out _).mono ?_
  rintro e W3 ⟨rfl, hb⟩
  have K3 : Hid (BS w [(W1.heap.size, [.int .i64 a1, .int .i64 M, .int .i64 D, .int .i64 U]), (w.heap.size, [.int .i64 i, .int .i64 m, .int .i64 d, .int .i64 u])] W3) := K2.out.below hb
  clear c2_0_0 c2_0_1 c2_0_2 c2_0_3 c2_1_0 c2_1_1 c2_1_2 c2_1_3
  clear hb K2
  have c3_0_0 : W3.cell? ⟨W1.heap.size, 0, none⟩ = some (.int .i64 a1) := (K3.out.at (W1.heap.size) [.int .i64 a1, .int .i64 M, .int .i64 D, .int .i64 U] (by simp)).c 0 rfl
  have c3_0_1 : W3.cell? ⟨W1.heap.size, 1, none⟩ = some (.int .i64 M) := (K3.out.at (W1.heap.size) [.int .i64 a1, .int .i64 M, .int .i64 D, .int .i64 U] (by simp)).c 1 rfl
  have c3_0_2 : W3.cell? ⟨W1.heap.size, 2, none⟩ = some (.int .i64 D) := (K3.out.at (W1.heap.size) [.int .i64 a1, .int .i64 M, .int .i64 D, .int .i64 U] (by simp)).c 2 rfl
  have c3_0_3 : W3.cell? ⟨W1.heap.size, 3, none⟩ = some (.int .i64 U) := (K3.out.at (W1.heap.size) [.int .i64 a1, .int .i64 M, .int .i64 D, .int .i64 U] (by simp)).c 3 rfl
  have c3_1_0 : W3.cell? ⟨w.heap.size, 0, none⟩ = some (.int .i64 i) := (K3.out.at (w.heap.size) [.int .i64 i, .int .i64 m, .int .i64 d, .int .i64 u] (by simp)).c 0 rfl
  have c3_1_1 : W3.cell? ⟨w.heap.size, 1, none⟩ = some (.int .i64 m) := (K3.out.at (w.heap.size) [.int .i64 i, .int .i64 m, .int .i64 d, .int .i64 u] (by simp)).c 1 rfl
  have c3_1_2 : W3.cell? ⟨w.heap.size, 2, none⟩ = some (.int .i64 d) := (K3.out.at (w.heap.size) [.int .i64 i, .int .i64 m, .int .i64 d, .int .i64 u] (by simp)).c 2 rfl
  have c3_1_3 : W3.cell? ⟨w.heap.size, 3, none⟩ = some (.int .i64 u) := (K3.out.at (w.heap.size) [.int .i64 i, .int .i64 m, .int .i64 d, .int .i64 u] (by simp)).c 3 rfl
  have Mz3 : Hid (BS w [(W3.heap.size, [.int .i64 a1, .int .i64 M, .int .i64 D, .int .i64 U]), (W1.heap.size, [.int .i64 a1, .int .i64 M, .int .i64 D, .int .i64 U]), (w.heap.size, [.int .i64 i, .int .i64 m, .int .i64 d, .int .i64 u])] (W3.alloc (.cells #[.int .i64 a1, .int .i64 M, .int .i64 D, .int .i64 U] 23))) := K3.out.new [.int .i64 a1, .int .i64 M, .int .i64 D, .int .i64 U] 23 rfl
  go_upto_region 3 with fail
  refine gen_to (BS w [(W3.heap.size, [.int .i64 a1, .int .i64 M, .int .i64 D, .int .i64 U]), (W1.heap.size, [.int .i64 a1, .int .i64 M, .int .i64 D, .int .i64 U]), (w.heap.size, [.int .i64 i, .int .i64 m, .int .i64 d, .int .i64 u])]) Mz3.out ?_
  clear c3_0_0 c3_0_1 c3_0_2 c3_0_3 c3_1_0 c3_1_1 c3_1_2 c3_1_3
  intro W4 K4'
  have K4 : Hid (BS w [(W3.heap.size, [.int .i64 a1, .int .i64 M, .int .i64 D, .int .i64 U]), (W1.heap.size, [.int .i64 a1, .int .i64 M, .int .i64 D, .int .i64 U]), (w.heap.size, [.int .i64 i, .int .i64 m, .int .i64 d, .int .i64 u])] W4) := K4'
  clear K4' Mz3 K3
  have c4_0_0 : W4.cell? ⟨W3.heap.size, 0, none⟩ = some (.int .i64 a1) := (K4.out.at (W3.heap.size) [.int .i64 a1, .int .i64 M, .int .i64 D, .int .i64 U] (by simp)).c 0 rfl
  have c4_0_1 : W4.cell? ⟨W3.heap.size, 1, none⟩ = some (.int .i64 M) := (K4.out.at (W3.heap.size) [.int .i64 a1, .int .i64 M, .int .i64 D, .int .i64 U] (by simp)).c 1 rfl
  have c4_0_2 : W4.cell? ⟨W3.heap.size, 2, none⟩ = some (.int .i64 D) := (K4.out.at (W3.heap.size) [.int .i64 a1, .int .i64 M, .int .i64 D, .int .i64 U] (by simp)).c 2 rfl
  have c4_0_3 : W4.cell? ⟨W3.heap.size, 3, none⟩ = some (.int .i64 U) := (K4.out.at (W3.heap.size) [.int .i64 a1, .int .i64 M, .int .i64 D, .int .i64 U] (by simp)).c 3 rfl
  have c4_1_0 : W4.cell? ⟨W1.heap.size, 0, none⟩ = some (.int .i64 a1) := (K4.out.at (W1.heap.size) [.int .i64 a1, .int .i64 M, .int .i64 D, .int .i64 U] (by simp)).c 0 rfl
  have c4_1_1 : W4.cell? ⟨W1.heap.size, 1, none⟩ = some (.int .i64 M) := (K4.out.at (W1.heap.size) [.int .i64 a1, .int .i64 M, .int .i64 D, .int .i64 U] (by simp)).c 1 rfl
  have c4_1_2 : W4.cell? ⟨W1.heap.size, 2, none⟩ = some (.int .i64 D) := (K4.out.at (W1.heap.size) [.int .i64 a1, .int .i64 M, .int .i64 D, .int .i64 U] (by simp)).c 2 rfl
  have c4_1_3 : W4.cell? ⟨W1.heap.size, 3, none⟩ = some (.int .i64 U) := (K4.out.at (W1.heap.size) [.int .i64 a1, .int .i64 M, .int .i64 D, .int .i64 U] (by simp)).c 3 rfl
  have c4_2_0 : W4.cell? ⟨w.heap.size, 0, none⟩ = some (.int .i64 i) := (K4.out.at (w.heap.size) [.int .i64 i, .int .i64 m, .int .i64 d, .int .i64 u] (by simp)).c 0 rfl
  have c4_2_1 : W4.cell? ⟨w.heap.size, 1, none⟩ = some (.int .i64 m) := (K4.out.at (w.heap.size) [.int .i64 i, .int .i64 m, .int .i64 d, .int .i64 u] (by simp)).c 1 rfl
  have c4_2_2 : W4.cell? ⟨w.heap.size, 2, none⟩ = some (.int .i64 d) := (K4.out.at (w.heap.size) [.int .i64 i, .int .i64 m, .int .i64 d, .int .i64 u] (by simp)).c 2 rfl
  have c4_2_3 : W4.cell? ⟨w.heap.size, 3, none⟩ = some (.int .i64 u) := (K4.out.at (w.heap.size) [.int .i64 i, .int .i64 m, .int .i64 d, .int .i64 u] (by simp)).c 3 rfl
  go_wp2_with fail
  refine (KN.out _).mono ?_
  rintro e W5 ⟨rfl, hb⟩
  have K5 : Hid (BS w [(W3.heap.size, [.int .i64 a1, .int .i64 M, .int .i64 D, .int .i64 U]), (W1.heap.size, [.int .i64 a1, .int .i64 M, .int .i64 D, .int .i64 U]), (w.heap.size, [.int .i64 i, .int .i64 m, .int .i64 d, .int .i64 u])] W5) := K4.out.below hb
  clear c4_0_0 c4_0_1 c4_0_2 c4_0_3 c4_1_0 c4_1_1 c4_1_2 c4_1_3 c4_2_0 c4_2_1 c4_2_2 c4_2_3
  clear hb K4
  have c5_0_0 : W5.cell? ⟨W3.heap.size, 0, none⟩ = some (.int .i64 a1) := (K5.out.at (W3.heap.size) [.int .i64 a1, .int .i64 M, .int .i64 D, .int .i64 U] (by simp)).c 0 rfl
  have c5_0_1 : W5.cell? ⟨W3.heap.size, 1, none⟩ = some (.int .i64 M) := (K5.out.at (W3.heap.size) [.int .i64 a1, .int .i64 M, .int .i64 D, .int .i64 U] (by simp)).c 1 rfl
  have c5_0_2 : W5.cell? ⟨W3.heap.size, 2, none⟩ = some (.int .i64 D) := (K5.out.at (W3.heap.size) [.int .i64 a1, .int .i64 M, .int .i64 D, .int .i64 U] (by simp)).c 2 rfl
  have c5_0_3 : W5.cell? ⟨W3.heap.size, 3, none⟩ = some (.int .i64 U) := (K5.out.at (W3.heap.size) [.int .i64 a1, .int .i64 M, .int .i64 D, .int .i64 U] (by simp)).c 3 rfl
  have c5_1_0 : W5.cell? ⟨W1.heap.size, 0, none⟩ = some (.int .i64 a1) := (K5.out.at (W1.heap.size) [.int .i64 a1, .int .i64 M, .int .i64 D, .int .i64 U] (by simp)).c 0 rfl
  have c5_1_1 : W5.cell? ⟨W1.heap.size, 1, none⟩ = some (.int .i64 M) := (K5.out.at (W1.heap.size) [.int .i64 a1, .int .i64 M, .int .i64 D, .int .i64 U] (by simp)).c 1 rfl
  have c5_1_2 : W5.cell? ⟨W1.heap.size, 2, none⟩ = some (.int .i64 D) := (K5.out.at (W1.heap.size) [.int .i64 a1, .int .i64 M, .int .i64 D, .int .i64 U] (by simp)).c 2 rfl
  have c5_1_3 : W5.cell? ⟨W1.heap.size, 3, none⟩ = some (.int .i64 U) := (K5.out.at (W1.heap.size) [.int .i64 a1, .int .i64 M, .int .i64 D, .int .i64 U] (by simp)).c 3 rfl
  have c5_2_0 : W5.cell? ⟨w.heap.size, 0, none⟩ = some (.int .i64 i) := (K5.out.at (w.heap.size) [.int .i64 i, .int .i64 m, .int .i64 d, .int .i64 u] (by simp)).c 0 rfl
  have c5_2_1 : W5.cell? ⟨w.heap.size, 1, none⟩ = some (.int .i64 m) := (K5.out.at (w.heap.size) [.int .i64 i, .int .i64 m, .int .i64 d, .int .i64 u] (by simp)).c 1 rfl
  have c5_2_2 : W5.cell? ⟨w.heap.size, 2, none⟩ = some (.int .i64 d) := (K5.out.at (w.heap.size) [.int .i64 i, .int .i64 m, .int .i64 d, .int .i64 u] (by simp)).c 2 rfl
  have c5_2_3 : W5.cell? ⟨w.heap.size, 3, none⟩ = some (.int .i64 u) := (K5.out.at (w.heap.size) [.int .i64 i, .int .i64 m, .int .i64 d, .int .i64 u] (by simp)).c 3 rfl
  go_wp2
  go_ret
  exact ⟨rfl, K5.out.1⟩

set_option maxRecDepth 100000 in
set_option maxHeartbeats 4000000 in
theorem core_SpanJus_p1 (i m d u a1 M D U : Int) (h : 0 < M) (h1 : ¬ M < 0) (h2 : ¬ D < 0) (h3 : ¬ U < 0)
    (J1 : Hid (∀ w : World, Calls Try.prog 26 #[.agg #[.int .i64 i, .int .i64 m, .int .i64 d, .int .i64 u]] w fun r' w' => r' = .returned (.tuple #[.agg #[.int .i64 a1, .int .i64 M, .int .i64 D, .int .i64 U], .int .i64 0]) ∧ Below w.heap.size w w'))
    (J2 : Hid (∀ w : World, Calls Try.prog 27 #[.agg #[.int .i64 i, .int .i64 m, .int .i64 d, .int .i64 u]] w fun r' w' => r' = .returned (.tuple #[.agg #[.int .i64 a1, .int .i64 M, .int .i64 D, .int .i64 U], .int .i64 0]) ∧ Below w.heap.size w w'))
    (C : Hid (∀ w : World, Calls Try.prog 22 #[.agg #[.int .i64 i, .int .i64 m, .int .i64 d, .int .i64 u], .agg #[.int .i64 a1, .int .i64 M, .int .i64 D, .int .i64 U]] w fun r' w' => r' = .returned (.int .i64 0) ∧ Below w.heap.size w w'))
    (KN : Hid (∀ w : World, Calls Try.prog 17 #[] w fun r' w' => r' = .returned (.bool true) ∧ Below w.heap.size w w'))
    (w : World) :
    Calls Try.prog 6 #[.agg #[.int .i64 i, .int .i64 m, .int .i64 d, .int .i64 u]] w fun r' w' => r' = .returned (.bool true) ∧ Below w.heap.size w w' := by
  have K0 : Hid (BS w [(w.heap.size, [.int .i64 i, .int .i64 m, .int .i64 d, .int .i64 u])] (w.alloc (.cells #[.int .i64 i, .int .i64 m, .int .i64 d, .int .i64 u] 23))) := ((BS.start w).new [.int .i64 i, .int .i64 m, .int .i64 d, .int .i64 u] 23 rfl)
  go_enter Try.func6, Try.ntmps6
  go_wp2_with fail
  refine (J1.out _).mono ?_
  rintro e W1 ⟨rfl, hb⟩
  have K1 : Hid (BS w [(w.heap.size, [.int .i64 i, .int .i64 m, .int .i64 d, .int .i64 u])] W1) := K0.out.below hb
  clear hb K0
  have c1_0_0 : W1.cell? ⟨w.heap.size, 0, none⟩ = some (.int .i64 i) := (K1.out.at (w.heap.size) [.int .i64 i, .int .i64 m, .int .i64 d, .int .i64 u] (by simp)).c 0 rfl
  have c1_0_1 : W1.cell? ⟨w.heap.size, 1, none⟩ = some (.int .i64 m) := (K1.out.at (w.heap.size) [.int .i64 i, .int .i64 m, .int .i64 d, .int .i64 u] (by simp)).c 1 rfl
  have c1_0_2 : W1.cell? ⟨w.heap.size, 2, none⟩ = some (.int .i64 d) := (K1.out.at (w.heap.size) [.int .i64 i, .int .i64 m, .int .i64 d, .int .i64 u] (by simp)).c 2 rfl
  have c1_0_3 : W1.cell? ⟨w.heap.size, 3, none⟩ = some (.int .i64 u) := (K1.out.at (w.heap.size) [.int .i64 i, .int .i64 m, .int .i64 d, .int .i64 u] (by simp)).c 3 rfl
  have Mz1 : Hid (BS w [(W1.heap.size, [.int .i64 a1, .int .i64 M, .int .i64 D, .int .i64 U]), (w.heap.size, [.int .i64 i, .int .i64 m, .int .i64 d, .int .i64 u])] (W1.alloc (.cells #[.int .i64 a1, .int .i64 M, .int .i64 D, .int .i64 U] 23))) := K1.out.new [.int .i64 a1, .int .i64 M, .int .i64 D, .int .i64 U] 23 rfl
  go_upto_region 2 with fail
  refine gen_to (BS w [(W1.heap.size, [.int .i64 a1, .int .i64 M, .int .i64 D, .int .i64 U]), (w.heap.size, [.int .i64 i, .int .i64 m, .int .i64 d, .int .i64 u])]) Mz1.out ?_
  clear c1_0_0 c1_0_1 c1_0_2 c1_0_3
  intro W2 K2'
  have K2 : Hid (BS w [(W1.heap.size, [.int .i64 a1, .int .i64 M, .int .i64 D, .int .i64 U]), (w.heap.size, [.int .i64 i, .int .i64 m, .int .i64 d, .int .i64 u])] W2) := K2'
  clear K2' Mz1 K1
  have c2_0_0 : W2.cell? ⟨W1.heap.size, 0, none⟩ = some (.int .i64 a1) := (K2.out.at (W1.heap.size) [.int .i64 a1, .int .i64 M, .int .i64 D, .int .i64 U] (by simp)).c 0 rfl
  have c2_0_1 : W2.cell? ⟨W1.heap.size, 1, none⟩ = some (.int .i64 M) := (K2.out.at (W1.heap.size) [.int .i64 a1, .int .i64 M, .int .i64 D, .int .i64 U] (by simp)).c 1 rfl
  have c2_0_2 : W2.cell? ⟨W1.heap.size, 2, none⟩ = some (.int .i64 D) := (K2.out.at (W1.heap.size) [.int .i64 a1, .int .i64 M, .int .i64 D, .int .i64 U] (by simp)).c 2 rfl
  have c2_0_3 : W2.cell? ⟨W1.heap.size, 3, none⟩ = some (.int .i64 U) := (K2.out.at (W1.heap.size) [.int .i64 a1, .int .i64 M, .int .i64 D, .int .i64 U] (by simp)).c 3 rfl
  have c2_1_0 : W2.cell? ⟨w.heap.size, 0, none⟩ = some (.int .i64 i) := (K2.out.at (w.heap.size) [.int .i64 i, .int .i64 m, .int .i64 d, .int .i64 u] (by simp)).c 0 rfl
  have c2_1_1 : W2.cell? ⟨w.heap.size, 1, none⟩ = some (.int .i64 m) := (K2.out.at (w.heap.size) [.int .i64 i, .int .i64 m, .int .i64 d, .int .i64 u] (by simp)).c 1 rfl
  have c2_1_2 : W2.cell? ⟨w.heap.size, 2, none⟩ = some (.int .i64 d) := (K2.out.at (w.heap.size) [.int .i64 i, .int .i64 m, .int .i64 d, .int .i64 u] (by simp)).c 2 rfl
  have c2_1_3 : W2.cell? ⟨w.heap.size, 3, none⟩ = some (.int .i64 u) := (K2.out.at (w.heap.size) [.int .i64 i, .int .i64 m, .int .i64 d, .int .i64 u] (by simp)).c 3 rfl
  go_wp2_with fail
  refine (J2.out _).mono ?_
  rintro e W3 ⟨rfl, hb⟩
  have K3 : Hid (BS w [(W1.heap.size, [.int .i64 a1, .int .i64 M, .int .i64 D, .int .i64 U]), (w.heap.size, [.int .i64 i, .int .i64 m, .int .i64 d, .int .i64 u])] W3) := K2.out.below hb
  clear c2_0_0 c2_0_1 c2_0_2 c2_0_3 c2_1_0 c2_1_1 c2_1_2 c2_1_3
  clear hb K2
  have c3_0_0 : W3.cell? ⟨W1.heap.size, 0, none⟩ = some (.int .i64 a1) := (K3.out.at (W1.heap.size) [.int .i64 a1, .int .i64 M, .int .i64 D, .int .i64 U] (by simp)).c 0 rfl
  have c3_0_1 : W3.cell? ⟨W1.heap.size, 1, none⟩ = some (.int .i64 M) := (K3.out.at (W1.heap.size) [.int .i64 a1, .int .i64 M, .int .i64 D, .int .i64 U] (by simp)).c 1 rfl
  have c3_0_2 : W3.cell? ⟨W1.heap.size, 2, none⟩ = some (.int .i64 D) := (K3.out.at (W1.heap.size) [.int .i64 a1, .int .i64 M, .int .i64 D, .int .i64 U] (by simp)).c 2 rfl
  have c3_0_3 : W3.cell? ⟨W1.heap.size, 3, none⟩ = some (.int .i64 U) := (K3.out.at (W1.heap.size) [.int .i64 a1, .int .i64 M, .int .i64 D, .int .i64 U] (by simp)).c 3 rfl
  have c3_1_0 : W3.cell? ⟨w.heap.size, 0, none⟩ = some (.int .i64 i) := (K3.out.at (w.heap.size) [.int .i64 i, .int .i64 m, .int .i64 d, .int .i64 u] (by simp)).c 0 rfl
  have c3_1_1 : W3.cell? ⟨w.heap.size, 1, none⟩ = some (.int .i64 m) := (K3.out.at (w.heap.size) [.int .i64 i, .int .i64 m, .int .i64 d, .int .i64 u] (by simp)).c 1 rfl
  have c3_1_2 : W3.cell? ⟨w.heap.size, 2, none⟩ = some (.int .i64 d) := (K3.out.at (w.heap.size) [.int .i64 i, .int .i64 m, .int .i64 d, .int .i64 u] (by simp)).c 2 rfl
  have c3_1_3 : W3.cell? ⟨w.heap.size, 3, none⟩ = some (.int .i64 u) := (K3.out.at (w.heap.size) [.int .i64 i, .int .i64 m, .int .i64 d, .int .i64 u] (by simp)).c 3 rfl
  have Mz3 : Hid (BS w [(W3.heap.size, [.int .i64 a1, .int .i64 M, .int .i64 D, .int .i64 U]), (W1.heap.size, [.int .i64 a1, .int .i64 M, .int .i64 D, .int .i64 U]), (w.heap.size, [.int .i64 i, .int .i64 m, .int .i64 d, .int .i64 u])] (W3.alloc (.cells #[.int .i64 a1, .int .i64 M, .int .i64 D, .int .i64 U] 23))) := K3.out.new [.int .i64 a1, .int .i64 M, .int .i64 D, .int .i64 U] 23 rfl
  go_upto_region 3 with fail
  refine gen_to (BS w [(W3.heap.size, [.int .i64 a1, .int .i64 M, .int .i64 D, .int .i64 U]), (W1.heap.size, [.int .i64 a1, .int .i64 M, .int .i64 D, .int .i64 U]), (w.heap.size, [.int .i64 i, .int .i64 m, .int .i64 d, .int .i64 u])]) Mz3.out ?_
  clear c3_0_0 c3_0_1 c3_0_2 c3_0_3 c3_1_0 c3_1_1 c3_1_2 c3_1_3
  intro W4 K4'
  have K4 : Hid (BS w [(W3.heap.size, [.int .i64 a1, .int .i64 M, .int .i64 D, .int .i64 U]), (W1.heap.size, [.int .i64 a1, .int .i64 M, .int .i64 D, .int .i64 U]), (w.heap.size, [.int .i64 i, .int .i64 m, .int .i64 d, .int .i64 u])] W4) := K4'
  clear K4' Mz3 K3
  have c4_0_0 : W4.cell? ⟨W3.heap.size, 0, none⟩ = some (.int .i64 a1) := (K4.out.at (W3.heap.size) [.int .i64 a1, .int .i64 M, .int .i64 D, .int .i64 U] (by simp)).c 0 rfl
  have c4_0_1 : W4.cell? ⟨W3.heap.size, 1, none⟩ = some (.int .i64 M) := (K4.out.at (W3.heap.size) [.int .i64 a1, .int .i64 M, .int .i64 D, .int .i64 U] (by simp)).c 1 rfl
  have c4_0_2 : W4.cell? ⟨W3.heap.size, 2, none⟩ = some (.int .i64 D) := (K4.out.at (W3.heap.size) [.int .i64 a1, .int .i64 M, .int .i64 D, .int .i64 U] (by simp)).c 2 rfl
  have c4_0_3 : W4.cell? ⟨W3.heap.size, 3, none⟩ = some (.int .i64 U) := (K4.out.at (W3.heap.size) [.int .i64 a1, .int .i64 M, .int .i64 D, .int .i64 U] (by simp)).c 3 rfl
  have c4_1_0 : W4.cell? ⟨W1.heap.size, 0, none⟩ = some (.int .i64 a1) := (K4.out.at (W1.heap.size) [.int .i64 a1, .int .i64 M, .int .i64 D, .int .i64 U] (by simp)).c 0 rfl
  have c4_1_1 : W4.cell? ⟨W1.heap.size, 1, none⟩ = some (.int .i64 M) := (K4.out.at (W1.heap.size) [.int .i64 a1, .int .i64 M, .int .i64 D, .int .i64 U] (by simp)).c 1 rfl
  have c4_1_2 : W4.cell? ⟨W1.heap.size, 2, none⟩ = some (.int .i64 D) := (K4.out.at (W1.heap.size) [.int .i64 a1, .int .i64 M, .int .i64 D, .int .i64 U] (by simp)).c 2 rfl
  have c4_1_3 : W4.cell? ⟨W1.heap.size, 3, none⟩ = some (.int .i64 U) := (K4.out.at (W1.heap.size) [.int .i64 a1, .int .i64 M, .int .i64 D, .int .i64 U] (by simp)).c 3 rfl
  have c4_2_0 : W4.cell? ⟨w.heap.size, 0, none⟩ = some (.int .i64 i) := (K4.out.at (w.heap.size) [.int .i64 i, .int .i64 m, .int .i64 d, .int .i64 u] (by simp)).c 0 rfl
  have c4_2_1 : W4.cell? ⟨w.heap.size, 1, none⟩ = some (.int .i64 m) := (K4.out.at (w.heap.size) [.int .i64 i, .int .i64 m, .int .i64 d, .int .i64 u] (by simp)).c 1 rfl
  have c4_2_2 : W4.cell? ⟨w.heap.size, 2, none⟩ = some (.int .i64 d) := (K4.out.at (w.heap.size) [.int .i64 i, .int .i64 m, .int .i64 d, .int .i64 u] (by simp)).c 2 rfl
  have c4_2_3 : W4.cell? ⟨w.heap.size, 3, none⟩ = some (.int .i64 u) := (K4.out.at (w.heap.size) [.int .i64 i, .int .i64 m, .int .i64 d, .int .i64 u] (by simp)).c 3 rfl
  go_wp2_with fail
  refine (C.out _).mono ?_
  rintro e W5 ⟨rfl, hb⟩
  have K5 : Hid (BS w [(W3.heap.size, [.int .i64 a1, .int .i64 M, .int .i64 D, .int .i64 U]), (W1.heap.size, [.int .i64 a1, .int .i64 M, .int .i64 D, .int .i64 U]), (w.heap.size, [.int .i64 i, .int .i64 m, .int .i64 d, .int .i64 u])] W5) := K4.out.below hb
  clear c4_0_0 c4_0_1 c4_0_2 c4_0_3 c4_1_0 c4_1_1 c4_1_2 c4_1_3 c4_2_0 c4_2_1 c4_2_2 c4_2_3
  clear hb K4
  have c5_0_0 : W5.cell? ⟨W3.heap.size, 0, none⟩ = some (.int .i64 a1) := (K5.out.at (W3.heap.size) [.int .i64 a1, .int .i64 M, .int .i64 D, .int .i64 U] (by simp)).c 0 rfl
  have c5_0_1 : W5.cell? ⟨W3.heap.size, 1, none⟩ = some (.int .i64 M) := (K5.out.at (W3.heap.size) [.int .i64 a1, .int .i64 M, .int .i64 D, .int .i64 U] (by simp)).c 1 rfl
  have c5_0_2 : W5.cell? ⟨W3.heap.size, 2, none⟩ = some (.int .i64 D) := (K5.out.at (W3.heap.size) [.int .i64 a1, .int .i64 M, .int .i64 D, .int .i64 U] (by simp)).c 2 rfl
  have c5_0_3 : W5.cell? ⟨W3.heap.size, 3, none⟩ = some (.int .i64 U) := (K5.out.at (W3.heap.size) [.int .i64 a1, .int .i64 M, .int .i64 D, .int .i64 U] (by simp)).c 3 rfl
  have c5_1_0 : W5.cell? ⟨W1.heap.size, 0, none⟩ = some (.int .i64 a1) := (K5.out.at (W1.heap.size) [.int .i64 a1, .int .i64 M, .int .i64 D, .int .i64 U] (by simp)).c 0 rfl
  have c5_1_1 : W5.cell? ⟨W1.heap.size, 1, none⟩ = some (.int .i64 M) := (K5.out.at (W1.heap.size) [.int .i64 a1, .int .i64 M, .int .i64 D, .int .i64 U] (by simp)).c 1 rfl
  have c5_1_2 : W5.cell? ⟨W1.heap.size, 2, none⟩ = some (.int .i64 D) := (K5.out.at (W1.heap.size) [.int .i64 a1, .int .i64 M, .int .i64 D, .int .i64 U] (by simp)).c 2 rfl
  have c5_1_3 : W5.cell? ⟨W1.heap.size, 3, none⟩ = some (.int .i64 U) := (K5.out.at (W1.heap.size) [.int .i64 a1, .int .i64 M, .int .i64 D, .int .i64 U] (by simp)).c 3 rfl
  have c5_2_0 : W5.cell? ⟨w.heap.size, 0, none⟩ = some (.int .i64 i) := (K5.out.at (w.heap.size) [.int .i64 i, .int .i64 m, .int .i64 d, .int .i64 u] (by simp)).c 0 rfl
  have c5_2_1 : W5.cell? ⟨w.heap.size, 1, none⟩ = some (.int .i64 m) := (K5.out.at (w.heap.size) [.int .i64 i, .int .i64 m, .int .i64 d, .int .i64 u] (by simp)).c 1 rfl
  have c5_2_2 : W5.cell? ⟨w.heap.size, 2, none⟩ = some (.int .i64 d) := (K5.out.at (w.heap.size) [.int .i64 i, .int .i64 m, .int .i64 d, .int .i64 u] (by simp)).c 2 rfl
  have c5_2_3 : W5.cell? ⟨w.heap.size, 3, none⟩ = some (.int .i64 u) := (K5.out.at (w.heap.size) [.int .i64 i, .int .i64 m, .int .i64 d, .int .i64 u] (by simp)).c 3 rfl
  go_wp2_with fail
  refine (KN.out _).mono ?_
  rintro e W6 ⟨rfl, hb⟩
  have K6 : Hid (BS w [(W3.heap.size, [.int .i64 a1, .int .i64 M, .int .i64 D, .int .i64 U]), (W1.heap.size, [.int .i64 a1, .int .i64 M, .int .i64 D, .int .i64 U]), (w.heap.size, [.int .i64 i, .int .i64 m, .int .i64 d, .int .i64 u])] W6) := K5.out.below hb
  clear c5_0_0 c5_0_1 c5_0_2 c5_0_3 c5_1_0 c5_1_1 c5_1_2 c5_1_3 c5_2_0 c5_2_1 c5_2_2 c5_2_3
  clear hb K5
  have c6_0_0 : W6.cell? ⟨W3.heap.size, 0, none⟩ = some (.int .i64 a1) := (K6.out.at (W3.heap.size) [.int .i64 a1, .int .i64 M, .int .i64 D, .int .i64 U] (by simp)).c 0 rfl
  have c6_0_1 : W6.cell? ⟨W3.heap.size, 1, none⟩ = some (.int .i64 M) := (K6.out.at (W3.heap.size) [.int .i64 a1, .int .i64 M, .int .i64 D, .int .i64 U] (by simp)).c 1 rfl
  have c6_0_2 : W6.cell? ⟨W3.heap.size, 2, none⟩ = some (.int .i64 D) := (K6.out.at (W3.heap.size) [.int .i64 a1, .int .i64 M, .int .i64 D, .int .i64 U] (by simp)).c 2 rfl
  have c6_0_3 : W6.cell? ⟨W3.heap.size, 3, none⟩ = some (.int .i64 U) := (K6.out.at (W3.heap.size) [.int .i64 a1, .int .i64 M, .int .i64 D, .int .i64 U] (by simp)).c 3 rfl
  have c6_1_0 : W6.cell? ⟨W1.heap.size, 0, none⟩ = some (.int .i64 a1) := (K6.out.at (W1.heap.size) [.int .i64 a1, .int .i64 M, .int .i64 D, .int .i64 U] (by simp)).c 0 rfl
  have c6_1_1 : W6.cell? ⟨W1.heap.size, 1, none⟩ = some (.int .i64 M) := (K6.out.at (W1.heap.size) [.int .i64 a1, .int .i64 M, .int .i64 D, .int .i64 U] (by simp)).c 1 rfl
  have c6_1_2 : W6.cell? ⟨W1.heap.size, 2, none⟩ = some (.int .i64 D) := (K6.out.at (W1.heap.size) [.int .i64 a1, .int .i64 M, .int .i64 D, .int .i64 U] (by simp)).c 2 rfl
  have c6_1_3 : W6.cell? ⟨W1.heap.size, 3, none⟩ = some (.int .i64 U) := (K6.out.at (W1.heap.size) [.int .i64 a1, .int .i64 M, .int .i64 D, .int .i64 U] (by simp)).c 3 rfl
  have c6_2_0 : W6.cell? ⟨w.heap.size, 0, none⟩ = some (.int .i64 i) := (K6.out.at (w.heap.size) [.int .i64 i, .int .i64 m, .int .i64 d, .int .i64 u] (by simp)).c 0 rfl
  have c6_2_1 : W6.cell? ⟨w.heap.size, 1, none⟩ = some (.int .i64 m) := (K6.out.at (w.heap.size) [.int .i64 i, .int .i64 m, .int .i64 d, .int .i64 u] (by simp)).c 1 rfl
  have c6_2_2 : W6.cell? ⟨w.heap.size, 2, none⟩ = some (.int .i64 d) := (K6.out.at (w.heap.size) [.int .i64 i, .int .i64 m, .int .i64 d, .int .i64 u] (by simp)).c 2 rfl
  have c6_2_3 : W6.cell? ⟨w.heap.size, 3, none⟩ = some (.int .i64 u) := (K6.out.at (w.heap.size) [.int .i64 i, .int .i64 m, .int .i64 d, .int .i64 u] (by simp)).c 3 rfl
  go_wp2
  go_ret
  exact ⟨ret_bool (by simp; omega), K6.out.1⟩

set_option maxRecDepth 100000 in
set_option maxHeartbeats 4000000 in
theorem core_SpanJus_p2 (i m d u a1 D U : Int) (h : 0 < D) (h2 : ¬ D < 0) (h3 : ¬ U < 0)
    (J1 : Hid (∀ w : World, Calls Try.prog 26 #[.agg #[.int .i64 i, .int .i64 m, .int .i64 d, .int .i64 u]] w fun r' w' => r' = .returned (.tuple #[.agg #[.int .i64 a1, .int .i64 0, .int .i64 D, .int .i64 U], .int .i64 0]) ∧ Below w.heap.size w w'))
    (J2 : Hid (∀ w : World, Calls Try.prog 27 #[.agg #[.int .i64 i, .int .i64 m, .int .i64 d, .int .i64 u]] w fun r' w' => r' = .returned (.tuple #[.agg #[.int .i64 a1, .int .i64 0, .int .i64 D, .int .i64 U], .int .i64 0]) ∧ Below w.heap.size w w'))
    (C : Hid (∀ w : World, Calls Try.prog 22 #[.agg #[.int .i64 i, .int .i64 m, .int .i64 d, .int .i64 u], .agg #[.int .i64 a1, .int .i64 0, .int .i64 D, .int .i64 U]] w fun r' w' => r' = .returned (.int .i64 0) ∧ Below w.heap.size w w'))
    (KN : Hid (∀ w : World, Calls Try.prog 17 #[] w fun r' w' => r' = .returned (.bool true) ∧ Below w.heap.size w w'))
    (w : World) :
    Calls Try.prog 6 #[.agg #[.int .i64 i, .int .i64 m, .int .i64 d, .int .i64 u]] w fun r' w' => r' = .returned (.bool true) ∧ Below w.heap.size w w' := by
  have K0 : Hid (BS w [(w.heap.size, [.int .i64 i, .int .i64 m, .int .i64 d, .int .i64 u])] (w.alloc (.cells #[.int .i64 i, .int .i64 m, .int .i64 d, .int .i64 u] 23))) := ((BS.start w).new [.int .i64 i, .int .i64 m, .int .i64 d, .int .i64 u] 23 rfl)
  go_enter Try.func6, Try.ntmps6
  go_wp2_with fail
  refine (J1.out _).mono ?_
  rintro e W1 ⟨rfl, hb⟩
  have K1 : Hid (BS w [(w.heap.size, [.int .i64 i, .int .i64 m, .int .i64 d, .int .i64 u])] W1) := K0.out.below hb
  clear hb K0
  have c1_0_0 : W1.cell? ⟨w.heap.size, 0, none⟩ = some (.int .i64 i) := (K1.out.at (w.heap.size) [.int .i64 i, .int .i64 m, .int .i64 d, .int .i64 u] (by simp)).c 0 rfl
  have c1_0_1 : W1.cell? ⟨w.heap.size, 1, none⟩ = some (.int .i64 m) := (K1.out.at (w.heap.size) [.int .i64 i, .int .i64 m, .int .i64 d, .int .i64 u] (by simp)).c 1 rfl
  have c1_0_2 : W1.cell? ⟨w.heap.size, 2, none⟩ = some (.int .i64 d) := (K1.out.at (w.heap.size) [.int .i64 i, .int .i64 m, .int .i64 d, .int .i64 u] (by simp)).c 2 rfl
  have c1_0_3 : W1.cell? ⟨w.heap.size, 3, none⟩ = some (.int .i64 u) := (K1.out.at (w.heap.size) [.int .i64 i, .int .i64 m, .int .i64 d, .int .i64 u] (by simp)).c 3 rfl
  have Mz1 : Hid (BS w [(W1.heap.size, [.int .i64 a1, .int .i64 0, .int .i64 D, .int .i64 U]), (w.heap.size, [.int .i64 i, .int .i64 m, .int .i64 d, .int .i64 u])] (W1.alloc (.cells #[.int .i64 a1, .int .i64 0, .int .i64 D, .int .i64 U] 23))) := K1.out.new [.int .i64 a1, .int .i64 0, .int .i64 D, .int .i64 U] 23 rfl
  go_upto_region 2 with fail
  refine gen_to (BS w [(W1.heap.size, [.int .i64 a1, .int .i64 0, .int .i64 D, .int .i64 U]), (w.heap.size, [.int .i64 i, .int .i64 m, .int .i64 d, .int .i64 u])]) Mz1.out ?_
  clear c1_0_0 c1_0_1 c1_0_2 c1_0_3
  intro W2 K2'
  have K2 : Hid (BS w [(W1.heap.size, [.int .i64 a1, .int .i64 0, .int .i64 D, .int .i64 U]), (w.heap.size, [.int .i64 i, .int .i64 m, .int .i64 d, .int .i64 u])] W2) := K2'
  clear K2' Mz1 K1
  have c2_0_0 : W2.cell? ⟨W1.heap.size, 0, none⟩ = some (.int .i64 a1) := (K2.out.at (W1.heap.size) [.int .i64 a1, .int .i64 0, .int .i64 D, .int .i64 U] (by simp)).c 0 rfl
  have c2_0_1 : W2.cell? ⟨W1.heap.size, 1, none⟩ = some (.int .i64 0) := (K2.out.at (W1.heap.size) [.int .i64 a1, .int .i64 0, .int .i64 D, .int .i64 U] (by simp)).c 1 rfl
  have c2_0_2 : W2.cell? ⟨W1.heap.size, 2, none⟩ = some (.int .i64 D) := (K2.out.at (W1.heap.size) [.int .i64 a1, .int .i64 0, .int .i64 D, .int .i64 U] (by simp)).c 2 rfl
  have c2_0_3 : W2.cell? ⟨W1.heap.size, 3, none⟩ = some (.int .i64 U) := (K2.out.at (W1.heap.size) [.int .i64 a1, .int .i64 0, .int .i64 D, .int .i64 U] (by simp)).c 3 rfl
  have c2_1_0 : W2.cell? ⟨w.heap.size, 0, none⟩ = some (.int .i64 i) := (K2.out.at (w.heap.size) [.int .i64 i, .int .i64 m, .int .i64 d, .int .i64 u] (by simp)).c 0 rfl
  have c2_1_1 : W2.cell? ⟨w.heap.size, 1, none⟩ = some (.int .i64 m) := (K2.out.at (w.heap.size) [.int .i64 i, .int .i64 m, .int .i64 d, .int .i64 u] (by simp)).c 1 rfl
  have c2_1_2 : W2.cell? ⟨w.heap.size, 2, none⟩ = some (.int .i64 d) := (K2.out.at (w.heap.size) [.int .i64 i, .int .i64 m, .int .i64 d, .int .i64 u] (by simp)).c 2 rfl
  have c2_1_3 : W2.cell? ⟨w.heap.size, 3, none⟩ = some (.int .i64 u) := (K2.out.at (w.heap.size) [.int .i64 i, .int .i64 m, .int .i64 d, .int .i64 u] (by simp)).c 3 rfl
  go_wp2_with fail
  refine (J2.out _).mono ?_
  rintro e W3 ⟨rfl, hb⟩
  have K3 : Hid (BS w [(W1.heap.size, [.int .i64 a1, .int .i64 0, .int .i64 D, .int .i64 U]), (w.heap.size, [.int .i64 i, .int .i64 m, .int .i64 d, .int .i64 u])] W3) := K2.out.below hb
  clear c2_0_0 c2_0_1 c2_0_2 c2_0_3 c2_1_0 c2_1_1 c2_1_2 c2_1_3
  clear hb K2
  have c3_0_0 : W3.cell? ⟨W1.heap.size, 0, none⟩ = some (.int .i64 a1) := (K3.out.at (W1.heap.size) [.int .i64 a1, .int .i64 0, .int .i64 D, .int .i64 U] (by simp)).c 0 rfl
  have c3_0_1 : W3.cell? ⟨W1.heap.size, 1, none⟩ = some (.int .i64 0) := (K3.out.at (W1.heap.size) [.int .i64 a1, .int .i64 0, .int .i64 D, .int .i64 U] (by simp)).c 1 rfl
  have c3_0_2 : W3.cell? ⟨W1.heap.size, 2, none⟩ = some (.int .i64 D) := (K3.out.at (W1.heap.size) [.int .i64 a1, .int .i64 0, .int .i64 D, .int .i64 U] (by simp)).c 2 rfl
  have c3_0_3 : W3.cell? ⟨W1.heap.size, 3, none⟩ = some (.int .i64 U) := (K3.out.at (W1.heap.size) [.int .i64 a1, .int .i64 0, .int .i64 D, .int .i64 U] (by simp)).c 3 rfl
  have c3_1_0 : W3.cell? ⟨w.heap.size, 0, none⟩ = some (.int .i64 i) := (K3.out.at (w.heap.size) [.int .i64 i, .int .i64 m, .int .i64 d, .int .i64 u] (by simp)).c 0 rfl
  have c3_1_1 : W3.cell? ⟨w.heap.size, 1, none⟩ = some (.int .i64 m) := (K3.out.at (w.heap.size) [.int .i64 i, .int .i64 m, .int .i64 d, .int .i64 u] (by simp)).c 1 rfl
  have c3_1_2 : W3.cell? ⟨w.heap.size, 2, none⟩ = some (.int .i64 d) := (K3.out.at (w.heap.size) [.int .i64 i, .int .i64 m, .int .i64 d, .int .i64 u] (by simp)).c 2 rfl
  have c3_1_3 : W3.cell? ⟨w.heap.size, 3, none⟩ = some (.int .i64 u) := (K3.out.at (w.heap.size) [.int .i64 i, .int .i64 m, .int .i64 d, .int .i64 u] (by simp)).c 3 rfl
  have Mz3 : Hid (BS w [(W3.heap.size, [.int .i64 a1, .int .i64 0, .int .i64 D, .int .i64 U]), (W1.heap.size, [.int .i64 a1, .int .i64 0, .int .i64 D, .int .i64 U]), (w.heap.size, [.int .i64 i, .int .i64 m, .int .i64 d, .int .i64 u])] (W3.alloc (.cells #[.int .i64 a1, .int .i64 0, .int .i64 D, .int .i64 U] 23))) := K3.out.new [.int .i64 a1, .int .i64 0, .int .i64 D, .int .i64 U] 23 rfl
  go_upto_region 3 with fail
  refine gen_to (BS w [(W3.heap.size, [.int .i64 a1, .int .i64 0, .int .i64 D, .int .i64 U]), (W1.heap.size, [.int .i64 a1, .int .i64 0, .int .i64 D, .int .i64 U]), (w.heap.size, [.int .i64 i, .int .i64 m, .int .i64 d, .int .i64 u])]) Mz3.out ?_
  clear c3_0_0 c3_0_1 c3_0_2 c3_0_3 c3_1_0 c3_1_1 c3_1_2 c3_1_3
  intro W4 K4'
  have K4 : Hid (BS w [(W3.heap.size, [.int .i64 a1, .int .i64 0, .int .i64 D, .int .i64 U]), (W1.heap.size, [.int .i64 a1, .int .i64 0, .int .i64 D, .int .i64 U]), (w.heap.size, [.int .i64 i, .int .i64 m, .int .i64 d, .int .i64 u])] W4) := K4'
  clear K4' Mz3 K3
  have c4_0_0 : W4.cell? ⟨W3.heap.size, 0, none⟩ = some (.int .i64 a1) := (K4.out.at (W3.heap.size) [.int .i64 a1, .int .i64 0, .int .i64 D, .int .i64 U] (by simp)).c 0 rfl
  have c4_0_1 : W4.cell? ⟨W3.heap.size, 1, none⟩ = some (.int .i64 0) := (K4.out.at (W3.heap.size) [.int .i64 a1, .int .i64 0, .int .i64 D, .int .i64 U] (by simp)).c 1 rfl
  have c4_0_2 : W4.cell? ⟨W3.heap.size, 2, none⟩ = some (.int .i64 D) := (K4.out.at (W3.heap.size) [.int .i64 a1, .int .i64 0, .int .i64 D, .int .i64 U] (by simp)).c 2 rfl
  have c4_0_3 : W4.cell? ⟨W3.heap.size, 3, none⟩ = some (.int .i64 U) := (K4.out.at (W3.heap.size) [.int .i64 a1, .int .i64 0, .int .i64 D, .int .i64 U] (by simp)).c 3 rfl
  have c4_1_0 : W4.cell? ⟨W1.heap.size, 0, none⟩ = some (.int .i64 a1) := (K4.out.at (W1.heap.size) [.int .i64 a1, .int .i64 0, .int .i64 D, .int .i64 U] (by simp)).c 0 rfl
  have c4_1_1 : W4.cell? ⟨W1.heap.size, 1, none⟩ = some (.int .i64 0) := (K4.out.at (W1.heap.size) [.int .i64 a1, .int .i64 0, .int .i64 D, .int .i64 U] (by simp)).c 1 rfl
  have c4_1_2 : W4.cell? ⟨W1.heap.size, 2, none⟩ = some (.int .i64 D) := (K4.out.at (W1.heap.size) [.int .i64 a1, .int .i64 0, .int .i64 D, .int .i64 U] (by simp)).c 2 rfl
  have c4_1_3 : W4.cell? ⟨W1.heap.size, 3, none⟩ = some (.int .i64 U) := (K4.out.at (W1.heap.size) [.int .i64 a1, .int .i64 0, .int .i64 D, .int .i64 U] (by simp)).c 3 rfl
  have c4_2_0 : W4.cell? ⟨w.heap.size, 0, none⟩ = some (.int .i64 i) := (K4.out.at (w.heap.size) [.int .i64 i, .int .i64 m, .int .i64 d, .int .i64 u] (by simp)).c 0 rfl
  have c4_2_1 : W4.cell? ⟨w.heap.size, 1, none⟩ = some (.int .i64 m) := (K4.out.at (w.heap.size) [.int .i64 i, .int .i64 m, .int .i64 d, .int .i64 u] (by simp)).c 1 rfl
  have c4_2_2 : W4.cell? ⟨w.heap.size, 2, none⟩ = some (.int .i64 d) := (K4.out.at (w.heap.size) [.int .i64 i, .int .i64 m, .int .i64 d, .int .i64 u] (by simp)).c 2 rfl
  have c4_2_3 : W4.cell? ⟨w.heap.size, 3, none⟩ = some (.int .i64 u) := (K4.out.at (w.heap.size) [.int .i64 i, .int .i64 m, .int .i64 d, .int .i64 u] (by simp)).c 3 rfl
  go_wp2_with fail
  refine (C.out _).mono ?_
  rintro e W5 ⟨rfl, hb⟩
  have K5 : Hid (BS w [(W3.heap.size, [.int .i64 a1, .int .i64 0, .int .i64 D, .int .i64 U]), (W1.heap.size, [.int .i64 a1, .int .i64 0, .int .i64 D, .int .i64 U]), (w.heap.size, [.int .i64 i, .int .i64 m, .int .i64 d, .int .i64 u])] W5) := K4.out.below hb
  clear c4_0_0 c4_0_1 c4_0_2 c4_0_3 c4_1_0 c4_1_1 c4_1_2 c4_1_3 c4_2_0 c4_2_1 c4_2_2 c4_2_3
  clear hb K4
  have c5_0_0 : W5.cell? ⟨W3.heap.size, 0, none⟩ = some (.int .i64 a1) := (K5.out.at (W3.heap.size) [.int .i64 a1, .int .i64 0, .int .i64 D, .int .i64 U] (by simp)).c 0 rfl
  have c5_0_1 : W5.cell? ⟨W3.heap.size, 1, none⟩ = some (.int .i64 0) := (K5.out.at (W3.heap.size) [.int .i64 a1, .int .i64 0, .int .i64 D, .int .i64 U] (by simp)).c 1 rfl
  have c5_0_2 : W5.cell? ⟨W3.heap.size, 2, none⟩ = some (.int .i64 D) := (K5.out.at (W3.heap.size) [.int .i64 a1, .int .i64 0, .int .i64 D, .int .i64 U] (by simp)).c 2 rfl
  have c5_0_3 : W5.cell? ⟨W3.heap.size, 3, none⟩ = some (.int .i64 U) := (K5.out.at (W3.heap.size) [.int .i64 a1, .int .i64 0, .int .i64 D, .int .i64 U] (by simp)).c 3 rfl
  have c5_1_0 : W5.cell? ⟨W1.heap.size, 0, none⟩ = some (.int .i64 a1) := (K5.out.at (W1.heap.size) [.int .i64 a1, .int .i64 0, .int .i64 D, .int .i64 U] (by simp)).c 0 rfl
  have c5_1_1 : W5.cell? ⟨W1.heap.size, 1, none⟩ = some (.int .i64 0) := (K5.out.at (W1.heap.size) [.int .i64 a1, .int .i64 0, .int .i64 D, .int .i64 U] (by simp)).c 1 rfl
  have c5_1_2 : W5.cell? ⟨W1.heap.size, 2, none⟩ = some (.int .i64 D) := (K5.out.at (W1.heap.size) [.int .i64 a1, .int .i64 0, .int .i64 D, .int .i64 U] (by simp)).c 2 rfl
  have c5_1_3 : W5.cell? ⟨W1.heap.size, 3, none⟩ = some (.int .i64 U) := (K5.out.at (W1.heap.size) [.int .i64 a1, .int .i64 0, .int .i64 D, .int .i64 U] (by simp)).c 3 rfl
  have c5_2_0 : W5.cell? ⟨w.heap.size, 0, none⟩ = some (.int .i64 i) := (K5.out.at (w.heap.size) [.int .i64 i, .int .i64 m, .int .i64 d, .int .i64 u] (by simp)).c 0 rfl
  have c5_2_1 : W5.cell? ⟨w.heap.size, 1, none⟩ = some (.int .i64 m) := (K5.out.at (w.heap.size) [.int .i64 i, .int .i64 m, .int .i64 d, .int .i64 u] (by simp)).c 1 rfl
  have c5_2_2 : W5.cell? ⟨w.heap.size, 2, none⟩ = some (.int .i64 d) := (K5.out.at (w.heap.size) [.int .i64 i, .int .i64 m, .int .i64 d, .int .i64 u] (by simp)).c 2 rfl
  have c5_2_3 : W5.cell? ⟨w.heap.size, 3, none⟩ = some (.int .i64 u) := (K5.out.at (w.heap.size) [.int .i64 i, .int .i64 m, .int .i64 d, .int .i64 u] (by simp)).c 3 rfl
  go_wp2_with fail
  refine (KN.out _).mono ?_
  rintro e W6 ⟨rfl, hb⟩
  have K6 : Hid (BS w [(W3.heap.size, [.int .i64 a1, .int .i64 0, .int .i64 D, .int .i64 U]), (W1.heap.size, [.int .i64 a1, .int .i64 0, .int .i64 D, .int .i64 U]), (w.heap.size, [.int .i64 i, .int .i64 m, .int .i64 d, .int .i64 u])] W6) := K5.out.below hb
  clear c5_0_0 c5_0_1 c5_0_2 c5_0_3 c5_1_0 c5_1_1 c5_1_2 c5_1_3 c5_2_0 c5_2_1 c5_2_2 c5_2_3
  clear hb K5
  have c6_0_0 : W6.cell? ⟨W3.heap.size, 0, none⟩ = some (.int .i64 a1) := (K6.out.at (W3.heap.size) [.int .i64 a1, .int .i64 0, .int .i64 D, .int .i64 U] (by simp)).c 0 rfl
  have c6_0_1 : W6.cell? ⟨W3.heap.size, 1, none⟩ = some (.int .i64 0) := (K6.out.at (W3.heap.size) [.int .i64 a1, .int .i64 0, .int .i64 D, .int .i64 U] (by simp)).c 1 rfl
  have c6_0_2 : W6.cell? ⟨W3.heap.size, 2, none⟩ = some (.int .i64 D) := (K6.out.at (W3.heap.size) [.int .i64 a1, .int .i64 0, .int .i64 D, .int .i64 U] (by simp)).c 2 rfl
  have c6_0_3 : W6.cell? ⟨W3.heap.size, 3, none⟩ = some (.int .i64 U) := (K6.out.at (W3.heap.size) [.int .i64 a1, .int .i64 0, .int .i64 D, .int .i64 U] (by simp)).c 3 rfl
  have c6_1_0 : W6.cell? ⟨W1.heap.size, 0, none⟩ = some (.int .i64 a1) := (K6.out.at (W1.heap.size) [.int .i64 a1, .int .i64 0, .int .i64 D, .int .i64 U] (by simp)).c 0 rfl
  have c6_1_1 : W6.cell? ⟨W1.heap.size, 1, none⟩ = some (.int .i64 0) := (K6.out.at (W1.heap.size) [.int .i64 a1, .int .i64 0, .int .i64 D, .int .i64 U] (by simp)).c 1 rfl
  have c6_1_2 : W6.cell? ⟨W1.heap.size, 2, none⟩ = some (.int .i64 D) := (K6.out.at (W1.heap.size) [.int .i64 a1, .int .i64 0, .int .i64 D, .int .i64 U] (by simp)).c 2 rfl
  have c6_1_3 : W6.cell? ⟨W1.heap.size, 3, none⟩ = some (.int .i64 U) := (K6.out.at (W1.heap.size) [.int .i64 a1, .int .i64 0, .int .i64 D, .int .i64 U] (by simp)).c 3 rfl
  have c6_2_0 : W6.cell? ⟨w.heap.size, 0, none⟩ = some (.int .i64 i) := (K6.out.at (w.heap.size) [.int .i64 i, .int .i64 m, .int .i64 d, .int .i64 u] (by simp)).c 0 rfl
  have c6_2_1 : W6.cell? ⟨w.heap.size, 1, none⟩ = some (.int .i64 m) := (K6.out.at (w.heap.size) [.int .i64 i, .int .i64 m, .int .i64 d, .int .i64 u] (by simp)).c 1 rfl
  have c6_2_2 : W6.cell? ⟨w.heap.size, 2, none⟩ = some (.int .i64 d) := (K6.out.at (w.heap.size) [.int .i64 i, .int .i64 m, .int .i64 d, .int .i64 u] (by simp)).c 2 rfl
  have c6_2_3 : W6.cell? ⟨w.heap.size, 3, none⟩ = some (.int .i64 u) := (K6.out.at (w.heap.size) [.int .i64 i, .int .i64 m, .int .i64 d, .int .i64 u] (by simp)).c 3 rfl
  go_wp2
  go_ret
  exact ⟨ret_bool (by simp; omega), K6.out.1⟩

set_option maxRecDepth 100000 in
set_option maxHeartbeats 4000000 in
theorem core_SpanJus_p3 (i m d u a1 U : Int) (h : 0 < U) (h3 : ¬ U < 0)
    (J1 : Hid (∀ w : World, Calls Try.prog 26 #[.agg #[.int .i64 i, .int .i64 m, .int .i64 d, .int .i64 u]] w fun r' w' => r' = .returned (.tuple #[.agg #[.int .i64 a1, .int .i64 0, .int .i64 0, .int .i64 U], .int .i64 0]) ∧ Below w.heap.size w w'))
    (J2 : Hid (∀ w : World, Calls Try.prog 27 #[.agg #[.int .i64 i, .int .i64 m, .int .i64 d, .int .i64 u]] w fun r' w' => r' = .returned (.tuple #[.agg #[.int .i64 a1, .int .i64 0, .int .i64 0, .int .i64 U], .int .i64 0]) ∧ Below w.heap.size w w'))
    (C : Hid (∀ w : World, Calls Try.prog 22 #[.agg #[.int .i64 i, .int .i64 m, .int .i64 d, .int .i64 u], .agg #[.int .i64 a1, .int .i64 0, .int .i64 0, .int .i64 U]] w fun r' w' => r' = .returned (.int .i64 0) ∧ Below w.heap.size w w'))
    (KN : Hid (∀ w : World, Calls Try.prog 17 #[] w fun r' w' => r' = .returned (.bool true) ∧ Below w.heap.size w w'))
    (w : World) :
    Calls Try.prog 6 #[.agg #[.int .i64 i, .int .i64 m, .int .i64 d, .int .i64 u]] w fun r' w' => r' = .returned (.bool true) ∧ Below w.heap.size w w' := by
  have K0 : Hid (BS w [(w.heap.size, [.int .i64 i, .int .i64 m, .int .i64 d, .int .i64 u])] (w.alloc (.cells #[.int .i64 i, .int .i64 m, .int .i64 d, .int .i64 u] 23))) := ((BS.start w).new [.int .i64 i, .int .i64 m, .int .i64 d, .int .i64 u] 23 rfl)
  go_enter Try.func6, Try.ntmps6
  go_wp2_with fail
  refine (J1.out _).mono ?_
  rintro e W1 ⟨rfl, hb⟩
  have K1 : Hid (BS w [(w.heap.size, [.int .i64 i, .int .i64 m, .int .i64 d, .int .i64 u])] W1) := K0.out.below hb
  clear hb K0
  have c1_0_0 : W1.cell? ⟨w.heap.size, 0, none⟩ = some (.int .i64 i) := (K1.out.at (w.heap.size) [.int .i64 i, .int .i64 m, .int .i64 d, .int .i64 u] (by simp)).c 0 rfl
  have c1_0_1 : W1.cell? ⟨w.heap.size, 1, none⟩ = some (.int .i64 m) := (K1.out.at (w.heap.size) [.int .i64 i, .int .i64 m, .int .i64 d, .int .i64 u] (by simp)).c 1 rfl
  have c1_0_2 : W1.cell? ⟨w.heap.size, 2, none⟩ = some (.int .i64 d) := (K1.out.at (w.heap.size) [.int .i64 i, .int .i64 m, .int .i64 d, .int .i64 u] (by simp)).c 2 rfl
  have c1_0_3 : W1.cell? ⟨w.heap.size, 3, none⟩ = some (.int .i64 u) := (K1.out.at (w.heap.size) [.int .i64 i, .int .i64 m, .int .i64 d, .int .i64 u] (by simp)).c 3 rfl
  have Mz1 : Hid (BS w [(W1.heap.size, [.int .i64 a1, .int .i64 0, .int .i64 0, .int .i64 U]), (w.heap.size, [.int .i64 i, .int .i64 m, .int .i64 d, .int .i64 u])] (W1.alloc (.cells #[.int .i64 a1, .int .i64 0, .int .i64 0, .int .i64 U] 23))) := K1.out.new [.int .i64 a1, .int .i64 0, .int .i64 0, .int .i64 U] 23 rfl
  go_upto_region 2 with fail
  refine gen_to (BS w [(W1.heap.size, [.int .i64 a1, .int .i64 0, .int .i64 0, .int .i64 U]), (w.heap.size, [.int .i64 i, .int .i64 m, .int .i64 d, .int .i64 u])]) Mz1.out ?_
  clear c1_0_0 c1_0_1 c1_0_2 c1_0_3
  intro W2 K2'
  have K2 : Hid (BS w [(W1.heap.size, [.int .i64 a1, .int .i64 0, .int .i64 0, .int .i64 U]), (w.heap.size, [.int .i64 i, .int .i64 m, .int .i64 d, .int .i64 u])] W2) := K2'
  clear K2' Mz1 K1
  have c2_0_0 : W2.cell? ⟨W1.heap.size, 0, none⟩ = some (.int .i64 a1) := (K2.out.at (W1.heap.size) [.int .i64 a1, .int .i64 0, .int .i64 0, .int .i64 U] (by simp)).c 0 rfl
  have c2_0_1 : W2.cell? ⟨W1.heap.size, 1, none⟩ = some (.int .i64 0) := (K2.out.at (W1.heap.size) [.int .i64 a1, .int .i64 0, .int .i64 0, .int .i64 U] (by simp)).c 1 rfl
  have c2_0_2 : W2.cell? ⟨W1.heap.size, 2, none⟩ = some (.int .i64 0) := (K2.out.at (W1.heap.size) [.int .i64 a1, .int .i64 0, .int .i64 0, .int .i64 U] (by simp)).c 2 rfl
  have c2_0_3 : W2.cell? ⟨W1.heap.size, 3, none⟩ = some (.int .i64 U) := (K2.out.at (W1.heap.size) [.int .i64 a1, .int .i64 0, .int .i64 0, .int .i64 U] (by simp)).c 3 rfl
  have c2_1_0 : W2.cell? ⟨w.heap.size, 0, none⟩ = some (.int .i64 i) := (K2.out.at (w.heap.size) [.int .i64 i, .int .i64 m, .int .i64 d, .int .i64 u] (by simp)).c 0 rfl
  have c2_1_1 : W2.cell? ⟨w.heap.size, 1, none⟩ = some (.int .i64 m) := (K2.out.at (w.heap.size) [.int .i64 i, .int .i64 m, .int .i64 d, .int .i64 u] (by simp)).c 1 rfl
  have c2_1_2 : W2.cell? ⟨w.heap.size, 2, none⟩ = some (.int .i64 d) := (K2.out.at (w.heap.size) [.int .i64 i, .int .i64 m, .int .i64 d, .int .i64 u] (by simp)).c 2 rfl
  have c2_1_3 : W2.cell? ⟨w.heap.size, 3, none⟩ = some (.int .i64 u) := (K2.out.at (w.heap.size) [.int .i64 i, .int .i64 m, .int .i64 d, .int .i64 u] (by simp)).c 3 rfl
  go_wp2_with fail
  refine (J2.out _).mono ?_
  rintro e W3 ⟨rfl, hb⟩
  have K3 : Hid (BS w [(W1.heap.size, [.int .i64 a1, .int .i64 0, .int .i64 0, .int .i64 U]), (w.heap.size, [.int .i64 i, .int .i64 m, .int .i64 d, .int .i64 u])] W3) := K2.out.below hb
  clear c2_0_0 c2_0_1 c2_0_2 c2_0_3 c2_1_0 c2_1_1 c2_1_2 c2_1_3
  clear hb K2
  have c3_0_0 : W3.cell? ⟨W1.heap.size, 0, none⟩ = some (.int .i64 a1) := (K3.out.at (W1.heap.size) [.int .i64 a1, .int .i64 0, .int .i64 0, .int .i64 U] (by simp)).c 0 rfl
  have c3_0_1 : W3.cell? ⟨W1.heap.size, 1, none⟩ = some (.int .i64 0) := (K3.out.at (W1.heap.size) [.int .i64 a1, .int .i64 0, .int .i64 0, .int .i64 U] (by simp)).c 1 rfl
  have c3_0_2 : W3.cell? ⟨W1.heap.size, 2, none⟩ = some (.int .i64 0) := (K3.out.at (W1.heap.size) [.int .i64 a1, .int .i64 0, .int .i64 0, .int .i64 U] (by simp)).c 2 rfl
  have c3_0_3 : W3.cell? ⟨W1.heap.size, 3, none⟩ = some (.int .i64 U) := (K3.out.at (W1.heap.size) [.int .i64 a1, .int .i64 0, .int .i64 0, .int .i64 U] (by simp)).c 3 rfl
  have c3_1_0 : W3.cell? ⟨w.heap.size, 0, none⟩ = some (.int .i64 i) := (K3.out.at (w.heap.size) [.int .i64 i, .int .i64 m, .int .i64 d, .int .i64 u] (by simp)).c 0 rfl
  have c3_1_1 : W3.cell? ⟨w.heap.size, 1, none⟩ = some (.int .i64 m) := (K3.out.at (w.heap.size) [.int .i64 i, .int .i64 m, .int .i64 d, .int .i64 u] (by simp)).c 1 rfl
  have c3_1_2 : W3.cell? ⟨w.heap.size, 2, none⟩ = some (.int .i64 d) := (K3.out.at (w.heap.size) [.int .i64 i, .int .i64 m, .int .i64 d, .int .i64 u] (by simp)).c 2 rfl
  have c3_1_3 : W3.cell? ⟨w.heap.size, 3, none⟩ = some (.int .i64 u) := (K3.out.at (w.heap.size) [.int .i64 i, .int .i64 m, .int .i64 d, .int .i64 u] (by simp)).c 3 rfl
  have Mz3 : Hid (BS w [(W3.heap.size, [.int .i64 a1, .int .i64 0, .int .i64 0, .int .i64 U]), (W1.heap.size, [.int .i64 a1, .int .i64 0, .int .i64 0, .int .i64 U]), (w.heap.size, [.int .i64 i, .int .i64 m, .int .i64 d, .int .i64 u])] (W3.alloc (.cells #[.int .i64 a1, .int .i64 0, .int .i64 0, .int .i64 U] 23))) := K3.out.new [.int .i64 a1, .int .i64 0, .int .i64 0, .int .i64 U] 23 rfl
  go_upto_region 3 with fail
  refine gen_to (BS w [(W3.heap.size, [.int .i64 a1, .int .i64 0, .int .i64 0, .int .i64 U]), (W1.heap.size, [.int .i64 a1, .int .i64 0, .int .i64 0, .int .i64 U]), (w.heap.size, [.int .i64 i, .int .i64 m, .int .i64 d, .int .i64 u])]) Mz3.out ?_
  clear c3_0_0 c3_0_1 c3_0_2 c3_0_3 c3_1_0 c3_1_1 c3_1_2 c3_1_3
  intro W4 K4'
  have K4 : Hid (BS w [(W3.heap.size, [.int .i64 a1, .int .i64 0, .int .i64 0, .int .i64 U]), (W1.heap.size, [.int .i64 a1, .int .i64 0, .int .i64 0, .int .i64 U]), (w.heap.size, [.int .i64 i, .int .i64 m, .int .i64 d, .int .i64 u])] W4) := K4'
  clear K4' Mz3 K3
  have c4_0_0 : W4.cell? ⟨W3.heap.size, 0, none⟩ = some (.int .i64 a1) := (K4.out.at (W3.heap.size) [.int .i64 a1, .int .i64 0, .int .i64 0, .int .i64 U] (by simp)).c 0 rfl
  have c4_0_1 : W4.cell? ⟨W3.heap.size, 1, none⟩ = some (.int .i64 0) := (K4.out.at (W3.heap.size) [.int .i64 a1, .int .i64 0, .int .i64 0, .int .i64 U] (by simp)).c 1 rfl
  have c4_0_2 : W4.cell? ⟨W3.heap.size, 2, none⟩ = some (.int .i64 0) := (K4.out.at (W3.heap.size) [.int .i64 a1, .int .i64 0, .int .i64 0, .int .i64 U] (by simp)).c 2 rfl
  have c4_0_3 : W4.cell? ⟨W3.heap.size, 3, none⟩ = some (.int .i64 U) := (K4.out.at (W3.heap.size) [.int .i64 a1, .int .i64 0, .int .i64 0, .int .i64 U] (by simp)).c 3 rfl
  have c4_1_0 : W4.cell? ⟨W1.heap.size, 0, none⟩ = some (.int .i64 a1) := (K4.out.at (W1.heap.size) [.int .i64 a1, .int .i64 0, .int .i64 0, .int .i64 U] (by simp)).c 0 rfl
  have c4_1_1 : W4.cell? ⟨W1.heap.size, 1, none⟩ = some (.int .i64 0) := (K4.out.at (W1.heap.size) [.int .i64 a1, .int .i64 0, .int .i64 0, .int .i64 U] (by simp)).c 1 rfl
  have c4_1_2 : W4.cell? ⟨W1.heap.size, 2, none⟩ = some (.int .i64 0) := (K4.out.at (W1.heap.size) [.int .i64 a1, .int .i64 0, .int .i64 0, .int .i64 U] (by simp)).c 2 rfl
  have c4_1_3 : W4.cell? ⟨W1.heap.size, 3, none⟩ = some (.int .i64 U) := (K4.out.at (W1.heap.size) [.int .i64 a1, .int .i64 0, .int .i64 0, .int .i64 U] (by simp)).c 3 rfl
  have c4_2_0 : W4.cell? ⟨w.heap.size, 0, none⟩ = some (.int .i64 i) := (K4.out.at (w.heap.size) [.int .i64 i, .int .i64 m, .int .i64 d, .int .i64 u] (by simp)).c 0 rfl
  have c4_2_1 : W4.cell? ⟨w.heap.size, 1, none⟩ = some (.int .i64 m) := (K4.out.at (w.heap.size) [.int .i64 i, .int .i64 m, .int .i64 d, .int .i64 u] (by simp)).c 1 rfl
  have c4_2_2 : W4.cell? ⟨w.heap.size, 2, none⟩ = some (.int .i64 d) := (K4.out.at (w.heap.size) [.int .i64 i, .int .i64 m, .int .i64 d, .int .i64 u] (by simp)).c 2 rfl
  have c4_2_3 : W4.cell? ⟨w.heap.size, 3, none⟩ = some (.int .i64 u) := (K4.out.at (w.heap.size) [.int .i64 i, .int .i64 m, .int .i64 d, .int .i64 u] (by simp)).c 3 rfl
  go_wp2_with fail
  refine (C.out _).mono ?_
  rintro e W5 ⟨rfl, hb⟩
  have K5 : Hid (BS w [(W3.heap.size, [.int .i64 a1, .int .i64 0, .int .i64 0, .int .i64 U]), (W1.heap.size, [.int .i64 a1, .int .i64 0, .int .i64 0, .int .i64 U]), (w.heap.size, [.int .i64 i, .int .i64 m, .int .i64 d, .int .i64 u])] W5) := K4.out.below hb
  clear c4_0_0 c4_0_1 c4_0_2 c4_0_3 c4_1_0 c4_1_1 c4_1_2 c4_1_3 c4_2_0 c4_2_1 c4_2_2 c4_2_3
  clear hb K4
  have c5_0_0 : W5.cell? ⟨W3.heap.size, 0, none⟩ = some (.int .i64 a1) := (K5.out.at (W3.heap.size) [.int .i64 a1, .int .i64 0, .int .i64 0, .int .i64 U] (by simp)).c 0 rfl
  have c5_0_1 : W5.cell? ⟨W3.heap.size, 1, none⟩ = some (.int .i64 0) := (K5.out.at (W3.heap.size) [.int .i64 a1, .int .i64 0, .int .i64 0, .int .i64 U] (by simp)).c 1 rfl
  have c5_0_2 : W5.cell? ⟨W3.heap.size, 2, none⟩ = some (.int .i64 0) := (K5.out.at (W3.heap.size) [.int .i64 a1, .int .i64 0, .int .i64 0, .int .i64 U] (by simp)).c 2 rfl
  have c5_0_3 : W5.cell? ⟨W3.heap.size, 3, none⟩ = some (.int .i64 U) := (K5.out.at (W3.heap.size) [.int .i64 a1, .int .i64 0, .int .i64 0, .int .i64 U] (by simp)).c 3 rfl
  have c5_1_0 : W5.cell? ⟨W1.heap.size, 0, none⟩ = some (.int .i64 a1) := (K5.out.at (W1.heap.size) [.int .i64 a1, .int .i64 0, .int .i64 0, .int .i64 U] (by simp)).c 0 rfl
  have c5_1_1 : W5.cell? ⟨W1.heap.size, 1, none⟩ = some (.int .i64 0) := (K5.out.at (W1.heap.size) [.int .i64 a1, .int .i64 0, .int .i64 0, .int .i64 U] (by simp)).c 1 rfl
  have c5_1_2 : W5.cell? ⟨W1.heap.size, 2, none⟩ = some (.int .i64 0) := (K5.out.at (W1.heap.size) [.int .i64 a1, .int .i64 0, .int .i64 0, .int .i64 U] (by simp)).c 2 rfl
  have c5_1_3 : W5.cell? ⟨W1.heap.size, 3, none⟩ = some (.int .i64 U) := (K5.out.at (W1.heap.size) [.int .i64 a1, .int .i64 0, .int .i64 0, .int .i64 U] (by simp)).c 3 rfl
  have c5_2_0 : W5.cell? ⟨w.heap.size, 0, none⟩ = some (.int .i64 i) := (K5.out.at (w.heap.size) [.int .i64 i, .int .i64 m, .int .i64 d, .int .i64 u] (by simp)).c 0 rfl
  have c5_2_1 : W5.cell? ⟨w.heap.size, 1, none⟩ = some (.int .i64 m) := (K5.out.at (w.heap.size) [.int .i64 i, .int .i64 m, .int .i64 d, .int .i64 u] (by simp)).c 1 rfl
  have c5_2_2 : W5.cell? ⟨w.heap.size, 2, none⟩ = some (.int .i64 d) := (K5.out.at (w.heap.size) [.int .i64 i, .int .i64 m, .int .i64 d, .int .i64 u] (by simp)).c 2 rfl
  have c5_2_3 : W5.cell? ⟨w.heap.size, 3, none⟩ = some (.int .i64 u) := (K5.out.at (w.heap.size) [.int .i64 i, .int .i64 m, .int .i64 d, .int .i64 u] (by simp)).c 3 rfl
  go_wp2_with fail
  refine (KN.out _).mono ?_
  rintro e W6 ⟨rfl, hb⟩
  have K6 : Hid (BS w [(W3.heap.size, [.int .i64 a1, .int .i64 0, .int .i64 0, .int .i64 U]), (W1.heap.size, [.int .i64 a1, .int .i64 0, .int .i64 0, .int .i64 U]), (w.heap.size, [.int .i64 i, .int .i64 m, .int .i64 d, .int .i64 u])] W6) := K5.out.below hb
  clear c5_0_0 c5_0_1 c5_0_2 c5_0_3 c5_1_0 c5_1_1 c5_1_2 c5_1_3 c5_2_0 c5_2_1 c5_2_2 c5_2_3
  clear hb K5
  have c6_0_0 : W6.cell? ⟨W3.heap.size, 0, none⟩ = some (.int .i64 a1) := (K6.out.at (W3.heap.size) [.int .i64 a1, .int .i64 0, .int .i64 0, .int .i64 U] (by simp)).c 0 rfl
  have c6_0_1 : W6.cell? ⟨W3.heap.size, 1, none⟩ = some (.int .i64 0) := (K6.out.at (W3.heap.size) [.int .i64 a1, .int .i64 0, .int .i64 0, .int .i64 U] (by simp)).c 1 rfl
  have c6_0_2 : W6.cell? ⟨W3.heap.size, 2, none⟩ = some (.int .i64 0) := (K6.out.at (W3.heap.size) [.int .i64 a1, .int .i64 0, .int .i64 0, .int .i64 U] (by simp)).c 2 rfl
  have c6_0_3 : W6.cell? ⟨W3.heap.size, 3, none⟩ = some (.int .i64 U) := (K6.out.at (W3.heap.size) [.int .i64 a1, .int .i64 0, .int .i64 0, .int .i64 U] (by simp)).c 3 rfl
  have c6_1_0 : W6.cell? ⟨W1.heap.size, 0, none⟩ = some (.int .i64 a1) := (K6.out.at (W1.heap.size) [.int .i64 a1, .int .i64 0, .int .i64 0, .int .i64 U] (by simp)).c 0 rfl
  have c6_1_1 : W6.cell? ⟨W1.heap.size, 1, none⟩ = some (.int .i64 0) := (K6.out.at (W1.heap.size) [.int .i64 a1, .int .i64 0, .int .i64 0, .int .i64 U] (by simp)).c 1 rfl
  have c6_1_2 : W6.cell? ⟨W1.heap.size, 2, none⟩ = some (.int .i64 0) := (K6.out.at (W1.heap.size) [.int .i64 a1, .int .i64 0, .int .i64 0, .int .i64 U] (by simp)).c 2 rfl
  have c6_1_3 : W6.cell? ⟨W1.heap.size, 3, none⟩ = some (.int .i64 U) := (K6.out.at (W1.heap.size) [.int .i64 a1, .int .i64 0, .int .i64 0, .int .i64 U] (by simp)).c 3 rfl
  have c6_2_0 : W6.cell? ⟨w.heap.size, 0, none⟩ = some (.int .i64 i) := (K6.out.at (w.heap.size) [.int .i64 i, .int .i64 m, .int .i64 d, .int .i64 u] (by simp)).c 0 rfl
  have c6_2_1 : W6.cell? ⟨w.heap.size, 1, none⟩ = some (.int .i64 m) := (K6.out.at (w.heap.size) [.int .i64 i, .int .i64 m, .int .i64 d, .int .i64 u] (by simp)).c 1 rfl
  have c6_2_2 : W6.cell? ⟨w.heap.size, 2, none⟩ = some (.int .i64 d) := (K6.out.at (w.heap.size) [.int .i64 i, .int .i64 m, .int .i64 d, .int .i64 u] (by simp)).c 2 rfl
  have c6_2_3 : W6.cell? ⟨w.heap.size, 3, none⟩ = some (.int .i64 u) := (K6.out.at (w.heap.size) [.int .i64 i, .int .i64 m, .int .i64 d, .int .i64 u] (by simp)).c 3 rfl
  go_wp2
  go_ret
  exact ⟨ret_bool (by simp; omega), K6.out.1⟩

set_option maxRecDepth 100000 in
set_option maxHeartbeats 4000000 in
theorem core_SpanJus_z (i m d u a1  : Int) 
    (J1 : Hid (∀ w : World, Calls Try.prog 26 #[.agg #[.int .i64 i, .int .i64 m, .int .i64 d, .int .i64 u]] w fun r' w' => r' = .returned (.tuple #[.agg #[.int .i64 a1, .int .i64 0, .int .i64 0, .int .i64 0], .int .i64 0]) ∧ Below w.heap.size w w'))
    (J2 : Hid (∀ w : World, Calls Try.prog 27 #[.agg #[.int .i64 i, .int .i64 m, .int .i64 d, .int .i64 u]] w fun r' w' => r' = .returned (.tuple #[.agg #[.int .i64 a1, .int .i64 0, .int .i64 0, .int .i64 0], .int .i64 0]) ∧ Below w.heap.size w w'))
    (C : Hid (∀ w : World, Calls Try.prog 22 #[.agg #[.int .i64 i, .int .i64 m, .int .i64 d, .int .i64 u], .agg #[.int .i64 a1, .int .i64 0, .int .i64 0, .int .i64 0]] w fun r' w' => r' = .returned (.int .i64 0) ∧ Below w.heap.size w w'))
    (KN : Hid (∀ w : World, Calls Try.prog 17 #[] w fun r' w' => r' = .returned (.bool true) ∧ Below w.heap.size w w'))
    (w : World) :
    Calls Try.prog 6 #[.agg #[.int .i64 i, .int .i64 m, .int .i64 d, .int .i64 u]] w fun r' w' => r' = .returned (.bool true) ∧ Below w.heap.size w w' := by
  have K0 : Hid (BS w [(w.heap.size, [.int .i64 i, .int .i64 m, .int .i64 d, .int .i64 u])] (w.alloc (.cells #[.int .i64 i, .int .i64 m, .int .i64 d, .int .i64 u] 23))) := ((BS.start w).new [.int .i64 i, .int .i64 m, .int .i64 d, .int .i64 u] 23 rfl)
  go_enter Try.func6, Try.ntmps6
  go_wp2_with fail
  refine (J1.out _).mono ?_
  rintro e W1 ⟨rfl, hb⟩
  have K1 : Hid (BS w [(w.heap.size, [.int .i64 i, .int .i64 m, .int .i64 d, .int .i64 u])] W1) := K0.out.below hb
  clear hb K0
  have c1_0_0 : W1.cell? ⟨w.heap.size, 0, none⟩ = some (.int .i64 i) := (K1.out.at (w.heap.size) [.int .i64 i, .int .i64 m, .int .i64 d, .int .i64 u] (by simp)).c 0 rfl
  have c1_0_1 : W1.cell? ⟨w.heap.size, 1, none⟩ = some (.int .i64 m) := (K1.out.at (w.heap.size) [.int .i64 i, .int .i64 m, .int .i64 d, .int .i64 u] (by simp)).c 1 rfl
  have c1_0_2 : W1.cell? ⟨w.heap.size, 2, none⟩ = some (.int .i64 d) := (K1.out.at (w.heap.size) [.int .i64 i, .int .i64 m, .int .i64 d, .int .i64 u] (by simp)).c 2 rfl
  have c1_0_3 : W1.cell? ⟨w.heap.size, 3, none⟩ = some (.int .i64 u) := (K1.out.at (w.heap.size) [.int .i64 i, .int .i64 m, .int .i64 d, .int .i64 u] (by simp)).c 3 rfl
  have Mz1 : Hid (BS w [(W1.heap.size, [.int .i64 a1, .int .i64 0, .int .i64 0, .int .i64 0]), (w.heap.size, [.int .i64 i, .int .i64 m, .int .i64 d, .int .i64 u])] (W1.alloc (.cells #[.int .i64 a1, .int .i64 0, .int .i64 0, .int .i64 0] 23))) := K1.out.new [.int .i64 a1, .int .i64 0, .int .i64 0, .int .i64 0] 23 rfl
  go_upto_region 2 with fail
  refine gen_to (BS w [(W1.heap.size, [.int .i64 a1, .int .i64 0, .int .i64 0, .int .i64 0]), (w.heap.size, [.int .i64 i, .int .i64 m, .int .i64 d, .int .i64 u])]) Mz1.out ?_
  clear c1_0_0 c1_0_1 c1_0_2 c1_0_3
  intro W2 K2'
  have K2 : Hid (BS w [(W1.heap.size, [.int .i64 a1, .int .i64 0, .int .i64 0, .int .i64 0]), (w.heap.size, [.int .i64 i, .int .i64 m, .int .i64 d, .int .i64 u])] W2) := K2'
  clear K2' Mz1 K1
  have c2_0_0 : W2.cell? ⟨W1.heap.size, 0, none⟩ = some (.int .i64 a1) := (K2.out.at (W1.heap.size) [.int .i64 a1, .int .i64 0, .int .i64 0, .int .i64 0] (by simp)).c 0 rfl
  have c2_0_1 : W2.cell? ⟨W1.heap.size, 1, none⟩ = some (.int .i64 0) := (K2.out.at (W1.heap.size) [.int .i64 a1, .int .i64 0, .int .i64 0, .int .i64 0] (by simp)).c 1 rfl
  have c2_0_2 : W2.cell? ⟨W1.heap.size, 2, none⟩ = some (.int .i64 0) := (K2.out.at (W1.heap.size) [.int .i64 a1, .int .i64 0, .int .i64 0, .int .i64 0] (by simp)).c 2 rfl
  have c2_0_3 : W2.cell? ⟨W1.heap.size, 3, none⟩ = some (.int .i64 0) := (K2.out.at (W1.heap.size) [.int .i64 a1, .int .i64 0, .int .i64 0, .int .i64 0] (by simp)).c 3 rfl
  have c2_1_0 : W2.cell? ⟨w.heap.size, 0, none⟩ = some (.int .i64 i) := (K2.out.at (w.heap.size) [.int .i64 i, .int .i64 m, .int .i64 d, .int .i64 u] (by simp)).c 0 rfl
  have c2_1_1 : W2.cell? ⟨w.heap.size, 1, none⟩ = some (.int .i64 m) := (K2.out.at (w.heap.size) [.int .i64 i, .int .i64 m, .int .i64 d, .int .i64 u] (by simp)).c 1 rfl
  have c2_1_2 : W2.cell? ⟨w.heap.size, 2, none⟩ = some (.int .i64 d) := (K2.out.at (w.heap.size) [.int .i64 i, .int .i64 m, .int .i64 d, .int .i64 u] (by simp)).c 2 rfl
  have c2_1_3 : W2.cell? ⟨w.heap.size, 3, none⟩ = some (.int .i64 u) := (K2.out.at (w.heap.size) [.int .i64 i, .int .i64 m, .int .i64 d, .int .i64 u] (by simp)).c 3 rfl
  go_wp2_with fail
  refine (J2.out _).mono ?_
  rintro e W3 ⟨rfl, hb⟩
  have K3 : Hid (BS w [(W1.heap.size, [.int .i64 a1, .int .i64 0, .int .i64 0, .int .i64 0]), (w.heap.size, [.int .i64 i, .int .i64 m, .int .i64 d, .int .i64 u])] W3) := K2.out.below hb
  clear c2_0_0 c2_0_1 c2_0_2 c2_0_3 c2_1_0 c2_1_1 c2_1_2 c2_1_3
  clear hb K2
  have c3_0_0 : W3.cell? ⟨W1.heap.size, 0, none⟩ = some (.int .i64 a1) := (K3.out.at (W1.heap.size) [.int .i64 a1, .int .i64 0, .int .i64 0, .int .i64 0] (by simp)).c 0 rfl
  have c3_0_1 : W3.cell? ⟨W1.heap.size, 1, none⟩ = some (.int .i64 0) := (K3.out.at (W1.heap.size) [.int .i64 a1, .int .i64 0, .int .i64 0, .int .i64 0] (by simp)).c 1 rfl
  have c3_0_2 : W3.cell? ⟨W1.heap.size, 2, none⟩ = some (.int .i64 0) := (K3.out.at (W1.heap.size) [.int .i64 a1, .int .i64 0, .int .i64 0, .int .i64 0] (by simp)).c 2 rfl
  have c3_0_3 : W3.cell? ⟨W1.heap.size, 3, none⟩ = some (.int .i64 0) := (K3.out.at (W1.heap.size) [.int .i64 a1, .int .i64 0, .int .i64 0, .int .i64 0] (by simp)).c 3 rfl
  have c3_1_0 : W3.cell? ⟨w.heap.size, 0, none⟩ = some (.int .i64 i) := (K3.out.at (w.heap.size) [.int .i64 i, .int .i64 m, .int .i64 d, .int .i64 u] (by simp)).c 0 rfl
  have c3_1_1 : W3.cell? ⟨w.heap.size, 1, none⟩ = some (.int .i64 m) := (K3.out.at (w.heap.size) [.int .i64 i, .int .i64 m, .int .i64 d, .int .i64 u] (by simp)).c 1 rfl
  have c3_1_2 : W3.cell? ⟨w.heap.size, 2, none⟩ = some (.int .i64 d) := (K3.out.at (w.heap.size) [.int .i64 i, .int .i64 m, .int .i64 d, .int .i64 u] (by simp)).c 2 rfl
  have c3_1_3 : W3.cell? ⟨w.heap.size, 3, none⟩ = some (.int .i64 u) := (K3.out.at (w.heap.size) [.int .i64 i, .int .i64 m, .int .i64 d, .int .i64 u] (by simp)).c 3 rfl
  have Mz3 : Hid (BS w [(W3.heap.size, [.int .i64 a1, .int .i64 0, .int .i64 0, .int .i64 0]), (W1.heap.size, [.int .i64 a1, .int .i64 0, .int .i64 0, .int .i64 0]), (w.heap.size, [.int .i64 i, .int .i64 m, .int .i64 d, .int .i64 u])] (W3.alloc (.cells #[.int .i64 a1, .int .i64 0, .int .i64 0, .int .i64 0] 23))) := K3.out.new [.int .i64 a1, .int .i64 0, .int .i64 0, .int .i64 0] 23 rfl
  go_upto_region 3 with fail
  refine gen_to (BS w [(W3.heap.size, [.int .i64 a1, .int .i64 0, .int .i64 0, .int .i64 0]), (W1.heap.size, [.int .i64 a1, .int .i64 0, .int .i64 0, .int .i64 0]), (w.heap.size, [.int .i64 i, .int .i64 m, .int .i64 d, .int .i64 u])]) Mz3.out ?_
  clear c3_0_0 c3_0_1 c3_0_2 c3_0_3 c3_1_0 c3_1_1 c3_1_2 c3_1_3
  intro W4 K4'
  have K4 : Hid (BS w [(W3.heap.size, [.int .i64 a1, .int .i64 0, .int .i64 0, .int .i64 0]), (W1.heap.size, [.int .i64 a1, .int .i64 0, .int .i64 0, .int .i64 0]), (w.heap.size, [.int .i64 i, .int .i64 m, .int .i64 d, .int .i64 u])] W4) := K4'
  clear K4' Mz3 K3
  have c4_0_0 : W4.cell? ⟨W3.heap.size, 0, none⟩ = some (.int .i64 a1) := (K4.out.at (W3.heap.size) [.int .i64 a1, .int .i64 0, .int .i64 0, .int .i64 0] (by simp)).c 0 rfl
  have c4_0_1 : W4.cell? ⟨W3.heap.size, 1, none⟩ = some (.int .i64 0) := (K4.out.at (W3.heap.size) [.int .i64 a1, .int .i64 0, .int .i64 0, .int .i64 0] (by simp)).c 1 rfl
  have c4_0_2 : W4.cell? ⟨W3.heap.size, 2, none⟩ = some (.int .i64 0) := (K4.out.at (W3.heap.size) [.int .i64 a1, .int .i64 0, .int .i64 0, .int .i64 0] (by simp)).c 2 rfl
  have c4_0_3 : W4.cell? ⟨W3.heap.size, 3, none⟩ = some (.int .i64 0) := (K4.out.at (W3.heap.size) [.int .i64 a1, .int .i64 0, .int .i64 0, .int .i64 0] (by simp)).c 3 rfl
  have c4_1_0 : W4.cell? ⟨W1.heap.size, 0, none⟩ = some (.int .i64 a1) := (K4.out.at (W1.heap.size) [.int .i64 a1, .int .i64 0, .int .i64 0, .int .i64 0] (by simp)).c 0 rfl
  have c4_1_1 : W4.cell? ⟨W1.heap.size, 1, none⟩ = some (.int .i64 0) := (K4.out.at (W1.heap.size) [.int .i64 a1, .int .i64 0, .int .i64 0, .int .i64 0] (by simp)).c 1 rfl
  have c4_1_2 : W4.cell? ⟨W1.heap.size, 2, none⟩ = some (.int .i64 0) := (K4.out.at (W1.heap.size) [.int .i64 a1, .int .i64 0, .int .i64 0, .int .i64 0] (by simp)).c 2 rfl
  have c4_1_3 : W4.cell? ⟨W1.heap.size, 3, none⟩ = some (.int .i64 0) := (K4.out.at (W1.heap.size) [.int .i64 a1, .int .i64 0, .int .i64 0, .int .i64 0] (by simp)).c 3 rfl
  have c4_2_0 : W4.cell? ⟨w.heap.size, 0, none⟩ = some (.int .i64 i) := (K4.out.at (w.heap.size) [.int .i64 i, .int .i64 m, .int .i64 d, .int .i64 u] (by simp)).c 0 rfl
  have c4_2_1 : W4.cell? ⟨w.heap.size, 1, none⟩ = some (.int .i64 m) := (K4.out.at (w.heap.size) [.int .i64 i, .int .i64 m, .int .i64 d, .int .i64 u] (by simp)).c 1 rfl
  have c4_2_2 : W4.cell? ⟨w.heap.size, 2, none⟩ = some (.int .i64 d) := (K4.out.at (w.heap.size) [.int .i64 i, .int .i64 m, .int .i64 d, .int .i64 u] (by simp)).c 2 rfl
  have c4_2_3 : W4.cell? ⟨w.heap.size, 3, none⟩ = some (.int .i64 u) := (K4.out.at (w.heap.size) [.int .i64 i, .int .i64 m, .int .i64 d, .int .i64 u] (by simp)).c 3 rfl
  go_wp2_with fail
  refine (C.out _).mono ?_
  rintro e W5 ⟨rfl, hb⟩
  have K5 : Hid (BS w [(W3.heap.size, [.int .i64 a1, .int .i64 0, .int .i64 0, .int .i64 0]), (W1.heap.size, [.int .i64 a1, .int .i64 0, .int .i64 0, .int .i64 0]), (w.heap.size, [.int .i64 i, .int .i64 m, .int .i64 d, .int .i64 u])] W5) := K4.out.below hb
  clear c4_0_0 c4_0_1 c4_0_2 c4_0_3 c4_1_0 c4_1_1 c4_1_2 c4_1_3 c4_2_0 c4_2_1 c4_2_2 c4_2_3
  clear hb K4
  have c5_0_0 : W5.cell? ⟨W3.heap.size, 0, none⟩ = some (.int .i64 a1) := (K5.out.at (W3.heap.size) [.int .i64 a1, .int .i64 0, .int .i64 0, .int .i64 0] (by simp)).c 0 rfl
  have c5_0_1 : W5.cell? ⟨W3.heap.size, 1, none⟩ = some (.int .i64 0) := (K5.out.at (W3.heap.size) [.int .i64 a1, .int .i64 0, .int .i64 0, .int .i64 0] (by simp)).c 1 rfl
  have c5_0_2 : W5.cell? ⟨W3.heap.size, 2, none⟩ = some (.int .i64 0) := (K5.out.at (W3.heap.size) [.int .i64 a1, .int .i64 0, .int .i64 0, .int .i64 0] (by simp)).c 2 rfl
  have c5_0_3 : W5.cell? ⟨W3.heap.size, 3, none⟩ = some (.int .i64 0) := (K5.out.at (W3.heap.size) [.int .i64 a1, .int .i64 0, .int .i64 0, .int .i64 0] (by simp)).c 3 rfl
  have c5_1_0 : W5.cell? ⟨W1.heap.size, 0, none⟩ = some (.int .i64 a1) := (K5.out.at (W1.heap.size) [.int .i64 a1, .int .i64 0, .int .i64 0, .int .i64 0] (by simp)).c 0 rfl
  have c5_1_1 : W5.cell? ⟨W1.heap.size, 1, none⟩ = some (.int .i64 0) := (K5.out.at (W1.heap.size) [.int .i64 a1, .int .i64 0, .int .i64 0, .int .i64 0] (by simp)).c 1 rfl
  have c5_1_2 : W5.cell? ⟨W1.heap.size, 2, none⟩ = some (.int .i64 0) := (K5.out.at (W1.heap.size) [.int .i64 a1, .int .i64 0, .int .i64 0, .int .i64 0] (by simp)).c 2 rfl
  have c5_1_3 : W5.cell? ⟨W1.heap.size, 3, none⟩ = some (.int .i64 0) := (K5.out.at (W1.heap.size) [.int .i64 a1, .int .i64 0, .int .i64 0, .int .i64 0] (by simp)).c 3 rfl
  have c5_2_0 : W5.cell? ⟨w.heap.size, 0, none⟩ = some (.int .i64 i) := (K5.out.at (w.heap.size) [.int .i64 i, .int .i64 m, .int .i64 d, .int .i64 u] (by simp)).c 0 rfl
  have c5_2_1 : W5.cell? ⟨w.heap.size, 1, none⟩ = some (.int .i64 m) := (K5.out.at (w.heap.size) [.int .i64 i, .int .i64 m, .int .i64 d, .int .i64 u] (by simp)).c 1 rfl
  have c5_2_2 : W5.cell? ⟨w.heap.size, 2, none⟩ = some (.int .i64 d) := (K5.out.at (w.heap.size) [.int .i64 i, .int .i64 m, .int .i64 d, .int .i64 u] (by simp)).c 2 rfl
  have c5_2_3 : W5.cell? ⟨w.heap.size, 3, none⟩ = some (.int .i64 u) := (K5.out.at (w.heap.size) [.int .i64 i, .int .i64 m, .int .i64 d, .int .i64 u] (by simp)).c 3 rfl
  go_wp2_with fail
  refine (KN.out _).mono ?_
  rintro e W6 ⟨rfl, hb⟩
  have K6 : Hid (BS w [(W3.heap.size, [.int .i64 a1, .int .i64 0, .int .i64 0, .int .i64 0]), (W1.heap.size, [.int .i64 a1, .int .i64 0, .int .i64 0, .int .i64 0]), (w.heap.size, [.int .i64 i, .int .i64 m, .int .i64 d, .int .i64 u])] W6) := K5.out.below hb
  clear c5_0_0 c5_0_1 c5_0_2 c5_0_3 c5_1_0 c5_1_1 c5_1_2 c5_1_3 c5_2_0 c5_2_1 c5_2_2 c5_2_3
  clear hb K5
  have c6_0_0 : W6.cell? ⟨W3.heap.size, 0, none⟩ = some (.int .i64 a1) := (K6.out.at (W3.heap.size) [.int .i64 a1, .int .i64 0, .int .i64 0, .int .i64 0] (by simp)).c 0 rfl
  have c6_0_1 : W6.cell? ⟨W3.heap.size, 1, none⟩ = some (.int .i64 0) := (K6.out.at (W3.heap.size) [.int .i64 a1, .int .i64 0, .int .i64 0, .int .i64 0] (by simp)).c 1 rfl
  have c6_0_2 : W6.cell? ⟨W3.heap.size, 2, none⟩ = some (.int .i64 0) := (K6.out.at (W3.heap.size) [.int .i64 a1, .int .i64 0, .int .i64 0, .int .i64 0] (by simp)).c 2 rfl
  have c6_0_3 : W6.cell? ⟨W3.heap.size, 3, none⟩ = some (.int .i64 0) := (K6.out.at (W3.heap.size) [.int .i64 a1, .int .i64 0, .int .i64 0, .int .i64 0] (by simp)).c 3 rfl
  have c6_1_0 : W6.cell? ⟨W1.heap.size, 0, none⟩ = some (.int .i64 a1) := (K6.out.at (W1.heap.size) [.int .i64 a1, .int .i64 0, .int .i64 0, .int .i64 0] (by simp)).c 0 rfl
  have c6_1_1 : W6.cell? ⟨W1.heap.size, 1, none⟩ = some (.int .i64 0) := (K6.out.at (W1.heap.size) [.int .i64 a1, .int .i64 0, .int .i64 0, .int .i64 0] (by simp)).c 1 rfl
  have c6_1_2 : W6.cell? ⟨W1.heap.size, 2, none⟩ = some (.int .i64 0) := (K6.out.at (W1.heap.size) [.int .i64 a1, .int .i64 0, .int .i64 0, .int .i64 0] (by simp)).c 2 rfl
  have c6_1_3 : W6.cell? ⟨W1.heap.size, 3, none⟩ = some (.int .i64 0) := (K6.out.at (W1.heap.size) [.int .i64 a1, .int .i64 0, .int .i64 0, .int .i64 0] (by simp)).c 3 rfl
  have c6_2_0 : W6.cell? ⟨w.heap.size, 0, none⟩ = some (.int .i64 i) := (K6.out.at (w.heap.size) [.int .i64 i, .int .i64 m, .int .i64 d, .int .i64 u] (by simp)).c 0 rfl
  have c6_2_1 : W6.cell? ⟨w.heap.size, 1, none⟩ = some (.int .i64 m) := (K6.out.at (w.heap.size) [.int .i64 i, .int .i64 m, .int .i64 d, .int .i64 u] (by simp)).c 1 rfl
  have c6_2_2 : W6.cell? ⟨w.heap.size, 2, none⟩ = some (.int .i64 d) := (K6.out.at (w.heap.size) [.int .i64 i, .int .i64 m, .int .i64 d, .int .i64 u] (by simp)).c 2 rfl
  have c6_2_3 : W6.cell? ⟨w.heap.size, 3, none⟩ = some (.int .i64 u) := (K6.out.at (w.heap.size) [.int .i64 i, .int .i64 m, .int .i64 d, .int .i64 u] (by simp)).c 3 rfl
  go_wp2
  go_ret
  exact ⟨rfl, K6.out.1⟩

set_option maxRecDepth 100000 in
set_option maxHeartbeats 4000000 in
theorem core_SpanJus_n1 (i m d u a1 M D U : Int) (h0 : M < 0) (h : ¬ 0 < M) (h2 : ¬ 0 < D) (h3 : ¬ 0 < U)
    (J1 : Hid (∀ w : World, Calls Try.prog 26 #[.agg #[.int .i64 i, .int .i64 m, .int .i64 d, .int .i64 u]] w fun r' w' => r' = .returned (.tuple #[.agg #[.int .i64 a1, .int .i64 M, .int .i64 D, .int .i64 U], .int .i64 0]) ∧ Below w.heap.size w w'))
    (J2 : Hid (∀ w : World, Calls Try.prog 27 #[.agg #[.int .i64 i, .int .i64 m, .int .i64 d, .int .i64 u]] w fun r' w' => r' = .returned (.tuple #[.agg #[.int .i64 a1, .int .i64 M, .int .i64 D, .int .i64 U], .int .i64 0]) ∧ Below w.heap.size w w'))
    (C : Hid (∀ w : World, Calls Try.prog 22 #[.agg #[.int .i64 i, .int .i64 m, .int .i64 d, .int .i64 u], .agg #[.int .i64 a1, .int .i64 M, .int .i64 D, .int .i64 U]] w fun r' w' => r' = .returned (.int .i64 0) ∧ Below w.heap.size w w'))
    (KN : Hid (∀ w : World, Calls Try.prog 17 #[] w fun r' w' => r' = .returned (.bool true) ∧ Below w.heap.size w w'))
    (w : World) :
    Calls Try.prog 6 #[.agg #[.int .i64 i, .int .i64 m, .int .i64 d, .int .i64 u]] w fun r' w' => r' = .returned (.bool true) ∧ Below w.heap.size w w' := by
  have K0 : Hid (BS w [(w.heap.size, [.int .i64 i, .int .i64 m, .int .i64 d, .int .i64 u])] (w.alloc (.cells #[.int .i64 i, .int .i64 m, .int .i64 d, .int .i64 u] 23))) := ((BS.start w).new [.int .i64 i, .int .i64 m, .int .i64 d, .int .i64 u] 23 rfl)
  go_enter Try.func6, Try.ntmps6
  go_wp2_with fail
  refine (J1.out _).mono ?_
  rintro e W1 ⟨rfl, hb⟩
  have K1 : Hid (BS w [(w.heap.size, [.int .i64 i, .int .i64 m, .int .i64 d, .int .i64 u])] W1) := K0.out.below hb
  clear hb K0
  have c1_0_0 : W1.cell? ⟨w.heap.size, 0, none⟩ = some (.int .i64 i) := (K1.out.at (w.heap.size) [.int .i64 i, .int .i64 m, .int .i64 d, .int .i64 u] (by simp)).c 0 rfl
  have c1_0_1 : W1.cell? ⟨w.heap.size, 1, none⟩ = some (.int .i64 m) := (K1.out.at (w.heap.size) [.int .i64 i, .int .i64 m, .int .i64 d, .int .i64 u] (by simp)).c 1 rfl
  have c1_0_2 : W1.cell? ⟨w.heap.size, 2, none⟩ = some (.int .i64 d) := (K1.out.at (w.heap.size) [.int .i64 i, .int .i64 m, .int .i64 d, .int .i64 u] (by simp)).c 2 rfl
  have c1_0_3 : W1.cell? ⟨w.heap.size, 3, none⟩ = some (.int .i64 u) := (K1.out.at (w.heap.size) [.int .i64 i, .int .i64 m, .int .i64 d, .int .i64 u] (by simp)).c 3 rfl
  have Mz1 : Hid (BS w [(W1.heap.size, [.int .i64 a1, .int .i64 M, .int .i64 D, .int .i64 U]), (w.heap.size, [.int .i64 i, .int .i64 m, .int .i64 d, .int .i64 u])] (W1.alloc (.cells #[.int .i64 a1, .int .i64 M, .int .i64 D, .int .i64 U] 23))) := K1.out.new [.int .i64 a1, .int .i64 M, .int .i64 D, .int .i64 U] 23 rfl
  go_upto_region 2 with fail
  refine gen_to (BS w [(W1.heap.size, [.int .i64 a1, .int .i64 M, .int .i64 D, .int .i64 U]), (w.heap.size, [.int .i64 i, .int .i64 m, .int .i64 d, .int .i64 u])]) Mz1.out ?_
  clear c1_0_0 c1_0_1 c1_0_2 c1_0_3
  intro W2 K2'
  have K2 : Hid (BS w [(W1.heap.size, [.int .i64 a1, .int .i64 M, .int .i64 D, .int .i64 U]), (w.heap.size, [.int .i64 i, .int .i64 m, .int .i64 d, .int .i64 u])] W2) := K2'
  clear K2' Mz1 K1
  have c2_0_0 : W2.cell? ⟨W1.heap.size, 0, none⟩ = some (.int .i64 a1) := (K2.out.at (W1.heap.size) [.int .i64 a1, .int .i64 M, .int .i64 D, .int .i64 U] (by simp)).c 0 rfl
  have c2_0_1 : W2.cell? ⟨W1.heap.size, 1, none⟩ = some (.int .i64 M) := (K2.out.at (W1.heap.size) [.int .i64 a1, .int .i64 M, .int .i64 D, .int .i64 U] (by simp)).c 1 rfl
  have c2_0_2 : W2.cell? ⟨W1.heap.size, 2, none⟩ = some (.int .i64 D) := (K2.out.at (W1.heap.size) [.int .i64 a1, .int .i64 M, .int .i64 D, .int .i64 U] (by simp)).c 2 rfl
  have c2_0_3 : W2.cell? ⟨W1.heap.size, 3, none⟩ = some (.int .i64 U) := (K2.out.at (W1.heap.size) [.int .i64 a1, .int .i64 M, .int .i64 D, .int .i64 U] (by simp)).c 3 rfl
  have c2_1_0 : W2.cell? ⟨w.heap.size, 0, none⟩ = some (.int .i64 i) := (K2.out.at (w.heap.size) [.int .i64 i, .int .i64 m, .int .i64 d, .int .i64 u] (by simp)).c 0 rfl
  have c2_1_1 : W2.cell? ⟨w.heap.size, 1, none⟩ = some (.int .i64 m) := (K2.out.at (w.heap.size) [.int .i64 i, .int .i64 m, .int .i64 d, .int .i64 u] (by simp)).c 1 rfl
  have c2_1_2 : W2.cell? ⟨w.heap.size, 2, none⟩ = some (.int .i64 d) := (K2.out.at (w.heap.size) [.int .i64 i, .int .i64 m, .int .i64 d, .int .i64 u] (by simp)).c 2 rfl
  have c2_1_3 : W2.cell? ⟨w.heap.size, 3, none⟩ = some (.int .i64 u) := (K2.out.at (w.heap.size) [.int .i64 i, .int .i64 m, .int .i64 d, .int .i64 u] (by simp)).c 3 rfl
  go_wp2_with fail
  refine (J2.out _).mono ?_
  rintro e W3 ⟨rfl, hb⟩
  have K3 : Hid (BS w [(W1.heap.size, [.int .i64 a1, .int .i64 M, .int .i64 D, .int .i64 U]), (w.heap.size, [.int .i64 i, .int .i64 m, .int .i64 d, .int .i64 u])] W3) := K2.out.below hb
  clear c2_0_0 c2_0_1 c2_0_2 c2_0_3 c2_1_0 c2_1_1 c2_1_2 c2_1_3
  clear hb K2
  have c3_0_0 : W3.cell? ⟨W1.heap.size, 0, none⟩ = some (.int .i64 a1) := (K3.out.at (W1.heap.size) [.int .i64 a1, .int .i64 M, .int .i64 D, .int .i64 U] (by simp)).c 0 rfl
  have c3_0_1 : W3.cell? ⟨W1.heap.size, 1, none⟩ = some (.int .i64 M) := (K3.out.at (W1.heap.size) [.int .i64 a1, .int .i64 M, .int .i64 D, .int .i64 U] (by simp)).c 1 rfl
  have c3_0_2 : W3.cell? ⟨W1.heap.size, 2, none⟩ = some (.int .i64 D) := (K3.out.at (W1.heap.size) [.int .i64 a1, .int .i64 M, .int .i64 D, .int .i64 U] (by simp)).c 2 rfl
  have c3_0_3 : W3.cell? ⟨W1.heap.size, 3, none⟩ = some (.int .i64 U) := (K3.out.at (W1.heap.size) [.int .i64 a1, .int .i64 M, .int .i64 D, .int .i64 U] (by simp)).c 3 rfl
  have c3_1_0 : W3.cell? ⟨w.heap.size, 0, none⟩ = some (.int .i64 i) := (K3.out.at (w.heap.size) [.int .i64 i, .int .i64 m, .int .i64 d, .int .i64 u] (by simp)).c 0 rfl
  have c3_1_1 : W3.cell? ⟨w.heap.size, 1, none⟩ = some (.int .i64 m) := (K3.out.at (w.heap.size) [.int .i64 i, .int .i64 m, .int .i64 d, .int .i64 u] (by simp)).c 1 rfl
  have c3_1_2 : W3.cell? ⟨w.heap.size, 2, none⟩ = some (.int .i64 d) := (K3.out.at (w.heap.size) [.int .i64 i, .int .i64 m, .int .i64 d, .int .i64 u] (by simp)).c 2 rfl
  have c3_1_3 : W3.cell? ⟨w.heap.size, 3, none⟩ = some (.int .i64 u) := (K3.out.at (w.heap.size) [.int .i64 i, .int .i64 m, .int .i64 d, .int .i64 u] (by simp)).c 3 rfl
  have Mz3 : Hid (BS w [(W3.heap.size, [.int .i64 a1, .int .i64 M, .int .i64 D, .int .i64 U]), (W1.heap.size, [.int .i64 a1, .int .i64 M, .int .i64 D, .int .i64 U]), (w.heap.size, [.int .i64 i, .int .i64 m, .int .i64 d, .int .i64 u])] (W3.alloc (.cells #[.int .i64 a1, .int .i64 M, .int .i64 D, .int .i64 U] 23))) := K3.out.new [.int .i64 a1, .int .i64 M, .int .i64 D, .int .i64 U] 23 rfl
  go_upto_region 3 with fail
  refine gen_to (BS w [(W3.heap.size, [.int .i64 a1, .int .i64 M, .int .i64 D, .int .i64 U]), (W1.heap.size, [.int .i64 a1, .int .i64 M, .int .i64 D, .int .i64 U]), (w.heap.size, [.int .i64 i, .int .i64 m, .int .i64 d, .int .i64 u])]) Mz3.out ?_
  clear c3_0_0 c3_0_1 c3_0_2 c3_0_3 c3_1_0 c3_1_1 c3_1_2 c3_1_3
  intro W4 K4'
  have K4 : Hid (BS w [(W3.heap.size, [.int .i64 a1, .int .i64 M, .int .i64 D, .int .i64 U]), (W1.heap.size, [.int .i64 a1, .int .i64 M, .int .i64 D, .int .i64 U]), (w.heap.size, [.int .i64 i, .int .i64 m, .int .i64 d, .int .i64 u])] W4) := K4'
  clear K4' Mz3 K3
  have c4_0_0 : W4.cell? ⟨W3.heap.size, 0, none⟩ = some (.int .i64 a1) := (K4.out.at (W3.heap.size) [.int .i64 a1, .int .i64 M, .int .i64 D, .int .i64 U] (by simp)).c 0 rfl
  have c4_0_1 : W4.cell? ⟨W3.heap.size, 1, none⟩ = some (.int .i64 M) := (K4.out.at (W3.heap.size) [.int .i64 a1, .int .i64 M, .int .i64 D, .int .i64 U] (by simp)).c 1 rfl
  have c4_0_2 : W4.cell? ⟨W3.heap.size, 2, none⟩ = some (.int .i64 D) := (K4.out.at (W3.heap.size) [.int .i64 a1, .int .i64 M, .int .i64 D, .int .i64 U] (by simp)).c 2 rfl
  have c4_0_3 : W4.cell? ⟨W3.heap.size, 3, none⟩ = some (.int .i64 U) := (K4.out.at (W3.heap.size) [.int .i64 a1, .int .i64 M, .int .i64 D, .int .i64 U] (by simp)).c 3 rfl
  have c4_1_0 : W4.cell? ⟨W1.heap.size, 0, none⟩ = some (.int .i64 a1) := (K4.out.at (W1.heap.size) [.int .i64 a1, .int .i64 M, .int .i64 D, .int .i64 U] (by simp)).c 0 rfl
  have c4_1_1 : W4.cell? ⟨W1.heap.size, 1, none⟩ = some (.int .i64 M) := (K4.out.at (W1.heap.size) [.int .i64 a1, .int .i64 M, .int .i64 D, .int .i64 U] (by simp)).c 1 rfl
  have c4_1_2 : W4.cell? ⟨W1.heap.size, 2, none⟩ = some (.int .i64 D) := (K4.out.at (W1.heap.size) [.int .i64 a1, .int .i64 M, .int .i64 D, .int .i64 U] (by simp)).c 2 rfl
  have c4_1_3 : W4.cell? ⟨W1.heap.size, 3, none⟩ = some (.int .i64 U) := (K4.out.at (W1.heap.size) [.int .i64 a1, .int .i64 M, .int .i64 D, .int .i64 U] (by simp)).c 3 rfl
  have c4_2_0 : W4.cell? ⟨w.heap.size, 0, none⟩ = some (.int .i64 i) := (K4.out.at (w.heap.size) [.int .i64 i, .int .i64 m, .int .i64 d, .int .i64 u] (by simp)).c 0 rfl
  have c4_2_1 : W4.cell? ⟨w.heap.size, 1, none⟩ = some (.int .i64 m) := (K4.out.at (w.heap.size) [.int .i64 i, .int .i64 m, .int .i64 d, .int .i64 u] (by simp)).c 1 rfl
  have c4_2_2 : W4.cell? ⟨w.heap.size, 2, none⟩ = some (.int .i64 d) := (K4.out.at (w.heap.size) [.int .i64 i, .int .i64 m, .int .i64 d, .int .i64 u] (by simp)).c 2 rfl
  have c4_2_3 : W4.cell? ⟨w.heap.size, 3, none⟩ = some (.int .i64 u) := (K4.out.at (w.heap.size) [.int .i64 i, .int .i64 m, .int .i64 d, .int .i64 u] (by simp)).c 3 rfl
  go_wp2_with fail
  refine (C.out _).mono ?_
  rintro e W5 ⟨rfl, hb⟩
  have K5 : Hid (BS w [(W3.heap.size, [.int .i64 a1, .int .i64 M, .int .i64 D, .int .i64 U]), (W1.heap.size, [.int .i64 a1, .int .i64 M, .int .i64 D, .int .i64 U]), (w.heap.size, [.int .i64 i, .int .i64 m, .int .i64 d, .int .i64 u])] W5) := K4.out.below hb
  clear c4_0_0 c4_0_1 c4_0_2 c4_0_3 c4_1_0 c4_1_1 c4_1_2 c4_1_3 c4_2_0 c4_2_1 c4_2_2 c4_2_3
  clear hb K4
  have c5_0_0 : W5.cell? ⟨W3.heap.size, 0, none⟩ = some (.int .i64 a1) := (K5.out.at (W3.heap.size) [.int .i64 a1, .int .i64 M, .int .i64 D, .int .i64 U] (by simp)).c 0 rfl
  have c5_0_1 : W5.cell? ⟨W3.heap.size, 1, none⟩ = some (.int .i64 M) := (K5.out.at (W3.heap.size) [.int .i64 a1, .int .i64 M, .int .i64 D, .int .i64 U] (by simp)).c 1 rfl
  have c5_0_2 : W5.cell? ⟨W3.heap.size, 2, none⟩ = some (.int .i64 D) := (K5.out.at (W3.heap.size) [.int .i64 a1, .int .i64 M, .int .i64 D, .int .i64 U] (by simp)).c 2 rfl
  have c5_0_3 : W5.cell? ⟨W3.heap.size, 3, none⟩ = some (.int .i64 U) := (K5.out.at (W3.heap.size) [.int .i64 a1, .int .i64 M, .int .i64 D, .int .i64 U] (by simp)).c 3 rfl
  have c5_1_0 : W5.cell? ⟨W1.heap.size, 0, none⟩ = some (.int .i64 a1) := (K5.out.at (W1.heap.size) [.int .i64 a1, .int .i64 M, .int .i64 D, .int .i64 U] (by simp)).c 0 rfl
  have c5_1_1 : W5.cell? ⟨W1.heap.size, 1, none⟩ = some (.int .i64 M) := (K5.out.at (W1.heap.size) [.int .i64 a1, .int .i64 M, .int .i64 D, .int .i64 U] (by simp)).c 1 rfl
  have c5_1_2 : W5.cell? ⟨W1.heap.size, 2, none⟩ = some (.int .i64 D) := (K5.out.at (W1.heap.size) [.int .i64 a1, .int .i64 M, .int .i64 D, .int .i64 U] (by simp)).c 2 rfl
  have c5_1_3 : W5.cell? ⟨W1.heap.size, 3, none⟩ = some (.int .i64 U) := (K5.out.at (W1.heap.size) [.int .i64 a1, .int .i64 M, .int .i64 D, .int .i64 U] (by simp)).c 3 rfl
  have c5_2_0 : W5.cell? ⟨w.heap.size, 0, none⟩ = some (.int .i64 i) := (K5.out.at (w.heap.size) [.int .i64 i, .int .i64 m, .int .i64 d, .int .i64 u] (by simp)).c 0 rfl
  have c5_2_1 : W5.cell? ⟨w.heap.size, 1, none⟩ = some (.int .i64 m) := (K5.out.at (w.heap.size) [.int .i64 i, .int .i64 m, .int .i64 d, .int .i64 u] (by simp)).c 1 rfl
  have c5_2_2 : W5.cell? ⟨w.heap.size, 2, none⟩ = some (.int .i64 d) := (K5.out.at (w.heap.size) [.int .i64 i, .int .i64 m, .int .i64 d, .int .i64 u] (by simp)).c 2 rfl
  have c5_2_3 : W5.cell? ⟨w.heap.size, 3, none⟩ = some (.int .i64 u) := (K5.out.at (w.heap.size) [.int .i64 i, .int .i64 m, .int .i64 d, .int .i64 u] (by simp)).c 3 rfl
  go_wp2_with fail
  refine (KN.out _).mono ?_
  rintro e W6 ⟨rfl, hb⟩
  have K6 : Hid (BS w [(W3.heap.size, [.int .i64 a1, .int .i64 M, .int .i64 D, .int .i64 U]), (W1.heap.size, [.int .i64 a1, .int .i64 M, .int .i64 D, .int .i64 U]), (w.heap.size, [.int .i64 i, .int .i64 m, .int .i64 d, .int .i64 u])] W6) := K5.out.below hb
  clear c5_0_0 c5_0_1 c5_0_2 c5_0_3 c5_1_0 c5_1_1 c5_1_2 c5_1_3 c5_2_0 c5_2_1 c5_2_2 c5_2_3
  clear hb K5
  have c6_0_0 : W6.cell? ⟨W3.heap.size, 0, none⟩ = some (.int .i64 a1) := (K6.out.at (W3.heap.size) [.int .i64 a1, .int .i64 M, .int .i64 D, .int .i64 U] (by simp)).c 0 rfl
  have c6_0_1 : W6.cell? ⟨W3.heap.size, 1, none⟩ = some (.int .i64 M) := (K6.out.at (W3.heap.size) [.int .i64 a1, .int .i64 M, .int .i64 D, .int .i64 U] (by simp)).c 1 rfl
  have c6_0_2 : W6.cell? ⟨W3.heap.size, 2, none⟩ = some (.int .i64 D) := (K6.out.at (W3.heap.size) [.int .i64 a1, .int .i64 M, .int .i64 D, .int .i64 U] (by simp)).c 2 rfl
  have c6_0_3 : W6.cell? ⟨W3.heap.size, 3, none⟩ = some (.int .i64 U) := (K6.out.at (W3.heap.size) [.int .i64 a1, .int .i64 M, .int .i64 D, .int .i64 U] (by simp)).c 3 rfl
  have c6_1_0 : W6.cell? ⟨W1.heap.size, 0, none⟩ = some (.int .i64 a1) := (K6.out.at (W1.heap.size) [.int .i64 a1, .int .i64 M, .int .i64 D, .int .i64 U] (by simp)).c 0 rfl
  have c6_1_1 : W6.cell? ⟨W1.heap.size, 1, none⟩ = some (.int .i64 M) := (K6.out.at (W1.heap.size) [.int .i64 a1, .int .i64 M, .int .i64 D, .int .i64 U] (by simp)).c 1 rfl
  have c6_1_2 : W6.cell? ⟨W1.heap.size, 2, none⟩ = some (.int .i64 D) := (K6.out.at (W1.heap.size) [.int .i64 a1, .int .i64 M, .int .i64 D, .int .i64 U] (by simp)).c 2 rfl
  have c6_1_3 : W6.cell? ⟨W1.heap.size, 3, none⟩ = some (.int .i64 U) := (K6.out.at (W1.heap.size) [.int .i64 a1, .int .i64 M, .int .i64 D, .int .i64 U] (by simp)).c 3 rfl
  have c6_2_0 : W6.cell? ⟨w.heap.size, 0, none⟩ = some (.int .i64 i) := (K6.out.at (w.heap.size) [.int .i64 i, .int .i64 m, .int .i64 d, .int .i64 u] (by simp)).c 0 rfl
  have c6_2_1 : W6.cell? ⟨w.heap.size, 1, none⟩ = some (.int .i64 m) := (K6.out.at (w.heap.size) [.int .i64 i, .int .i64 m, .int .i64 d, .int .i64 u] (by simp)).c 1 rfl
  have c6_2_2 : W6.cell? ⟨w.heap.size, 2, none⟩ = some (.int .i64 d) := (K6.out.at (w.heap.size) [.int .i64 i, .int .i64 m, .int .i64 d, .int .i64 u] (by simp)).c 2 rfl
  have c6_2_3 : W6.cell? ⟨w.heap.size, 3, none⟩ = some (.int .i64 u) := (K6.out.at (w.heap.size) [.int .i64 i, .int .i64 m, .int .i64 d, .int .i64 u] (by simp)).c 3 rfl
  go_wp2
  go_ret
  exact ⟨rfl, K6.out.1⟩

set_option maxRecDepth 100000 in
set_option maxHeartbeats 4000000 in
theorem core_SpanJus_n2 (i m d u a1 D U : Int) (h0 : D < 0) (h2 : ¬ 0 < D) (h3 : ¬ 0 < U)
    (J1 : Hid (∀ w : World, Calls Try.prog 26 #[.agg #[.int .i64 i, .int .i64 m, .int .i64 d, .int .i64 u]] w fun r' w' => r' = .returned (.tuple #[.agg #[.int .i64 a1, .int .i64 0, .int .i64 D, .int .i64 U], .int .i64 0]) ∧ Below w.heap.size w w'))
    (J2 : Hid (∀ w : World, Calls Try.prog 27 #[.agg #[.int .i64 i, .int .i64 m, .int .i64 d, .int .i64 u]] w fun r' w' => r' = .returned (.tuple #[.agg #[.int .i64 a1, .int .i64 0, .int .i64 D, .int .i64 U], .int .i64 0]) ∧ Below w.heap.size w w'))
    (C : Hid (∀ w : World, Calls Try.prog 22 #[.agg #[.int .i64 i, .int .i64 m, .int .i64 d, .int .i64 u], .agg #[.int .i64 a1, .int .i64 0, .int .i64 D, .int .i64 U]] w fun r' w' => r' = .returned (.int .i64 0) ∧ Below w.heap.size w w'))
    (KN : Hid (∀ w : World, Calls Try.prog 17 #[] w fun r' w' => r' = .returned (.bool true) ∧ Below w.heap.size w w'))
    (w : World) :
    Calls Try.prog 6 #[.agg #[.int .i64 i, .int .i64 m, .int .i64 d, .int .i64 u]] w fun r' w' => r' = .returned (.bool true) ∧ Below w.heap.size w w' := by
  have K0 : Hid (BS w [(w.heap.size, [.int .i64 i, .int .i64 m, .int .i64 d, .int .i64 u])] (w.alloc (.cells #[.int .i64 i, .int .i64 m, .int .i64 d, .int .i64 u] 23))) := ((BS.start w).new [.int .i64 i, .int .i64 m, .int .i64 d, .int .i64 u] 23 rfl)
  go_enter Try.func6, Try.ntmps6
  go_wp2_with fail
  refine (J1.out _).mono ?_
  rintro e W1 ⟨rfl, hb⟩
  have K1 : Hid (BS w [(w.heap.size, [.int .i64 i, .int .i64 m, .int .i64 d, .int .i64 u])] W1) := K0.out.below hb
  clear hb K0
  have c1_0_0 : W1.cell? ⟨w.heap.size, 0, none⟩ = some (.int .i64 i) := (K1.out.at (w.heap.size) [.int .i64 i, .int .i64 m, .int .i64 d, .int .i64 u] (by simp)).c 0 rfl
  have c1_0_1 : W1.cell? ⟨w.heap.size, 1, none⟩ = some (.int .i64 m) := (K1.out.at (w.heap.size) [.int .i64 i, .int .i64 m, .int .i64 d, .int .i64 u] (by simp)).c 1 rfl
  have c1_0_2 : W1.cell? ⟨w.heap.size, 2, none⟩ = some (.int .i64 d) := (K1.out.at (w.heap.size) [.int .i64 i, .int .i64 m, .int .i64 d, .int .i64 u] (by simp)).c 2 rfl
  have c1_0_3 : W1.cell? ⟨w.heap.size, 3, none⟩ = some (.int .i64 u) := (K1.out.at (w.heap.size) [.int .i64 i, .int .i64 m, .int .i64 d, .int .i64 u] (by simp)).c 3 rfl
  have Mz1 : Hid (BS w [(W1.heap.size, [.int .i64 a1, .int .i64 0, .int .i64 D, .int .i64 U]), (w.heap.size, [.int .i64 i, .int .i64 m, .int .i64 d, .int .i64 u])] (W1.alloc (.cells #[.int .i64 a1, .int .i64 0, .int .i64 D, .int .i64 U] 23))) := K1.out.new [.int .i64 a1, .int .i64 0, .int .i64 D, .int .i64 U] 23 rfl
  go_upto_region 2 with fail
  refine gen_to (BS w [(W1.heap.size, [.int .i64 a1, .int .i64 0, .int .i64 D, .int .i64 U]), (w.heap.size, [.int .i64 i, .int .i64 m, .int .i64 d, .int .i64 u])]) Mz1.out ?_
  clear c1_0_0 c1_0_1 c1_0_2 c1_0_3
  intro W2 K2'
  have K2 : Hid (BS w [(W1.heap.size, [.int .i64 a1, .int .i64 0, .int .i64 D, .int .i64 U]), (w.heap.size, [.int .i64 i, .int .i64 m, .int .i64 d, .int .i64 u])] W2) := K2'
  clear K2' Mz1 K1
  have c2_0_0 : W2.cell? ⟨W1.heap.size, 0, none⟩ = some (.int .i64 a1) := (K2.out.at (W1.heap.size) [.int .i64 a1, .int .i64 0, .int .i64 D, .int .i64 U] (by simp)).c 0 rfl
  have c2_0_1 : W2.cell? ⟨W1.heap.size, 1, none⟩ = some (.int .i64 0) := (K2.out.at (W1.heap.size) [.int .i64 a1, .int .i64 0, .int .i64 D, .int .i64 U] (by simp)).c 1 rfl
  have c2_0_2 : W2.cell? ⟨W1.heap.size, 2, none⟩ = some (.int .i64 D) := (K2.out.at (W1.heap.size) [.int .i64 a1, .int .i64 0, .int .i64 D, .int .i64 U] (by simp)).c 2 rfl
  have c2_0_3 : W2.cell? ⟨W1.heap.size, 3, none⟩ = some (.int .i64 U) := (K2.out.at (W1.heap.size) [.int .i64 a1, .int .i64 0, .int .i64 D, .int .i64 U] (by simp)).c 3 rfl
  have c2_1_0 : W2.cell? ⟨w.heap.size, 0, none⟩ = some (.int .i64 i) := (K2.out.at (w.heap.size) [.int .i64 i, .int .i64 m, .int .i64 d, .int .i64 u] (by simp)).c 0 rfl
  have c2_1_1 : W2.cell? ⟨w.heap.size, 1, none⟩ = some (.int .i64 m) := (K2.out.at (w.heap.size) [.int .i64 i, .int .i64 m, .int .i64 d, .int .i64 u] (by simp)).c 1 rfl
  have c2_1_2 : W2.cell? ⟨w.heap.size, 2, none⟩ = some (.int .i64 d) := (K2.out.at (w.heap.size) [.int .i64 i, .int .i64 m, .int .i64 d, .int .i64 u] (by simp)).c 2 rfl
  have c2_1_3 : W2.cell? ⟨w.heap.size, 3, none⟩ = some (.int .i64 u) := (K2.out.at (w.heap.size) [.int .i64 i, .int .i64 m, .int .i64 d, .int .i64 u] (by simp)).c 3 rfl
  go_wp2_with fail
  refine (J2.out _).mono ?_
  rintro e W3 ⟨rfl, hb⟩
  have K3 : Hid (BS w [(W1.heap.size, [.int .i64 a1, .int .i64 0, .int .i64 D, .int .i64 U]), (w.heap.size, [.int .i64 i, .int .i64 m, .int .i64 d, .int .i64 u])] W3) := K2.out.below hb
  clear c2_0_0 c2_0_1 c2_0_2 c2_0_3 c2_1_0 c2_1_1 c2_1_2 c2_1_3
  clear hb K2
  have c3_0_0 : W3.cell? ⟨W1.heap.size, 0, none⟩ = some (.int .i64 a1) := (K3.out.at (W1.heap.size) [.int .i64 a1, .int .i64 0, .int .i64 D, .int .i64 U] (by simp)).c 0 rfl
  have c3_0_1 : W3.cell? ⟨W1.heap.size, 1, none⟩ = some (.int .i64 0) := (K3.out.at (W1.heap.size) [.int .i64 a1, .int .i64 0, .int .i64 D, .int .i64 U] (by simp)).c 1 rfl
  have c3_0_2 : W3.cell? ⟨W1.heap.size, 2, none⟩ = some (.int .i64 D) := (K3.out.at (W1.heap.size) [.int .i64 a1, .int .i64 0, .int .i64 D, .int .i64 U] (by simp)).c 2 rfl
  have c3_0_3 : W3.cell? ⟨W1.heap.size, 3, none⟩ = some (.int .i64 U) := (K3.out.at (W1.heap.size) [.int .i64 a1, .int .i64 0, .int .i64 D, .int .i64 U] (by simp)).c 3 rfl
  have c3_1_0 : W3.cell? ⟨w.heap.size, 0, none⟩ = some (.int .i64 i) := (K3.out.at (w.heap.size) [.int .i64 i, .int .i64 m, .int .i64 d, .int .i64 u] (by simp)).c 0 rfl
  have c3_1_1 : W3.cell? ⟨w.heap.size, 1, none⟩ = some (.int .i64 m) := (K3.out.at (w.heap.size) [.int .i64 i, .int .i64 m, .int .i64 d, .int .i64 u] (by simp)).c 1 rfl
  have c3_1_2 : W3.cell? ⟨w.heap.size, 2, none⟩ = some (.int .i64 d) := (K3.out.at (w.heap.size) [.int .i64 i, .int .i64 m, .int .i64 d, .int .i64 u] (by simp)).c 2 rfl
  have c3_1_3 : W3.cell? ⟨w.heap.size, 3, none⟩ = some (.int .i64 u) := (K3.out.at (w.heap.size) [.int .i64 i, .int .i64 m, .int .i64 d, .int .i64 u] (by simp)).c 3 rfl
  have Mz3 : Hid (BS w [(W3.heap.size, [.int .i64 a1, .int .i64 0, .int .i64 D, .int .i64 U]), (W1.heap.size, [.int .i64 a1, .int .i64 0, .int .i64 D, .int .i64 U]), (w.heap.size, [.int .i64 i, .int .i64 m, .int .i64 d, .int .i64 u])] (W3.alloc (.cells #[.int .i64 a1, .int .i64 0, .int .i64 D, .int .i64 U] 23))) := K3.out.new [.int .i64 a1, .int .i64 0, .int .i64 D, .int .i64 U] 23 rfl
  go_upto_region 3 with fail
  refine gen_to (BS w [(W3.heap.size, [.int .i64 a1, .int .i64 0, .int .i64 D, .int .i64 U]), (W1.heap.size, [.int .i64 a1, .int .i64 0, .int .i64 D, .int .i64 U]), (w.heap.size, [.int .i64 i, .int .i64 m, .int .i64 d, .int .i64 u])]) Mz3.out ?_
  clear c3_0_0 c3_0_1 c3_0_2 c3_0_3 c3_1_0 c3_1_1 c3_1_2 c3_1_3
  intro W4 K4'
  have K4 : Hid (BS w [(W3.heap.size, [.int .i64 a1, .int .i64 0, .int .i64 D, .int .i64 U]), (W1.heap.size, [.int .i64 a1, .int .i64 0, .int .i64 D, .int .i64 U]), (w.heap.size, [.int .i64 i, .int .i64 m, .int .i64 d, .int .i64 u])] W4) := K4'
  clear K4' Mz3 K3
  have c4_0_0 : W4.cell? ⟨W3.heap.size, 0, none⟩ = some (.int .i64 a1) := (K4.out.at (W3.heap.size) [.int .i64 a1, .int .i64 0, .int .i64 D, .int .i64 U] (by simp)).c 0 rfl
  have c4_0_1 : W4.cell? ⟨W3.heap.size, 1, none⟩ = some (.int .i64 0) := (K4.out.at (W3.heap.size) [.int .i64 a1, .int .i64 0, .int .i64 D, .int .i64 U] (by simp)).c 1 rfl
  have c4_0_2 : W4.cell? ⟨W3.heap.size, 2, none⟩ = some (.int .i64 D) := (K4.out.at (W3.heap.size) [.int .i64 a1, .int .i64 0, .int .i64 D, .int .i64 U] (by simp)).c 2 rfl
  have c4_0_3 : W4.cell? ⟨W3.heap.size, 3, none⟩ = some (.int .i64 U) := (K4.out.at (W3.heap.size) [.int .i64 a1, .int .i64 0, .int .i64 D, .int .i64 U] (by simp)).c 3 rfl
  have c4_1_0 : W4.cell? ⟨W1.heap.size, 0, none⟩ = some (.int .i64 a1) := (K4.out.at (W1.heap.size) [.int .i64 a1, .int .i64 0, .int .i64 D, .int .i64 U] (by simp)).c 0 rfl
  have c4_1_1 : W4.cell? ⟨W1.heap.size, 1, none⟩ = some (.int .i64 0) := (K4.out.at (W1.heap.size) [.int .i64 a1, .int .i64 0, .int .i64 D, .int .i64 U] (by simp)).c 1 rfl
  have c4_1_2 : W4.cell? ⟨W1.heap.size, 2, none⟩ = some (.int .i64 D) := (K4.out.at (W1.heap.size) [.int .i64 a1, .int .i64 0, .int .i64 D, .int .i64 U] (by simp)).c 2 rfl
  have c4_1_3 : W4.cell? ⟨W1.heap.size, 3, none⟩ = some (.int .i64 U) := (K4.out.at (W1.heap.size) [.int .i64 a1, .int .i64 0, .int .i64 D, .int .i64 U] (by simp)).c 3 rfl
  have c4_2_0 : W4.cell? ⟨w.heap.size, 0, none⟩ = some (.int .i64 i) := (K4.out.at (w.heap.size) [.int .i64 i, .int .i64 m, .int .i64 d, .int .i64 u] (by simp)).c 0 rfl
  have c4_2_1 : W4.cell? ⟨w.heap.size, 1, none⟩ = some (.int .i64 m) := (K4.out.at (w.heap.size) [.int .i64 i, .int .i64 m, .int .i64 d, .int .i64 u] (by simp)).c 1 rfl
  have c4_2_2 : W4.cell? ⟨w.heap.size, 2, none⟩ = some (.int .i64 d) := (K4.out.at (w.heap.size) [.int .i64 i, .int .i64 m, .int .i64 d, .int .i64 u] (by simp)).c 2 rfl
  have c4_2_3 : W4.cell? ⟨w.heap.size, 3, none⟩ = some (.int .i64 u) := (K4.out.at (w.heap.size) [.int .i64 i, .int .i64 m, .int .i64 d, .int .i64 u] (by simp)).c 3 rfl
  go_wp2_with fail
  refine (C.out _).mono ?_
  rintro e W5 ⟨rfl, hb⟩
  have K5 : Hid (BS w [(W3.heap.size, [.int .i64 a1, .int .i64 0, .int .i64 D, .int .i64 U]), (W1.heap.size, [.int .i64 a1, .int .i64 0, .int .i64 D, .int .i64 U]), (w.heap.size, [.int .i64 i, .int .i64 m, .int .i64 d, .int .i64 u])] W5) := K4.out.below hb
  clear c4_0_0 c4_0_1 c4_0_2 c4_0_3 c4_1_0 c4_1_1 c4_1_2 c4_1_3 c4_2_0 c4_2_1 c4_2_2 c4_2_3
  clear hb K4
  have c5_0_0 : W5.cell? ⟨W3.heap.size, 0, none⟩ = some (.int .i64 a1) := (K5.out.at (W3.heap.size) [.int .i64 a1, .int .i64 0, .int .i64 D, .int .i64 U] (by simp)).c 0 rfl
  have c5_0_1 : W5.cell? ⟨W3.heap.size, 1, none⟩ = some (.int .i64 0) := (K5.out.at (W3.heap.size) [.int .i64 a1, .int .i64 0, .int .i64 D, .int .i64 U] (by simp)).c 1 rfl
  have c5_0_2 : W5.cell? ⟨W3.heap.size, 2, none⟩ = some (.int .i64 D) := (K5.out.at (W3.heap.size) [.int .i64 a1, .int .i64 0, .int .i64 D, .int .i64 U] (by simp)).c 2 rfl
  have c5_0_3 : W5.cell? ⟨W3.heap.size, 3, none⟩ = some (.int .i64 U) := (K5.out.at (W3.heap.size) [.int .i64 a1, .int .i64 0, .int .i64 D, .int .i64 U] (by simp)).c 3 rfl
  have c5_1_0 : W5.cell? ⟨W1.heap.size, 0, none⟩ = some (.int .i64 a1) := (K5.out.at (W1.heap.size) [.int .i64 a1, .int .i64 0, .int .i64 D, .int .i64 U] (by simp)).c 0 rfl
  have c5_1_1 : W5.cell? ⟨W1.heap.size, 1, none⟩ = some (.int .i64 0) := (K5.out.at (W1.heap.size) [.int .i64 a1, .int .i64 0, .int .i64 D, .int .i64 U] (by simp)).c 1 rfl
  have c5_1_2 : W5.cell? ⟨W1.heap.size, 2, none⟩ = some (.int .i64 D) := (K5.out.at (W1.heap.size) [.int .i64 a1, .int .i64 0, .int .i64 D, .int .i64 U] (by simp)).c 2 rfl
  have c5_1_3 : W5.cell? ⟨W1.heap.size, 3, none⟩ = some (.int .i64 U) := (K5.out.at (W1.heap.size) [.int .i64 a1, .int .i64 0, .int .i64 D, .int .i64 U] (by simp)).c 3 rfl
  have c5_2_0 : W5.cell? ⟨w.heap.size, 0, none⟩ = some (.int .i64 i) := (K5.out.at (w.heap.size) [.int .i64 i, .int .i64 m, .int .i64 d, .int .i64 u] (by simp)).c 0 rfl
  have c5_2_1 : W5.cell? ⟨w.heap.size, 1, none⟩ = some (.int .i64 m) := (K5.out.at (w.heap.size) [.int .i64 i, .int .i64 m, .int .i64 d, .int .i64 u] (by simp)).c 1 rfl
  have c5_2_2 : W5.cell? ⟨w.heap.size, 2, none⟩ = some (.int .i64 d) := (K5.out.at (w.heap.size) [.int .i64 i, .int .i64 m, .int .i64 d, .int .i64 u] (by simp)).c 2 rfl
  have c5_2_3 : W5.cell? ⟨w.heap.size, 3, none⟩ = some (.int .i64 u) := (K5.out.at (w.heap.size) [.int .i64 i, .int .i64 m, .int .i64 d, .int .i64 u] (by simp)).c 3 rfl
  go_wp2_with fail
  refine (KN.out _).mono ?_
  rintro e W6 ⟨rfl, hb⟩
  have K6 : Hid (BS w [(W3.heap.size, [.int .i64 a1, .int .i64 0, .int .i64 D, .int .i64 U]), (W1.heap.size, [.int .i64 a1, .int .i64 0, .int .i64 D, .int .i64 U]), (w.heap.size, [.int .i64 i, .int .i64 m, .int .i64 d, .int .i64 u])] W6) := K5.out.below hb
  clear c5_0_0 c5_0_1 c5_0_2 c5_0_3 c5_1_0 c5_1_1 c5_1_2 c5_1_3 c5_2_0 c5_2_1 c5_2_2 c5_2_3
  clear hb K5
  have c6_0_0 : W6.cell? ⟨W3.heap.size, 0, none⟩ = some (.int .i64 a1) := (K6.out.at (W3.heap.size) [.int .i64 a1, .int .i64 0, .int .i64 D, .int .i64 U] (by simp)).c 0 rfl
  have c6_0_1 : W6.cell? ⟨W3.heap.size, 1, none⟩ = some (.int .i64 0) := (K6.out.at (W3.heap.size) [.int .i64 a1, .int .i64 0, .int .i64 D, .int .i64 U] (by simp)).c 1 rfl
  have c6_0_2 : W6.cell? ⟨W3.heap.size, 2, none⟩ = some (.int .i64 D) := (K6.out.at (W3.heap.size) [.int .i64 a1, .int .i64 0, .int .i64 D, .int .i64 U] (by simp)).c 2 rfl
  have c6_0_3 : W6.cell? ⟨W3.heap.size, 3, none⟩ = some (.int .i64 U) := (K6.out.at (W3.heap.size) [.int .i64 a1, .int .i64 0, .int .i64 D, .int .i64 U] (by simp)).c 3 rfl
  have c6_1_0 : W6.cell? ⟨W1.heap.size, 0, none⟩ = some (.int .i64 a1) := (K6.out.at (W1.heap.size) [.int .i64 a1, .int .i64 0, .int .i64 D, .int .i64 U] (by simp)).c 0 rfl
  have c6_1_1 : W6.cell? ⟨W1.heap.size, 1, none⟩ = some (.int .i64 0) := (K6.out.at (W1.heap.size) [.int .i64 a1, .int .i64 0, .int .i64 D, .int .i64 U] (by simp)).c 1 rfl
  have c6_1_2 : W6.cell? ⟨W1.heap.size, 2, none⟩ = some (.int .i64 D) := (K6.out.at (W1.heap.size) [.int .i64 a1, .int .i64 0, .int .i64 D, .int .i64 U] (by simp)).c 2 rfl
  have c6_1_3 : W6.cell? ⟨W1.heap.size, 3, none⟩ = some (.int .i64 U) := (K6.out.at (W1.heap.size) [.int .i64 a1, .int .i64 0, .int .i64 D, .int .i64 U] (by simp)).c 3 rfl
  have c6_2_0 : W6.cell? ⟨w.heap.size, 0, none⟩ = some (.int .i64 i) := (K6.out.at (w.heap.size) [.int .i64 i, .int .i64 m, .int .i64 d, .int .i64 u] (by simp)).c 0 rfl
  have c6_2_1 : W6.cell? ⟨w.heap.size, 1, none⟩ = some (.int .i64 m) := (K6.out.at (w.heap.size) [.int .i64 i, .int .i64 m, .int .i64 d, .int .i64 u] (by simp)).c 1 rfl
  have c6_2_2 : W6.cell? ⟨w.heap.size, 2, none⟩ = some (.int .i64 d) := (K6.out.at (w.heap.size) [.int .i64 i, .int .i64 m, .int .i64 d, .int .i64 u] (by simp)).c 2 rfl
  have c6_2_3 : W6.cell? ⟨w.heap.size, 3, none⟩ = some (.int .i64 u) := (K6.out.at (w.heap.size) [.int .i64 i, .int .i64 m, .int .i64 d, .int .i64 u] (by simp)).c 3 rfl
  go_wp2
  go_ret
  exact ⟨rfl, K6.out.1⟩

set_option maxRecDepth 100000 in
set_option maxHeartbeats 4000000 in
theorem core_SpanJus_n3 (i m d u a1 U : Int) (h0 : U < 0) (h3 : ¬ 0 < U)
    (J1 : Hid (∀ w : World, Calls Try.prog 26 #[.agg #[.int .i64 i, .int .i64 m, .int .i64 d, .int .i64 u]] w fun r' w' => r' = .returned (.tuple #[.agg #[.int .i64 a1, .int .i64 0, .int .i64 0, .int .i64 U], .int .i64 0]) ∧ Below w.heap.size w w'))
    (J2 : Hid (∀ w : World, Calls Try.prog 27 #[.agg #[.int .i64 i, .int .i64 m, .int .i64 d, .int .i64 u]] w fun r' w' => r' = .returned (.tuple #[.agg #[.int .i64 a1, .int .i64 0, .int .i64 0, .int .i64 U], .int .i64 0]) ∧ Below w.heap.size w w'))
    (C : Hid (∀ w : World, Calls Try.prog 22 #[.agg #[.int .i64 i, .int .i64 m, .int .i64 d, .int .i64 u], .agg #[.int .i64 a1, .int .i64 0, .int .i64 0, .int .i64 U]] w fun r' w' => r' = .returned (.int .i64 0) ∧ Below w.heap.size w w'))
    (KN : Hid (∀ w : World, Calls Try.prog 17 #[] w fun r' w' => r' = .returned (.bool true) ∧ Below w.heap.size w w'))
    (w : World) :
    Calls Try.prog 6 #[.agg #[.int .i64 i, .int .i64 m, .int .i64 d, .int .i64 u]] w fun r' w' => r' = .returned (.bool true) ∧ Below w.heap.size w w' := by
  have K0 : Hid (BS w [(w.heap.size, [.int .i64 i, .int .i64 m, .int .i64 d, .int .i64 u])] (w.alloc (.cells #[.int .i64 i, .int .i64 m, .int .i64 d, .int .i64 u] 23))) := ((BS.start w).new [.int .i64 i, .int .i64 m, .int .i64 d, .int .i64 u] 23 rfl)
  go_enter Try.func6, Try.ntmps6
  go_wp2_with fail
  refine (J1.out _).mono ?_
  rintro e W1 ⟨rfl, hb⟩
  have K1 : Hid (BS w [(w.heap.size, [.int .i64 i, .int .i64 m, .int .i64 d, .int .i64 u])] W1) := K0.out.below hb
  clear hb K0
  have c1_0_0 : W1.cell? ⟨w.heap.size, 0, none⟩ = some (.int .i64 i) := (K1.out.at (w.heap.size) [.int .i64 i, .int .i64 m, .int .i64 d, .int .i64 u] (by simp)).c 0 rfl
  have c1_0_1 : W1.cell? ⟨w.heap.size, 1, none⟩ = some (.int .i64 m) := (K1.out.at (w.heap.size) [.int .i64 i, .int .i64 m, .int .i64 d, .int .i64 u] (by simp)).c 1 rfl
  have c1_0_2 : W1.cell? ⟨w.heap.size, 2, none⟩ = some (.int .i64 d) := (K1.out.at (w.heap.size) [.int .i64 i, .int .i64 m, .int .i64 d, .int .i64 u] (by simp)).c 2 rfl
  have c1_0_3 : W1.cell? ⟨w.heap.size, 3, none⟩ = some (.int .i64 u) := (K1.out.at (w.heap.size) [.int .i64 i, .int .i64 m, .int .i64 d, .int .i64 u] (by simp)).c 3 rfl
  have Mz1 : Hid (BS w [(W1.heap.size, [.int .i64 a1, .int .i64 0, .int .i64 0, .int .i64 U]), (w.heap.size, [.int .i64 i, .int .i64 m, .int .i64 d, .int .i64 u])] (W1.alloc (.cells #[.int .i64 a1, .int .i64 0, .int .i64 0, .int .i64 U] 23))) := K1.out.new [.int .i64 a1, .int .i64 0, .int .i64 0, .int .i64 U] 23 rfl
  go_upto_region 2 with fail
  refine gen_to (BS w [(W1.heap.size, [.int .i64 a1, .int .i64 0, .int .i64 0, .int .i64 U]), (w.heap.size, [.int .i64 i, .int .i64 m, .int .i64 d, .int .i64 u])]) Mz1.out ?_
  clear c1_0_0 c1_0_1 c1_0_2 c1_0_3
  intro W2 K2'
  have K2 : Hid (BS w [(W1.heap.size, [.int .i64 a1, .int .i64 0, .int .i64 0, .int .i64 U]), (w.heap.size, [.int .i64 i, .int .i64 m, .int .i64 d, .int .i64 u])] W2) := K2'
  clear K2' Mz1 K1
  have c2_0_0 : W2.cell? ⟨W1.heap.size, 0, none⟩ = some (.int .i64 a1) := (K2.out.at (W1.heap.size) [.int .i64 a1, .int .i64 0, .int .i64 0, .int .i64 U] (by simp)).c 0 rfl
  have c2_0_1 : W2.cell? ⟨W1.heap.size, 1, none⟩ = some (.int .i64 0) := (K2.out.at (W1.heap.size) [.int .i64 a1, .int .i64 0, .int .i64 0, .int .i64 U] (by simp)).c 1 rfl
  have c2_0_2 : W2.cell? ⟨W1.heap.size, 2, none⟩ = some (.int .i64 0) := (K2.out.at (W1.heap.size) [.int .i64 a1, .int .i64 0, .int .i64 0, .int .i64 U] (by simp)).c 2 rfl
  have c2_0_3 : W2.cell? ⟨W1.heap.size, 3, none⟩ = some (.int .i64 U) := (K2.out.at (W1.heap.size) [.int .i64 a1, .int .i64 0, .int .i64 0, .int .i64 U] (by simp)).c 3 rfl
  have c2_1_0 : W2.cell? ⟨w.heap.size, 0, none⟩ = some (.int .i64 i) := (K2.out.at (w.heap.size) [.int .i64 i, .int .i64 m, .int .i64 d, .int .i64 u] (by simp)).c 0 rfl
  have c2_1_1 : W2.cell? ⟨w.heap.size, 1, none⟩ = some (.int .i64 m) := (K2.out.at (w.heap.size) [.int .i64 i, .int .i64 m, .int .i64 d, .int .i64 u] (by simp)).c 1 rfl
  have c2_1_2 : W2.cell? ⟨w.heap.size, 2, none⟩ = some (.int .i64 d) := (K2.out.at (w.heap.size) [.int .i64 i, .int .i64 m, .int .i64 d, .int .i64 u] (by simp)).c 2 rfl
  have c2_1_3 : W2.cell? ⟨w.heap.size, 3, none⟩ = some (.int .i64 u) := (K2.out.at (w.heap.size) [.int .i64 i, .int .i64 m, .int .i64 d, .int .i64 u] (by simp)).c 3 rfl
  go_wp2_with fail
  refine (J2.out _).mono ?_
  rintro e W3 ⟨rfl, hb⟩
  have K3 : Hid (BS w [(W1.heap.size, [.int .i64 a1, .int .i64 0, .int .i64 0, .int .i64 U]), (w.heap.size, [.int .i64 i, .int .i64 m, .int .i64 d, .int .i64 u])] W3) := K2.out.below hb
  clear c2_0_0 c2_0_1 c2_0_2 c2_0_3 c2_1_0 c2_1_1 c2_1_2 c2_1_3
  clear hb K2
  have c3_0_0 : W3.cell? ⟨W1.heap.size, 0, none⟩ = some (.int .i64 a1) := (K3.out.at (W1.heap.size) [.int .i64 a1, .int .i64 0, .int .i64 0, .int .i64 U] (by simp)).c 0 rfl
  have c3_0_1 : W3.cell? ⟨W1.heap.size, 1, none⟩ = some (.int .i64 0) := (K3.out.at (W1.heap.size) [.int .i64 a1, .int .i64 0, .int .i64 0, .int .i64 U] (by simp)).c 1 rfl
  have c3_0_2 : W3.cell? ⟨W1.heap.size, 2, none⟩ = some (.int .i64 0) := (K3.out.at (W1.heap.size) [.int .i64 a1, .int .i64 0, .int .i64 0, .int .i64 U] (by simp)).c 2 rfl
  have c3_0_3 : W3.cell? ⟨W1.heap.size, 3, none⟩ = some (.int .i64 U) := (K3.out.at (W1.heap.size) [.int .i64 a1, .int .i64 0, .int .i64 0, .int .i64 U] (by simp)).c 3 rfl
  have c3_1_0 : W3.cell? ⟨w.heap.size, 0, none⟩ = some (.int .i64 i) := (K3.out.at (w.heap.size) [.int .i64 i, .int .i64 m, .int .i64 d, .int .i64 u] (by simp)).c 0 rfl
  have c3_1_1 : W3.cell? ⟨w.heap.size, 1, none⟩ = some (.int .i64 m) := (K3.out.at (w.heap.size) [.int .i64 i, .int .i64 m, .int .i64 d, .int .i64 u] (by simp)).c 1 rfl
  have c3_1_2 : W3.cell? ⟨w.heap.size, 2, none⟩ = some (.int .i64 d) := (K3.out.at (w.heap.size) [.int .i64 i, .int .i64 m, .int .i64 d, .int .i64 u] (by simp)).c 2 rfl
  have c3_1_3 : W3.cell? ⟨w.heap.size, 3, none⟩ = some (.int .i64 u) := (K3.out.at (w.heap.size) [.int .i64 i, .int .i64 m, .int .i64 d, .int .i64 u] (by simp)).c 3 rfl
  have Mz3 : Hid (BS w [(W3.heap.size, [.int .i64 a1, .int .i64 0, .int .i64 0, .int .i64 U]), (W1.heap.size, [.int .i64 a1, .int .i64 0, .int .i64 0, .int .i64 U]), (w.heap.size, [.int .i64 i, .int .i64 m, .int .i64 d, .int .i64 u])] (W3.alloc (.cells #[.int .i64 a1, .int .i64 0, .int .i64 0, .int .i64 U] 23))) := K3.out.new [.int .i64 a1, .int .i64 0, .int .i64 0, .int .i64 U] 23 rfl
  go_upto_region 3 with fail
  refine gen_to (BS w [(W3.heap.size, [.int .i64 a1, .int .i64 0, .int .i64 0, .int .i64 U]), (W1.heap.size, [.int .i64 a1, .int .i64 0, .int .i64 0, .int .i64 U]), (w.heap.size, [.int .i64 i, .int .i64 m, .int .i64 d, .int .i64 u])]) Mz3.out ?_
  clear c3_0_0 c3_0_1 c3_0_2 c3_0_3 c3_1_0 c3_1_1 c3_1_2 c3_1_3
  intro W4 K4'
  have K4 : Hid (BS w [(W3.heap.size, [.int .i64 a1, .int .i64 0, .int .i64 0, .int .i64 U]), (W1.heap.size, [.int .i64 a1, .int .i64 0, .int .i64 0, .int .i64 U]), (w.heap.size, [.int .i64 i, .int .i64 m, .int .i64 d, .int .i64 u])] W4) := K4'
  clear K4' Mz3 K3
  have c4_0_0 : W4.cell? ⟨W3.heap.size, 0, none⟩ = some (.int .i64 a1) := (K4.out.at (W3.heap.size) [.int .i64 a1, .int .i64 0, .int .i64 0, .int .i64 U] (by simp)).c 0 rfl
  have c4_0_1 : W4.cell? ⟨W3.heap.size, 1, none⟩ = some (.int .i64 0) := (K4.out.at (W3.heap.size) [.int .i64 a1, .int .i64 0, .int .i64 0, .int .i64 U] (by simp)).c 1 rfl
  have c4_0_2 : W4.cell? ⟨W3.heap.size, 2, none⟩ = some (.int .i64 0) := (K4.out.at (W3.heap.size) [.int .i64 a1, .int .i64 0, .int .i64 0, .int .i64 U] (by simp)).c 2 rfl
  have c4_0_3 : W4.cell? ⟨W3.heap.size, 3, none⟩ = some (.int .i64 U) := (K4.out.at (W3.heap.size) [.int .i64 a1, .int .i64 0, .int .i64 0, .int .i64 U] (by simp)).c 3 rfl
  have c4_1_0 : W4.cell? ⟨W1.heap.size, 0, none⟩ = some (.int .i64 a1) := (K4.out.at (W1.heap.size) [.int .i64 a1, .int .i64 0, .int .i64 0, .int .i64 U] (by simp)).c 0 rfl
  have c4_1_1 : W4.cell? ⟨W1.heap.size, 1, none⟩ = some (.int .i64 0) := (K4.out.at (W1.heap.size) [.int .i64 a1, .int .i64 0, .int .i64 0, .int .i64 U] (by simp)).c 1 rfl
  have c4_1_2 : W4.cell? ⟨W1.heap.size, 2, none⟩ = some (.int .i64 0) := (K4.out.at (W1.heap.size) [.int .i64 a1, .int .i64 0, .int .i64 0, .int .i64 U] (by simp)).c 2 rfl
  have c4_1_3 : W4.cell? ⟨W1.heap.size, 3, none⟩ = some (.int .i64 U) := (K4.out.at (W1.heap.size) [.int .i64 a1, .int .i64 0, .int .i64 0, .int .i64 U] (by simp)).c 3 rfl
  have c4_2_0 : W4.cell? ⟨w.heap.size, 0, none⟩ = some (.int .i64 i) := (K4.out.at (w.heap.size) [.int .i64 i, .int .i64 m, .int .i64 d, .int .i64 u] (by simp)).c 0 rfl
  have c4_2_1 : W4.cell? ⟨w.heap.size, 1, none⟩ = some (.int .i64 m) := (K4.out.at (w.heap.size) [.int .i64 i, .int .i64 m, .int .i64 d, .int .i64 u] (by simp)).c 1 rfl
  have c4_2_2 : W4.cell? ⟨w.heap.size, 2, none⟩ = some (.int .i64 d) := (K4.out.at (w.heap.size) [.int .i64 i, .int .i64 m, .int .i64 d, .int .i64 u] (by simp)).c 2 rfl
  have c4_2_3 : W4.cell? ⟨w.heap.size, 3, none⟩ = some (.int .i64 u) := (K4.out.at (w.heap.size) [.int .i64 i, .int .i64 m, .int .i64 d, .int .i64 u] (by simp)).c 3 rfl
  go_wp2_with fail
  refine (C.out _).mono ?_
  rintro e W5 ⟨rfl, hb⟩
  have K5 : Hid (BS w [(W3.heap.size, [.int .i64 a1, .int .i64 0, .int .i64 0, .int .i64 U]), (W1.heap.size, [.int .i64 a1, .int .i64 0, .int .i64 0, .int .i64 U]), (w.heap.size, [.int .i64 i, .int .i64 m, .int .i64 d, .int .i64 u])] W5) := K4.out.below hb
  clear c4_0_0 c4_0_1 c4_0_2 c4_0_3 c4_1_0 c4_1_1 c4_1_2 c4_1_3 c4_2_0 c4_2_1 c4_2_2 c4_2_3
  clear hb K4
  have c5_0_0 : W5.cell? ⟨W3.heap.size, 0, none⟩ = some (.int .i64 a1) := (K5.out.at (W3.heap.size) [.int .i64 a1, .int .i64 0, .int .i64 0, .int .i64 U] (by simp)).c 0 rfl
  have c5_0_1 : W5.cell? ⟨W3.heap.size, 1, none⟩ = some (.int .i64 0) := (K5.out.at (W3.heap.size) [.int .i64 a1, .int .i64 0, .int .i64 0, .int .i64 U] (by simp)).c 1 rfl
  have c5_0_2 : W5.cell? ⟨W3.heap.size, 2, none⟩ = some (.int .i64 0) := (K5.out.at (W3.heap.size) [.int .i64 a1, .int .i64 0, .int .i64 0, .int .i64 U] (by simp)).c 2 rfl
  have c5_0_3 : W5.cell? ⟨W3.heap.size, 3, none⟩ = some (.int .i64 U) := (K5.out.at (W3.heap.size) [.int .i64 a1, .int .i64 0, .int .i64 0, .int .i64 U] (by simp)).c 3 rfl
  have c5_1_0 : W5.cell? ⟨W1.heap.size, 0, none⟩ = some (.int .i64 a1) := (K5.out.at (W1.heap.size) [.int .i64 a1, .int .i64 0, .int .i64 0, .int .i64 U] (by simp)).c 0 rfl
  have c5_1_1 : W5.cell? ⟨W1.heap.size, 1, none⟩ = some (.int .i64 0) := (K5.out.at (W1.heap.size) [.int .i64 a1, .int .i64 0, .int .i64 0, .int .i64 U] (by simp)).c 1 rfl
  have c5_1_2 : W5.cell? ⟨W1.heap.size, 2, none⟩ = some (.int .i64 0) := (K5.out.at (W1.heap.size) [.int .i64 a1, .int .i64 0, .int .i64 0, .int .i64 U] (by simp)).c 2 rfl
  have c5_1_3 : W5.cell? ⟨W1.heap.size, 3, none⟩ = some (.int .i64 U) := (K5.out.at (W1.heap.size) [.int .i64 a1, .int .i64 0, .int .i64 0, .int .i64 U] (by simp)).c 3 rfl
  have c5_2_0 : W5.cell? ⟨w.heap.size, 0, none⟩ = some (.int .i64 i) := (K5.out.at (w.heap.size) [.int .i64 i, .int .i64 m, .int .i64 d, .int .i64 u] (by simp)).c 0 rfl
  have c5_2_1 : W5.cell? ⟨w.heap.size, 1, none⟩ = some (.int .i64 m) := (K5.out.at (w.heap.size) [.int .i64 i, .int .i64 m, .int .i64 d, .int .i64 u] (by simp)).c 1 rfl
  have c5_2_2 : W5.cell? ⟨w.heap.size, 2, none⟩ = some (.int .i64 d) := (K5.out.at (w.heap.size) [.int .i64 i, .int .i64 m, .int .i64 d, .int .i64 u] (by simp)).c 2 rfl
  have c5_2_3 : W5.cell? ⟨w.heap.size, 3, none⟩ = some (.int .i64 u) := (K5.out.at (w.heap.size) [.int .i64 i, .int .i64 m, .int .i64 d, .int .i64 u] (by simp)).c 3 rfl
  go_wp2_with fail
  refine (KN.out _).mono ?_
  rintro e W6 ⟨rfl, hb⟩
  have K6 : Hid (BS w [(W3.heap.size, [.int .i64 a1, .int .i64 0, .int .i64 0, .int .i64 U]), (W1.heap.size, [.int .i64 a1, .int .i64 0, .int .i64 0, .int .i64 U]), (w.heap.size, [.int .i64 i, .int .i64 m, .int .i64 d, .int .i64 u])] W6) := K5.out.below hb
  clear c5_0_0 c5_0_1 c5_0_2 c5_0_3 c5_1_0 c5_1_1 c5_1_2 c5_1_3 c5_2_0 c5_2_1 c5_2_2 c5_2_3
  clear hb K5
  have c6_0_0 : W6.cell? ⟨W3.heap.size, 0, none⟩ = some (.int .i64 a1) := (K6.out.at (W3.heap.size) [.int .i64 a1, .int .i64 0, .int .i64 0, .int .i64 U] (by simp)).c 0 rfl
  have c6_0_1 : W6.cell? ⟨W3.heap.size, 1, none⟩ = some (.int .i64 0) := (K6.out.at (W3.heap.size) [.int .i64 a1, .int .i64 0, .int .i64 0, .int .i64 U] (by simp)).c 1 rfl
  have c6_0_2 : W6.cell? ⟨W3.heap.size, 2, none⟩ = some (.int .i64 0) := (K6.out.at (W3.heap.size) [.int .i64 a1, .int .i64 0, .int .i64 0, .int .i64 U] (by simp)).c 2 rfl
  have c6_0_3 : W6.cell? ⟨W3.heap.size, 3, none⟩ = some (.int .i64 U) := (K6.out.at (W3.heap.size) [.int .i64 a1, .int .i64 0, .int .i64 0, .int .i64 U] (by simp)).c 3 rfl
  have c6_1_0 : W6.cell? ⟨W1.heap.size, 0, none⟩ = some (.int .i64 a1) := (K6.out.at (W1.heap.size) [.int .i64 a1, .int .i64 0, .int .i64 0, .int .i64 U] (by simp)).c 0 rfl
  have c6_1_1 : W6.cell? ⟨W1.heap.size, 1, none⟩ = some (.int .i64 0) := (K6.out.at (W1.heap.size) [.int .i64 a1, .int .i64 0, .int .i64 0, .int .i64 U] (by simp)).c 1 rfl
  have c6_1_2 : W6.cell? ⟨W1.heap.size, 2, none⟩ = some (.int .i64 0) := (K6.out.at (W1.heap.size) [.int .i64 a1, .int .i64 0, .int .i64 0, .int .i64 U] (by simp)).c 2 rfl
  have c6_1_3 : W6.cell? ⟨W1.heap.size, 3, none⟩ = some (.int .i64 U) := (K6.out.at (W1.heap.size) [.int .i64 a1, .int .i64 0, .int .i64 0, .int .i64 U] (by simp)).c 3 rfl
  have c6_2_0 : W6.cell? ⟨w.heap.size, 0, none⟩ = some (.int .i64 i) := (K6.out.at (w.heap.size) [.int .i64 i, .int .i64 m, .int .i64 d, .int .i64 u] (by simp)).c 0 rfl
  have c6_2_1 : W6.cell? ⟨w.heap.size, 1, none⟩ = some (.int .i64 m) := (K6.out.at (w.heap.size) [.int .i64 i, .int .i64 m, .int .i64 d, .int .i64 u] (by simp)).c 1 rfl
  have c6_2_2 : W6.cell? ⟨w.heap.size, 2, none⟩ = some (.int .i64 d) := (K6.out.at (w.heap.size) [.int .i64 i, .int .i64 m, .int .i64 d, .int .i64 u] (by simp)).c 2 rfl
  have c6_2_3 : W6.cell? ⟨w.heap.size, 3, none⟩ = some (.int .i64 u) := (K6.out.at (w.heap.size) [.int .i64 i, .int .i64 m, .int .i64 d, .int .i64 u] (by simp)).c 3 rfl
  go_wp2
  go_ret
  exact ⟨rfl, K6.out.1⟩


end Go.Proofs.Ytghfgabajdghiab
