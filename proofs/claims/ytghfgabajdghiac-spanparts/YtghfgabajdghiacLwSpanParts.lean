/- The walk of SpanParts. -/
import Derived.Test.YtghfgabajdghiacSpA
import Derived.Deep.Cut
namespace Go.Proofs.Ytghfgabajdghiac
open Go.RowKit
set_option linter.unusedVariables false

set_option maxRecDepth 100000 in
set_option maxHeartbeats 4000000 in
theorem core_SpanParts1 (i m d u : Int)
    (R : Hid (∀ w : World, Calls Try.prog 4 #[.agg #[.int .i64 i, .int .i64 m, .int .i64 d, .int .i64 u]] w fun r' w' => r' = .returned (.bool false) ∧ Below w.heap.size w w'))
    (KN : Hid (∀ w : World, Calls Try.prog 5 #[] w fun r' w' => r' = .returned (.bool true) ∧ Below w.heap.size w w'))
    (w : World) :
    Calls Try.prog 3 #[.agg #[.int .i64 i, .int .i64 m, .int .i64 d, .int .i64 u]] w fun r' w' => r' = .returned (.bool true) ∧ Below w.heap.size w w' := by
  have K0 : Hid (BS w [(w.heap.size, [.int .i64 i, .int .i64 m, .int .i64 d, .int .i64 u])] (w.alloc (.cells #[.int .i64 i, .int .i64 m, .int .i64 d, .int .i64 u] 23))) := ((BS.start w).new [.int .i64 i, .int .i64 m, .int .i64 d, .int .i64 u] 23 rfl)
  go_enter Try.func3, Try.ntmps3
  go_wp2_with fail
  refine (R.out _).mono ?_
  rintro e W1 ⟨rfl, hb⟩
  have K1 : Hid (BS w [(w.heap.size, [.int .i64 i, .int .i64 m, .int .i64 d, .int .i64 u])] W1) := K0.out.below hb
  clear hb K0
  have c1_0_0 : W1.cell? ⟨w.heap.size, 0, none⟩ = some (.int .i64 i) := (K1.out.at (w.heap.size) [.int .i64 i, .int .i64 m, .int .i64 d, .int .i64 u] (by simp)).c 0 rfl
  have c1_0_1 : W1.cell? ⟨w.heap.size, 1, none⟩ = some (.int .i64 m) := (K1.out.at (w.heap.size) [.int .i64 i, .int .i64 m, .int .i64 d, .int .i64 u] (by simp)).c 1 rfl
  have c1_0_2 : W1.cell? ⟨w.heap.size, 2, none⟩ = some (.int .i64 d) := (K1.out.at (w.heap.size) [.int .i64 i, .int .i64 m, .int .i64 d, .int .i64 u] (by simp)).c 2 rfl
  have c1_0_3 : W1.cell? ⟨w.heap.size, 3, none⟩ = some (.int .i64 u) := (K1.out.at (w.heap.size) [.int .i64 i, .int .i64 m, .int .i64 d, .int .i64 u] (by simp)).c 3 rfl
  go_wp2_with fail
  refine (KN.out _).mono ?_
  rintro e W2 ⟨rfl, hb⟩
  have K2 : Hid (BS w [(w.heap.size, [.int .i64 i, .int .i64 m, .int .i64 d, .int .i64 u])] W2) := K1.out.below hb
  clear c1_0_0 c1_0_1 c1_0_2 c1_0_3
  clear hb K1
  have c2_0_0 : W2.cell? ⟨w.heap.size, 0, none⟩ = some (.int .i64 i) := (K2.out.at (w.heap.size) [.int .i64 i, .int .i64 m, .int .i64 d, .int .i64 u] (by simp)).c 0 rfl
  have c2_0_1 : W2.cell? ⟨w.heap.size, 1, none⟩ = some (.int .i64 m) := (K2.out.at (w.heap.size) [.int .i64 i, .int .i64 m, .int .i64 d, .int .i64 u] (by simp)).c 1 rfl
  have c2_0_2 : W2.cell? ⟨w.heap.size, 2, none⟩ = some (.int .i64 d) := (K2.out.at (w.heap.size) [.int .i64 i, .int .i64 m, .int .i64 d, .int .i64 u] (by simp)).c 2 rfl
  have c2_0_3 : W2.cell? ⟨w.heap.size, 3, none⟩ = some (.int .i64 u) := (K2.out.at (w.heap.size) [.int .i64 i, .int .i64 m, .int .i64 d, .int .i64 u] (by simp)).c 3 rfl
  go_wp2
  go_ret
  exact ⟨rfl, K2.out.1⟩

set_option maxRecDepth 100000 in
set_option maxHeartbeats 4000000 in
theorem core_SpanParts2 (i m d u : Int) (hi : i ≠ 0)
    (R : Hid (∀ w : World, Calls Try.prog 4 #[.agg #[.int .i64 i, .int .i64 m, .int .i64 d, .int .i64 u]] w fun r' w' => r' = .returned (.bool true) ∧ Below w.heap.size w w'))
    (KN : Hid (∀ w : World, Calls Try.prog 5 #[] w fun r' w' => r' = .returned (.bool true) ∧ Below w.heap.size w w'))
    (w : World) :
    Calls Try.prog 3 #[.agg #[.int .i64 i, .int .i64 m, .int .i64 d, .int .i64 u]] w fun r' w' => r' = .returned (.bool true) ∧ Below w.heap.size w w' := by
  have i1 : (i != 0) = true := bne_iff_ne.2 hi
  have K0 : Hid (BS w [(w.heap.size, [.int .i64 i, .int .i64 m, .int .i64 d, .int .i64 u])] (w.alloc (.cells #[.int .i64 i, .int .i64 m, .int .i64 d, .int .i64 u] 23))) := ((BS.start w).new [.int .i64 i, .int .i64 m, .int .i64 d, .int .i64 u] 23 rfl)
  go_enter Try.func3, Try.ntmps3
  go_wp2_with fail
  refine (R.out _).mono ?_
  rintro e W1 ⟨rfl, hb⟩
  have K1 : Hid (BS w [(w.heap.size, [.int .i64 i, .int .i64 m, .int .i64 d, .int .i64 u])] W1) := K0.out.below hb
  clear hb K0
  have c1_0_0 : W1.cell? ⟨w.heap.size, 0, none⟩ = some (.int .i64 i) := (K1.out.at (w.heap.size) [.int .i64 i, .int .i64 m, .int .i64 d, .int .i64 u] (by simp)).c 0 rfl
  have c1_0_1 : W1.cell? ⟨w.heap.size, 1, none⟩ = some (.int .i64 m) := (K1.out.at (w.heap.size) [.int .i64 i, .int .i64 m, .int .i64 d, .int .i64 u] (by simp)).c 1 rfl
  have c1_0_2 : W1.cell? ⟨w.heap.size, 2, none⟩ = some (.int .i64 d) := (K1.out.at (w.heap.size) [.int .i64 i, .int .i64 m, .int .i64 d, .int .i64 u] (by simp)).c 2 rfl
  have c1_0_3 : W1.cell? ⟨w.heap.size, 3, none⟩ = some (.int .i64 u) := (K1.out.at (w.heap.size) [.int .i64 i, .int .i64 m, .int .i64 d, .int .i64 u] (by simp)).c 3 rfl
  go_wp2_with fail
  refine (KN.out _).mono ?_
  rintro e W2 ⟨rfl, hb⟩
  have K2 : Hid (BS w [(w.heap.size, [.int .i64 i, .int .i64 m, .int .i64 d, .int .i64 u])] W2) := K1.out.below hb
  clear c1_0_0 c1_0_1 c1_0_2 c1_0_3
  clear hb K1
  have c2_0_0 : W2.cell? ⟨w.heap.size, 0, none⟩ = some (.int .i64 i) := (K2.out.at (w.heap.size) [.int .i64 i, .int .i64 m, .int .i64 d, .int .i64 u] (by simp)).c 0 rfl
  have c2_0_1 : W2.cell? ⟨w.heap.size, 1, none⟩ = some (.int .i64 m) := (K2.out.at (w.heap.size) [.int .i64 i, .int .i64 m, .int .i64 d, .int .i64 u] (by simp)).c 1 rfl
  have c2_0_2 : W2.cell? ⟨w.heap.size, 2, none⟩ = some (.int .i64 d) := (K2.out.at (w.heap.size) [.int .i64 i, .int .i64 m, .int .i64 d, .int .i64 u] (by simp)).c 2 rfl
  have c2_0_3 : W2.cell? ⟨w.heap.size, 3, none⟩ = some (.int .i64 u) := (K2.out.at (w.heap.size) [.int .i64 i, .int .i64 m, .int .i64 d, .int .i64 u] (by simp)).c 3 rfl
  go_wp2
  go_ret
  exact ⟨rfl, K2.out.1⟩

set_option maxRecDepth 100000 in
set_option maxHeartbeats 4000000 in
theorem core_SpanParts3 (m d u : Int)
    (R : Hid (∀ w : World, Calls Try.prog 4 #[.agg #[.int .i64 0, .int .i64 m, .int .i64 d, .int .i64 u]] w fun r' w' => r' = .returned (.bool true) ∧ Below w.heap.size w w'))
    (A1 : Hid (∀ w : World, Calls Try.prog 6 #[.agg #[.int .i64 0, .int .i64 m, .int .i64 0, .int .i64 0], .agg #[.int .i64 0, .int .i64 0, .int .i64 d, .int .i64 0]] w fun r' w' => r' = .returned (.tuple #[.agg #[.int .i64 0, .int .i64 m, .int .i64 d, .int .i64 0], .int .i64 0]) ∧ Below w.heap.size w w'))
    (A2 : Hid (∀ w : World, Calls Try.prog 6 #[.agg #[.int .i64 0, .int .i64 0, .int .i64 0, .int .i64 u], .agg #[.int .i64 0, .int .i64 m, .int .i64 d, .int .i64 0]] w fun r' w' => r' = .returned (.tuple #[.agg #[.int .i64 0, .int .i64 m, .int .i64 d, .int .i64 u], .int .i64 0]) ∧ Below w.heap.size w w'))
    (MK : Hid (∀ w : World, Calls Try.prog 7 #[.int .i64 m, .int .i64 d, .int .i64 u] w fun r' w' => r' = .returned (.tuple #[.agg #[.int .i64 0, .int .i64 m, .int .i64 d, .int .i64 u], .int .i64 0]) ∧ Below w.heap.size w w'))
    (S1 : Hid (∀ w : World, Calls Try.prog 8 #[.agg #[.int .i64 0, .int .i64 m, .int .i64 d, .int .i64 u], .agg #[.int .i64 0, .int .i64 m, .int .i64 d, .int .i64 u]] w fun r' w' => r' = .returned (.tuple #[.agg #[.int .i64 0, .int .i64 0, .int .i64 0, .int .i64 0], .int .i64 0]) ∧ Below w.heap.size w w'))
    (KN : Hid (∀ w : World, Calls Try.prog 5 #[] w fun r' w' => r' = .returned (.bool true) ∧ Below w.heap.size w w'))
    (w : World) :
    Calls Try.prog 3 #[.agg #[.int .i64 0, .int .i64 m, .int .i64 d, .int .i64 u]] w fun r' w' => r' = .returned (.bool true) ∧ Below w.heap.size w w' := by
  have K0 : Hid (BS w [(w.heap.size, [.int .i64 0, .int .i64 m, .int .i64 d, .int .i64 u])] (w.alloc (.cells #[.int .i64 0, .int .i64 m, .int .i64 d, .int .i64 u] 23))) := ((BS.start w).new [.int .i64 0, .int .i64 m, .int .i64 d, .int .i64 u] 23 rfl)
  go_enter Try.func3, Try.ntmps3
  go_wp2_with fail
  refine (R.out _).mono ?_
  rintro e W1 ⟨rfl, hb⟩
  have K1 : Hid (BS w [(w.heap.size, [.int .i64 0, .int .i64 m, .int .i64 d, .int .i64 u])] W1) := K0.out.below hb
  clear hb K0
  have c1_0_0 : W1.cell? ⟨w.heap.size, 0, none⟩ = some (.int .i64 0) := (K1.out.at (w.heap.size) [.int .i64 0, .int .i64 m, .int .i64 d, .int .i64 u] (by simp)).c 0 rfl
  have c1_0_1 : W1.cell? ⟨w.heap.size, 1, none⟩ = some (.int .i64 m) := (K1.out.at (w.heap.size) [.int .i64 0, .int .i64 m, .int .i64 d, .int .i64 u] (by simp)).c 1 rfl
  have c1_0_2 : W1.cell? ⟨w.heap.size, 2, none⟩ = some (.int .i64 d) := (K1.out.at (w.heap.size) [.int .i64 0, .int .i64 m, .int .i64 d, .int .i64 u] (by simp)).c 2 rfl
  have c1_0_3 : W1.cell? ⟨w.heap.size, 3, none⟩ = some (.int .i64 u) := (K1.out.at (w.heap.size) [.int .i64 0, .int .i64 m, .int .i64 d, .int .i64 u] (by simp)).c 3 rfl
  go_wp2_with fail
  refine (A1.out _).mono ?_
  rintro e W2 ⟨rfl, hb⟩
  have K2 : Hid (BS w [(w.heap.size, [.int .i64 0, .int .i64 m, .int .i64 d, .int .i64 u])] W2) := K1.out.below hb
  clear c1_0_0 c1_0_1 c1_0_2 c1_0_3
  clear hb K1
  have c2_0_0 : W2.cell? ⟨w.heap.size, 0, none⟩ = some (.int .i64 0) := (K2.out.at (w.heap.size) [.int .i64 0, .int .i64 m, .int .i64 d, .int .i64 u] (by simp)).c 0 rfl
  have c2_0_1 : W2.cell? ⟨w.heap.size, 1, none⟩ = some (.int .i64 m) := (K2.out.at (w.heap.size) [.int .i64 0, .int .i64 m, .int .i64 d, .int .i64 u] (by simp)).c 1 rfl
  have c2_0_2 : W2.cell? ⟨w.heap.size, 2, none⟩ = some (.int .i64 d) := (K2.out.at (w.heap.size) [.int .i64 0, .int .i64 m, .int .i64 d, .int .i64 u] (by simp)).c 2 rfl
  have c2_0_3 : W2.cell? ⟨w.heap.size, 3, none⟩ = some (.int .i64 u) := (K2.out.at (w.heap.size) [.int .i64 0, .int .i64 m, .int .i64 d, .int .i64 u] (by simp)).c 3 rfl
  have Mz2 : Hid (BS w [(W2.heap.size, [.int .i64 0, .int .i64 m, .int .i64 d, .int .i64 0]), (w.heap.size, [.int .i64 0, .int .i64 m, .int .i64 d, .int .i64 u])] (W2.alloc (.cells #[.int .i64 0, .int .i64 m, .int .i64 d, .int .i64 0] 23))) := K2.out.new [.int .i64 0, .int .i64 m, .int .i64 d, .int .i64 0] 23 rfl
  go_upto_region 4 with fail
  refine gen_to (BS w [(W2.heap.size, [.int .i64 0, .int .i64 m, .int .i64 d, .int .i64 0]), (w.heap.size, [.int .i64 0, .int .i64 m, .int .i64 d, .int .i64 u])]) Mz2.out ?_
  clear c2_0_0 c2_0_1 c2_0_2 c2_0_3
  intro W3 K3'
  have K3 : Hid (BS w [(W2.heap.size, [.int .i64 0, .int .i64 m, .int .i64 d, .int .i64 0]), (w.heap.size, [.int .i64 0, .int .i64 m, .int .i64 d, .int .i64 u])] W3) := K3'
  clear K3' Mz2 K2
  have c3_0_0 : W3.cell? ⟨W2.heap.size, 0, none⟩ = some (.int .i64 0) := (K3.out.at (W2.heap.size) [.int .i64 0, .int .i64 m, .int .i64 d, .int .i64 0] (by simp)).c 0 rfl
  have c3_0_1 : W3.cell? ⟨W2.heap.size, 1, none⟩ = some (.int .i64 m) := (K3.out.at (W2.heap.size) [.int .i64 0, .int .i64 m, .int .i64 d, .int .i64 0] (by simp)).c 1 rfl
  have c3_0_2 : W3.cell? ⟨W2.heap.size, 2, none⟩ = some (.int .i64 d) := (K3.out.at (W2.heap.size) [.int .i64 0, .int .i64 m, .int .i64 d, .int .i64 0] (by simp)).c 2 rfl
  have c3_0_3 : W3.cell? ⟨W2.heap.size, 3, none⟩ = some (.int .i64 0) := (K3.out.at (W2.heap.size) [.int .i64 0, .int .i64 m, .int .i64 d, .int .i64 0] (by simp)).c 3 rfl
  have c3_1_0 : W3.cell? ⟨w.heap.size, 0, none⟩ = some (.int .i64 0) := (K3.out.at (w.heap.size) [.int .i64 0, .int .i64 m, .int .i64 d, .int .i64 u] (by simp)).c 0 rfl
  have c3_1_1 : W3.cell? ⟨w.heap.size, 1, none⟩ = some (.int .i64 m) := (K3.out.at (w.heap.size) [.int .i64 0, .int .i64 m, .int .i64 d, .int .i64 u] (by simp)).c 1 rfl
  have c3_1_2 : W3.cell? ⟨w.heap.size, 2, none⟩ = some (.int .i64 d) := (K3.out.at (w.heap.size) [.int .i64 0, .int .i64 m, .int .i64 d, .int .i64 u] (by simp)).c 2 rfl
  have c3_1_3 : W3.cell? ⟨w.heap.size, 3, none⟩ = some (.int .i64 u) := (K3.out.at (w.heap.size) [.int .i64 0, .int .i64 m, .int .i64 d, .int .i64 u] (by simp)).c 3 rfl
  go_wp2_with fail
  refine (A2.out _).mono ?_
  rintro e W4 ⟨rfl, hb⟩
  have K4 : Hid (BS w [(W2.heap.size, [.int .i64 0, .int .i64 m, .int .i64 d, .int .i64 0]), (w.heap.size, [.int .i64 0, .int .i64 m, .int .i64 d, .int .i64 u])] W4) := K3.out.below hb
  clear c3_0_0 c3_0_1 c3_0_2 c3_0_3 c3_1_0 c3_1_1 c3_1_2 c3_1_3
  clear hb K3
  have c4_0_0 : W4.cell? ⟨W2.heap.size, 0, none⟩ = some (.int .i64 0) := (K4.out.at (W2.heap.size) [.int .i64 0, .int .i64 m, .int .i64 d, .int .i64 0] (by simp)).c 0 rfl
  have c4_0_1 : W4.cell? ⟨W2.heap.size, 1, none⟩ = some (.int .i64 m) := (K4.out.at (W2.heap.size) [.int .i64 0, .int .i64 m, .int .i64 d, .int .i64 0] (by simp)).c 1 rfl
  have c4_0_2 : W4.cell? ⟨W2.heap.size, 2, none⟩ = some (.int .i64 d) := (K4.out.at (W2.heap.size) [.int .i64 0, .int .i64 m, .int .i64 d, .int .i64 0] (by simp)).c 2 rfl
  have c4_0_3 : W4.cell? ⟨W2.heap.size, 3, none⟩ = some (.int .i64 0) := (K4.out.at (W2.heap.size) [.int .i64 0, .int .i64 m, .int .i64 d, .int .i64 0] (by simp)).c 3 rfl
  have c4_1_0 : W4.cell? ⟨w.heap.size, 0, none⟩ = some (.int .i64 0) := (K4.out.at (w.heap.size) [.int .i64 0, .int .i64 m, .int .i64 d, .int .i64 u] (by simp)).c 0 rfl
  have c4_1_1 : W4.cell? ⟨w.heap.size, 1, none⟩ = some (.int .i64 m) := (K4.out.at (w.heap.size) [.int .i64 0, .int .i64 m, .int .i64 d, .int .i64 u] (by simp)).c 1 rfl
  have c4_1_2 : W4.cell? ⟨w.heap.size, 2, none⟩ = some (.int .i64 d) := (K4.out.at (w.heap.size) [.int .i64 0, .int .i64 m, .int .i64 d, .int .i64 u] (by simp)).c 2 rfl
  have c4_1_3 : W4.cell? ⟨w.heap.size, 3, none⟩ = some (.int .i64 u) := (K4.out.at (w.heap.size) [.int .i64 0, .int .i64 m, .int .i64 d, .int .i64 u] (by simp)).c 3 rfl
  have Mz4 : Hid (BS w [(W4.heap.size, [.int .i64 0, .int .i64 m, .int .i64 d, .int .i64 u]), (W2.heap.size, [.int .i64 0, .int .i64 m, .int .i64 d, .int .i64 0]), (w.heap.size, [.int .i64 0, .int .i64 m, .int .i64 d, .int .i64 u])] (W4.alloc (.cells #[.int .i64 0, .int .i64 m, .int .i64 d, .int .i64 u] 23))) := K4.out.new [.int .i64 0, .int .i64 m, .int .i64 d, .int .i64 u] 23 rfl
  go_upto_region 5 with fail
  refine gen_to (BS w [(W4.heap.size, [.int .i64 0, .int .i64 m, .int .i64 d, .int .i64 u]), (W2.heap.size, [.int .i64 0, .int .i64 m, .int .i64 d, .int .i64 0]), (w.heap.size, [.int .i64 0, .int .i64 m, .int .i64 d, .int .i64 u])]) Mz4.out ?_
  clear c4_0_0 c4_0_1 c4_0_2 c4_0_3 c4_1_0 c4_1_1 c4_1_2 c4_1_3
  intro W5 K5'
  have K5 : Hid (BS w [(W4.heap.size, [.int .i64 0, .int .i64 m, .int .i64 d, .int .i64 u]), (W2.heap.size, [.int .i64 0, .int .i64 m, .int .i64 d, .int .i64 0]), (w.heap.size, [.int .i64 0, .int .i64 m, .int .i64 d, .int .i64 u])] W5) := K5'
  clear K5' Mz4 K4
  have c5_0_0 : W5.cell? ⟨W4.heap.size, 0, none⟩ = some (.int .i64 0) := (K5.out.at (W4.heap.size) [.int .i64 0, .int .i64 m, .int .i64 d, .int .i64 u] (by simp)).c 0 rfl
  have c5_0_1 : W5.cell? ⟨W4.heap.size, 1, none⟩ = some (.int .i64 m) := (K5.out.at (W4.heap.size) [.int .i64 0, .int .i64 m, .int .i64 d, .int .i64 u] (by simp)).c 1 rfl
  have c5_0_2 : W5.cell? ⟨W4.heap.size, 2, none⟩ = some (.int .i64 d) := (K5.out.at (W4.heap.size) [.int .i64 0, .int .i64 m, .int .i64 d, .int .i64 u] (by simp)).c 2 rfl
  have c5_0_3 : W5.cell? ⟨W4.heap.size, 3, none⟩ = some (.int .i64 u) := (K5.out.at (W4.heap.size) [.int .i64 0, .int .i64 m, .int .i64 d, .int .i64 u] (by simp)).c 3 rfl
  have c5_1_0 : W5.cell? ⟨W2.heap.size, 0, none⟩ = some (.int .i64 0) := (K5.out.at (W2.heap.size) [.int .i64 0, .int .i64 m, .int .i64 d, .int .i64 0] (by simp)).c 0 rfl
  have c5_1_1 : W5.cell? ⟨W2.heap.size, 1, none⟩ = some (.int .i64 m) := (K5.out.at (W2.heap.size) [.int .i64 0, .int .i64 m, .int .i64 d, .int .i64 0] (by simp)).c 1 rfl
  have c5_1_2 : W5.cell? ⟨W2.heap.size, 2, none⟩ = some (.int .i64 d) := (K5.out.at (W2.heap.size) [.int .i64 0, .int .i64 m, .int .i64 d, .int .i64 0] (by simp)).c 2 rfl
  have c5_1_3 : W5.cell? ⟨W2.heap.size, 3, none⟩ = some (.int .i64 0) := (K5.out.at (W2.heap.size) [.int .i64 0, .int .i64 m, .int .i64 d, .int .i64 0] (by simp)).c 3 rfl
  have c5_2_0 : W5.cell? ⟨w.heap.size, 0, none⟩ = some (.int .i64 0) := (K5.out.at (w.heap.size) [.int .i64 0, .int .i64 m, .int .i64 d, .int .i64 u] (by simp)).c 0 rfl
  have c5_2_1 : W5.cell? ⟨w.heap.size, 1, none⟩ = some (.int .i64 m) := (K5.out.at (w.heap.size) [.int .i64 0, .int .i64 m, .int .i64 d, .int .i64 u] (by simp)).c 1 rfl
  have c5_2_2 : W5.cell? ⟨w.heap.size, 2, none⟩ = some (.int .i64 d) := (K5.out.at (w.heap.size) [.int .i64 0, .int .i64 m, .int .i64 d, .int .i64 u] (by simp)).c 2 rfl
  have c5_2_3 : W5.cell? ⟨w.heap.size, 3, none⟩ = some (.int .i64 u) := (K5.out.at (w.heap.size) [.int .i64 0, .int .i64 m, .int .i64 d, .int .i64 u] (by simp)).c 3 rfl
  go_wp2_with fail
  refine (MK.out _).mono ?_
  rintro e W6 ⟨rfl, hb⟩
  have K6 : Hid (BS w [(W4.heap.size, [.int .i64 0, .int .i64 m, .int .i64 d, .int .i64 u]), (W2.heap.size, [.int .i64 0, .int .i64 m, .int .i64 d, .int .i64 0]), (w.heap.size, [.int .i64 0, .int .i64 m, .int .i64 d, .int .i64 u])] W6) := K5.out.below hb
  clear c5_0_0 c5_0_1 c5_0_2 c5_0_3 c5_1_0 c5_1_1 c5_1_2 c5_1_3 c5_2_0 c5_2_1 c5_2_2 c5_2_3
  clear hb K5
  have c6_0_0 : W6.cell? ⟨W4.heap.size, 0, none⟩ = some (.int .i64 0) := (K6.out.at (W4.heap.size) [.int .i64 0, .int .i64 m, .int .i64 d, .int .i64 u] (by simp)).c 0 rfl
  have c6_0_1 : W6.cell? ⟨W4.heap.size, 1, none⟩ = some (.int .i64 m) := (K6.out.at (W4.heap.size) [.int .i64 0, .int .i64 m, .int .i64 d, .int .i64 u] (by simp)).c 1 rfl
  have c6_0_2 : W6.cell? ⟨W4.heap.size, 2, none⟩ = some (.int .i64 d) := (K6.out.at (W4.heap.size) [.int .i64 0, .int .i64 m, .int .i64 d, .int .i64 u] (by simp)).c 2 rfl
  have c6_0_3 : W6.cell? ⟨W4.heap.size, 3, none⟩ = some (.int .i64 u) := (K6.out.at (W4.heap.size) [.int .i64 0, .int .i64 m, .int .i64 d, .int .i64 u] (by simp)).c 3 rfl
  have c6_1_0 : W6.cell? ⟨W2.heap.size, 0, none⟩ = some (.int .i64 0) := (K6.out.at (W2.heap.size) [.int .i64 0, .int .i64 m, .int .i64 d, .int .i64 0] (by simp)).c 0 rfl
  have c6_1_1 : W6.cell? ⟨W2.heap.size, 1, none⟩ = some (.int .i64 m) := (K6.out.at (W2.heap.size) [.int .i64 0, .int .i64 m, .int .i64 d, .int .i64 0] (by simp)).c 1 rfl
  have c6_1_2 : W6.cell? ⟨W2.heap.size, 2, none⟩ = some (.int .i64 d) := (K6.out.at (W2.heap.size) [.int .i64 0, .int .i64 m, .int .i64 d, .int .i64 0] (by simp)).c 2 rfl
  have c6_1_3 : W6.cell? ⟨W2.heap.size, 3, none⟩ = some (.int .i64 0) := (K6.out.at (W2.heap.size) [.int .i64 0, .int .i64 m, .int .i64 d, .int .i64 0] (by simp)).c 3 rfl
  have c6_2_0 : W6.cell? ⟨w.heap.size, 0, none⟩ = some (.int .i64 0) := (K6.out.at (w.heap.size) [.int .i64 0, .int .i64 m, .int .i64 d, .int .i64 u] (by simp)).c 0 rfl
  have c6_2_1 : W6.cell? ⟨w.heap.size, 1, none⟩ = some (.int .i64 m) := (K6.out.at (w.heap.size) [.int .i64 0, .int .i64 m, .int .i64 d, .int .i64 u] (by simp)).c 1 rfl
  have c6_2_2 : W6.cell? ⟨w.heap.size, 2, none⟩ = some (.int .i64 d) := (K6.out.at (w.heap.size) [.int .i64 0, .int .i64 m, .int .i64 d, .int .i64 u] (by simp)).c 2 rfl
  have c6_2_3 : W6.cell? ⟨w.heap.size, 3, none⟩ = some (.int .i64 u) := (K6.out.at (w.heap.size) [.int .i64 0, .int .i64 m, .int .i64 d, .int .i64 u] (by simp)).c 3 rfl
  have Mz6 : Hid (BS w [(W6.heap.size, [.int .i64 0, .int .i64 m, .int .i64 d, .int .i64 u]), (W4.heap.size, [.int .i64 0, .int .i64 m, .int .i64 d, .int .i64 u]), (W2.heap.size, [.int .i64 0, .int .i64 m, .int .i64 d, .int .i64 0]), (w.heap.size, [.int .i64 0, .int .i64 m, .int .i64 d, .int .i64 u])] (W6.alloc (.cells #[.int .i64 0, .int .i64 m, .int .i64 d, .int .i64 u] 23))) := K6.out.new [.int .i64 0, .int .i64 m, .int .i64 d, .int .i64 u] 23 rfl
  go_upto_region 6 with fail
  refine gen_to (BS w [(W6.heap.size, [.int .i64 0, .int .i64 m, .int .i64 d, .int .i64 u]), (W4.heap.size, [.int .i64 0, .int .i64 m, .int .i64 d, .int .i64 u]), (W2.heap.size, [.int .i64 0, .int .i64 m, .int .i64 d, .int .i64 0]), (w.heap.size, [.int .i64 0, .int .i64 m, .int .i64 d, .int .i64 u])]) Mz6.out ?_
  clear c6_0_0 c6_0_1 c6_0_2 c6_0_3 c6_1_0 c6_1_1 c6_1_2 c6_1_3 c6_2_0 c6_2_1 c6_2_2 c6_2_3
  intro W7 K7'
  have K7 : Hid (BS w [(W6.heap.size, [.int .i64 0, .int .i64 m, .int .i64 d, .int .i64 u]), (W4.heap.size, [.int .i64 0, .int .i64 m, .int .i64 d, .int .i64 u]), (W2.heap.size, [.int .i64 0, .int .i64 m, .int .i64 d, .int .i64 0]), (w.heap.size, [.int .i64 0, .int .i64 m, .int .i64 d, .int .i64 u])] W7) := K7'
  clear K7' Mz6 K6
  have c7_0_0 : W7.cell? ⟨W6.heap.size, 0, none⟩ = some (.int .i64 0) := (K7.out.at (W6.heap.size) [.int .i64 0, .int .i64 m, .int .i64 d, .int .i64 u] (by simp)).c 0 rfl
  have c7_0_1 : W7.cell? ⟨W6.heap.size, 1, none⟩ = some (.int .i64 m) := (K7.out.at (W6.heap.size) [.int .i64 0, .int .i64 m, .int .i64 d, .int .i64 u] (by simp)).c 1 rfl
  have c7_0_2 : W7.cell? ⟨W6.heap.size, 2, none⟩ = some (.int .i64 d) := (K7.out.at (W6.heap.size) [.int .i64 0, .int .i64 m, .int .i64 d, .int .i64 u] (by simp)).c 2 rfl
  have c7_0_3 : W7.cell? ⟨W6.heap.size, 3, none⟩ = some (.int .i64 u) := (K7.out.at (W6.heap.size) [.int .i64 0, .int .i64 m, .int .i64 d, .int .i64 u] (by simp)).c 3 rfl
  have c7_1_0 : W7.cell? ⟨W4.heap.size, 0, none⟩ = some (.int .i64 0) := (K7.out.at (W4.heap.size) [.int .i64 0, .int .i64 m, .int .i64 d, .int .i64 u] (by simp)).c 0 rfl
  have c7_1_1 : W7.cell? ⟨W4.heap.size, 1, none⟩ = some (.int .i64 m) := (K7.out.at (W4.heap.size) [.int .i64 0, .int .i64 m, .int .i64 d, .int .i64 u] (by simp)).c 1 rfl
  have c7_1_2 : W7.cell? ⟨W4.heap.size, 2, none⟩ = some (.int .i64 d) := (K7.out.at (W4.heap.size) [.int .i64 0, .int .i64 m, .int .i64 d, .int .i64 u] (by simp)).c 2 rfl
  have c7_1_3 : W7.cell? ⟨W4.heap.size, 3, none⟩ = some (.int .i64 u) := (K7.out.at (W4.heap.size) [.int .i64 0, .int .i64 m, .int .i64 d, .int .i64 u] (by simp)).c 3 rfl
  have c7_2_0 : W7.cell? ⟨W2.heap.size, 0, none⟩ = some (.int .i64 0) := (K7.out.at (W2.heap.size) [.int .i64 0, .int .i64 m, .int .i64 d, .int .i64 0] (by simp)).c 0 rfl
  have c7_2_1 : W7.cell? ⟨W2.heap.size, 1, none⟩ = some (.int .i64 m) := (K7.out.at (W2.heap.size) [.int .i64 0, .int .i64 m, .int .i64 d, .int .i64 0] (by simp)).c 1 rfl
  have c7_2_2 : W7.cell? ⟨W2.heap.size, 2, none⟩ = some (.int .i64 d) := (K7.out.at (W2.heap.size) [.int .i64 0, .int .i64 m, .int .i64 d, .int .i64 0] (by simp)).c 2 rfl
  have c7_2_3 : W7.cell? ⟨W2.heap.size, 3, none⟩ = some (.int .i64 0) := (K7.out.at (W2.heap.size) [.int .i64 0, .int .i64 m, .int .i64 d, .int .i64 0] (by simp)).c 3 rfl
  have c7_3_0 : W7.cell? ⟨w.heap.size, 0, none⟩ = some (.int .i64 0) := (K7.out.at (w.heap.size) [.int .i64 0, .int .i64 m, .int .i64 d, .int .i64 u] (by simp)).c 0 rfl
  have c7_3_1 : W7.cell? ⟨w.heap.size, 1, none⟩ = some (.int .i64 m) := (K7.out.at (w.heap.size) [.int .i64 0, .int .i64 m, .int .i64 d, .int .i64 u] (by simp)).c 1 rfl
  have c7_3_2 : W7.cell? ⟨w.heap.size, 2, none⟩ = some (.int .i64 d) := (K7.out.at (w.heap.size) [.int .i64 0, .int .i64 m, .int .i64 d, .int .i64 u] (by simp)).c 2 rfl
  have c7_3_3 : W7.cell? ⟨w.heap.size, 3, none⟩ = some (.int .i64 u) := (K7.out.at (w.heap.size) [.int .i64 0, .int .i64 m, .int .i64 d, .int .i64 u] (by simp)).c 3 rfl
  go_wp2_with fail
  refine (S1.out _).mono ?_
  rintro e W8 ⟨rfl, hb⟩
  have K8 : Hid (BS w [(W6.heap.size, [.int .i64 0, .int .i64 m, .int .i64 d, .int .i64 u]), (W4.heap.size, [.int .i64 0, .int .i64 m, .int .i64 d, .int .i64 u]), (W2.heap.size, [.int .i64 0, .int .i64 m, .int .i64 d, .int .i64 0]), (w.heap.size, [.int .i64 0, .int .i64 m, .int .i64 d, .int .i64 u])] W8) := K7.out.below hb
  clear c7_0_0 c7_0_1 c7_0_2 c7_0_3 c7_1_0 c7_1_1 c7_1_2 c7_1_3 c7_2_0 c7_2_1 c7_2_2 c7_2_3 c7_3_0 c7_3_1 c7_3_2 c7_3_3
  clear hb K7
  have c8_0_0 : W8.cell? ⟨W6.heap.size, 0, none⟩ = some (.int .i64 0) := (K8.out.at (W6.heap.size) [.int .i64 0, .int .i64 m, .int .i64 d, .int .i64 u] (by simp)).c 0 rfl
  have c8_0_1 : W8.cell? ⟨W6.heap.size, 1, none⟩ = some (.int .i64 m) := (K8.out.at (W6.heap.size) [.int .i64 0, .int .i64 m, .int .i64 d, .int .i64 u] (by simp)).c 1 rfl
  have c8_0_2 : W8.cell? ⟨W6.heap.size, 2, none⟩ = some (.int .i64 d) := (K8.out.at (W6.heap.size) [.int .i64 0, .int .i64 m, .int .i64 d, .int .i64 u] (by simp)).c 2 rfl
  have c8_0_3 : W8.cell? ⟨W6.heap.size, 3, none⟩ = some (.int .i64 u) := (K8.out.at (W6.heap.size) [.int .i64 0, .int .i64 m, .int .i64 d, .int .i64 u] (by simp)).c 3 rfl
  have c8_1_0 : W8.cell? ⟨W4.heap.size, 0, none⟩ = some (.int .i64 0) := (K8.out.at (W4.heap.size) [.int .i64 0, .int .i64 m, .int .i64 d, .int .i64 u] (by simp)).c 0 rfl
  have c8_1_1 : W8.cell? ⟨W4.heap.size, 1, none⟩ = some (.int .i64 m) := (K8.out.at (W4.heap.size) [.int .i64 0, .int .i64 m, .int .i64 d, .int .i64 u] (by simp)).c 1 rfl
  have c8_1_2 : W8.cell? ⟨W4.heap.size, 2, none⟩ = some (.int .i64 d) := (K8.out.at (W4.heap.size) [.int .i64 0, .int .i64 m, .int .i64 d, .int .i64 u] (by simp)).c 2 rfl
  have c8_1_3 : W8.cell? ⟨W4.heap.size, 3, none⟩ = some (.int .i64 u) := (K8.out.at (W4.heap.size) [.int .i64 0, .int .i64 m, .int .i64 d, .int .i64 u] (by simp)).c 3 rfl
  have c8_2_0 : W8.cell? ⟨W2.heap.size, 0, none⟩ = some (.int .i64 0) := (K8.out.at (W2.heap.size) [.int .i64 0, .int .i64 m, .int .i64 d, .int .i64 0] (by simp)).c 0 rfl
  have c8_2_1 : W8.cell? ⟨W2.heap.size, 1, none⟩ = some (.int .i64 m) := (K8.out.at (W2.heap.size) [.int .i64 0, .int .i64 m, .int .i64 d, .int .i64 0] (by simp)).c 1 rfl
  have c8_2_2 : W8.cell? ⟨W2.heap.size, 2, none⟩ = some (.int .i64 d) := (K8.out.at (W2.heap.size) [.int .i64 0, .int .i64 m, .int .i64 d, .int .i64 0] (by simp)).c 2 rfl
  have c8_2_3 : W8.cell? ⟨W2.heap.size, 3, none⟩ = some (.int .i64 0) := (K8.out.at (W2.heap.size) [.int .i64 0, .int .i64 m, .int .i64 d, .int .i64 0] (by simp)).c 3 rfl
  have c8_3_0 : W8.cell? ⟨w.heap.size, 0, none⟩ = some (.int .i64 0) := (K8.out.at (w.heap.size) [.int .i64 0, .int .i64 m, .int .i64 d, .int .i64 u] (by simp)).c 0 rfl
  have c8_3_1 : W8.cell? ⟨w.heap.size, 1, none⟩ = some (.int .i64 m) := (K8.out.at (w.heap.size) [.int .i64 0, .int .i64 m, .int .i64 d, .int .i64 u] (by simp)).c 1 rfl
  have c8_3_2 : W8.cell? ⟨w.heap.size, 2, none⟩ = some (.int .i64 d) := (K8.out.at (w.heap.size) [.int .i64 0, .int .i64 m, .int .i64 d, .int .i64 u] (by simp)).c 2 rfl
  have c8_3_3 : W8.cell? ⟨w.heap.size, 3, none⟩ = some (.int .i64 u) := (K8.out.at (w.heap.size) [.int .i64 0, .int .i64 m, .int .i64 d, .int .i64 u] (by simp)).c 3 rfl
  have Mz8 : Hid (BS w [(W8.heap.size, [.int .i64 0, .int .i64 0, .int .i64 0, .int .i64 0]), (W6.heap.size, [.int .i64 0, .int .i64 m, .int .i64 d, .int .i64 u]), (W4.heap.size, [.int .i64 0, .int .i64 m, .int .i64 d, .int .i64 u]), (W2.heap.size, [.int .i64 0, .int .i64 m, .int .i64 d, .int .i64 0]), (w.heap.size, [.int .i64 0, .int .i64 m, .int .i64 d, .int .i64 u])] (W8.alloc (.cells #[.int .i64 0, .int .i64 0, .int .i64 0, .int .i64 0] 23))) := K8.out.new [.int .i64 0, .int .i64 0, .int .i64 0, .int .i64 0] 23 rfl
  go_upto_region 7 with fail
  refine gen_to (BS w [(W8.heap.size, [.int .i64 0, .int .i64 0, .int .i64 0, .int .i64 0]), (W6.heap.size, [.int .i64 0, .int .i64 m, .int .i64 d, .int .i64 u]), (W4.heap.size, [.int .i64 0, .int .i64 m, .int .i64 d, .int .i64 u]), (W2.heap.size, [.int .i64 0, .int .i64 m, .int .i64 d, .int .i64 0]), (w.heap.size, [.int .i64 0, .int .i64 m, .int .i64 d, .int .i64 u])]) Mz8.out ?_
  clear c8_0_0 c8_0_1 c8_0_2 c8_0_3 c8_1_0 c8_1_1 c8_1_2 c8_1_3 c8_2_0 c8_2_1 c8_2_2 c8_2_3 c8_3_0 c8_3_1 c8_3_2 c8_3_3
  intro W9 K9'
  have K9 : Hid (BS w [(W8.heap.size, [.int .i64 0, .int .i64 0, .int .i64 0, .int .i64 0]), (W6.heap.size, [.int .i64 0, .int .i64 m, .int .i64 d, .int .i64 u]), (W4.heap.size, [.int .i64 0, .int .i64 m, .int .i64 d, .int .i64 u]), (W2.heap.size, [.int .i64 0, .int .i64 m, .int .i64 d, .int .i64 0]), (w.heap.size, [.int .i64 0, .int .i64 m, .int .i64 d, .int .i64 u])] W9) := K9'
  clear K9' Mz8 K8
  have c9_0_0 : W9.cell? ⟨W8.heap.size, 0, none⟩ = some (.int .i64 0) := (K9.out.at (W8.heap.size) [.int .i64 0, .int .i64 0, .int .i64 0, .int .i64 0] (by simp)).c 0 rfl
  have c9_0_1 : W9.cell? ⟨W8.heap.size, 1, none⟩ = some (.int .i64 0) := (K9.out.at (W8.heap.size) [.int .i64 0, .int .i64 0, .int .i64 0, .int .i64 0] (by simp)).c 1 rfl
  have c9_0_2 : W9.cell? ⟨W8.heap.size, 2, none⟩ = some (.int .i64 0) := (K9.out.at (W8.heap.size) [.int .i64 0, .int .i64 0, .int .i64 0, .int .i64 0] (by simp)).c 2 rfl
  have c9_0_3 : W9.cell? ⟨W8.heap.size, 3, none⟩ = some (.int .i64 0) := (K9.out.at (W8.heap.size) [.int .i64 0, .int .i64 0, .int .i64 0, .int .i64 0] (by simp)).c 3 rfl
  have c9_1_0 : W9.cell? ⟨W6.heap.size, 0, none⟩ = some (.int .i64 0) := (K9.out.at (W6.heap.size) [.int .i64 0, .int .i64 m, .int .i64 d, .int .i64 u] (by simp)).c 0 rfl
  have c9_1_1 : W9.cell? ⟨W6.heap.size, 1, none⟩ = some (.int .i64 m) := (K9.out.at (W6.heap.size) [.int .i64 0, .int .i64 m, .int .i64 d, .int .i64 u] (by simp)).c 1 rfl
  have c9_1_2 : W9.cell? ⟨W6.heap.size, 2, none⟩ = some (.int .i64 d) := (K9.out.at (W6.heap.size) [.int .i64 0, .int .i64 m, .int .i64 d, .int .i64 u] (by simp)).c 2 rfl
  have c9_1_3 : W9.cell? ⟨W6.heap.size, 3, none⟩ = some (.int .i64 u) := (K9.out.at (W6.heap.size) [.int .i64 0, .int .i64 m, .int .i64 d, .int .i64 u] (by simp)).c 3 rfl
  have c9_2_0 : W9.cell? ⟨W4.heap.size, 0, none⟩ = some (.int .i64 0) := (K9.out.at (W4.heap.size) [.int .i64 0, .int .i64 m, .int .i64 d, .int .i64 u] (by simp)).c 0 rfl
  have c9_2_1 : W9.cell? ⟨W4.heap.size, 1, none⟩ = some (.int .i64 m) := (K9.out.at (W4.heap.size) [.int .i64 0, .int .i64 m, .int .i64 d, .int .i64 u] (by simp)).c 1 rfl
  have c9_2_2 : W9.cell? ⟨W4.heap.size, 2, none⟩ = some (.int .i64 d) := (K9.out.at (W4.heap.size) [.int .i64 0, .int .i64 m, .int .i64 d, .int .i64 u] (by simp)).c 2 rfl
  have c9_2_3 : W9.cell? ⟨W4.heap.size, 3, none⟩ = some (.int .i64 u) := (K9.out.at (W4.heap.size) [.int .i64 0, .int .i64 m, .int .i64 d, .int .i64 u] (by simp)).c 3 rfl
  have c9_3_0 : W9.cell? ⟨W2.heap.size, 0, none⟩ = some (.int .i64 0) := (K9.out.at (W2.heap.size) [.int .i64 0, .int .i64 m, .int .i64 d, .int .i64 0] (by simp)).c 0 rfl
  have c9_3_1 : W9.cell? ⟨W2.heap.size, 1, none⟩ = some (.int .i64 m) := (K9.out.at (W2.heap.size) [.int .i64 0, .int .i64 m, .int .i64 d, .int .i64 0] (by simp)).c 1 rfl
  have c9_3_2 : W9.cell? ⟨W2.heap.size, 2, none⟩ = some (.int .i64 d) := (K9.out.at (W2.heap.size) [.int .i64 0, .int .i64 m, .int .i64 d, .int .i64 0] (by simp)).c 2 rfl
  have c9_3_3 : W9.cell? ⟨W2.heap.size, 3, none⟩ = some (.int .i64 0) := (K9.out.at (W2.heap.size) [.int .i64 0, .int .i64 m, .int .i64 d, .int .i64 0] (by simp)).c 3 rfl
  have c9_4_0 : W9.cell? ⟨w.heap.size, 0, none⟩ = some (.int .i64 0) := (K9.out.at (w.heap.size) [.int .i64 0, .int .i64 m, .int .i64 d, .int .i64 u] (by simp)).c 0 rfl
  have c9_4_1 : W9.cell? ⟨w.heap.size, 1, none⟩ = some (.int .i64 m) := (K9.out.at (w.heap.size) [.int .i64 0, .int .i64 m, .int .i64 d, .int .i64 u] (by simp)).c 1 rfl
  have c9_4_2 : W9.cell? ⟨w.heap.size, 2, none⟩ = some (.int .i64 d) := (K9.out.at (w.heap.size) [.int .i64 0, .int .i64 m, .int .i64 d, .int .i64 u] (by simp)).c 2 rfl
  have c9_4_3 : W9.cell? ⟨w.heap.size, 3, none⟩ = some (.int .i64 u) := (K9.out.at (w.heap.size) [.int .i64 0, .int .i64 m, .int .i64 d, .int .i64 u] (by simp)).c 3 rfl
  have Mz9 : Hid (BS w [(W9.heap.size, [.int .i64 0, .int .i64 0, .int .i64 0, .int .i64 0]), (W8.heap.size, [.int .i64 0, .int .i64 0, .int .i64 0, .int .i64 0]), (W6.heap.size, [.int .i64 0, .int .i64 m, .int .i64 d, .int .i64 u]), (W4.heap.size, [.int .i64 0, .int .i64 m, .int .i64 d, .int .i64 u]), (W2.heap.size, [.int .i64 0, .int .i64 m, .int .i64 d, .int .i64 0]), (w.heap.size, [.int .i64 0, .int .i64 m, .int .i64 d, .int .i64 u])] (W9.alloc (.cells #[.int .i64 0, .int .i64 0, .int .i64 0, .int .i64 0] 23))) := K9.out.new [.int .i64 0, .int .i64 0, .int .i64 0, .int .i64 0] 23 rfl
  go_upto_region 8 with fail
  refine gen_to (BS w [(W9.heap.size, [.int .i64 0, .int .i64 0, .int .i64 0, .int .i64 0]), (W8.heap.size, [.int .i64 0, .int .i64 0, .int .i64 0, .int .i64 0]), (W6.heap.size, [.int .i64 0, .int .i64 m, .int .i64 d, .int .i64 u]), (W4.heap.size, [.int .i64 0, .int .i64 m, .int .i64 d, .int .i64 u]), (W2.heap.size, [.int .i64 0, .int .i64 m, .int .i64 d, .int .i64 0]), (w.heap.size, [.int .i64 0, .int .i64 m, .int .i64 d, .int .i64 u])]) Mz9.out ?_
  clear c9_0_0 c9_0_1 c9_0_2 c9_0_3 c9_1_0 c9_1_1 c9_1_2 c9_1_3 c9_2_0 c9_2_1 c9_2_2 c9_2_3 c9_3_0 c9_3_1 c9_3_2 c9_3_3 c9_4_0 c9_4_1 c9_4_2 c9_4_3
  intro W10 K10'
  have K10 : Hid (BS w [(W9.heap.size, [.int .i64 0, .int .i64 0, .int .i64 0, .int .i64 0]), (W8.heap.size, [.int .i64 0, .int .i64 0, .int .i64 0, .int .i64 0]), (W6.heap.size, [.int .i64 0, .int .i64 m, .int .i64 d, .int .i64 u]), (W4.heap.size, [.int .i64 0, .int .i64 m, .int .i64 d, .int .i64 u]), (W2.heap.size, [.int .i64 0, .int .i64 m, .int .i64 d, .int .i64 0]), (w.heap.size, [.int .i64 0, .int .i64 m, .int .i64 d, .int .i64 u])] W10) := K10'
  clear K10' Mz9 K9
  have c10_0_0 : W10.cell? ⟨W9.heap.size, 0, none⟩ = some (.int .i64 0) := (K10.out.at (W9.heap.size) [.int .i64 0, .int .i64 0, .int .i64 0, .int .i64 0] (by simp)).c 0 rfl
  have c10_0_1 : W10.cell? ⟨W9.heap.size, 1, none⟩ = some (.int .i64 0) := (K10.out.at (W9.heap.size) [.int .i64 0, .int .i64 0, .int .i64 0, .int .i64 0] (by simp)).c 1 rfl
  have c10_0_2 : W10.cell? ⟨W9.heap.size, 2, none⟩ = some (.int .i64 0) := (K10.out.at (W9.heap.size) [.int .i64 0, .int .i64 0, .int .i64 0, .int .i64 0] (by simp)).c 2 rfl
  have c10_0_3 : W10.cell? ⟨W9.heap.size, 3, none⟩ = some (.int .i64 0) := (K10.out.at (W9.heap.size) [.int .i64 0, .int .i64 0, .int .i64 0, .int .i64 0] (by simp)).c 3 rfl
  have c10_1_0 : W10.cell? ⟨W8.heap.size, 0, none⟩ = some (.int .i64 0) := (K10.out.at (W8.heap.size) [.int .i64 0, .int .i64 0, .int .i64 0, .int .i64 0] (by simp)).c 0 rfl
  have c10_1_1 : W10.cell? ⟨W8.heap.size, 1, none⟩ = some (.int .i64 0) := (K10.out.at (W8.heap.size) [.int .i64 0, .int .i64 0, .int .i64 0, .int .i64 0] (by simp)).c 1 rfl
  have c10_1_2 : W10.cell? ⟨W8.heap.size, 2, none⟩ = some (.int .i64 0) := (K10.out.at (W8.heap.size) [.int .i64 0, .int .i64 0, .int .i64 0, .int .i64 0] (by simp)).c 2 rfl
  have c10_1_3 : W10.cell? ⟨W8.heap.size, 3, none⟩ = some (.int .i64 0) := (K10.out.at (W8.heap.size) [.int .i64 0, .int .i64 0, .int .i64 0, .int .i64 0] (by simp)).c 3 rfl
  have c10_2_0 : W10.cell? ⟨W6.heap.size, 0, none⟩ = some (.int .i64 0) := (K10.out.at (W6.heap.size) [.int .i64 0, .int .i64 m, .int .i64 d, .int .i64 u] (by simp)).c 0 rfl
  have c10_2_1 : W10.cell? ⟨W6.heap.size, 1, none⟩ = some (.int .i64 m) := (K10.out.at (W6.heap.size) [.int .i64 0, .int .i64 m, .int .i64 d, .int .i64 u] (by simp)).c 1 rfl
  have c10_2_2 : W10.cell? ⟨W6.heap.size, 2, none⟩ = some (.int .i64 d) := (K10.out.at (W6.heap.size) [.int .i64 0, .int .i64 m, .int .i64 d, .int .i64 u] (by simp)).c 2 rfl
  have c10_2_3 : W10.cell? ⟨W6.heap.size, 3, none⟩ = some (.int .i64 u) := (K10.out.at (W6.heap.size) [.int .i64 0, .int .i64 m, .int .i64 d, .int .i64 u] (by simp)).c 3 rfl
  have c10_3_0 : W10.cell? ⟨W4.heap.size, 0, none⟩ = some (.int .i64 0) := (K10.out.at (W4.heap.size) [.int .i64 0, .int .i64 m, .int .i64 d, .int .i64 u] (by simp)).c 0 rfl
  have c10_3_1 : W10.cell? ⟨W4.heap.size, 1, none⟩ = some (.int .i64 m) := (K10.out.at (W4.heap.size) [.int .i64 0, .int .i64 m, .int .i64 d, .int .i64 u] (by simp)).c 1 rfl
  have c10_3_2 : W10.cell? ⟨W4.heap.size, 2, none⟩ = some (.int .i64 d) := (K10.out.at (W4.heap.size) [.int .i64 0, .int .i64 m, .int .i64 d, .int .i64 u] (by simp)).c 2 rfl
  have c10_3_3 : W10.cell? ⟨W4.heap.size, 3, none⟩ = some (.int .i64 u) := (K10.out.at (W4.heap.size) [.int .i64 0, .int .i64 m, .int .i64 d, .int .i64 u] (by simp)).c 3 rfl
  have c10_4_0 : W10.cell? ⟨W2.heap.size, 0, none⟩ = some (.int .i64 0) := (K10.out.at (W2.heap.size) [.int .i64 0, .int .i64 m, .int .i64 d, .int .i64 0] (by simp)).c 0 rfl
  have c10_4_1 : W10.cell? ⟨W2.heap.size, 1, none⟩ = some (.int .i64 m) := (K10.out.at (W2.heap.size) [.int .i64 0, .int .i64 m, .int .i64 d, .int .i64 0] (by simp)).c 1 rfl
  have c10_4_2 : W10.cell? ⟨W2.heap.size, 2, none⟩ = some (.int .i64 d) := (K10.out.at (W2.heap.size) [.int .i64 0, .int .i64 m, .int .i64 d, .int .i64 0] (by simp)).c 2 rfl
  have c10_4_3 : W10.cell? ⟨W2.heap.size, 3, none⟩ = some (.int .i64 0) := (K10.out.at (W2.heap.size) [.int .i64 0, .int .i64 m, .int .i64 d, .int .i64 0] (by simp)).c 3 rfl
  have c10_5_0 : W10.cell? ⟨w.heap.size, 0, none⟩ = some (.int .i64 0) := (K10.out.at (w.heap.size) [.int .i64 0, .int .i64 m, .int .i64 d, .int .i64 u] (by simp)).c 0 rfl
  have c10_5_1 : W10.cell? ⟨w.heap.size, 1, none⟩ = some (.int .i64 m) := (K10.out.at (w.heap.size) [.int .i64 0, .int .i64 m, .int .i64 d, .int .i64 u] (by simp)).c 1 rfl
  have c10_5_2 : W10.cell? ⟨w.heap.size, 2, none⟩ = some (.int .i64 d) := (K10.out.at (w.heap.size) [.int .i64 0, .int .i64 m, .int .i64 d, .int .i64 u] (by simp)).c 2 rfl
  have c10_5_3 : W10.cell? ⟨w.heap.size, 3, none⟩ = some (.int .i64 u) := (K10.out.at (w.heap.size) [.int .i64 0, .int .i64 m, .int .i64 d, .int .i64 u] (by simp)).c 3 rfl
  go_wp2_with fail
  refine (KN.out _).mono ?_
  rintro e W11 ⟨rfl, hb⟩
  have K11 : Hid (BS w [(W9.heap.size, [.int .i64 0, .int .i64 0, .int .i64 0, .int .i64 0]), (W8.heap.size, [.int .i64 0, .int .i64 0, .int .i64 0, .int .i64 0]), (W6.heap.size, [.int .i64 0, .int .i64 m, .int .i64 d, .int .i64 u]), (W4.heap.size, [.int .i64 0, .int .i64 m, .int .i64 d, .int .i64 u]), (W2.heap.size, [.int .i64 0, .int .i64 m, .int .i64 d, .int .i64 0]), (w.heap.size, [.int .i64 0, .int .i64 m, .int .i64 d, .int .i64 u])] W11) := K10.out.below hb
  clear c10_0_0 c10_0_1 c10_0_2 c10_0_3 c10_1_0 c10_1_1 c10_1_2 c10_1_3 c10_2_0 c10_2_1 c10_2_2 c10_2_3 c10_3_0 c10_3_1 c10_3_2 c10_3_3 c10_4_0 c10_4_1 c10_4_2 c10_4_3 c10_5_0 c10_5_1 c10_5_2 c10_5_3
  clear hb K10
  have c11_0_0 : W11.cell? ⟨W9.heap.size, 0, none⟩ = some (.int .i64 0) := (K11.out.at (W9.heap.size) [.int .i64 0, .int .i64 0, .int .i64 0, .int .i64 0] (by simp)).c 0 rfl
  have c11_0_1 : W11.cell? ⟨W9.heap.size, 1, none⟩ = some (.int .i64 0) := (K11.out.at (W9.heap.size) [.int .i64 0, .int .i64 0, .int .i64 0, .int .i64 0] (by simp)).c 1 rfl
  have c11_0_2 : W11.cell? ⟨W9.heap.size, 2, none⟩ = some (.int .i64 0) := (K11.out.at (W9.heap.size) [.int .i64 0, .int .i64 0, .int .i64 0, .int .i64 0] (by simp)).c 2 rfl
  have c11_0_3 : W11.cell? ⟨W9.heap.size, 3, none⟩ = some (.int .i64 0) := (K11.out.at (W9.heap.size) [.int .i64 0, .int .i64 0, .int .i64 0, .int .i64 0] (by simp)).c 3 rfl
  have c11_1_0 : W11.cell? ⟨W8.heap.size, 0, none⟩ = some (.int .i64 0) := (K11.out.at (W8.heap.size) [.int .i64 0, .int .i64 0, .int .i64 0, .int .i64 0] (by simp)).c 0 rfl
  have c11_1_1 : W11.cell? ⟨W8.heap.size, 1, none⟩ = some (.int .i64 0) := (K11.out.at (W8.heap.size) [.int .i64 0, .int .i64 0, .int .i64 0, .int .i64 0] (by simp)).c 1 rfl
  have c11_1_2 : W11.cell? ⟨W8.heap.size, 2, none⟩ = some (.int .i64 0) := (K11.out.at (W8.heap.size) [.int .i64 0, .int .i64 0, .int .i64 0, .int .i64 0] (by simp)).c 2 rfl
  have c11_1_3 : W11.cell? ⟨W8.heap.size, 3, none⟩ = some (.int .i64 0) := (K11.out.at (W8.heap.size) [.int .i64 0, .int .i64 0, .int .i64 0, .int .i64 0] (by simp)).c 3 rfl
  have c11_2_0 : W11.cell? ⟨W6.heap.size, 0, none⟩ = some (.int .i64 0) := (K11.out.at (W6.heap.size) [.int .i64 0, .int .i64 m, .int .i64 d, .int .i64 u] (by simp)).c 0 rfl
  have c11_2_1 : W11.cell? ⟨W6.heap.size, 1, none⟩ = some (.int .i64 m) := (K11.out.at (W6.heap.size) [.int .i64 0, .int .i64 m, .int .i64 d, .int .i64 u] (by simp)).c 1 rfl
  have c11_2_2 : W11.cell? ⟨W6.heap.size, 2, none⟩ = some (.int .i64 d) := (K11.out.at (W6.heap.size) [.int .i64 0, .int .i64 m, .int .i64 d, .int .i64 u] (by simp)).c 2 rfl
  have c11_2_3 : W11.cell? ⟨W6.heap.size, 3, none⟩ = some (.int .i64 u) := (K11.out.at (W6.heap.size) [.int .i64 0, .int .i64 m, .int .i64 d, .int .i64 u] (by simp)).c 3 rfl
  have c11_3_0 : W11.cell? ⟨W4.heap.size, 0, none⟩ = some (.int .i64 0) := (K11.out.at (W4.heap.size) [.int .i64 0, .int .i64 m, .int .i64 d, .int .i64 u] (by simp)).c 0 rfl
  have c11_3_1 : W11.cell? ⟨W4.heap.size, 1, none⟩ = some (.int .i64 m) := (K11.out.at (W4.heap.size) [.int .i64 0, .int .i64 m, .int .i64 d, .int .i64 u] (by simp)).c 1 rfl
  have c11_3_2 : W11.cell? ⟨W4.heap.size, 2, none⟩ = some (.int .i64 d) := (K11.out.at (W4.heap.size) [.int .i64 0, .int .i64 m, .int .i64 d, .int .i64 u] (by simp)).c 2 rfl
  have c11_3_3 : W11.cell? ⟨W4.heap.size, 3, none⟩ = some (.int .i64 u) := (K11.out.at (W4.heap.size) [.int .i64 0, .int .i64 m, .int .i64 d, .int .i64 u] (by simp)).c 3 rfl
  have c11_4_0 : W11.cell? ⟨W2.heap.size, 0, none⟩ = some (.int .i64 0) := (K11.out.at (W2.heap.size) [.int .i64 0, .int .i64 m, .int .i64 d, .int .i64 0] (by simp)).c 0 rfl
  have c11_4_1 : W11.cell? ⟨W2.heap.size, 1, none⟩ = some (.int .i64 m) := (K11.out.at (W2.heap.size) [.int .i64 0, .int .i64 m, .int .i64 d, .int .i64 0] (by simp)).c 1 rfl
  have c11_4_2 : W11.cell? ⟨W2.heap.size, 2, none⟩ = some (.int .i64 d) := (K11.out.at (W2.heap.size) [.int .i64 0, .int .i64 m, .int .i64 d, .int .i64 0] (by simp)).c 2 rfl
  have c11_4_3 : W11.cell? ⟨W2.heap.size, 3, none⟩ = some (.int .i64 0) := (K11.out.at (W2.heap.size) [.int .i64 0, .int .i64 m, .int .i64 d, .int .i64 0] (by simp)).c 3 rfl
  have c11_5_0 : W11.cell? ⟨w.heap.size, 0, none⟩ = some (.int .i64 0) := (K11.out.at (w.heap.size) [.int .i64 0, .int .i64 m, .int .i64 d, .int .i64 u] (by simp)).c 0 rfl
  have c11_5_1 : W11.cell? ⟨w.heap.size, 1, none⟩ = some (.int .i64 m) := (K11.out.at (w.heap.size) [.int .i64 0, .int .i64 m, .int .i64 d, .int .i64 u] (by simp)).c 1 rfl
  have c11_5_2 : W11.cell? ⟨w.heap.size, 2, none⟩ = some (.int .i64 d) := (K11.out.at (w.heap.size) [.int .i64 0, .int .i64 m, .int .i64 d, .int .i64 u] (by simp)).c 2 rfl
  have c11_5_3 : W11.cell? ⟨w.heap.size, 3, none⟩ = some (.int .i64 u) := (K11.out.at (w.heap.size) [.int .i64 0, .int .i64 m, .int .i64 d, .int .i64 u] (by simp)).c 3 rfl
  go_wp2
  go_ret
  exact ⟨rfl, K11.out.1⟩


end Go.Proofs.Ytghfgabajdghiac
