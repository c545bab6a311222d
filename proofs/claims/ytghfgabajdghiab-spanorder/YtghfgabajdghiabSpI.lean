/- The reference's Cmp, Sign, Justify: way by way. -/
import Derived.Test.YtghfgabajdghiabSpH
import Derived.Deep.Cut
import Derived.Deep.CutRange
import Derived.Deep.DeepCutAuto
namespace Go.Proofs.Ytghfgabajdghiab
open Go.RowKit
set_option linter.unusedVariables false

set_option maxRecDepth 100000 in
set_option maxHeartbeats 4000000 in
theorem rpcmp_no1 (i m d u j n e v : Int)
    (X : Hid (∀ w : World, Calls Try.prog 16 #[.agg #[.int .i64 i, .int .i64 m, .int .i64 d, .int .i64 u]] w fun r' w' => r' = .returned (.bool false) ∧ Below w.heap.size w w'))
    (w : World) :
    Calls Try.prog 23 #[.agg #[.int .i64 i, .int .i64 m, .int .i64 d, .int .i64 u], .agg #[.int .i64 j, .int .i64 n, .int .i64 e, .int .i64 v]] w fun r' w' => r' = .returned (.int .i64 0) ∧ Below w.heap.size w w' := by
  have K0 : Hid (BS w [(w.heap.size + 1, [.int .i64 j, .int .i64 n, .int .i64 e, .int .i64 v]), (w.heap.size, [.int .i64 i, .int .i64 m, .int .i64 d, .int .i64 u])] ((w.alloc (.cells #[.int .i64 i, .int .i64 m, .int .i64 d, .int .i64 u] 23)).alloc (.cells #[.int .i64 j, .int .i64 n, .int .i64 e, .int .i64 v] 23))) := (((BS.start w).new [.int .i64 i, .int .i64 m, .int .i64 d, .int .i64 u] 23 rfl).new [.int .i64 j, .int .i64 n, .int .i64 e, .int .i64 v] 23 (by simp))
  go_enter Try.func23, Try.ntmps23
  go_wp2_with fail
  refine (X.out _).mono ?_
  rintro e W1 ⟨rfl, hb⟩
  have K1 : Hid (BS w [(w.heap.size + 1, [.int .i64 j, .int .i64 n, .int .i64 e, .int .i64 v]), (w.heap.size, [.int .i64 i, .int .i64 m, .int .i64 d, .int .i64 u])] W1) := K0.out.below hb
  clear hb K0
  have c1_0_0 : W1.cell? ⟨w.heap.size + 1, 0, none⟩ = some (.int .i64 j) := (K1.out.at (w.heap.size + 1) [.int .i64 j, .int .i64 n, .int .i64 e, .int .i64 v] (by simp)).c 0 rfl
  have c1_0_1 : W1.cell? ⟨w.heap.size + 1, 1, none⟩ = some (.int .i64 n) := (K1.out.at (w.heap.size + 1) [.int .i64 j, .int .i64 n, .int .i64 e, .int .i64 v] (by simp)).c 1 rfl
  have c1_0_2 : W1.cell? ⟨w.heap.size + 1, 2, none⟩ = some (.int .i64 e) := (K1.out.at (w.heap.size + 1) [.int .i64 j, .int .i64 n, .int .i64 e, .int .i64 v] (by simp)).c 2 rfl
  have c1_0_3 : W1.cell? ⟨w.heap.size + 1, 3, none⟩ = some (.int .i64 v) := (K1.out.at (w.heap.size + 1) [.int .i64 j, .int .i64 n, .int .i64 e, .int .i64 v] (by simp)).c 3 rfl
  have c1_1_0 : W1.cell? ⟨w.heap.size, 0, none⟩ = some (.int .i64 i) := (K1.out.at (w.heap.size) [.int .i64 i, .int .i64 m, .int .i64 d, .int .i64 u] (by simp)).c 0 rfl
  have c1_1_1 : W1.cell? ⟨w.heap.size, 1, none⟩ = some (.int .i64 m) := (K1.out.at (w.heap.size) [.int .i64 i, .int .i64 m, .int .i64 d, .int .i64 u] (by simp)).c 1 rfl
  have c1_1_2 : W1.cell? ⟨w.heap.size, 2, none⟩ = some (.int .i64 d) := (K1.out.at (w.heap.size) [.int .i64 i, .int .i64 m, .int .i64 d, .int .i64 u] (by simp)).c 2 rfl
  have c1_1_3 : W1.cell? ⟨w.heap.size, 3, none⟩ = some (.int .i64 u) := (K1.out.at (w.heap.size) [.int .i64 i, .int .i64 m, .int .i64 d, .int .i64 u] (by simp)).c 3 rfl
  go_wp2
  go_ret
  exact ⟨rfl, K1.out.1⟩

set_option maxRecDepth 100000 in
set_option maxHeartbeats 4000000 in
theorem rpcmp_no2 (i m d u j n e v : Int)
    (X : Hid (∀ w : World, Calls Try.prog 16 #[.agg #[.int .i64 i, .int .i64 m, .int .i64 d, .int .i64 u]] w fun r' w' => r' = .returned (.bool true) ∧ Below w.heap.size w w'))
    (Y : Hid (∀ w : World, Calls Try.prog 16 #[.agg #[.int .i64 j, .int .i64 n, .int .i64 e, .int .i64 v]] w fun r' w' => r' = .returned (.bool false) ∧ Below w.heap.size w w'))
    (w : World) :
    Calls Try.prog 23 #[.agg #[.int .i64 i, .int .i64 m, .int .i64 d, .int .i64 u], .agg #[.int .i64 j, .int .i64 n, .int .i64 e, .int .i64 v]] w fun r' w' => r' = .returned (.int .i64 0) ∧ Below w.heap.size w w' := by
  have K0 : Hid (BS w [(w.heap.size + 1, [.int .i64 j, .int .i64 n, .int .i64 e, .int .i64 v]), (w.heap.size, [.int .i64 i, .int .i64 m, .int .i64 d, .int .i64 u])] ((w.alloc (.cells #[.int .i64 i, .int .i64 m, .int .i64 d, .int .i64 u] 23)).alloc (.cells #[.int .i64 j, .int .i64 n, .int .i64 e, .int .i64 v] 23))) := (((BS.start w).new [.int .i64 i, .int .i64 m, .int .i64 d, .int .i64 u] 23 rfl).new [.int .i64 j, .int .i64 n, .int .i64 e, .int .i64 v] 23 (by simp))
  go_enter Try.func23, Try.ntmps23
  go_wp2_with fail
  refine (X.out _).mono ?_
  rintro e W1 ⟨rfl, hb⟩
  have K1 : Hid (BS w [(w.heap.size + 1, [.int .i64 j, .int .i64 n, .int .i64 e, .int .i64 v]), (w.heap.size, [.int .i64 i, .int .i64 m, .int .i64 d, .int .i64 u])] W1) := K0.out.below hb
  clear hb K0
  have c1_0_0 : W1.cell? ⟨w.heap.size + 1, 0, none⟩ = some (.int .i64 j) := (K1.out.at (w.heap.size + 1) [.int .i64 j, .int .i64 n, .int .i64 e, .int .i64 v] (by simp)).c 0 rfl
  have c1_0_1 : W1.cell? ⟨w.heap.size + 1, 1, none⟩ = some (.int .i64 n) := (K1.out.at (w.heap.size + 1) [.int .i64 j, .int .i64 n, .int .i64 e, .int .i64 v] (by simp)).c 1 rfl
  have c1_0_2 : W1.cell? ⟨w.heap.size + 1, 2, none⟩ = some (.int .i64 e) := (K1.out.at (w.heap.size + 1) [.int .i64 j, .int .i64 n, .int .i64 e, .int .i64 v] (by simp)).c 2 rfl
  have c1_0_3 : W1.cell? ⟨w.heap.size + 1, 3, none⟩ = some (.int .i64 v) := (K1.out.at (w.heap.size + 1) [.int .i64 j, .int .i64 n, .int .i64 e, .int .i64 v] (by simp)).c 3 rfl
  have c1_1_0 : W1.cell? ⟨w.heap.size, 0, none⟩ = some (.int .i64 i) := (K1.out.at (w.heap.size) [.int .i64 i, .int .i64 m, .int .i64 d, .int .i64 u] (by simp)).c 0 rfl
  have c1_1_1 : W1.cell? ⟨w.heap.size, 1, none⟩ = some (.int .i64 m) := (K1.out.at (w.heap.size) [.int .i64 i, .int .i64 m, .int .i64 d, .int .i64 u] (by simp)).c 1 rfl
  have c1_1_2 : W1.cell? ⟨w.heap.size, 2, none⟩ = some (.int .i64 d) := (K1.out.at (w.heap.size) [.int .i64 i, .int .i64 m, .int .i64 d, .int .i64 u] (by simp)).c 2 rfl
  have c1_1_3 : W1.cell? ⟨w.heap.size, 3, none⟩ = some (.int .i64 u) := (K1.out.at (w.heap.size) [.int .i64 i, .int .i64 m, .int .i64 d, .int .i64 u] (by simp)).c 3 rfl
  go_wp2_with fail
  refine (Y.out _).mono ?_
  rintro e W2 ⟨rfl, hb⟩
  have K2 : Hid (BS w [(w.heap.size + 1, [.int .i64 j, .int .i64 n, .int .i64 e, .int .i64 v]), (w.heap.size, [.int .i64 i, .int .i64 m, .int .i64 d, .int .i64 u])] W2) := K1.out.below hb
  clear c1_0_0 c1_0_1 c1_0_2 c1_0_3 c1_1_0 c1_1_1 c1_1_2 c1_1_3
  clear hb K1
  have c2_0_0 : W2.cell? ⟨w.heap.size + 1, 0, none⟩ = some (.int .i64 j) := (K2.out.at (w.heap.size + 1) [.int .i64 j, .int .i64 n, .int .i64 e, .int .i64 v] (by simp)).c 0 rfl
  have c2_0_1 : W2.cell? ⟨w.heap.size + 1, 1, none⟩ = some (.int .i64 n) := (K2.out.at (w.heap.size + 1) [.int .i64 j, .int .i64 n, .int .i64 e, .int .i64 v] (by simp)).c 1 rfl
  have c2_0_2 : W2.cell? ⟨w.heap.size + 1, 2, none⟩ = some (.int .i64 e) := (K2.out.at (w.heap.size + 1) [.int .i64 j, .int .i64 n, .int .i64 e, .int .i64 v] (by simp)).c 2 rfl
  have c2_0_3 : W2.cell? ⟨w.heap.size + 1, 3, none⟩ = some (.int .i64 v) := (K2.out.at (w.heap.size + 1) [.int .i64 j, .int .i64 n, .int .i64 e, .int .i64 v] (by simp)).c 3 rfl
  have c2_1_0 : W2.cell? ⟨w.heap.size, 0, none⟩ = some (.int .i64 i) := (K2.out.at (w.heap.size) [.int .i64 i, .int .i64 m, .int .i64 d, .int .i64 u] (by simp)).c 0 rfl
  have c2_1_1 : W2.cell? ⟨w.heap.size, 1, none⟩ = some (.int .i64 m) := (K2.out.at (w.heap.size) [.int .i64 i, .int .i64 m, .int .i64 d, .int .i64 u] (by simp)).c 1 rfl
  have c2_1_2 : W2.cell? ⟨w.heap.size, 2, none⟩ = some (.int .i64 d) := (K2.out.at (w.heap.size) [.int .i64 i, .int .i64 m, .int .i64 d, .int .i64 u] (by simp)).c 2 rfl
  have c2_1_3 : W2.cell? ⟨w.heap.size, 3, none⟩ = some (.int .i64 u) := (K2.out.at (w.heap.size) [.int .i64 i, .int .i64 m, .int .i64 d, .int .i64 u] (by simp)).c 3 rfl
  go_wp2
  go_ret
  exact ⟨rfl, K2.out.1⟩

set_option maxRecDepth 100000 in
set_option maxHeartbeats 4000000 in
theorem rpcmp_lt (i m d u j n e v : Int) (h : i < j)
    (X : Hid (∀ w : World, Calls Try.prog 16 #[.agg #[.int .i64 i, .int .i64 m, .int .i64 d, .int .i64 u]] w fun r' w' => r' = .returned (.bool true) ∧ Below w.heap.size w w'))
    (Y : Hid (∀ w : World, Calls Try.prog 16 #[.agg #[.int .i64 j, .int .i64 n, .int .i64 e, .int .i64 v]] w fun r' w' => r' = .returned (.bool true) ∧ Below w.heap.size w w'))
    (w : World) :
    Calls Try.prog 23 #[.agg #[.int .i64 i, .int .i64 m, .int .i64 d, .int .i64 u], .agg #[.int .i64 j, .int .i64 n, .int .i64 e, .int .i64 v]] w fun r' w' => r' = .returned (.int .i64 (-1)) ∧ Below w.heap.size w w' := by
  have K0 : Hid (BS w [(w.heap.size + 1, [.int .i64 j, .int .i64 n, .int .i64 e, .int .i64 v]), (w.heap.size, [.int .i64 i, .int .i64 m, .int .i64 d, .int .i64 u])] ((w.alloc (.cells #[.int .i64 i, .int .i64 m, .int .i64 d, .int .i64 u] 23)).alloc (.cells #[.int .i64 j, .int .i64 n, .int .i64 e, .int .i64 v] 23))) := (((BS.start w).new [.int .i64 i, .int .i64 m, .int .i64 d, .int .i64 u] 23 rfl).new [.int .i64 j, .int .i64 n, .int .i64 e, .int .i64 v] 23 (by simp))
  go_enter Try.func23, Try.ntmps23
  go_wp2_with fail
  refine (X.out _).mono ?_
  rintro e W1 ⟨rfl, hb⟩
  have K1 : Hid (BS w [(w.heap.size + 1, [.int .i64 j, .int .i64 n, .int .i64 e, .int .i64 v]), (w.heap.size, [.int .i64 i, .int .i64 m, .int .i64 d, .int .i64 u])] W1) := K0.out.below hb
  clear hb K0
  have c1_0_0 : W1.cell? ⟨w.heap.size + 1, 0, none⟩ = some (.int .i64 j) := (K1.out.at (w.heap.size + 1) [.int .i64 j, .int .i64 n, .int .i64 e, .int .i64 v] (by simp)).c 0 rfl
  have c1_0_1 : W1.cell? ⟨w.heap.size + 1, 1, none⟩ = some (.int .i64 n) := (K1.out.at (w.heap.size + 1) [.int .i64 j, .int .i64 n, .int .i64 e, .int .i64 v] (by simp)).c 1 rfl
  have c1_0_2 : W1.cell? ⟨w.heap.size + 1, 2, none⟩ = some (.int .i64 e) := (K1.out.at (w.heap.size + 1) [.int .i64 j, .int .i64 n, .int .i64 e, .int .i64 v] (by simp)).c 2 rfl
  have c1_0_3 : W1.cell? ⟨w.heap.size + 1, 3, none⟩ = some (.int .i64 v) := (K1.out.at (w.heap.size + 1) [.int .i64 j, .int .i64 n, .int .i64 e, .int .i64 v] (by simp)).c 3 rfl
  have c1_1_0 : W1.cell? ⟨w.heap.size, 0, none⟩ = some (.int .i64 i) := (K1.out.at (w.heap.size) [.int .i64 i, .int .i64 m, .int .i64 d, .int .i64 u] (by simp)).c 0 rfl
  have c1_1_1 : W1.cell? ⟨w.heap.size, 1, none⟩ = some (.int .i64 m) := (K1.out.at (w.heap.size) [.int .i64 i, .int .i64 m, .int .i64 d, .int .i64 u] (by simp)).c 1 rfl
  have c1_1_2 : W1.cell? ⟨w.heap.size, 2, none⟩ = some (.int .i64 d) := (K1.out.at (w.heap.size) [.int .i64 i, .int .i64 m, .int .i64 d, .int .i64 u] (by simp)).c 2 rfl
  have c1_1_3 : W1.cell? ⟨w.heap.size, 3, none⟩ = some (.int .i64 u) := (K1.out.at (w.heap.size) [.int .i64 i, .int .i64 m, .int .i64 d, .int .i64 u] (by simp)).c 3 rfl
  go_wp2_with fail
  refine (Y.out _).mono ?_
  rintro e W2 ⟨rfl, hb⟩
  have K2 : Hid (BS w [(w.heap.size + 1, [.int .i64 j, .int .i64 n, .int .i64 e, .int .i64 v]), (w.heap.size, [.int .i64 i, .int .i64 m, .int .i64 d, .int .i64 u])] W2) := K1.out.below hb
  clear c1_0_0 c1_0_1 c1_0_2 c1_0_3 c1_1_0 c1_1_1 c1_1_2 c1_1_3
  clear hb K1
  have c2_0_0 : W2.cell? ⟨w.heap.size + 1, 0, none⟩ = some (.int .i64 j) := (K2.out.at (w.heap.size + 1) [.int .i64 j, .int .i64 n, .int .i64 e, .int .i64 v] (by simp)).c 0 rfl
  have c2_0_1 : W2.cell? ⟨w.heap.size + 1, 1, none⟩ = some (.int .i64 n) := (K2.out.at (w.heap.size + 1) [.int .i64 j, .int .i64 n, .int .i64 e, .int .i64 v] (by simp)).c 1 rfl
  have c2_0_2 : W2.cell? ⟨w.heap.size + 1, 2, none⟩ = some (.int .i64 e) := (K2.out.at (w.heap.size + 1) [.int .i64 j, .int .i64 n, .int .i64 e, .int .i64 v] (by simp)).c 2 rfl
  have c2_0_3 : W2.cell? ⟨w.heap.size + 1, 3, none⟩ = some (.int .i64 v) := (K2.out.at (w.heap.size + 1) [.int .i64 j, .int .i64 n, .int .i64 e, .int .i64 v] (by simp)).c 3 rfl
  have c2_1_0 : W2.cell? ⟨w.heap.size, 0, none⟩ = some (.int .i64 i) := (K2.out.at (w.heap.size) [.int .i64 i, .int .i64 m, .int .i64 d, .int .i64 u] (by simp)).c 0 rfl
  have c2_1_1 : W2.cell? ⟨w.heap.size, 1, none⟩ = some (.int .i64 m) := (K2.out.at (w.heap.size) [.int .i64 i, .int .i64 m, .int .i64 d, .int .i64 u] (by simp)).c 1 rfl
  have c2_1_2 : W2.cell? ⟨w.heap.size, 2, none⟩ = some (.int .i64 d) := (K2.out.at (w.heap.size) [.int .i64 i, .int .i64 m, .int .i64 d, .int .i64 u] (by simp)).c 2 rfl
  have c2_1_3 : W2.cell? ⟨w.heap.size, 3, none⟩ = some (.int .i64 u) := (K2.out.at (w.heap.size) [.int .i64 i, .int .i64 m, .int .i64 d, .int .i64 u] (by simp)).c 3 rfl
  go_wp2
  go_ret
  exact ⟨rfl, K2.out.1⟩

set_option maxRecDepth 100000 in
set_option maxHeartbeats 4000000 in
theorem rpcmp_gt (i m d u j n e v : Int) (h : j < i)
    (X : Hid (∀ w : World, Calls Try.prog 16 #[.agg #[.int .i64 i, .int .i64 m, .int .i64 d, .int .i64 u]] w fun r' w' => r' = .returned (.bool true) ∧ Below w.heap.size w w'))
    (Y : Hid (∀ w : World, Calls Try.prog 16 #[.agg #[.int .i64 j, .int .i64 n, .int .i64 e, .int .i64 v]] w fun r' w' => r' = .returned (.bool true) ∧ Below w.heap.size w w'))
    (w : World) :
    Calls Try.prog 23 #[.agg #[.int .i64 i, .int .i64 m, .int .i64 d, .int .i64 u], .agg #[.int .i64 j, .int .i64 n, .int .i64 e, .int .i64 v]] w fun r' w' => r' = .returned (.int .i64 1) ∧ Below w.heap.size w w' := by
  have h1 : ¬ i < j := by omega
  have K0 : Hid (BS w [(w.heap.size + 1, [.int .i64 j, .int .i64 n, .int .i64 e, .int .i64 v]), (w.heap.size, [.int .i64 i, .int .i64 m, .int .i64 d, .int .i64 u])] ((w.alloc (.cells #[.int .i64 i, .int .i64 m, .int .i64 d, .int .i64 u] 23)).alloc (.cells #[.int .i64 j, .int .i64 n, .int .i64 e, .int .i64 v] 23))) := (((BS.start w).new [.int .i64 i, .int .i64 m, .int .i64 d, .int .i64 u] 23 rfl).new [.int .i64 j, .int .i64 n, .int .i64 e, .int .i64 v] 23 (by simp))
  go_enter Try.func23, Try.ntmps23
  go_wp2_with fail
  refine (X.out _).mono ?_
  rintro e W1 ⟨rfl, hb⟩
  have K1 : Hid (BS w [(w.heap.size + 1, [.int .i64 j, .int .i64 n, .int .i64 e, .int .i64 v]), (w.heap.size, [.int .i64 i, .int .i64 m, .int .i64 d, .int .i64 u])] W1) := K0.out.below hb
  clear hb K0
  have c1_0_0 : W1.cell? ⟨w.heap.size + 1, 0, none⟩ = some (.int .i64 j) := (K1.out.at (w.heap.size + 1) [.int .i64 j, .int .i64 n, .int .i64 e, .int .i64 v] (by simp)).c 0 rfl
  have c1_0_1 : W1.cell? ⟨w.heap.size + 1, 1, none⟩ = some (.int .i64 n) := (K1.out.at (w.heap.size + 1) [.int .i64 j, .int .i64 n, .int .i64 e, .int .i64 v] (by simp)).c 1 rfl
  have c1_0_2 : W1.cell? ⟨w.heap.size + 1, 2, none⟩ = some (.int .i64 e) := (K1.out.at (w.heap.size + 1) [.int .i64 j, .int .i64 n, .int .i64 e, .int .i64 v] (by simp)).c 2 rfl
  have c1_0_3 : W1.cell? ⟨w.heap.size + 1, 3, none⟩ = some (.int .i64 v) := (K1.out.at (w.heap.size + 1) [.int .i64 j, .int .i64 n, .int .i64 e, .int .i64 v] (by simp)).c 3 rfl
  have c1_1_0 : W1.cell? ⟨w.heap.size, 0, none⟩ = some (.int .i64 i) := (K1.out.at (w.heap.size) [.int .i64 i, .int .i64 m, .int .i64 d, .int .i64 u] (by simp)).c 0 rfl
  have c1_1_1 : W1.cell? ⟨w.heap.size, 1, none⟩ = some (.int .i64 m) := (K1.out.at (w.heap.size) [.int .i64 i, .int .i64 m, .int .i64 d, .int .i64 u] (by simp)).c 1 rfl
  have c1_1_2 : W1.cell? ⟨w.heap.size, 2, none⟩ = some (.int .i64 d) := (K1.out.at (w.heap.size) [.int .i64 i, .int .i64 m, .int .i64 d, .int .i64 u] (by simp)).c 2 rfl
  have c1_1_3 : W1.cell? ⟨w.heap.size, 3, none⟩ = some (.int .i64 u) := (K1.out.at (w.heap.size) [.int .i64 i, .int .i64 m, .int .i64 d, .int .i64 u] (by simp)).c 3 rfl
  go_wp2_with fail
  refine (Y.out _).mono ?_
  rintro e W2 ⟨rfl, hb⟩
  have K2 : Hid (BS w [(w.heap.size + 1, [.int .i64 j, .int .i64 n, .int .i64 e, .int .i64 v]), (w.heap.size, [.int .i64 i, .int .i64 m, .int .i64 d, .int .i64 u])] W2) := K1.out.below hb
  clear c1_0_0 c1_0_1 c1_0_2 c1_0_3 c1_1_0 c1_1_1 c1_1_2 c1_1_3
  clear hb K1
  have c2_0_0 : W2.cell? ⟨w.heap.size + 1, 0, none⟩ = some (.int .i64 j) := (K2.out.at (w.heap.size + 1) [.int .i64 j, .int .i64 n, .int .i64 e, .int .i64 v] (by simp)).c 0 rfl
  have c2_0_1 : W2.cell? ⟨w.heap.size + 1, 1, none⟩ = some (.int .i64 n) := (K2.out.at (w.heap.size + 1) [.int .i64 j, .int .i64 n, .int .i64 e, .int .i64 v] (by simp)).c 1 rfl
  have c2_0_2 : W2.cell? ⟨w.heap.size + 1, 2, none⟩ = some (.int .i64 e) := (K2.out.at (w.heap.size + 1) [.int .i64 j, .int .i64 n, .int .i64 e, .int .i64 v] (by simp)).c 2 rfl
  have c2_0_3 : W2.cell? ⟨w.heap.size + 1, 3, none⟩ = some (.int .i64 v) := (K2.out.at (w.heap.size + 1) [.int .i64 j, .int .i64 n, .int .i64 e, .int .i64 v] (by simp)).c 3 rfl
  have c2_1_0 : W2.cell? ⟨w.heap.size, 0, none⟩ = some (.int .i64 i) := (K2.out.at (w.heap.size) [.int .i64 i, .int .i64 m, .int .i64 d, .int .i64 u] (by simp)).c 0 rfl
  have c2_1_1 : W2.cell? ⟨w.heap.size, 1, none⟩ = some (.int .i64 m) := (K2.out.at (w.heap.size) [.int .i64 i, .int .i64 m, .int .i64 d, .int .i64 u] (by simp)).c 1 rfl
  have c2_1_2 : W2.cell? ⟨w.heap.size, 2, none⟩ = some (.int .i64 d) := (K2.out.at (w.heap.size) [.int .i64 i, .int .i64 m, .int .i64 d, .int .i64 u] (by simp)).c 2 rfl
  have c2_1_3 : W2.cell? ⟨w.heap.size, 3, none⟩ = some (.int .i64 u) := (K2.out.at (w.heap.size) [.int .i64 i, .int .i64 m, .int .i64 d, .int .i64 u] (by simp)).c 3 rfl
  go_wp2
  go_ret
  exact ⟨rfl, K2.out.1⟩

set_option maxRecDepth 100000 in
set_option maxHeartbeats 4000000 in
theorem rpcmp_eq (i m d u j n e v P Q C r : Int) (h1 : ¬ i < j) (h2 : ¬ j < i)
    (X : Hid (∀ w : World, Calls Try.prog 16 #[.agg #[.int .i64 i, .int .i64 m, .int .i64 d, .int .i64 u]] w fun r' w' => r' = .returned (.bool true) ∧ Below w.heap.size w w'))
    (Y : Hid (∀ w : World, Calls Try.prog 16 #[.agg #[.int .i64 j, .int .i64 n, .int .i64 e, .int .i64 v]] w fun r' w' => r' = .returned (.bool true) ∧ Below w.heap.size w w'))
    (LA : Hid (∀ (w : World), Calls Try.prog 43 #[.agg #[.int .i64 i, .int .i64 m, .int .i64 d, .int .i64 u]] w fun r' w' => ∃ v', r' = .returned v' ∧ IsW w' v' (P) ∧ Below w.heap.size w w'))
    (LC : Hid (∀ (w : World), Calls Try.prog 43 #[.agg #[.int .i64 j, .int .i64 n, .int .i64 e, .int .i64 v]] w fun r' w' => ∃ v', r' = .returned v' ∧ IsW w' v' (Q) ∧ Below w.heap.size w w'))
    (MI : Hid (∀ (y : Value) (w : World), IsW w y (Q) → Calls Try.prog 44 #[y] w fun r' w' => ∃ v', r' = .returned v' ∧ IsW w' v' (-Q) ∧ Below w.heap.size w w'))
    (PL : Hid (∀ (y : Value) (q : Value) (w : World), IsW w y (P) → IsW w q (-Q) → Calls Try.prog 42 #[y, q] w fun r' w' => ∃ v', r' = .returned v' ∧ IsW w' v' (C) ∧ Below w.heap.size w w'))
    (SG : Hid (∀ (y : Value) (w : World), IsW w y C → Calls Try.prog 41 #[y] w fun r' w' => r' = .returned (.int .i64 r) ∧ Below w.heap.size w w'))
    (w : World) :
    Calls Try.prog 23 #[.agg #[.int .i64 i, .int .i64 m, .int .i64 d, .int .i64 u], .agg #[.int .i64 j, .int .i64 n, .int .i64 e, .int .i64 v]] w fun r' w' => r' = .returned (.int .i64 r) ∧ Below w.heap.size w w' := by
  have K0 : Hid (BS w [(w.heap.size + 1, [.int .i64 j, .int .i64 n, .int .i64 e, .int .i64 v]), (w.heap.size, [.int .i64 i, .int .i64 m, .int .i64 d, .int .i64 u])] ((w.alloc (.cells #[.int .i64 i, .int .i64 m, .int .i64 d, .int .i64 u] 23)).alloc (.cells #[.int .i64 j, .int .i64 n, .int .i64 e, .int .i64 v] 23))) := (((BS.start w).new [.int .i64 i, .int .i64 m, .int .i64 d, .int .i64 u] 23 rfl).new [.int .i64 j, .int .i64 n, .int .i64 e, .int .i64 v] 23 (by simp))
  go_enter Try.func23, Try.ntmps23
  go_wp2_with fail
  refine (X.out _).mono ?_
  rintro e W1 ⟨rfl, hb⟩
  have K1 : Hid (BS w [(w.heap.size + 1, [.int .i64 j, .int .i64 n, .int .i64 e, .int .i64 v]), (w.heap.size, [.int .i64 i, .int .i64 m, .int .i64 d, .int .i64 u])] W1) := K0.out.below hb
  clear hb K0
  have c1_0_0 : W1.cell? ⟨w.heap.size + 1, 0, none⟩ = some (.int .i64 j) := (K1.out.at (w.heap.size + 1) [.int .i64 j, .int .i64 n, .int .i64 e, .int .i64 v] (by simp)).c 0 rfl
  have c1_0_1 : W1.cell? ⟨w.heap.size + 1, 1, none⟩ = some (.int .i64 n) := (K1.out.at (w.heap.size + 1) [.int .i64 j, .int .i64 n, .int .i64 e, .int .i64 v] (by simp)).c 1 rfl
  have c1_0_2 : W1.cell? ⟨w.heap.size + 1, 2, none⟩ = some (.int .i64 e) := (K1.out.at (w.heap.size + 1) [.int .i64 j, .int .i64 n, .int .i64 e, .int .i64 v] (by simp)).c 2 rfl
  have c1_0_3 : W1.cell? ⟨w.heap.size + 1, 3, none⟩ = some (.int .i64 v) := (K1.out.at (w.heap.size + 1) [.int .i64 j, .int .i64 n, .int .i64 e, .int .i64 v] (by simp)).c 3 rfl
  have c1_1_0 : W1.cell? ⟨w.heap.size, 0, none⟩ = some (.int .i64 i) := (K1.out.at (w.heap.size) [.int .i64 i, .int .i64 m, .int .i64 d, .int .i64 u] (by simp)).c 0 rfl
  have c1_1_1 : W1.cell? ⟨w.heap.size, 1, none⟩ = some (.int .i64 m) := (K1.out.at (w.heap.size) [.int .i64 i, .int .i64 m, .int .i64 d, .int .i64 u] (by simp)).c 1 rfl
  have c1_1_2 : W1.cell? ⟨w.heap.size, 2, none⟩ = some (.int .i64 d) := (K1.out.at (w.heap.size) [.int .i64 i, .int .i64 m, .int .i64 d, .int .i64 u] (by simp)).c 2 rfl
  have c1_1_3 : W1.cell? ⟨w.heap.size, 3, none⟩ = some (.int .i64 u) := (K1.out.at (w.heap.size) [.int .i64 i, .int .i64 m, .int .i64 d, .int .i64 u] (by simp)).c 3 rfl
  go_wp2_with fail
  refine (Y.out _).mono ?_
  rintro e W2 ⟨rfl, hb⟩
  have K2 : Hid (BS w [(w.heap.size + 1, [.int .i64 j, .int .i64 n, .int .i64 e, .int .i64 v]), (w.heap.size, [.int .i64 i, .int .i64 m, .int .i64 d, .int .i64 u])] W2) := K1.out.below hb
  clear c1_0_0 c1_0_1 c1_0_2 c1_0_3 c1_1_0 c1_1_1 c1_1_2 c1_1_3
  clear hb K1
  have c2_0_0 : W2.cell? ⟨w.heap.size + 1, 0, none⟩ = some (.int .i64 j) := (K2.out.at (w.heap.size + 1) [.int .i64 j, .int .i64 n, .int .i64 e, .int .i64 v] (by simp)).c 0 rfl
  have c2_0_1 : W2.cell? ⟨w.heap.size + 1, 1, none⟩ = some (.int .i64 n) := (K2.out.at (w.heap.size + 1) [.int .i64 j, .int .i64 n, .int .i64 e, .int .i64 v] (by simp)).c 1 rfl
  have c2_0_2 : W2.cell? ⟨w.heap.size + 1, 2, none⟩ = some (.int .i64 e) := (K2.out.at (w.heap.size + 1) [.int .i64 j, .int .i64 n, .int .i64 e, .int .i64 v] (by simp)).c 2 rfl
  have c2_0_3 : W2.cell? ⟨w.heap.size + 1, 3, none⟩ = some (.int .i64 v) := (K2.out.at (w.heap.size + 1) [.int .i64 j, .int .i64 n, .int .i64 e, .int .i64 v] (by simp)).c 3 rfl
  have c2_1_0 : W2.cell? ⟨w.heap.size, 0, none⟩ = some (.int .i64 i) := (K2.out.at (w.heap.size) [.int .i64 i, .int .i64 m, .int .i64 d, .int .i64 u] (by simp)).c 0 rfl
  have c2_1_1 : W2.cell? ⟨w.heap.size, 1, none⟩ = some (.int .i64 m) := (K2.out.at (w.heap.size) [.int .i64 i, .int .i64 m, .int .i64 d, .int .i64 u] (by simp)).c 1 rfl
  have c2_1_2 : W2.cell? ⟨w.heap.size, 2, none⟩ = some (.int .i64 d) := (K2.out.at (w.heap.size) [.int .i64 i, .int .i64 m, .int .i64 d, .int .i64 u] (by simp)).c 2 rfl
  have c2_1_3 : W2.cell? ⟨w.heap.size, 3, none⟩ = some (.int .i64 u) := (K2.out.at (w.heap.size) [.int .i64 i, .int .i64 m, .int .i64 d, .int .i64 u] (by simp)).c 3 rfl
  go_wp2_with fail
  clear c2_0_0 c2_0_1 c2_0_2 c2_0_3 c2_1_0 c2_1_1 c2_1_2 c2_1_3
  refine wp_region_held_drew (S := BS w [(w.heap.size + 1, [.int .i64 j, .int .i64 n, .int .i64 e, .int .i64 v]), (w.heap.size, [.int .i64 i, .int .i64 m, .int .i64 d, .int .i64 u])]) (by kernel_rfl) K2.out.drew (fun hHeld => ?_)
  refine wpAnyH_take (i := 0) (v := ?_) (oi := { dst := some 23, op := _, type := _, pos := _, after := _, guard := none }) rfl (by kernel_rfl) (by kernel_rfl) (by kernel_rfl) (fun _ _ _ h => h) (Or.inl ⟨by kernel_rfl, ?_⟩) (by assumption) ?_
  case refine_2 => (intro w9 hSw; have l0_0 := (hSw.at (w.heap.size + 1) [.int .i64 j, .int .i64 n, .int .i64 e, .int .i64 v] (by simp)).c 0 rfl; have l0_1 := (hSw.at (w.heap.size + 1) [.int .i64 j, .int .i64 n, .int .i64 e, .int .i64 v] (by simp)).c 1 rfl; have l0_2 := (hSw.at (w.heap.size + 1) [.int .i64 j, .int .i64 n, .int .i64 e, .int .i64 v] (by simp)).c 2 rfl; have l0_3 := (hSw.at (w.heap.size + 1) [.int .i64 j, .int .i64 n, .int .i64 e, .int .i64 v] (by simp)).c 3 rfl; have l1_0 := (hSw.at (w.heap.size) [.int .i64 i, .int .i64 m, .int .i64 d, .int .i64 u] (by simp)).c 0 rfl; have l1_1 := (hSw.at (w.heap.size) [.int .i64 i, .int .i64 m, .int .i64 d, .int .i64 u] (by simp)).c 1 rfl; have l1_2 := (hSw.at (w.heap.size) [.int .i64 i, .int .i64 m, .int .i64 d, .int .i64 u] (by simp)).c 2 rfl; have l1_3 := (hSw.at (w.heap.size) [.int .i64 i, .int .i64 m, .int .i64 d, .int .i64 u] (by simp)).c 3 rfl; clear hSw; go_simp; try with_reducible rfl)
  simp only [Act.put, List.setIfInBounds_toArray, List.set_cons_zero, List.set_cons_succ]
  refine wpAnyH_take (i := 2) (v := ?_) (oi := { dst := some 25, op := _, type := _, pos := _, after := _, guard := none }) rfl (by kernel_rfl) (by kernel_rfl) (by kernel_rfl) (fun _ _ _ h => h) (Or.inl ⟨by kernel_rfl, ?_⟩) (by assumption) ?_
  case refine_2 => (intro w9 hSw; have l0_0 := (hSw.at (w.heap.size + 1) [.int .i64 j, .int .i64 n, .int .i64 e, .int .i64 v] (by simp)).c 0 rfl; have l0_1 := (hSw.at (w.heap.size + 1) [.int .i64 j, .int .i64 n, .int .i64 e, .int .i64 v] (by simp)).c 1 rfl; have l0_2 := (hSw.at (w.heap.size + 1) [.int .i64 j, .int .i64 n, .int .i64 e, .int .i64 v] (by simp)).c 2 rfl; have l0_3 := (hSw.at (w.heap.size + 1) [.int .i64 j, .int .i64 n, .int .i64 e, .int .i64 v] (by simp)).c 3 rfl; have l1_0 := (hSw.at (w.heap.size) [.int .i64 i, .int .i64 m, .int .i64 d, .int .i64 u] (by simp)).c 0 rfl; have l1_1 := (hSw.at (w.heap.size) [.int .i64 i, .int .i64 m, .int .i64 d, .int .i64 u] (by simp)).c 1 rfl; have l1_2 := (hSw.at (w.heap.size) [.int .i64 i, .int .i64 m, .int .i64 d, .int .i64 u] (by simp)).c 2 rfl; have l1_3 := (hSw.at (w.heap.size) [.int .i64 i, .int .i64 m, .int .i64 d, .int .i64 u] (by simp)).c 3 rfl; clear hSw; go_simp; try with_reducible rfl)
  simp only [Act.put, List.setIfInBounds_toArray, List.set_cons_zero, List.set_cons_succ]
  refine wpAnyH_ready (rs := [1]) (by kernel_rfl) (by simp) (AllReadyH.cons (o := { dst := some 24, op := _, type := _, pos := _, after := _, guard := none }) rfl (fun K hK => ?_) AllReadyH.nil)
  go_simp
  refine (LA.out _).mono ?_
  rintro e v1 ⟨y1, rfl, q1, hb1⟩
  refine hK.out _ _ (hHeld.below hb1) (fun hHeld => ?_)
  have IA : Hid (IsW v1 y1 (P)) := q1
  clear hK K hb1 q1
  refine wpAnyH_ready (rs := [3]) (by kernel_rfl) (by simp) (AllReadyH.cons (o := { dst := some 26, op := _, type := _, pos := _, after := _, guard := none }) rfl (fun K hK => ?_) AllReadyH.nil)
  go_simp
  refine (LC.out _).mono ?_
  rintro e v2 ⟨y2, rfl, q2, hb2⟩
  refine hK.out _ _ (hHeld.below hb2) (fun hHeld => ?_)
  replace IA : Hid (IsW v2 (y1) (P)) := IA.out.below hb2
  have IB : Hid (IsW v2 y2 (Q)) := q2
  clear hK K hb2 q2
  refine wpAnyH_ready (rs := [4]) (by kernel_rfl) (by simp) (AllReadyH.cons (o := { dst := some 27, op := _, type := _, pos := _, after := _, guard := none }) rfl (fun K hK => ?_) AllReadyH.nil)
  go_simp
  refine (MI.out _ _ IB.out).mono ?_
  rintro e v3 ⟨y3, rfl, q3, hb3⟩
  refine hK.out _ _ (hHeld.below hb3) (fun hHeld => ?_)
  replace IA : Hid (IsW v3 (y1) (P)) := IA.out.below hb3
  have IN : Hid (IsW v3 y3 (-Q)) := q3
  clear hK K hb3 q3
  refine wpAnyH_ready (rs := [5]) (by kernel_rfl) (by simp) (AllReadyH.cons (o := { dst := some 28, op := _, type := _, pos := _, after := _, guard := none }) rfl (fun K hK => ?_) AllReadyH.nil)
  go_simp
  refine (PL.out _ _ _ IA.out IN.out).mono ?_
  rintro e v4 ⟨y4, rfl, q4, hb4⟩
  refine hK.out _ _ (hHeld.below hb4) (fun hHeld => ?_)
  have IC : Hid (IsW v4 y4 (C)) := q4
  clear hK K hb4 q4
  refine wpAnyH_ready (rs := [6]) (by kernel_rfl) (by simp) (AllReadyH.cons (o := { dst := some 29, op := _, type := _, pos := _, after := _, guard := none }) rfl (fun K hK => ?_) AllReadyH.nil)
  go_simp
  refine (SG.out _ _ IC.out).mono ?_
  rintro e v5 ⟨rfl, hb5⟩
  refine hK.out _ _ (hHeld.below hb5) (fun hHeld => ?_)
  clear hK K hb5
  refine wpAnyH_take (i := 7) (v := ?_) (oi := { dst := some 4, op := _, type := _, pos := _, after := _, guard := none }) rfl (by kernel_rfl) (by kernel_rfl) (by kernel_rfl) (fun _ _ _ h => h) (Or.inl ⟨by kernel_rfl, ?_⟩) (by assumption) ?_
  case refine_2 => (intro w9 hSw; clear hSw; go_simp; try with_reducible rfl)
  simp only [Act.put, List.setIfInBounds_toArray, List.set_cons_zero, List.set_cons_succ]
  refine wpAnyH_done (by kernel_rfl) ?_ _
  have HB : Hid (Below w.heap.size w _) := hHeld.1
  clear hHeld
  go_wp2
  go_ret
  exact ⟨rfl, HB.out⟩

set_option maxRecDepth 100000 in
set_option maxHeartbeats 4000000 in
theorem rpsign_run (i m d u r : Int)
    (C : Hid (∀ w : World, Calls Try.prog 23 #[.agg #[.int .i64 i, .int .i64 m, .int .i64 d, .int .i64 u], .agg #[.int .i64 0, .int .i64 0, .int .i64 0, .int .i64 0]] w fun r' w' => r' = .returned (.int .i64 r) ∧ Below w.heap.size w w'))
    (w : World) :
    Calls Try.prog 25 #[.agg #[.int .i64 i, .int .i64 m, .int .i64 d, .int .i64 u]] w fun r' w' => r' = .returned (.int .i64 r) ∧ Below w.heap.size w w' := by
  have K0 : Hid (BS w [(w.heap.size, [.int .i64 i, .int .i64 m, .int .i64 d, .int .i64 u])] (w.alloc (.cells #[.int .i64 i, .int .i64 m, .int .i64 d, .int .i64 u] 23))) := ((BS.start w).new [.int .i64 i, .int .i64 m, .int .i64 d, .int .i64 u] 23 rfl)
  go_enter Try.func25, Try.ntmps25
  go_wp2_with fail
  refine (C.out _).mono ?_
  rintro e W1 ⟨rfl, hb⟩
  have K1 : Hid (BS w [(w.heap.size, [.int .i64 i, .int .i64 m, .int .i64 d, .int .i64 u])] W1) := K0.out.below hb
  clear hb K0
  have c1_0_0 : W1.cell? ⟨w.heap.size, 0, none⟩ = some (.int .i64 i) := (K1.out.at (w.heap.size) [.int .i64 i, .int .i64 m, .int .i64 d, .int .i64 u] (by simp)).c 0 rfl
  have c1_0_1 : W1.cell? ⟨w.heap.size, 1, none⟩ = some (.int .i64 m) := (K1.out.at (w.heap.size) [.int .i64 i, .int .i64 m, .int .i64 d, .int .i64 u] (by simp)).c 1 rfl
  have c1_0_2 : W1.cell? ⟨w.heap.size, 2, none⟩ = some (.int .i64 d) := (K1.out.at (w.heap.size) [.int .i64 i, .int .i64 m, .int .i64 d, .int .i64 u] (by simp)).c 2 rfl
  have c1_0_3 : W1.cell? ⟨w.heap.size, 3, none⟩ = some (.int .i64 u) := (K1.out.at (w.heap.size) [.int .i64 i, .int .i64 m, .int .i64 d, .int .i64 u] (by simp)).c 3 rfl
  go_wp2
  go_ret
  exact ⟨rfl, K1.out.1⟩

set_option maxRecDepth 100000 in
set_option maxHeartbeats 4000000 in
theorem rpjus_no (i m d u : Int)
    (R : Hid (∀ w : World, Calls Try.prog 16 #[.agg #[.int .i64 i, .int .i64 m, .int .i64 d, .int .i64 u]] w fun r' w' => r' = .returned (.bool false) ∧ Below w.heap.size w w'))
    (w : World) :
    Calls Try.prog 27 #[.agg #[.int .i64 i, .int .i64 m, .int .i64 d, .int .i64 u]] w fun r' w' => r' = .returned (.tuple #[.agg #[.int .i64 0, .int .i64 0, .int .i64 0, .int .i64 0], .int .i64 1]) ∧ Below w.heap.size w w' := by
  have K0 : Hid (BS w [(w.heap.size + 1, [.int .i64 0, .int .i64 0, .int .i64 0, .int .i64 0]), (w.heap.size, [.int .i64 i, .int .i64 m, .int .i64 d, .int .i64 u])] ((w.alloc (.cells #[.int .i64 i, .int .i64 m, .int .i64 d, .int .i64 u] 23)).alloc (.cells #[.int .i64 0, .int .i64 0, .int .i64 0, .int .i64 0] 23))) := (((BS.start w).new [.int .i64 i, .int .i64 m, .int .i64 d, .int .i64 u] 23 rfl).new [.int .i64 0, .int .i64 0, .int .i64 0, .int .i64 0] 23 (by simp))
  go_enter Try.func27, Try.ntmps27
  go_wp2_with fail
  refine (R.out _).mono ?_
  rintro e W1 ⟨rfl, hb⟩
  have K1 : Hid (BS w [(w.heap.size + 1, [.int .i64 0, .int .i64 0, .int .i64 0, .int .i64 0]), (w.heap.size, [.int .i64 i, .int .i64 m, .int .i64 d, .int .i64 u])] W1) := K0.out.below hb
  clear hb K0
  have c1_0_0 : W1.cell? ⟨w.heap.size + 1, 0, none⟩ = some (.int .i64 0) := (K1.out.at (w.heap.size + 1) [.int .i64 0, .int .i64 0, .int .i64 0, .int .i64 0] (by simp)).c 0 rfl
  have z1_0_0 : W1.frozen? ⟨w.heap.size + 1, 0, none⟩ = false := (K1.out.at (w.heap.size + 1) [.int .i64 0, .int .i64 0, .int .i64 0, .int .i64 0] (by simp)).f 0 rfl
  have c1_0_1 : W1.cell? ⟨w.heap.size + 1, 1, none⟩ = some (.int .i64 0) := (K1.out.at (w.heap.size + 1) [.int .i64 0, .int .i64 0, .int .i64 0, .int .i64 0] (by simp)).c 1 rfl
  have z1_0_1 : W1.frozen? ⟨w.heap.size + 1, 1, none⟩ = false := (K1.out.at (w.heap.size + 1) [.int .i64 0, .int .i64 0, .int .i64 0, .int .i64 0] (by simp)).f 1 rfl
  have c1_0_2 : W1.cell? ⟨w.heap.size + 1, 2, none⟩ = some (.int .i64 0) := (K1.out.at (w.heap.size + 1) [.int .i64 0, .int .i64 0, .int .i64 0, .int .i64 0] (by simp)).c 2 rfl
  have z1_0_2 : W1.frozen? ⟨w.heap.size + 1, 2, none⟩ = false := (K1.out.at (w.heap.size + 1) [.int .i64 0, .int .i64 0, .int .i64 0, .int .i64 0] (by simp)).f 2 rfl
  have c1_0_3 : W1.cell? ⟨w.heap.size + 1, 3, none⟩ = some (.int .i64 0) := (K1.out.at (w.heap.size + 1) [.int .i64 0, .int .i64 0, .int .i64 0, .int .i64 0] (by simp)).c 3 rfl
  have z1_0_3 : W1.frozen? ⟨w.heap.size + 1, 3, none⟩ = false := (K1.out.at (w.heap.size + 1) [.int .i64 0, .int .i64 0, .int .i64 0, .int .i64 0] (by simp)).f 3 rfl
  have c1_1_0 : W1.cell? ⟨w.heap.size, 0, none⟩ = some (.int .i64 i) := (K1.out.at (w.heap.size) [.int .i64 i, .int .i64 m, .int .i64 d, .int .i64 u] (by simp)).c 0 rfl
  have c1_1_1 : W1.cell? ⟨w.heap.size, 1, none⟩ = some (.int .i64 m) := (K1.out.at (w.heap.size) [.int .i64 i, .int .i64 m, .int .i64 d, .int .i64 u] (by simp)).c 1 rfl
  have c1_1_2 : W1.cell? ⟨w.heap.size, 2, none⟩ = some (.int .i64 d) := (K1.out.at (w.heap.size) [.int .i64 i, .int .i64 m, .int .i64 d, .int .i64 u] (by simp)).c 2 rfl
  have c1_1_3 : W1.cell? ⟨w.heap.size, 3, none⟩ = some (.int .i64 u) := (K1.out.at (w.heap.size) [.int .i64 i, .int .i64 m, .int .i64 d, .int .i64 u] (by simp)).c 3 rfl
  have XF : Hid (Bx (W1.setCells (w.heap.size + 1) 0 [.int .i64 0, .int .i64 0, .int .i64 0, .int .i64 0]) (w.heap.size + 1) [.int .i64 0, .int .i64 0, .int .i64 0, .int .i64 0]) := (K1.out.at (w.heap.size + 1) [.int .i64 0, .int .i64 0, .int .i64 0, .int .i64 0] (by simp)).setAll _ rfl
  have BF : Hid (Below w.heap.size w (W1.setCells (w.heap.size + 1) 0 [.int .i64 0, .int .i64 0, .int .i64 0, .int .i64 0])) := below_setCells (by omega) _ _ _ K1.out.1
  have y0 := XF.out.c 0 rfl
  have y1 := XF.out.c 1 rfl
  have y2 := XF.out.c 2 rfl
  have y3 := XF.out.c 3 rfl
  simp only [World.setCells, Nat.zero_add, Nat.reduceAdd] at y0 y1 y2 y3
  clear XF
  go_wp2
  exact bodyPost_ret (v := .tuple #[.agg #[.int .i64 0, .int .i64 0, .int .i64 0, .int .i64 0], .int .i64 1]) (by simp [results, Try.results27, go_sem, y0, y1, y2, y3]) rfl ⟨rfl, BF.out⟩

set_option maxRecDepth 100000 in
set_option maxHeartbeats 4000000 in
theorem rpjus_inf (i m d u : Int) (hi : i ≠ 0)
    (R : Hid (∀ w : World, Calls Try.prog 16 #[.agg #[.int .i64 i, .int .i64 m, .int .i64 d, .int .i64 u]] w fun r' w' => r' = .returned (.bool true) ∧ Below w.heap.size w w'))
    (w : World) :
    Calls Try.prog 27 #[.agg #[.int .i64 i, .int .i64 m, .int .i64 d, .int .i64 u]] w fun r' w' => r' = .returned (.tuple #[.agg #[.int .i64 i, .int .i64 m, .int .i64 d, .int .i64 u], .int .i64 0]) ∧ Below w.heap.size w w' := by
  have i1 : (i != 0) = true := bne_iff_ne.2 hi
  have K0 : Hid (BS w [(w.heap.size + 1, [.int .i64 0, .int .i64 0, .int .i64 0, .int .i64 0]), (w.heap.size, [.int .i64 i, .int .i64 m, .int .i64 d, .int .i64 u])] ((w.alloc (.cells #[.int .i64 i, .int .i64 m, .int .i64 d, .int .i64 u] 23)).alloc (.cells #[.int .i64 0, .int .i64 0, .int .i64 0, .int .i64 0] 23))) := (((BS.start w).new [.int .i64 i, .int .i64 m, .int .i64 d, .int .i64 u] 23 rfl).new [.int .i64 0, .int .i64 0, .int .i64 0, .int .i64 0] 23 (by simp))
  go_enter Try.func27, Try.ntmps27
  go_wp2_with fail
  refine (R.out _).mono ?_
  rintro e W1 ⟨rfl, hb⟩
  have K1 : Hid (BS w [(w.heap.size + 1, [.int .i64 0, .int .i64 0, .int .i64 0, .int .i64 0]), (w.heap.size, [.int .i64 i, .int .i64 m, .int .i64 d, .int .i64 u])] W1) := K0.out.below hb
  clear hb K0
  have c1_0_0 : W1.cell? ⟨w.heap.size + 1, 0, none⟩ = some (.int .i64 0) := (K1.out.at (w.heap.size + 1) [.int .i64 0, .int .i64 0, .int .i64 0, .int .i64 0] (by simp)).c 0 rfl
  have z1_0_0 : W1.frozen? ⟨w.heap.size + 1, 0, none⟩ = false := (K1.out.at (w.heap.size + 1) [.int .i64 0, .int .i64 0, .int .i64 0, .int .i64 0] (by simp)).f 0 rfl
  have c1_0_1 : W1.cell? ⟨w.heap.size + 1, 1, none⟩ = some (.int .i64 0) := (K1.out.at (w.heap.size + 1) [.int .i64 0, .int .i64 0, .int .i64 0, .int .i64 0] (by simp)).c 1 rfl
  have z1_0_1 : W1.frozen? ⟨w.heap.size + 1, 1, none⟩ = false := (K1.out.at (w.heap.size + 1) [.int .i64 0, .int .i64 0, .int .i64 0, .int .i64 0] (by simp)).f 1 rfl
  have c1_0_2 : W1.cell? ⟨w.heap.size + 1, 2, none⟩ = some (.int .i64 0) := (K1.out.at (w.heap.size + 1) [.int .i64 0, .int .i64 0, .int .i64 0, .int .i64 0] (by simp)).c 2 rfl
  have z1_0_2 : W1.frozen? ⟨w.heap.size + 1, 2, none⟩ = false := (K1.out.at (w.heap.size + 1) [.int .i64 0, .int .i64 0, .int .i64 0, .int .i64 0] (by simp)).f 2 rfl
  have c1_0_3 : W1.cell? ⟨w.heap.size + 1, 3, none⟩ = some (.int .i64 0) := (K1.out.at (w.heap.size + 1) [.int .i64 0, .int .i64 0, .int .i64 0, .int .i64 0] (by simp)).c 3 rfl
  have z1_0_3 : W1.frozen? ⟨w.heap.size + 1, 3, none⟩ = false := (K1.out.at (w.heap.size + 1) [.int .i64 0, .int .i64 0, .int .i64 0, .int .i64 0] (by simp)).f 3 rfl
  have c1_1_0 : W1.cell? ⟨w.heap.size, 0, none⟩ = some (.int .i64 i) := (K1.out.at (w.heap.size) [.int .i64 i, .int .i64 m, .int .i64 d, .int .i64 u] (by simp)).c 0 rfl
  have c1_1_1 : W1.cell? ⟨w.heap.size, 1, none⟩ = some (.int .i64 m) := (K1.out.at (w.heap.size) [.int .i64 i, .int .i64 m, .int .i64 d, .int .i64 u] (by simp)).c 1 rfl
  have c1_1_2 : W1.cell? ⟨w.heap.size, 2, none⟩ = some (.int .i64 d) := (K1.out.at (w.heap.size) [.int .i64 i, .int .i64 m, .int .i64 d, .int .i64 u] (by simp)).c 2 rfl
  have c1_1_3 : W1.cell? ⟨w.heap.size, 3, none⟩ = some (.int .i64 u) := (K1.out.at (w.heap.size) [.int .i64 i, .int .i64 m, .int .i64 d, .int .i64 u] (by simp)).c 3 rfl
  have XF : Hid (Bx (W1.setCells (w.heap.size + 1) 0 [.int .i64 i, .int .i64 m, .int .i64 d, .int .i64 u]) (w.heap.size + 1) [.int .i64 i, .int .i64 m, .int .i64 d, .int .i64 u]) := (K1.out.at (w.heap.size + 1) [.int .i64 0, .int .i64 0, .int .i64 0, .int .i64 0] (by simp)).setAll _ rfl
  have BF : Hid (Below w.heap.size w (W1.setCells (w.heap.size + 1) 0 [.int .i64 i, .int .i64 m, .int .i64 d, .int .i64 u])) := below_setCells (by omega) _ _ _ K1.out.1
  have y0 := XF.out.c 0 rfl
  have y1 := XF.out.c 1 rfl
  have y2 := XF.out.c 2 rfl
  have y3 := XF.out.c 3 rfl
  simp only [World.setCells, Nat.zero_add, Nat.reduceAdd] at y0 y1 y2 y3
  clear XF
  go_wp2
  exact bodyPost_ret (v := .tuple #[.agg #[.int .i64 i, .int .i64 m, .int .i64 d, .int .i64 u], .int .i64 0]) (by simp [results, Try.results27, go_sem, y0, y1, y2, y3]) rfl ⟨rfl, BF.out⟩

set_option maxRecDepth 100000 in
set_option maxHeartbeats 4000000 in
theorem rpjus_far (m d u D1 U1 : Int) (m1 : -2147483647 ≤ m) (m2 : m ≤ 2147483647) (d1 : -2147483647 ≤ d) (d2 : d ≤ 2147483647) (q1 : -1000000000 ≤ u.tdiv 86400000000) (q2 : u.tdiv 86400000000 ≤ 1000000000) (hd : d + u.tdiv 86400000000 = D1) (hu : u.tmod 86400000000 = U1)
    (R : Hid (∀ w : World, Calls Try.prog 16 #[.agg #[.int .i64 0, .int .i64 m, .int .i64 d, .int .i64 u]] w fun r' w' => r' = .returned (.bool true) ∧ Below w.heap.size w w'))
    (C : Hid (∀ w : World, Calls Try.prog 34 #[.int .i64 D1, .int .i64 2147483647] w fun r' w' => r' = .returned (.bool false) ∧ w' = w))
    (w : World) :
    Calls Try.prog 27 #[.agg #[.int .i64 0, .int .i64 m, .int .i64 d, .int .i64 u]] w fun r' w' => r' = .returned (.tuple #[.agg #[.int .i64 0, .int .i64 0, .int .i64 0, .int .i64 0], .int .i64 10]) ∧ Below w.heap.size w w' := by
  have w1 : IntKind.i64.wrap (u.tdiv 86400000000) = u.tdiv 86400000000 := by rw [IntKind.wrap_i64]; omega
  have w2 : IntKind.i64.wrap (d + u.tdiv 86400000000) = D1 := by rw [IntKind.wrap_i64]; omega
  have K0 : Hid (BS w [(w.heap.size + 1, [.int .i64 0, .int .i64 0, .int .i64 0, .int .i64 0]), (w.heap.size, [.int .i64 0, .int .i64 m, .int .i64 d, .int .i64 u])] ((w.alloc (.cells #[.int .i64 0, .int .i64 m, .int .i64 d, .int .i64 u] 23)).alloc (.cells #[.int .i64 0, .int .i64 0, .int .i64 0, .int .i64 0] 23))) := (((BS.start w).new [.int .i64 0, .int .i64 m, .int .i64 d, .int .i64 u] 23 rfl).new [.int .i64 0, .int .i64 0, .int .i64 0, .int .i64 0] 23 (by simp))
  go_enter Try.func27, Try.ntmps27
  go_wp2_with fail
  refine (R.out _).mono ?_
  rintro e W1 ⟨rfl, hb⟩
  have K1 : Hid (BS w [(w.heap.size + 1, [.int .i64 0, .int .i64 0, .int .i64 0, .int .i64 0]), (w.heap.size, [.int .i64 0, .int .i64 m, .int .i64 d, .int .i64 u])] W1) := K0.out.below hb
  clear hb K0
  have c1_0_0 : W1.cell? ⟨w.heap.size + 1, 0, none⟩ = some (.int .i64 0) := (K1.out.at (w.heap.size + 1) [.int .i64 0, .int .i64 0, .int .i64 0, .int .i64 0] (by simp)).c 0 rfl
  have z1_0_0 : W1.frozen? ⟨w.heap.size + 1, 0, none⟩ = false := (K1.out.at (w.heap.size + 1) [.int .i64 0, .int .i64 0, .int .i64 0, .int .i64 0] (by simp)).f 0 rfl
  have c1_0_1 : W1.cell? ⟨w.heap.size + 1, 1, none⟩ = some (.int .i64 0) := (K1.out.at (w.heap.size + 1) [.int .i64 0, .int .i64 0, .int .i64 0, .int .i64 0] (by simp)).c 1 rfl
  have z1_0_1 : W1.frozen? ⟨w.heap.size + 1, 1, none⟩ = false := (K1.out.at (w.heap.size + 1) [.int .i64 0, .int .i64 0, .int .i64 0, .int .i64 0] (by simp)).f 1 rfl
  have c1_0_2 : W1.cell? ⟨w.heap.size + 1, 2, none⟩ = some (.int .i64 0) := (K1.out.at (w.heap.size + 1) [.int .i64 0, .int .i64 0, .int .i64 0, .int .i64 0] (by simp)).c 2 rfl
  have z1_0_2 : W1.frozen? ⟨w.heap.size + 1, 2, none⟩ = false := (K1.out.at (w.heap.size + 1) [.int .i64 0, .int .i64 0, .int .i64 0, .int .i64 0] (by simp)).f 2 rfl
  have c1_0_3 : W1.cell? ⟨w.heap.size + 1, 3, none⟩ = some (.int .i64 0) := (K1.out.at (w.heap.size + 1) [.int .i64 0, .int .i64 0, .int .i64 0, .int .i64 0] (by simp)).c 3 rfl
  have z1_0_3 : W1.frozen? ⟨w.heap.size + 1, 3, none⟩ = false := (K1.out.at (w.heap.size + 1) [.int .i64 0, .int .i64 0, .int .i64 0, .int .i64 0] (by simp)).f 3 rfl
  have c1_1_0 : W1.cell? ⟨w.heap.size, 0, none⟩ = some (.int .i64 0) := (K1.out.at (w.heap.size) [.int .i64 0, .int .i64 m, .int .i64 d, .int .i64 u] (by simp)).c 0 rfl
  have c1_1_1 : W1.cell? ⟨w.heap.size, 1, none⟩ = some (.int .i64 m) := (K1.out.at (w.heap.size) [.int .i64 0, .int .i64 m, .int .i64 d, .int .i64 u] (by simp)).c 1 rfl
  have c1_1_2 : W1.cell? ⟨w.heap.size, 2, none⟩ = some (.int .i64 d) := (K1.out.at (w.heap.size) [.int .i64 0, .int .i64 m, .int .i64 d, .int .i64 u] (by simp)).c 2 rfl
  have c1_1_3 : W1.cell? ⟨w.heap.size, 3, none⟩ = some (.int .i64 u) := (K1.out.at (w.heap.size) [.int .i64 0, .int .i64 m, .int .i64 d, .int .i64 u] (by simp)).c 3 rfl
  go_wp2_with fail
  refine (C.out _).mono ?_
  rintro e W2 ⟨rfl, hw⟩
  rw [hw]
  clear hw W2
  have XF : Hid (Bx (W1.setCells (w.heap.size + 1) 0 [.int .i64 0, .int .i64 0, .int .i64 0, .int .i64 0]) (w.heap.size + 1) [.int .i64 0, .int .i64 0, .int .i64 0, .int .i64 0]) := (K1.out.at (w.heap.size + 1) [.int .i64 0, .int .i64 0, .int .i64 0, .int .i64 0] (by simp)).setAll _ rfl
  have BF : Hid (Below w.heap.size w (W1.setCells (w.heap.size + 1) 0 [.int .i64 0, .int .i64 0, .int .i64 0, .int .i64 0])) := below_setCells (by omega) _ _ _ K1.out.1
  have y0 := XF.out.c 0 rfl
  have y1 := XF.out.c 1 rfl
  have y2 := XF.out.c 2 rfl
  have y3 := XF.out.c 3 rfl
  simp only [World.setCells, Nat.zero_add, Nat.reduceAdd] at y0 y1 y2 y3
  clear XF
  go_wp2
  exact bodyPost_ret (v := .tuple #[.agg #[.int .i64 0, .int .i64 0, .int .i64 0, .int .i64 0], .int .i64 10]) (by simp [results, Try.results27, go_sem, y0, y1, y2, y3]) rfl ⟨rfl, BF.out⟩


end Go.Proofs.Ytghfgabajdghiab
