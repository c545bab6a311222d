/- Intervals together, apart: way by way. -/
import Derived.Test.YtghfgabajdghiacSpD
import Derived.Deep.Cut
namespace Go.Proofs.Ytghfgabajdghiac
open Go.RowKit
set_option linter.unusedVariables false

set_option maxRecDepth 100000 in
set_option maxHeartbeats 4000000 in
theorem padd_no1 (i m d u j n e v : Int)
    (X : Hid (∀ w : World, Calls Try.prog 13 #[.agg #[.int .i64 i, .int .i64 m, .int .i64 d, .int .i64 u]] w fun r' w' => r' = .returned (.bool false) ∧ Below w.heap.size w w'))
    (w : World) :
    Calls Try.prog 6 #[.agg #[.int .i64 i, .int .i64 m, .int .i64 d, .int .i64 u], .agg #[.int .i64 j, .int .i64 n, .int .i64 e, .int .i64 v]] w fun r' w' => r' = .returned (.tuple #[.agg #[.int .i64 0, .int .i64 0, .int .i64 0, .int .i64 0], .int .i64 1]) ∧ Below w.heap.size w w' := by
  have K0 : Hid (BS w [(w.heap.size + 2, [.int .i64 0, .int .i64 0, .int .i64 0, .int .i64 0]), (w.heap.size + 1, [.int .i64 j, .int .i64 n, .int .i64 e, .int .i64 v]), (w.heap.size, [.int .i64 i, .int .i64 m, .int .i64 d, .int .i64 u])] (((w.alloc (.cells #[.int .i64 i, .int .i64 m, .int .i64 d, .int .i64 u] 23)).alloc (.cells #[.int .i64 j, .int .i64 n, .int .i64 e, .int .i64 v] 23)).alloc (.cells #[.int .i64 0, .int .i64 0, .int .i64 0, .int .i64 0] 23))) := ((((BS.start w).new [.int .i64 i, .int .i64 m, .int .i64 d, .int .i64 u] 23 rfl).new [.int .i64 j, .int .i64 n, .int .i64 e, .int .i64 v] 23 (by simp)).new [.int .i64 0, .int .i64 0, .int .i64 0, .int .i64 0] 23 (by simp))
  go_enter Try.func6, Try.ntmps6
  go_wp2_with fail
  refine (X.out _).mono ?_
  rintro e W1 ⟨rfl, hb⟩
  have K1 : Hid (BS w [(w.heap.size + 2, [.int .i64 0, .int .i64 0, .int .i64 0, .int .i64 0]), (w.heap.size + 1, [.int .i64 j, .int .i64 n, .int .i64 e, .int .i64 v]), (w.heap.size, [.int .i64 i, .int .i64 m, .int .i64 d, .int .i64 u])] W1) := K0.out.below hb
  clear hb K0
  have c1_0_0 : W1.cell? ⟨w.heap.size + 2, 0, none⟩ = some (.int .i64 0) := (K1.out.at (w.heap.size + 2) [.int .i64 0, .int .i64 0, .int .i64 0, .int .i64 0] (by simp)).c 0 rfl
  have z1_0_0 : W1.frozen? ⟨w.heap.size + 2, 0, none⟩ = false := (K1.out.at (w.heap.size + 2) [.int .i64 0, .int .i64 0, .int .i64 0, .int .i64 0] (by simp)).f 0 rfl
  have c1_0_1 : W1.cell? ⟨w.heap.size + 2, 1, none⟩ = some (.int .i64 0) := (K1.out.at (w.heap.size + 2) [.int .i64 0, .int .i64 0, .int .i64 0, .int .i64 0] (by simp)).c 1 rfl
  have z1_0_1 : W1.frozen? ⟨w.heap.size + 2, 1, none⟩ = false := (K1.out.at (w.heap.size + 2) [.int .i64 0, .int .i64 0, .int .i64 0, .int .i64 0] (by simp)).f 1 rfl
  have c1_0_2 : W1.cell? ⟨w.heap.size + 2, 2, none⟩ = some (.int .i64 0) := (K1.out.at (w.heap.size + 2) [.int .i64 0, .int .i64 0, .int .i64 0, .int .i64 0] (by simp)).c 2 rfl
  have z1_0_2 : W1.frozen? ⟨w.heap.size + 2, 2, none⟩ = false := (K1.out.at (w.heap.size + 2) [.int .i64 0, .int .i64 0, .int .i64 0, .int .i64 0] (by simp)).f 2 rfl
  have c1_0_3 : W1.cell? ⟨w.heap.size + 2, 3, none⟩ = some (.int .i64 0) := (K1.out.at (w.heap.size + 2) [.int .i64 0, .int .i64 0, .int .i64 0, .int .i64 0] (by simp)).c 3 rfl
  have z1_0_3 : W1.frozen? ⟨w.heap.size + 2, 3, none⟩ = false := (K1.out.at (w.heap.size + 2) [.int .i64 0, .int .i64 0, .int .i64 0, .int .i64 0] (by simp)).f 3 rfl
  have c1_1_0 : W1.cell? ⟨w.heap.size + 1, 0, none⟩ = some (.int .i64 j) := (K1.out.at (w.heap.size + 1) [.int .i64 j, .int .i64 n, .int .i64 e, .int .i64 v] (by simp)).c 0 rfl
  have c1_1_1 : W1.cell? ⟨w.heap.size + 1, 1, none⟩ = some (.int .i64 n) := (K1.out.at (w.heap.size + 1) [.int .i64 j, .int .i64 n, .int .i64 e, .int .i64 v] (by simp)).c 1 rfl
  have c1_1_2 : W1.cell? ⟨w.heap.size + 1, 2, none⟩ = some (.int .i64 e) := (K1.out.at (w.heap.size + 1) [.int .i64 j, .int .i64 n, .int .i64 e, .int .i64 v] (by simp)).c 2 rfl
  have c1_1_3 : W1.cell? ⟨w.heap.size + 1, 3, none⟩ = some (.int .i64 v) := (K1.out.at (w.heap.size + 1) [.int .i64 j, .int .i64 n, .int .i64 e, .int .i64 v] (by simp)).c 3 rfl
  have c1_2_0 : W1.cell? ⟨w.heap.size, 0, none⟩ = some (.int .i64 i) := (K1.out.at (w.heap.size) [.int .i64 i, .int .i64 m, .int .i64 d, .int .i64 u] (by simp)).c 0 rfl
  have c1_2_1 : W1.cell? ⟨w.heap.size, 1, none⟩ = some (.int .i64 m) := (K1.out.at (w.heap.size) [.int .i64 i, .int .i64 m, .int .i64 d, .int .i64 u] (by simp)).c 1 rfl
  have c1_2_2 : W1.cell? ⟨w.heap.size, 2, none⟩ = some (.int .i64 d) := (K1.out.at (w.heap.size) [.int .i64 i, .int .i64 m, .int .i64 d, .int .i64 u] (by simp)).c 2 rfl
  have c1_2_3 : W1.cell? ⟨w.heap.size, 3, none⟩ = some (.int .i64 u) := (K1.out.at (w.heap.size) [.int .i64 i, .int .i64 m, .int .i64 d, .int .i64 u] (by simp)).c 3 rfl
  have XF : Hid (Bx (W1.setCells (w.heap.size + 2) 0 [.int .i64 0, .int .i64 0, .int .i64 0, .int .i64 0]) (w.heap.size + 2) [.int .i64 0, .int .i64 0, .int .i64 0, .int .i64 0]) := (K1.out.at (w.heap.size + 2) [.int .i64 0, .int .i64 0, .int .i64 0, .int .i64 0] (by simp)).setAll _ rfl
  have BF : Hid (Below w.heap.size w (W1.setCells (w.heap.size + 2) 0 [.int .i64 0, .int .i64 0, .int .i64 0, .int .i64 0])) := below_setCells (by omega) _ _ _ K1.out.1
  have y0 := XF.out.c 0 rfl
  have y1 := XF.out.c 1 rfl
  have y2 := XF.out.c 2 rfl
  have y3 := XF.out.c 3 rfl
  simp only [World.setCells, Nat.zero_add, Nat.reduceAdd] at y0 y1 y2 y3
  clear XF
  go_wp2
  exact bodyPost_ret (v := .tuple #[.agg #[.int .i64 0, .int .i64 0, .int .i64 0, .int .i64 0], .int .i64 1]) (by simp [results, Try.results6, go_sem, y0, y1, y2, y3]) rfl ⟨rfl, BF.out⟩

set_option maxRecDepth 100000 in
set_option maxHeartbeats 4000000 in
theorem padd_no2 (i m d u j n e v : Int)
    (X : Hid (∀ w : World, Calls Try.prog 13 #[.agg #[.int .i64 i, .int .i64 m, .int .i64 d, .int .i64 u]] w fun r' w' => r' = .returned (.bool true) ∧ Below w.heap.size w w'))
    (Y : Hid (∀ w : World, Calls Try.prog 13 #[.agg #[.int .i64 j, .int .i64 n, .int .i64 e, .int .i64 v]] w fun r' w' => r' = .returned (.bool false) ∧ Below w.heap.size w w'))
    (w : World) :
    Calls Try.prog 6 #[.agg #[.int .i64 i, .int .i64 m, .int .i64 d, .int .i64 u], .agg #[.int .i64 j, .int .i64 n, .int .i64 e, .int .i64 v]] w fun r' w' => r' = .returned (.tuple #[.agg #[.int .i64 0, .int .i64 0, .int .i64 0, .int .i64 0], .int .i64 1]) ∧ Below w.heap.size w w' := by
  have K0 : Hid (BS w [(w.heap.size + 2, [.int .i64 0, .int .i64 0, .int .i64 0, .int .i64 0]), (w.heap.size + 1, [.int .i64 j, .int .i64 n, .int .i64 e, .int .i64 v]), (w.heap.size, [.int .i64 i, .int .i64 m, .int .i64 d, .int .i64 u])] (((w.alloc (.cells #[.int .i64 i, .int .i64 m, .int .i64 d, .int .i64 u] 23)).alloc (.cells #[.int .i64 j, .int .i64 n, .int .i64 e, .int .i64 v] 23)).alloc (.cells #[.int .i64 0, .int .i64 0, .int .i64 0, .int .i64 0] 23))) := ((((BS.start w).new [.int .i64 i, .int .i64 m, .int .i64 d, .int .i64 u] 23 rfl).new [.int .i64 j, .int .i64 n, .int .i64 e, .int .i64 v] 23 (by simp)).new [.int .i64 0, .int .i64 0, .int .i64 0, .int .i64 0] 23 (by simp))
  go_enter Try.func6, Try.ntmps6
  go_wp2_with fail
  refine (X.out _).mono ?_
  rintro e W1 ⟨rfl, hb⟩
  have K1 : Hid (BS w [(w.heap.size + 2, [.int .i64 0, .int .i64 0, .int .i64 0, .int .i64 0]), (w.heap.size + 1, [.int .i64 j, .int .i64 n, .int .i64 e, .int .i64 v]), (w.heap.size, [.int .i64 i, .int .i64 m, .int .i64 d, .int .i64 u])] W1) := K0.out.below hb
  clear hb K0
  have c1_0_0 : W1.cell? ⟨w.heap.size + 2, 0, none⟩ = some (.int .i64 0) := (K1.out.at (w.heap.size + 2) [.int .i64 0, .int .i64 0, .int .i64 0, .int .i64 0] (by simp)).c 0 rfl
  have z1_0_0 : W1.frozen? ⟨w.heap.size + 2, 0, none⟩ = false := (K1.out.at (w.heap.size + 2) [.int .i64 0, .int .i64 0, .int .i64 0, .int .i64 0] (by simp)).f 0 rfl
  have c1_0_1 : W1.cell? ⟨w.heap.size + 2, 1, none⟩ = some (.int .i64 0) := (K1.out.at (w.heap.size + 2) [.int .i64 0, .int .i64 0, .int .i64 0, .int .i64 0] (by simp)).c 1 rfl
  have z1_0_1 : W1.frozen? ⟨w.heap.size + 2, 1, none⟩ = false := (K1.out.at (w.heap.size + 2) [.int .i64 0, .int .i64 0, .int .i64 0, .int .i64 0] (by simp)).f 1 rfl
  have c1_0_2 : W1.cell? ⟨w.heap.size + 2, 2, none⟩ = some (.int .i64 0) := (K1.out.at (w.heap.size + 2) [.int .i64 0, .int .i64 0, .int .i64 0, .int .i64 0] (by simp)).c 2 rfl
  have z1_0_2 : W1.frozen? ⟨w.heap.size + 2, 2, none⟩ = false := (K1.out.at (w.heap.size + 2) [.int .i64 0, .int .i64 0, .int .i64 0, .int .i64 0] (by simp)).f 2 rfl
  have c1_0_3 : W1.cell? ⟨w.heap.size + 2, 3, none⟩ = some (.int .i64 0) := (K1.out.at (w.heap.size + 2) [.int .i64 0, .int .i64 0, .int .i64 0, .int .i64 0] (by simp)).c 3 rfl
  have z1_0_3 : W1.frozen? ⟨w.heap.size + 2, 3, none⟩ = false := (K1.out.at (w.heap.size + 2) [.int .i64 0, .int .i64 0, .int .i64 0, .int .i64 0] (by simp)).f 3 rfl
  have c1_1_0 : W1.cell? ⟨w.heap.size + 1, 0, none⟩ = some (.int .i64 j) := (K1.out.at (w.heap.size + 1) [.int .i64 j, .int .i64 n, .int .i64 e, .int .i64 v] (by simp)).c 0 rfl
  have c1_1_1 : W1.cell? ⟨w.heap.size + 1, 1, none⟩ = some (.int .i64 n) := (K1.out.at (w.heap.size + 1) [.int .i64 j, .int .i64 n, .int .i64 e, .int .i64 v] (by simp)).c 1 rfl
  have c1_1_2 : W1.cell? ⟨w.heap.size + 1, 2, none⟩ = some (.int .i64 e) := (K1.out.at (w.heap.size + 1) [.int .i64 j, .int .i64 n, .int .i64 e, .int .i64 v] (by simp)).c 2 rfl
  have c1_1_3 : W1.cell? ⟨w.heap.size + 1, 3, none⟩ = some (.int .i64 v) := (K1.out.at (w.heap.size + 1) [.int .i64 j, .int .i64 n, .int .i64 e, .int .i64 v] (by simp)).c 3 rfl
  have c1_2_0 : W1.cell? ⟨w.heap.size, 0, none⟩ = some (.int .i64 i) := (K1.out.at (w.heap.size) [.int .i64 i, .int .i64 m, .int .i64 d, .int .i64 u] (by simp)).c 0 rfl
  have c1_2_1 : W1.cell? ⟨w.heap.size, 1, none⟩ = some (.int .i64 m) := (K1.out.at (w.heap.size) [.int .i64 i, .int .i64 m, .int .i64 d, .int .i64 u] (by simp)).c 1 rfl
  have c1_2_2 : W1.cell? ⟨w.heap.size, 2, none⟩ = some (.int .i64 d) := (K1.out.at (w.heap.size) [.int .i64 i, .int .i64 m, .int .i64 d, .int .i64 u] (by simp)).c 2 rfl
  have c1_2_3 : W1.cell? ⟨w.heap.size, 3, none⟩ = some (.int .i64 u) := (K1.out.at (w.heap.size) [.int .i64 i, .int .i64 m, .int .i64 d, .int .i64 u] (by simp)).c 3 rfl
  go_wp2_with fail
  refine (Y.out _).mono ?_
  rintro e W2 ⟨rfl, hb⟩
  have K2 : Hid (BS w [(w.heap.size + 2, [.int .i64 0, .int .i64 0, .int .i64 0, .int .i64 0]), (w.heap.size + 1, [.int .i64 j, .int .i64 n, .int .i64 e, .int .i64 v]), (w.heap.size, [.int .i64 i, .int .i64 m, .int .i64 d, .int .i64 u])] W2) := K1.out.below hb
  clear c1_0_0 z1_0_0 c1_0_1 z1_0_1 c1_0_2 z1_0_2 c1_0_3 z1_0_3 c1_1_0 c1_1_1 c1_1_2 c1_1_3 c1_2_0 c1_2_1 c1_2_2 c1_2_3
  clear hb K1
  have c2_0_0 : W2.cell? ⟨w.heap.size + 2, 0, none⟩ = some (.int .i64 0) := (K2.out.at (w.heap.size + 2) [.int .i64 0, .int .i64 0, .int .i64 0, .int .i64 0] (by simp)).c 0 rfl
  have z2_0_0 : W2.frozen? ⟨w.heap.size + 2, 0, none⟩ = false := (K2.out.at (w.heap.size + 2) [.int .i64 0, .int .i64 0, .int .i64 0, .int .i64 0] (by simp)).f 0 rfl
  have c2_0_1 : W2.cell? ⟨w.heap.size + 2, 1, none⟩ = some (.int .i64 0) := (K2.out.at (w.heap.size + 2) [.int .i64 0, .int .i64 0, .int .i64 0, .int .i64 0] (by simp)).c 1 rfl
  have z2_0_1 : W2.frozen? ⟨w.heap.size + 2, 1, none⟩ = false := (K2.out.at (w.heap.size + 2) [.int .i64 0, .int .i64 0, .int .i64 0, .int .i64 0] (by simp)).f 1 rfl
  have c2_0_2 : W2.cell? ⟨w.heap.size + 2, 2, none⟩ = some (.int .i64 0) := (K2.out.at (w.heap.size + 2) [.int .i64 0, .int .i64 0, .int .i64 0, .int .i64 0] (by simp)).c 2 rfl
  have z2_0_2 : W2.frozen? ⟨w.heap.size + 2, 2, none⟩ = false := (K2.out.at (w.heap.size + 2) [.int .i64 0, .int .i64 0, .int .i64 0, .int .i64 0] (by simp)).f 2 rfl
  have c2_0_3 : W2.cell? ⟨w.heap.size + 2, 3, none⟩ = some (.int .i64 0) := (K2.out.at (w.heap.size + 2) [.int .i64 0, .int .i64 0, .int .i64 0, .int .i64 0] (by simp)).c 3 rfl
  have z2_0_3 : W2.frozen? ⟨w.heap.size + 2, 3, none⟩ = false := (K2.out.at (w.heap.size + 2) [.int .i64 0, .int .i64 0, .int .i64 0, .int .i64 0] (by simp)).f 3 rfl
  have c2_1_0 : W2.cell? ⟨w.heap.size + 1, 0, none⟩ = some (.int .i64 j) := (K2.out.at (w.heap.size + 1) [.int .i64 j, .int .i64 n, .int .i64 e, .int .i64 v] (by simp)).c 0 rfl
  have c2_1_1 : W2.cell? ⟨w.heap.size + 1, 1, none⟩ = some (.int .i64 n) := (K2.out.at (w.heap.size + 1) [.int .i64 j, .int .i64 n, .int .i64 e, .int .i64 v] (by simp)).c 1 rfl
  have c2_1_2 : W2.cell? ⟨w.heap.size + 1, 2, none⟩ = some (.int .i64 e) := (K2.out.at (w.heap.size + 1) [.int .i64 j, .int .i64 n, .int .i64 e, .int .i64 v] (by simp)).c 2 rfl
  have c2_1_3 : W2.cell? ⟨w.heap.size + 1, 3, none⟩ = some (.int .i64 v) := (K2.out.at (w.heap.size + 1) [.int .i64 j, .int .i64 n, .int .i64 e, .int .i64 v] (by simp)).c 3 rfl
  have c2_2_0 : W2.cell? ⟨w.heap.size, 0, none⟩ = some (.int .i64 i) := (K2.out.at (w.heap.size) [.int .i64 i, .int .i64 m, .int .i64 d, .int .i64 u] (by simp)).c 0 rfl
  have c2_2_1 : W2.cell? ⟨w.heap.size, 1, none⟩ = some (.int .i64 m) := (K2.out.at (w.heap.size) [.int .i64 i, .int .i64 m, .int .i64 d, .int .i64 u] (by simp)).c 1 rfl
  have c2_2_2 : W2.cell? ⟨w.heap.size, 2, none⟩ = some (.int .i64 d) := (K2.out.at (w.heap.size) [.int .i64 i, .int .i64 m, .int .i64 d, .int .i64 u] (by simp)).c 2 rfl
  have c2_2_3 : W2.cell? ⟨w.heap.size, 3, none⟩ = some (.int .i64 u) := (K2.out.at (w.heap.size) [.int .i64 i, .int .i64 m, .int .i64 d, .int .i64 u] (by simp)).c 3 rfl
  have XF : Hid (Bx (W2.setCells (w.heap.size + 2) 0 [.int .i64 0, .int .i64 0, .int .i64 0, .int .i64 0]) (w.heap.size + 2) [.int .i64 0, .int .i64 0, .int .i64 0, .int .i64 0]) := (K2.out.at (w.heap.size + 2) [.int .i64 0, .int .i64 0, .int .i64 0, .int .i64 0] (by simp)).setAll _ rfl
  have BF : Hid (Below w.heap.size w (W2.setCells (w.heap.size + 2) 0 [.int .i64 0, .int .i64 0, .int .i64 0, .int .i64 0])) := below_setCells (by omega) _ _ _ K2.out.1
  have y0 := XF.out.c 0 rfl
  have y1 := XF.out.c 1 rfl
  have y2 := XF.out.c 2 rfl
  have y3 := XF.out.c 3 rfl
  simp only [World.setCells, Nat.zero_add, Nat.reduceAdd] at y0 y1 y2 y3
  clear XF
  go_wp2
  exact bodyPost_ret (v := .tuple #[.agg #[.int .i64 0, .int .i64 0, .int .i64 0, .int .i64 0], .int .i64 1]) (by simp [results, Try.results6, go_sem, y0, y1, y2, y3]) rfl ⟨rfl, BF.out⟩

set_option maxRecDepth 100000 in
set_option maxHeartbeats 4000000 in
theorem padd_oppm (m d u n e v : Int)
    (X : Hid (∀ w : World, Calls Try.prog 13 #[.agg #[.int .i64 (-1), .int .i64 m, .int .i64 d, .int .i64 u]] w fun r' w' => r' = .returned (.bool true) ∧ Below w.heap.size w w'))
    (Y : Hid (∀ w : World, Calls Try.prog 13 #[.agg #[.int .i64 1, .int .i64 n, .int .i64 e, .int .i64 v]] w fun r' w' => r' = .returned (.bool true) ∧ Below w.heap.size w w'))
    (w : World) :
    Calls Try.prog 6 #[.agg #[.int .i64 (-1), .int .i64 m, .int .i64 d, .int .i64 u], .agg #[.int .i64 1, .int .i64 n, .int .i64 e, .int .i64 v]] w fun r' w' => r' = .returned (.tuple #[.agg #[.int .i64 0, .int .i64 0, .int .i64 0, .int .i64 0], .int .i64 10]) ∧ Below w.heap.size w w' := by
  have K0 : Hid (BS w [(w.heap.size + 2, [.int .i64 0, .int .i64 0, .int .i64 0, .int .i64 0]), (w.heap.size + 1, [.int .i64 1, .int .i64 n, .int .i64 e, .int .i64 v]), (w.heap.size, [.int .i64 (-1), .int .i64 m, .int .i64 d, .int .i64 u])] (((w.alloc (.cells #[.int .i64 (-1), .int .i64 m, .int .i64 d, .int .i64 u] 23)).alloc (.cells #[.int .i64 1, .int .i64 n, .int .i64 e, .int .i64 v] 23)).alloc (.cells #[.int .i64 0, .int .i64 0, .int .i64 0, .int .i64 0] 23))) := ((((BS.start w).new [.int .i64 (-1), .int .i64 m, .int .i64 d, .int .i64 u] 23 rfl).new [.int .i64 1, .int .i64 n, .int .i64 e, .int .i64 v] 23 (by simp)).new [.int .i64 0, .int .i64 0, .int .i64 0, .int .i64 0] 23 (by simp))
  go_enter Try.func6, Try.ntmps6
  go_wp2_with fail
  refine (X.out _).mono ?_
  rintro e W1 ⟨rfl, hb⟩
  have K1 : Hid (BS w [(w.heap.size + 2, [.int .i64 0, .int .i64 0, .int .i64 0, .int .i64 0]), (w.heap.size + 1, [.int .i64 1, .int .i64 n, .int .i64 e, .int .i64 v]), (w.heap.size, [.int .i64 (-1), .int .i64 m, .int .i64 d, .int .i64 u])] W1) := K0.out.below hb
  clear hb K0
  have c1_0_0 : W1.cell? ⟨w.heap.size + 2, 0, none⟩ = some (.int .i64 0) := (K1.out.at (w.heap.size + 2) [.int .i64 0, .int .i64 0, .int .i64 0, .int .i64 0] (by simp)).c 0 rfl
  have z1_0_0 : W1.frozen? ⟨w.heap.size + 2, 0, none⟩ = false := (K1.out.at (w.heap.size + 2) [.int .i64 0, .int .i64 0, .int .i64 0, .int .i64 0] (by simp)).f 0 rfl
  have c1_0_1 : W1.cell? ⟨w.heap.size + 2, 1, none⟩ = some (.int .i64 0) := (K1.out.at (w.heap.size + 2) [.int .i64 0, .int .i64 0, .int .i64 0, .int .i64 0] (by simp)).c 1 rfl
  have z1_0_1 : W1.frozen? ⟨w.heap.size + 2, 1, none⟩ = false := (K1.out.at (w.heap.size + 2) [.int .i64 0, .int .i64 0, .int .i64 0, .int .i64 0] (by simp)).f 1 rfl
  have c1_0_2 : W1.cell? ⟨w.heap.size + 2, 2, none⟩ = some (.int .i64 0) := (K1.out.at (w.heap.size + 2) [.int .i64 0, .int .i64 0, .int .i64 0, .int .i64 0] (by simp)).c 2 rfl
  have z1_0_2 : W1.frozen? ⟨w.heap.size + 2, 2, none⟩ = false := (K1.out.at (w.heap.size + 2) [.int .i64 0, .int .i64 0, .int .i64 0, .int .i64 0] (by simp)).f 2 rfl
  have c1_0_3 : W1.cell? ⟨w.heap.size + 2, 3, none⟩ = some (.int .i64 0) := (K1.out.at (w.heap.size + 2) [.int .i64 0, .int .i64 0, .int .i64 0, .int .i64 0] (by simp)).c 3 rfl
  have z1_0_3 : W1.frozen? ⟨w.heap.size + 2, 3, none⟩ = false := (K1.out.at (w.heap.size + 2) [.int .i64 0, .int .i64 0, .int .i64 0, .int .i64 0] (by simp)).f 3 rfl
  have c1_1_0 : W1.cell? ⟨w.heap.size + 1, 0, none⟩ = some (.int .i64 1) := (K1.out.at (w.heap.size + 1) [.int .i64 1, .int .i64 n, .int .i64 e, .int .i64 v] (by simp)).c 0 rfl
  have c1_1_1 : W1.cell? ⟨w.heap.size + 1, 1, none⟩ = some (.int .i64 n) := (K1.out.at (w.heap.size + 1) [.int .i64 1, .int .i64 n, .int .i64 e, .int .i64 v] (by simp)).c 1 rfl
  have c1_1_2 : W1.cell? ⟨w.heap.size + 1, 2, none⟩ = some (.int .i64 e) := (K1.out.at (w.heap.size + 1) [.int .i64 1, .int .i64 n, .int .i64 e, .int .i64 v] (by simp)).c 2 rfl
  have c1_1_3 : W1.cell? ⟨w.heap.size + 1, 3, none⟩ = some (.int .i64 v) := (K1.out.at (w.heap.size + 1) [.int .i64 1, .int .i64 n, .int .i64 e, .int .i64 v] (by simp)).c 3 rfl
  have c1_2_0 : W1.cell? ⟨w.heap.size, 0, none⟩ = some (.int .i64 (-1)) := (K1.out.at (w.heap.size) [.int .i64 (-1), .int .i64 m, .int .i64 d, .int .i64 u] (by simp)).c 0 rfl
  have c1_2_1 : W1.cell? ⟨w.heap.size, 1, none⟩ = some (.int .i64 m) := (K1.out.at (w.heap.size) [.int .i64 (-1), .int .i64 m, .int .i64 d, .int .i64 u] (by simp)).c 1 rfl
  have c1_2_2 : W1.cell? ⟨w.heap.size, 2, none⟩ = some (.int .i64 d) := (K1.out.at (w.heap.size) [.int .i64 (-1), .int .i64 m, .int .i64 d, .int .i64 u] (by simp)).c 2 rfl
  have c1_2_3 : W1.cell? ⟨w.heap.size, 3, none⟩ = some (.int .i64 u) := (K1.out.at (w.heap.size) [.int .i64 (-1), .int .i64 m, .int .i64 d, .int .i64 u] (by simp)).c 3 rfl
  go_wp2_with fail
  refine (Y.out _).mono ?_
  rintro e W2 ⟨rfl, hb⟩
  have K2 : Hid (BS w [(w.heap.size + 2, [.int .i64 0, .int .i64 0, .int .i64 0, .int .i64 0]), (w.heap.size + 1, [.int .i64 1, .int .i64 n, .int .i64 e, .int .i64 v]), (w.heap.size, [.int .i64 (-1), .int .i64 m, .int .i64 d, .int .i64 u])] W2) := K1.out.below hb
  clear c1_0_0 z1_0_0 c1_0_1 z1_0_1 c1_0_2 z1_0_2 c1_0_3 z1_0_3 c1_1_0 c1_1_1 c1_1_2 c1_1_3 c1_2_0 c1_2_1 c1_2_2 c1_2_3
  clear hb K1
  have c2_0_0 : W2.cell? ⟨w.heap.size + 2, 0, none⟩ = some (.int .i64 0) := (K2.out.at (w.heap.size + 2) [.int .i64 0, .int .i64 0, .int .i64 0, .int .i64 0] (by simp)).c 0 rfl
  have z2_0_0 : W2.frozen? ⟨w.heap.size + 2, 0, none⟩ = false := (K2.out.at (w.heap.size + 2) [.int .i64 0, .int .i64 0, .int .i64 0, .int .i64 0] (by simp)).f 0 rfl
  have c2_0_1 : W2.cell? ⟨w.heap.size + 2, 1, none⟩ = some (.int .i64 0) := (K2.out.at (w.heap.size + 2) [.int .i64 0, .int .i64 0, .int .i64 0, .int .i64 0] (by simp)).c 1 rfl
  have z2_0_1 : W2.frozen? ⟨w.heap.size + 2, 1, none⟩ = false := (K2.out.at (w.heap.size + 2) [.int .i64 0, .int .i64 0, .int .i64 0, .int .i64 0] (by simp)).f 1 rfl
  have c2_0_2 : W2.cell? ⟨w.heap.size + 2, 2, none⟩ = some (.int .i64 0) := (K2.out.at (w.heap.size + 2) [.int .i64 0, .int .i64 0, .int .i64 0, .int .i64 0] (by simp)).c 2 rfl
  have z2_0_2 : W2.frozen? ⟨w.heap.size + 2, 2, none⟩ = false := (K2.out.at (w.heap.size + 2) [.int .i64 0, .int .i64 0, .int .i64 0, .int .i64 0] (by simp)).f 2 rfl
  have c2_0_3 : W2.cell? ⟨w.heap.size + 2, 3, none⟩ = some (.int .i64 0) := (K2.out.at (w.heap.size + 2) [.int .i64 0, .int .i64 0, .int .i64 0, .int .i64 0] (by simp)).c 3 rfl
  have z2_0_3 : W2.frozen? ⟨w.heap.size + 2, 3, none⟩ = false := (K2.out.at (w.heap.size + 2) [.int .i64 0, .int .i64 0, .int .i64 0, .int .i64 0] (by simp)).f 3 rfl
  have c2_1_0 : W2.cell? ⟨w.heap.size + 1, 0, none⟩ = some (.int .i64 1) := (K2.out.at (w.heap.size + 1) [.int .i64 1, .int .i64 n, .int .i64 e, .int .i64 v] (by simp)).c 0 rfl
  have c2_1_1 : W2.cell? ⟨w.heap.size + 1, 1, none⟩ = some (.int .i64 n) := (K2.out.at (w.heap.size + 1) [.int .i64 1, .int .i64 n, .int .i64 e, .int .i64 v] (by simp)).c 1 rfl
  have c2_1_2 : W2.cell? ⟨w.heap.size + 1, 2, none⟩ = some (.int .i64 e) := (K2.out.at (w.heap.size + 1) [.int .i64 1, .int .i64 n, .int .i64 e, .int .i64 v] (by simp)).c 2 rfl
  have c2_1_3 : W2.cell? ⟨w.heap.size + 1, 3, none⟩ = some (.int .i64 v) := (K2.out.at (w.heap.size + 1) [.int .i64 1, .int .i64 n, .int .i64 e, .int .i64 v] (by simp)).c 3 rfl
  have c2_2_0 : W2.cell? ⟨w.heap.size, 0, none⟩ = some (.int .i64 (-1)) := (K2.out.at (w.heap.size) [.int .i64 (-1), .int .i64 m, .int .i64 d, .int .i64 u] (by simp)).c 0 rfl
  have c2_2_1 : W2.cell? ⟨w.heap.size, 1, none⟩ = some (.int .i64 m) := (K2.out.at (w.heap.size) [.int .i64 (-1), .int .i64 m, .int .i64 d, .int .i64 u] (by simp)).c 1 rfl
  have c2_2_2 : W2.cell? ⟨w.heap.size, 2, none⟩ = some (.int .i64 d) := (K2.out.at (w.heap.size) [.int .i64 (-1), .int .i64 m, .int .i64 d, .int .i64 u] (by simp)).c 2 rfl
  have c2_2_3 : W2.cell? ⟨w.heap.size, 3, none⟩ = some (.int .i64 u) := (K2.out.at (w.heap.size) [.int .i64 (-1), .int .i64 m, .int .i64 d, .int .i64 u] (by simp)).c 3 rfl
  have XF : Hid (Bx (W2.setCells (w.heap.size + 2) 0 [.int .i64 0, .int .i64 0, .int .i64 0, .int .i64 0]) (w.heap.size + 2) [.int .i64 0, .int .i64 0, .int .i64 0, .int .i64 0]) := (K2.out.at (w.heap.size + 2) [.int .i64 0, .int .i64 0, .int .i64 0, .int .i64 0] (by simp)).setAll _ rfl
  have BF : Hid (Below w.heap.size w (W2.setCells (w.heap.size + 2) 0 [.int .i64 0, .int .i64 0, .int .i64 0, .int .i64 0])) := below_setCells (by omega) _ _ _ K2.out.1
  have y0 := XF.out.c 0 rfl
  have y1 := XF.out.c 1 rfl
  have y2 := XF.out.c 2 rfl
  have y3 := XF.out.c 3 rfl
  simp only [World.setCells, Nat.zero_add, Nat.reduceAdd] at y0 y1 y2 y3
  clear XF
  go_wp2
  exact bodyPost_ret (v := .tuple #[.agg #[.int .i64 0, .int .i64 0, .int .i64 0, .int .i64 0], .int .i64 10]) (by simp [results, Try.results6, go_sem, y0, y1, y2, y3]) rfl ⟨rfl, BF.out⟩

set_option maxRecDepth 100000 in
set_option maxHeartbeats 4000000 in
theorem padd_oppp (m d u n e v : Int)
    (X : Hid (∀ w : World, Calls Try.prog 13 #[.agg #[.int .i64 1, .int .i64 m, .int .i64 d, .int .i64 u]] w fun r' w' => r' = .returned (.bool true) ∧ Below w.heap.size w w'))
    (Y : Hid (∀ w : World, Calls Try.prog 13 #[.agg #[.int .i64 (-1), .int .i64 n, .int .i64 e, .int .i64 v]] w fun r' w' => r' = .returned (.bool true) ∧ Below w.heap.size w w'))
    (w : World) :
    Calls Try.prog 6 #[.agg #[.int .i64 1, .int .i64 m, .int .i64 d, .int .i64 u], .agg #[.int .i64 (-1), .int .i64 n, .int .i64 e, .int .i64 v]] w fun r' w' => r' = .returned (.tuple #[.agg #[.int .i64 0, .int .i64 0, .int .i64 0, .int .i64 0], .int .i64 10]) ∧ Below w.heap.size w w' := by
  have K0 : Hid (BS w [(w.heap.size + 2, [.int .i64 0, .int .i64 0, .int .i64 0, .int .i64 0]), (w.heap.size + 1, [.int .i64 (-1), .int .i64 n, .int .i64 e, .int .i64 v]), (w.heap.size, [.int .i64 1, .int .i64 m, .int .i64 d, .int .i64 u])] (((w.alloc (.cells #[.int .i64 1, .int .i64 m, .int .i64 d, .int .i64 u] 23)).alloc (.cells #[.int .i64 (-1), .int .i64 n, .int .i64 e, .int .i64 v] 23)).alloc (.cells #[.int .i64 0, .int .i64 0, .int .i64 0, .int .i64 0] 23))) := ((((BS.start w).new [.int .i64 1, .int .i64 m, .int .i64 d, .int .i64 u] 23 rfl).new [.int .i64 (-1), .int .i64 n, .int .i64 e, .int .i64 v] 23 (by simp)).new [.int .i64 0, .int .i64 0, .int .i64 0, .int .i64 0] 23 (by simp))
  go_enter Try.func6, Try.ntmps6
  go_wp2_with fail
  refine (X.out _).mono ?_
  rintro e W1 ⟨rfl, hb⟩
  have K1 : Hid (BS w [(w.heap.size + 2, [.int .i64 0, .int .i64 0, .int .i64 0, .int .i64 0]), (w.heap.size + 1, [.int .i64 (-1), .int .i64 n, .int .i64 e, .int .i64 v]), (w.heap.size, [.int .i64 1, .int .i64 m, .int .i64 d, .int .i64 u])] W1) := K0.out.below hb
  clear hb K0
  have c1_0_0 : W1.cell? ⟨w.heap.size + 2, 0, none⟩ = some (.int .i64 0) := (K1.out.at (w.heap.size + 2) [.int .i64 0, .int .i64 0, .int .i64 0, .int .i64 0] (by simp)).c 0 rfl
  have z1_0_0 : W1.frozen? ⟨w.heap.size + 2, 0, none⟩ = false := (K1.out.at (w.heap.size + 2) [.int .i64 0, .int .i64 0, .int .i64 0, .int .i64 0] (by simp)).f 0 rfl
  have c1_0_1 : W1.cell? ⟨w.heap.size + 2, 1, none⟩ = some (.int .i64 0) := (K1.out.at (w.heap.size + 2) [.int .i64 0, .int .i64 0, .int .i64 0, .int .i64 0] (by simp)).c 1 rfl
  have z1_0_1 : W1.frozen? ⟨w.heap.size + 2, 1, none⟩ = false := (K1.out.at (w.heap.size + 2) [.int .i64 0, .int .i64 0, .int .i64 0, .int .i64 0] (by simp)).f 1 rfl
  have c1_0_2 : W1.cell? ⟨w.heap.size + 2, 2, none⟩ = some (.int .i64 0) := (K1.out.at (w.heap.size + 2) [.int .i64 0, .int .i64 0, .int .i64 0, .int .i64 0] (by simp)).c 2 rfl
  have z1_0_2 : W1.frozen? ⟨w.heap.size + 2, 2, none⟩ = false := (K1.out.at (w.heap.size + 2) [.int .i64 0, .int .i64 0, .int .i64 0, .int .i64 0] (by simp)).f 2 rfl
  have c1_0_3 : W1.cell? ⟨w.heap.size + 2, 3, none⟩ = some (.int .i64 0) := (K1.out.at (w.heap.size + 2) [.int .i64 0, .int .i64 0, .int .i64 0, .int .i64 0] (by simp)).c 3 rfl
  have z1_0_3 : W1.frozen? ⟨w.heap.size + 2, 3, none⟩ = false := (K1.out.at (w.heap.size + 2) [.int .i64 0, .int .i64 0, .int .i64 0, .int .i64 0] (by simp)).f 3 rfl
  have c1_1_0 : W1.cell? ⟨w.heap.size + 1, 0, none⟩ = some (.int .i64 (-1)) := (K1.out.at (w.heap.size + 1) [.int .i64 (-1), .int .i64 n, .int .i64 e, .int .i64 v] (by simp)).c 0 rfl
  have c1_1_1 : W1.cell? ⟨w.heap.size + 1, 1, none⟩ = some (.int .i64 n) := (K1.out.at (w.heap.size + 1) [.int .i64 (-1), .int .i64 n, .int .i64 e, .int .i64 v] (by simp)).c 1 rfl
  have c1_1_2 : W1.cell? ⟨w.heap.size + 1, 2, none⟩ = some (.int .i64 e) := (K1.out.at (w.heap.size + 1) [.int .i64 (-1), .int .i64 n, .int .i64 e, .int .i64 v] (by simp)).c 2 rfl
  have c1_1_3 : W1.cell? ⟨w.heap.size + 1, 3, none⟩ = some (.int .i64 v) := (K1.out.at (w.heap.size + 1) [.int .i64 (-1), .int .i64 n, .int .i64 e, .int .i64 v] (by simp)).c 3 rfl
  have c1_2_0 : W1.cell? ⟨w.heap.size, 0, none⟩ = some (.int .i64 1) := (K1.out.at (w.heap.size) [.int .i64 1, .int .i64 m, .int .i64 d, .int .i64 u] (by simp)).c 0 rfl
  have c1_2_1 : W1.cell? ⟨w.heap.size, 1, none⟩ = some (.int .i64 m) := (K1.out.at (w.heap.size) [.int .i64 1, .int .i64 m, .int .i64 d, .int .i64 u] (by simp)).c 1 rfl
  have c1_2_2 : W1.cell? ⟨w.heap.size, 2, none⟩ = some (.int .i64 d) := (K1.out.at (w.heap.size) [.int .i64 1, .int .i64 m, .int .i64 d, .int .i64 u] (by simp)).c 2 rfl
  have c1_2_3 : W1.cell? ⟨w.heap.size, 3, none⟩ = some (.int .i64 u) := (K1.out.at (w.heap.size) [.int .i64 1, .int .i64 m, .int .i64 d, .int .i64 u] (by simp)).c 3 rfl
  go_wp2_with fail
  refine (Y.out _).mono ?_
  rintro e W2 ⟨rfl, hb⟩
  have K2 : Hid (BS w [(w.heap.size + 2, [.int .i64 0, .int .i64 0, .int .i64 0, .int .i64 0]), (w.heap.size + 1, [.int .i64 (-1), .int .i64 n, .int .i64 e, .int .i64 v]), (w.heap.size, [.int .i64 1, .int .i64 m, .int .i64 d, .int .i64 u])] W2) := K1.out.below hb
  clear c1_0_0 z1_0_0 c1_0_1 z1_0_1 c1_0_2 z1_0_2 c1_0_3 z1_0_3 c1_1_0 c1_1_1 c1_1_2 c1_1_3 c1_2_0 c1_2_1 c1_2_2 c1_2_3
  clear hb K1
  have c2_0_0 : W2.cell? ⟨w.heap.size + 2, 0, none⟩ = some (.int .i64 0) := (K2.out.at (w.heap.size + 2) [.int .i64 0, .int .i64 0, .int .i64 0, .int .i64 0] (by simp)).c 0 rfl
  have z2_0_0 : W2.frozen? ⟨w.heap.size + 2, 0, none⟩ = false := (K2.out.at (w.heap.size + 2) [.int .i64 0, .int .i64 0, .int .i64 0, .int .i64 0] (by simp)).f 0 rfl
  have c2_0_1 : W2.cell? ⟨w.heap.size + 2, 1, none⟩ = some (.int .i64 0) := (K2.out.at (w.heap.size + 2) [.int .i64 0, .int .i64 0, .int .i64 0, .int .i64 0] (by simp)).c 1 rfl
  have z2_0_1 : W2.frozen? ⟨w.heap.size + 2, 1, none⟩ = false := (K2.out.at (w.heap.size + 2) [.int .i64 0, .int .i64 0, .int .i64 0, .int .i64 0] (by simp)).f 1 rfl
  have c2_0_2 : W2.cell? ⟨w.heap.size + 2, 2, none⟩ = some (.int .i64 0) := (K2.out.at (w.heap.size + 2) [.int .i64 0, .int .i64 0, .int .i64 0, .int .i64 0] (by simp)).c 2 rfl
  have z2_0_2 : W2.frozen? ⟨w.heap.size + 2, 2, none⟩ = false := (K2.out.at (w.heap.size + 2) [.int .i64 0, .int .i64 0, .int .i64 0, .int .i64 0] (by simp)).f 2 rfl
  have c2_0_3 : W2.cell? ⟨w.heap.size + 2, 3, none⟩ = some (.int .i64 0) := (K2.out.at (w.heap.size + 2) [.int .i64 0, .int .i64 0, .int .i64 0, .int .i64 0] (by simp)).c 3 rfl
  have z2_0_3 : W2.frozen? ⟨w.heap.size + 2, 3, none⟩ = false := (K2.out.at (w.heap.size + 2) [.int .i64 0, .int .i64 0, .int .i64 0, .int .i64 0] (by simp)).f 3 rfl
  have c2_1_0 : W2.cell? ⟨w.heap.size + 1, 0, none⟩ = some (.int .i64 (-1)) := (K2.out.at (w.heap.size + 1) [.int .i64 (-1), .int .i64 n, .int .i64 e, .int .i64 v] (by simp)).c 0 rfl
  have c2_1_1 : W2.cell? ⟨w.heap.size + 1, 1, none⟩ = some (.int .i64 n) := (K2.out.at (w.heap.size + 1) [.int .i64 (-1), .int .i64 n, .int .i64 e, .int .i64 v] (by simp)).c 1 rfl
  have c2_1_2 : W2.cell? ⟨w.heap.size + 1, 2, none⟩ = some (.int .i64 e) := (K2.out.at (w.heap.size + 1) [.int .i64 (-1), .int .i64 n, .int .i64 e, .int .i64 v] (by simp)).c 2 rfl
  have c2_1_3 : W2.cell? ⟨w.heap.size + 1, 3, none⟩ = some (.int .i64 v) := (K2.out.at (w.heap.size + 1) [.int .i64 (-1), .int .i64 n, .int .i64 e, .int .i64 v] (by simp)).c 3 rfl
  have c2_2_0 : W2.cell? ⟨w.heap.size, 0, none⟩ = some (.int .i64 1) := (K2.out.at (w.heap.size) [.int .i64 1, .int .i64 m, .int .i64 d, .int .i64 u] (by simp)).c 0 rfl
  have c2_2_1 : W2.cell? ⟨w.heap.size, 1, none⟩ = some (.int .i64 m) := (K2.out.at (w.heap.size) [.int .i64 1, .int .i64 m, .int .i64 d, .int .i64 u] (by simp)).c 1 rfl
  have c2_2_2 : W2.cell? ⟨w.heap.size, 2, none⟩ = some (.int .i64 d) := (K2.out.at (w.heap.size) [.int .i64 1, .int .i64 m, .int .i64 d, .int .i64 u] (by simp)).c 2 rfl
  have c2_2_3 : W2.cell? ⟨w.heap.size, 3, none⟩ = some (.int .i64 u) := (K2.out.at (w.heap.size) [.int .i64 1, .int .i64 m, .int .i64 d, .int .i64 u] (by simp)).c 3 rfl
  have XF : Hid (Bx (W2.setCells (w.heap.size + 2) 0 [.int .i64 0, .int .i64 0, .int .i64 0, .int .i64 0]) (w.heap.size + 2) [.int .i64 0, .int .i64 0, .int .i64 0, .int .i64 0]) := (K2.out.at (w.heap.size + 2) [.int .i64 0, .int .i64 0, .int .i64 0, .int .i64 0] (by simp)).setAll _ rfl
  have BF : Hid (Below w.heap.size w (W2.setCells (w.heap.size + 2) 0 [.int .i64 0, .int .i64 0, .int .i64 0, .int .i64 0])) := below_setCells (by omega) _ _ _ K2.out.1
  have y0 := XF.out.c 0 rfl
  have y1 := XF.out.c 1 rfl
  have y2 := XF.out.c 2 rfl
  have y3 := XF.out.c 3 rfl
  simp only [World.setCells, Nat.zero_add, Nat.reduceAdd] at y0 y1 y2 y3
  clear XF
  go_wp2
  exact bodyPost_ret (v := .tuple #[.agg #[.int .i64 0, .int .i64 0, .int .i64 0, .int .i64 0], .int .i64 10]) (by simp [results, Try.results6, go_sem, y0, y1, y2, y3]) rfl ⟨rfl, BF.out⟩

set_option maxRecDepth 100000 in
set_option maxHeartbeats 4000000 in
theorem padd_ams (m d u n e v : Int)
    (X : Hid (∀ w : World, Calls Try.prog 13 #[.agg #[.int .i64 (-1), .int .i64 m, .int .i64 d, .int .i64 u]] w fun r' w' => r' = .returned (.bool true) ∧ Below w.heap.size w w'))
    (Y : Hid (∀ w : World, Calls Try.prog 13 #[.agg #[.int .i64 (-1), .int .i64 n, .int .i64 e, .int .i64 v]] w fun r' w' => r' = .returned (.bool true) ∧ Below w.heap.size w w'))
    (w : World) :
    Calls Try.prog 6 #[.agg #[.int .i64 (-1), .int .i64 m, .int .i64 d, .int .i64 u], .agg #[.int .i64 (-1), .int .i64 n, .int .i64 e, .int .i64 v]] w fun r' w' => r' = .returned (.tuple #[.agg #[.int .i64 (-1), .int .i64 m, .int .i64 d, .int .i64 u], .int .i64 0]) ∧ Below w.heap.size w w' := by
  have K0 : Hid (BS w [(w.heap.size + 2, [.int .i64 0, .int .i64 0, .int .i64 0, .int .i64 0]), (w.heap.size + 1, [.int .i64 (-1), .int .i64 n, .int .i64 e, .int .i64 v]), (w.heap.size, [.int .i64 (-1), .int .i64 m, .int .i64 d, .int .i64 u])] (((w.alloc (.cells #[.int .i64 (-1), .int .i64 m, .int .i64 d, .int .i64 u] 23)).alloc (.cells #[.int .i64 (-1), .int .i64 n, .int .i64 e, .int .i64 v] 23)).alloc (.cells #[.int .i64 0, .int .i64 0, .int .i64 0, .int .i64 0] 23))) := ((((BS.start w).new [.int .i64 (-1), .int .i64 m, .int .i64 d, .int .i64 u] 23 rfl).new [.int .i64 (-1), .int .i64 n, .int .i64 e, .int .i64 v] 23 (by simp)).new [.int .i64 0, .int .i64 0, .int .i64 0, .int .i64 0] 23 (by simp))
  go_enter Try.func6, Try.ntmps6
  go_wp2_with fail
  refine (X.out _).mono ?_
  rintro e W1 ⟨rfl, hb⟩
  have K1 : Hid (BS w [(w.heap.size + 2, [.int .i64 0, .int .i64 0, .int .i64 0, .int .i64 0]), (w.heap.size + 1, [.int .i64 (-1), .int .i64 n, .int .i64 e, .int .i64 v]), (w.heap.size, [.int .i64 (-1), .int .i64 m, .int .i64 d, .int .i64 u])] W1) := K0.out.below hb
  clear hb K0
  have c1_0_0 : W1.cell? ⟨w.heap.size + 2, 0, none⟩ = some (.int .i64 0) := (K1.out.at (w.heap.size + 2) [.int .i64 0, .int .i64 0, .int .i64 0, .int .i64 0] (by simp)).c 0 rfl
  have z1_0_0 : W1.frozen? ⟨w.heap.size + 2, 0, none⟩ = false := (K1.out.at (w.heap.size + 2) [.int .i64 0, .int .i64 0, .int .i64 0, .int .i64 0] (by simp)).f 0 rfl
  have c1_0_1 : W1.cell? ⟨w.heap.size + 2, 1, none⟩ = some (.int .i64 0) := (K1.out.at (w.heap.size + 2) [.int .i64 0, .int .i64 0, .int .i64 0, .int .i64 0] (by simp)).c 1 rfl
  have z1_0_1 : W1.frozen? ⟨w.heap.size + 2, 1, none⟩ = false := (K1.out.at (w.heap.size + 2) [.int .i64 0, .int .i64 0, .int .i64 0, .int .i64 0] (by simp)).f 1 rfl
  have c1_0_2 : W1.cell? ⟨w.heap.size + 2, 2, none⟩ = some (.int .i64 0) := (K1.out.at (w.heap.size + 2) [.int .i64 0, .int .i64 0, .int .i64 0, .int .i64 0] (by simp)).c 2 rfl
  have z1_0_2 : W1.frozen? ⟨w.heap.size + 2, 2, none⟩ = false := (K1.out.at (w.heap.size + 2) [.int .i64 0, .int .i64 0, .int .i64 0, .int .i64 0] (by simp)).f 2 rfl
  have c1_0_3 : W1.cell? ⟨w.heap.size + 2, 3, none⟩ = some (.int .i64 0) := (K1.out.at (w.heap.size + 2) [.int .i64 0, .int .i64 0, .int .i64 0, .int .i64 0] (by simp)).c 3 rfl
  have z1_0_3 : W1.frozen? ⟨w.heap.size + 2, 3, none⟩ = false := (K1.out.at (w.heap.size + 2) [.int .i64 0, .int .i64 0, .int .i64 0, .int .i64 0] (by simp)).f 3 rfl
  have c1_1_0 : W1.cell? ⟨w.heap.size + 1, 0, none⟩ = some (.int .i64 (-1)) := (K1.out.at (w.heap.size + 1) [.int .i64 (-1), .int .i64 n, .int .i64 e, .int .i64 v] (by simp)).c 0 rfl
  have c1_1_1 : W1.cell? ⟨w.heap.size + 1, 1, none⟩ = some (.int .i64 n) := (K1.out.at (w.heap.size + 1) [.int .i64 (-1), .int .i64 n, .int .i64 e, .int .i64 v] (by simp)).c 1 rfl
  have c1_1_2 : W1.cell? ⟨w.heap.size + 1, 2, none⟩ = some (.int .i64 e) := (K1.out.at (w.heap.size + 1) [.int .i64 (-1), .int .i64 n, .int .i64 e, .int .i64 v] (by simp)).c 2 rfl
  have c1_1_3 : W1.cell? ⟨w.heap.size + 1, 3, none⟩ = some (.int .i64 v) := (K1.out.at (w.heap.size + 1) [.int .i64 (-1), .int .i64 n, .int .i64 e, .int .i64 v] (by simp)).c 3 rfl
  have c1_2_0 : W1.cell? ⟨w.heap.size, 0, none⟩ = some (.int .i64 (-1)) := (K1.out.at (w.heap.size) [.int .i64 (-1), .int .i64 m, .int .i64 d, .int .i64 u] (by simp)).c 0 rfl
  have c1_2_1 : W1.cell? ⟨w.heap.size, 1, none⟩ = some (.int .i64 m) := (K1.out.at (w.heap.size) [.int .i64 (-1), .int .i64 m, .int .i64 d, .int .i64 u] (by simp)).c 1 rfl
  have c1_2_2 : W1.cell? ⟨w.heap.size, 2, none⟩ = some (.int .i64 d) := (K1.out.at (w.heap.size) [.int .i64 (-1), .int .i64 m, .int .i64 d, .int .i64 u] (by simp)).c 2 rfl
  have c1_2_3 : W1.cell? ⟨w.heap.size, 3, none⟩ = some (.int .i64 u) := (K1.out.at (w.heap.size) [.int .i64 (-1), .int .i64 m, .int .i64 d, .int .i64 u] (by simp)).c 3 rfl
  go_wp2_with fail
  refine (Y.out _).mono ?_
  rintro e W2 ⟨rfl, hb⟩
  have K2 : Hid (BS w [(w.heap.size + 2, [.int .i64 0, .int .i64 0, .int .i64 0, .int .i64 0]), (w.heap.size + 1, [.int .i64 (-1), .int .i64 n, .int .i64 e, .int .i64 v]), (w.heap.size, [.int .i64 (-1), .int .i64 m, .int .i64 d, .int .i64 u])] W2) := K1.out.below hb
  clear c1_0_0 z1_0_0 c1_0_1 z1_0_1 c1_0_2 z1_0_2 c1_0_3 z1_0_3 c1_1_0 c1_1_1 c1_1_2 c1_1_3 c1_2_0 c1_2_1 c1_2_2 c1_2_3
  clear hb K1
  have c2_0_0 : W2.cell? ⟨w.heap.size + 2, 0, none⟩ = some (.int .i64 0) := (K2.out.at (w.heap.size + 2) [.int .i64 0, .int .i64 0, .int .i64 0, .int .i64 0] (by simp)).c 0 rfl
  have z2_0_0 : W2.frozen? ⟨w.heap.size + 2, 0, none⟩ = false := (K2.out.at (w.heap.size + 2) [.int .i64 0, .int .i64 0, .int .i64 0, .int .i64 0] (by simp)).f 0 rfl
  have c2_0_1 : W2.cell? ⟨w.heap.size + 2, 1, none⟩ = some (.int .i64 0) := (K2.out.at (w.heap.size + 2) [.int .i64 0, .int .i64 0, .int .i64 0, .int .i64 0] (by simp)).c 1 rfl
  have z2_0_1 : W2.frozen? ⟨w.heap.size + 2, 1, none⟩ = false := (K2.out.at (w.heap.size + 2) [.int .i64 0, .int .i64 0, .int .i64 0, .int .i64 0] (by simp)).f 1 rfl
  have c2_0_2 : W2.cell? ⟨w.heap.size + 2, 2, none⟩ = some (.int .i64 0) := (K2.out.at (w.heap.size + 2) [.int .i64 0, .int .i64 0, .int .i64 0, .int .i64 0] (by simp)).c 2 rfl
  have z2_0_2 : W2.frozen? ⟨w.heap.size + 2, 2, none⟩ = false := (K2.out.at (w.heap.size + 2) [.int .i64 0, .int .i64 0, .int .i64 0, .int .i64 0] (by simp)).f 2 rfl
  have c2_0_3 : W2.cell? ⟨w.heap.size + 2, 3, none⟩ = some (.int .i64 0) := (K2.out.at (w.heap.size + 2) [.int .i64 0, .int .i64 0, .int .i64 0, .int .i64 0] (by simp)).c 3 rfl
  have z2_0_3 : W2.frozen? ⟨w.heap.size + 2, 3, none⟩ = false := (K2.out.at (w.heap.size + 2) [.int .i64 0, .int .i64 0, .int .i64 0, .int .i64 0] (by simp)).f 3 rfl
  have c2_1_0 : W2.cell? ⟨w.heap.size + 1, 0, none⟩ = some (.int .i64 (-1)) := (K2.out.at (w.heap.size + 1) [.int .i64 (-1), .int .i64 n, .int .i64 e, .int .i64 v] (by simp)).c 0 rfl
  have c2_1_1 : W2.cell? ⟨w.heap.size + 1, 1, none⟩ = some (.int .i64 n) := (K2.out.at (w.heap.size + 1) [.int .i64 (-1), .int .i64 n, .int .i64 e, .int .i64 v] (by simp)).c 1 rfl
  have c2_1_2 : W2.cell? ⟨w.heap.size + 1, 2, none⟩ = some (.int .i64 e) := (K2.out.at (w.heap.size + 1) [.int .i64 (-1), .int .i64 n, .int .i64 e, .int .i64 v] (by simp)).c 2 rfl
  have c2_1_3 : W2.cell? ⟨w.heap.size + 1, 3, none⟩ = some (.int .i64 v) := (K2.out.at (w.heap.size + 1) [.int .i64 (-1), .int .i64 n, .int .i64 e, .int .i64 v] (by simp)).c 3 rfl
  have c2_2_0 : W2.cell? ⟨w.heap.size, 0, none⟩ = some (.int .i64 (-1)) := (K2.out.at (w.heap.size) [.int .i64 (-1), .int .i64 m, .int .i64 d, .int .i64 u] (by simp)).c 0 rfl
  have c2_2_1 : W2.cell? ⟨w.heap.size, 1, none⟩ = some (.int .i64 m) := (K2.out.at (w.heap.size) [.int .i64 (-1), .int .i64 m, .int .i64 d, .int .i64 u] (by simp)).c 1 rfl
  have c2_2_2 : W2.cell? ⟨w.heap.size, 2, none⟩ = some (.int .i64 d) := (K2.out.at (w.heap.size) [.int .i64 (-1), .int .i64 m, .int .i64 d, .int .i64 u] (by simp)).c 2 rfl
  have c2_2_3 : W2.cell? ⟨w.heap.size, 3, none⟩ = some (.int .i64 u) := (K2.out.at (w.heap.size) [.int .i64 (-1), .int .i64 m, .int .i64 d, .int .i64 u] (by simp)).c 3 rfl
  have XF : Hid (Bx (W2.setCells (w.heap.size + 2) 0 [.int .i64 (-1), .int .i64 m, .int .i64 d, .int .i64 u]) (w.heap.size + 2) [.int .i64 (-1), .int .i64 m, .int .i64 d, .int .i64 u]) := (K2.out.at (w.heap.size + 2) [.int .i64 0, .int .i64 0, .int .i64 0, .int .i64 0] (by simp)).setAll _ rfl
  have BF : Hid (Below w.heap.size w (W2.setCells (w.heap.size + 2) 0 [.int .i64 (-1), .int .i64 m, .int .i64 d, .int .i64 u])) := below_setCells (by omega) _ _ _ K2.out.1
  have y0 := XF.out.c 0 rfl
  have y1 := XF.out.c 1 rfl
  have y2 := XF.out.c 2 rfl
  have y3 := XF.out.c 3 rfl
  simp only [World.setCells, Nat.zero_add, Nat.reduceAdd] at y0 y1 y2 y3
  clear XF
  go_wp2
  exact bodyPost_ret (v := .tuple #[.agg #[.int .i64 (-1), .int .i64 m, .int .i64 d, .int .i64 u], .int .i64 0]) (by simp [results, Try.results6, go_sem, y0, y1, y2, y3]) rfl ⟨rfl, BF.out⟩

set_option maxRecDepth 100000 in
set_option maxHeartbeats 4000000 in
theorem padd_am0 (m d u n e v : Int)
    (X : Hid (∀ w : World, Calls Try.prog 13 #[.agg #[.int .i64 (-1), .int .i64 m, .int .i64 d, .int .i64 u]] w fun r' w' => r' = .returned (.bool true) ∧ Below w.heap.size w w'))
    (Y : Hid (∀ w : World, Calls Try.prog 13 #[.agg #[.int .i64 0, .int .i64 n, .int .i64 e, .int .i64 v]] w fun r' w' => r' = .returned (.bool true) ∧ Below w.heap.size w w'))
    (w : World) :
    Calls Try.prog 6 #[.agg #[.int .i64 (-1), .int .i64 m, .int .i64 d, .int .i64 u], .agg #[.int .i64 0, .int .i64 n, .int .i64 e, .int .i64 v]] w fun r' w' => r' = .returned (.tuple #[.agg #[.int .i64 (-1), .int .i64 m, .int .i64 d, .int .i64 u], .int .i64 0]) ∧ Below w.heap.size w w' := by
  have K0 : Hid (BS w [(w.heap.size + 2, [.int .i64 0, .int .i64 0, .int .i64 0, .int .i64 0]), (w.heap.size + 1, [.int .i64 0, .int .i64 n, .int .i64 e, .int .i64 v]), (w.heap.size, [.int .i64 (-1), .int .i64 m, .int .i64 d, .int .i64 u])] (((w.alloc (.cells #[.int .i64 (-1), .int .i64 m, .int .i64 d, .int .i64 u] 23)).alloc (.cells #[.int .i64 0, .int .i64 n, .int .i64 e, .int .i64 v] 23)).alloc (.cells #[.int .i64 0, .int .i64 0, .int .i64 0, .int .i64 0] 23))) := ((((BS.start w).new [.int .i64 (-1), .int .i64 m, .int .i64 d, .int .i64 u] 23 rfl).new [.int .i64 0, .int .i64 n, .int .i64 e, .int .i64 v] 23 (by simp)).new [.int .i64 0, .int .i64 0, .int .i64 0, .int .i64 0] 23 (by simp))
  go_enter Try.func6, Try.ntmps6
  go_wp2_with fail
  refine (X.out _).mono ?_
  rintro e W1 ⟨rfl, hb⟩
  have K1 : Hid (BS w [(w.heap.size + 2, [.int .i64 0, .int .i64 0, .int .i64 0, .int .i64 0]), (w.heap.size + 1, [.int .i64 0, .int .i64 n, .int .i64 e, .int .i64 v]), (w.heap.size, [.int .i64 (-1), .int .i64 m, .int .i64 d, .int .i64 u])] W1) := K0.out.below hb
  clear hb K0
  have c1_0_0 : W1.cell? ⟨w.heap.size + 2, 0, none⟩ = some (.int .i64 0) := (K1.out.at (w.heap.size + 2) [.int .i64 0, .int .i64 0, .int .i64 0, .int .i64 0] (by simp)).c 0 rfl
  have z1_0_0 : W1.frozen? ⟨w.heap.size + 2, 0, none⟩ = false := (K1.out.at (w.heap.size + 2) [.int .i64 0, .int .i64 0, .int .i64 0, .int .i64 0] (by simp)).f 0 rfl
  have c1_0_1 : W1.cell? ⟨w.heap.size + 2, 1, none⟩ = some (.int .i64 0) := (K1.out.at (w.heap.size + 2) [.int .i64 0, .int .i64 0, .int .i64 0, .int .i64 0] (by simp)).c 1 rfl
  have z1_0_1 : W1.frozen? ⟨w.heap.size + 2, 1, none⟩ = false := (K1.out.at (w.heap.size + 2) [.int .i64 0, .int .i64 0, .int .i64 0, .int .i64 0] (by simp)).f 1 rfl
  have c1_0_2 : W1.cell? ⟨w.heap.size + 2, 2, none⟩ = some (.int .i64 0) := (K1.out.at (w.heap.size + 2) [.int .i64 0, .int .i64 0, .int .i64 0, .int .i64 0] (by simp)).c 2 rfl
  have z1_0_2 : W1.frozen? ⟨w.heap.size + 2, 2, none⟩ = false := (K1.out.at (w.heap.size + 2) [.int .i64 0, .int .i64 0, .int .i64 0, .int .i64 0] (by simp)).f 2 rfl
  have c1_0_3 : W1.cell? ⟨w.heap.size + 2, 3, none⟩ = some (.int .i64 0) := (K1.out.at (w.heap.size + 2) [.int .i64 0, .int .i64 0, .int .i64 0, .int .i64 0] (by simp)).c 3 rfl
  have z1_0_3 : W1.frozen? ⟨w.heap.size + 2, 3, none⟩ = false := (K1.out.at (w.heap.size + 2) [.int .i64 0, .int .i64 0, .int .i64 0, .int .i64 0] (by simp)).f 3 rfl
  have c1_1_0 : W1.cell? ⟨w.heap.size + 1, 0, none⟩ = some (.int .i64 0) := (K1.out.at (w.heap.size + 1) [.int .i64 0, .int .i64 n, .int .i64 e, .int .i64 v] (by simp)).c 0 rfl
  have c1_1_1 : W1.cell? ⟨w.heap.size + 1, 1, none⟩ = some (.int .i64 n) := (K1.out.at (w.heap.size + 1) [.int .i64 0, .int .i64 n, .int .i64 e, .int .i64 v] (by simp)).c 1 rfl
  have c1_1_2 : W1.cell? ⟨w.heap.size + 1, 2, none⟩ = some (.int .i64 e) := (K1.out.at (w.heap.size + 1) [.int .i64 0, .int .i64 n, .int .i64 e, .int .i64 v] (by simp)).c 2 rfl
  have c1_1_3 : W1.cell? ⟨w.heap.size + 1, 3, none⟩ = some (.int .i64 v) := (K1.out.at (w.heap.size + 1) [.int .i64 0, .int .i64 n, .int .i64 e, .int .i64 v] (by simp)).c 3 rfl
  have c1_2_0 : W1.cell? ⟨w.heap.size, 0, none⟩ = some (.int .i64 (-1)) := (K1.out.at (w.heap.size) [.int .i64 (-1), .int .i64 m, .int .i64 d, .int .i64 u] (by simp)).c 0 rfl
  have c1_2_1 : W1.cell? ⟨w.heap.size, 1, none⟩ = some (.int .i64 m) := (K1.out.at (w.heap.size) [.int .i64 (-1), .int .i64 m, .int .i64 d, .int .i64 u] (by simp)).c 1 rfl
  have c1_2_2 : W1.cell? ⟨w.heap.size, 2, none⟩ = some (.int .i64 d) := (K1.out.at (w.heap.size) [.int .i64 (-1), .int .i64 m, .int .i64 d, .int .i64 u] (by simp)).c 2 rfl
  have c1_2_3 : W1.cell? ⟨w.heap.size, 3, none⟩ = some (.int .i64 u) := (K1.out.at (w.heap.size) [.int .i64 (-1), .int .i64 m, .int .i64 d, .int .i64 u] (by simp)).c 3 rfl
  go_wp2_with fail
  refine (Y.out _).mono ?_
  rintro e W2 ⟨rfl, hb⟩
  have K2 : Hid (BS w [(w.heap.size + 2, [.int .i64 0, .int .i64 0, .int .i64 0, .int .i64 0]), (w.heap.size + 1, [.int .i64 0, .int .i64 n, .int .i64 e, .int .i64 v]), (w.heap.size, [.int .i64 (-1), .int .i64 m, .int .i64 d, .int .i64 u])] W2) := K1.out.below hb
  clear c1_0_0 z1_0_0 c1_0_1 z1_0_1 c1_0_2 z1_0_2 c1_0_3 z1_0_3 c1_1_0 c1_1_1 c1_1_2 c1_1_3 c1_2_0 c1_2_1 c1_2_2 c1_2_3
  clear hb K1
  have c2_0_0 : W2.cell? ⟨w.heap.size + 2, 0, none⟩ = some (.int .i64 0) := (K2.out.at (w.heap.size + 2) [.int .i64 0, .int .i64 0, .int .i64 0, .int .i64 0] (by simp)).c 0 rfl
  have z2_0_0 : W2.frozen? ⟨w.heap.size + 2, 0, none⟩ = false := (K2.out.at (w.heap.size + 2) [.int .i64 0, .int .i64 0, .int .i64 0, .int .i64 0] (by simp)).f 0 rfl
  have c2_0_1 : W2.cell? ⟨w.heap.size + 2, 1, none⟩ = some (.int .i64 0) := (K2.out.at (w.heap.size + 2) [.int .i64 0, .int .i64 0, .int .i64 0, .int .i64 0] (by simp)).c 1 rfl
  have z2_0_1 : W2.frozen? ⟨w.heap.size + 2, 1, none⟩ = false := (K2.out.at (w.heap.size + 2) [.int .i64 0, .int .i64 0, .int .i64 0, .int .i64 0] (by simp)).f 1 rfl
  have c2_0_2 : W2.cell? ⟨w.heap.size + 2, 2, none⟩ = some (.int .i64 0) := (K2.out.at (w.heap.size + 2) [.int .i64 0, .int .i64 0, .int .i64 0, .int .i64 0] (by simp)).c 2 rfl
  have z2_0_2 : W2.frozen? ⟨w.heap.size + 2, 2, none⟩ = false := (K2.out.at (w.heap.size + 2) [.int .i64 0, .int .i64 0, .int .i64 0, .int .i64 0] (by simp)).f 2 rfl
  have c2_0_3 : W2.cell? ⟨w.heap.size + 2, 3, none⟩ = some (.int .i64 0) := (K2.out.at (w.heap.size + 2) [.int .i64 0, .int .i64 0, .int .i64 0, .int .i64 0] (by simp)).c 3 rfl
  have z2_0_3 : W2.frozen? ⟨w.heap.size + 2, 3, none⟩ = false := (K2.out.at (w.heap.size + 2) [.int .i64 0, .int .i64 0, .int .i64 0, .int .i64 0] (by simp)).f 3 rfl
  have c2_1_0 : W2.cell? ⟨w.heap.size + 1, 0, none⟩ = some (.int .i64 0) := (K2.out.at (w.heap.size + 1) [.int .i64 0, .int .i64 n, .int .i64 e, .int .i64 v] (by simp)).c 0 rfl
  have c2_1_1 : W2.cell? ⟨w.heap.size + 1, 1, none⟩ = some (.int .i64 n) := (K2.out.at (w.heap.size + 1) [.int .i64 0, .int .i64 n, .int .i64 e, .int .i64 v] (by simp)).c 1 rfl
  have c2_1_2 : W2.cell? ⟨w.heap.size + 1, 2, none⟩ = some (.int .i64 e) := (K2.out.at (w.heap.size + 1) [.int .i64 0, .int .i64 n, .int .i64 e, .int .i64 v] (by simp)).c 2 rfl
  have c2_1_3 : W2.cell? ⟨w.heap.size + 1, 3, none⟩ = some (.int .i64 v) := (K2.out.at (w.heap.size + 1) [.int .i64 0, .int .i64 n, .int .i64 e, .int .i64 v] (by simp)).c 3 rfl
  have c2_2_0 : W2.cell? ⟨w.heap.size, 0, none⟩ = some (.int .i64 (-1)) := (K2.out.at (w.heap.size) [.int .i64 (-1), .int .i64 m, .int .i64 d, .int .i64 u] (by simp)).c 0 rfl
  have c2_2_1 : W2.cell? ⟨w.heap.size, 1, none⟩ = some (.int .i64 m) := (K2.out.at (w.heap.size) [.int .i64 (-1), .int .i64 m, .int .i64 d, .int .i64 u] (by simp)).c 1 rfl
  have c2_2_2 : W2.cell? ⟨w.heap.size, 2, none⟩ = some (.int .i64 d) := (K2.out.at (w.heap.size) [.int .i64 (-1), .int .i64 m, .int .i64 d, .int .i64 u] (by simp)).c 2 rfl
  have c2_2_3 : W2.cell? ⟨w.heap.size, 3, none⟩ = some (.int .i64 u) := (K2.out.at (w.heap.size) [.int .i64 (-1), .int .i64 m, .int .i64 d, .int .i64 u] (by simp)).c 3 rfl
  have XF : Hid (Bx (W2.setCells (w.heap.size + 2) 0 [.int .i64 (-1), .int .i64 m, .int .i64 d, .int .i64 u]) (w.heap.size + 2) [.int .i64 (-1), .int .i64 m, .int .i64 d, .int .i64 u]) := (K2.out.at (w.heap.size + 2) [.int .i64 0, .int .i64 0, .int .i64 0, .int .i64 0] (by simp)).setAll _ rfl
  have BF : Hid (Below w.heap.size w (W2.setCells (w.heap.size + 2) 0 [.int .i64 (-1), .int .i64 m, .int .i64 d, .int .i64 u])) := below_setCells (by omega) _ _ _ K2.out.1
  have y0 := XF.out.c 0 rfl
  have y1 := XF.out.c 1 rfl
  have y2 := XF.out.c 2 rfl
  have y3 := XF.out.c 3 rfl
  simp only [World.setCells, Nat.zero_add, Nat.reduceAdd] at y0 y1 y2 y3
  clear XF
  go_wp2
  exact bodyPost_ret (v := .tuple #[.agg #[.int .i64 (-1), .int .i64 m, .int .i64 d, .int .i64 u], .int .i64 0]) (by simp [results, Try.results6, go_sem, y0, y1, y2, y3]) rfl ⟨rfl, BF.out⟩

set_option maxRecDepth 100000 in
set_option maxHeartbeats 4000000 in
theorem padd_aps (m d u n e v : Int)
    (X : Hid (∀ w : World, Calls Try.prog 13 #[.agg #[.int .i64 1, .int .i64 m, .int .i64 d, .int .i64 u]] w fun r' w' => r' = .returned (.bool true) ∧ Below w.heap.size w w'))
    (Y : Hid (∀ w : World, Calls Try.prog 13 #[.agg #[.int .i64 1, .int .i64 n, .int .i64 e, .int .i64 v]] w fun r' w' => r' = .returned (.bool true) ∧ Below w.heap.size w w'))
    (w : World) :
    Calls Try.prog 6 #[.agg #[.int .i64 1, .int .i64 m, .int .i64 d, .int .i64 u], .agg #[.int .i64 1, .int .i64 n, .int .i64 e, .int .i64 v]] w fun r' w' => r' = .returned (.tuple #[.agg #[.int .i64 1, .int .i64 m, .int .i64 d, .int .i64 u], .int .i64 0]) ∧ Below w.heap.size w w' := by
  have K0 : Hid (BS w [(w.heap.size + 2, [.int .i64 0, .int .i64 0, .int .i64 0, .int .i64 0]), (w.heap.size + 1, [.int .i64 1, .int .i64 n, .int .i64 e, .int .i64 v]), (w.heap.size, [.int .i64 1, .int .i64 m, .int .i64 d, .int .i64 u])] (((w.alloc (.cells #[.int .i64 1, .int .i64 m, .int .i64 d, .int .i64 u] 23)).alloc (.cells #[.int .i64 1, .int .i64 n, .int .i64 e, .int .i64 v] 23)).alloc (.cells #[.int .i64 0, .int .i64 0, .int .i64 0, .int .i64 0] 23))) := ((((BS.start w).new [.int .i64 1, .int .i64 m, .int .i64 d, .int .i64 u] 23 rfl).new [.int .i64 1, .int .i64 n, .int .i64 e, .int .i64 v] 23 (by simp)).new [.int .i64 0, .int .i64 0, .int .i64 0, .int .i64 0] 23 (by simp))
  go_enter Try.func6, Try.ntmps6
  go_wp2_with fail
  refine (X.out _).mono ?_
  rintro e W1 ⟨rfl, hb⟩
  have K1 : Hid (BS w [(w.heap.size + 2, [.int .i64 0, .int .i64 0, .int .i64 0, .int .i64 0]), (w.heap.size + 1, [.int .i64 1, .int .i64 n, .int .i64 e, .int .i64 v]), (w.heap.size, [.int .i64 1, .int .i64 m, .int .i64 d, .int .i64 u])] W1) := K0.out.below hb
  clear hb K0
  have c1_0_0 : W1.cell? ⟨w.heap.size + 2, 0, none⟩ = some (.int .i64 0) := (K1.out.at (w.heap.size + 2) [.int .i64 0, .int .i64 0, .int .i64 0, .int .i64 0] (by simp)).c 0 rfl
  have z1_0_0 : W1.frozen? ⟨w.heap.size + 2, 0, none⟩ = false := (K1.out.at (w.heap.size + 2) [.int .i64 0, .int .i64 0, .int .i64 0, .int .i64 0] (by simp)).f 0 rfl
  have c1_0_1 : W1.cell? ⟨w.heap.size + 2, 1, none⟩ = some (.int .i64 0) := (K1.out.at (w.heap.size + 2) [.int .i64 0, .int .i64 0, .int .i64 0, .int .i64 0] (by simp)).c 1 rfl
  have z1_0_1 : W1.frozen? ⟨w.heap.size + 2, 1, none⟩ = false := (K1.out.at (w.heap.size + 2) [.int .i64 0, .int .i64 0, .int .i64 0, .int .i64 0] (by simp)).f 1 rfl
  have c1_0_2 : W1.cell? ⟨w.heap.size + 2, 2, none⟩ = some (.int .i64 0) := (K1.out.at (w.heap.size + 2) [.int .i64 0, .int .i64 0, .int .i64 0, .int .i64 0] (by simp)).c 2 rfl
  have z1_0_2 : W1.frozen? ⟨w.heap.size + 2, 2, none⟩ = false := (K1.out.at (w.heap.size + 2) [.int .i64 0, .int .i64 0, .int .i64 0, .int .i64 0] (by simp)).f 2 rfl
  have c1_0_3 : W1.cell? ⟨w.heap.size + 2, 3, none⟩ = some (.int .i64 0) := (K1.out.at (w.heap.size + 2) [.int .i64 0, .int .i64 0, .int .i64 0, .int .i64 0] (by simp)).c 3 rfl
  have z1_0_3 : W1.frozen? ⟨w.heap.size + 2, 3, none⟩ = false := (K1.out.at (w.heap.size + 2) [.int .i64 0, .int .i64 0, .int .i64 0, .int .i64 0] (by simp)).f 3 rfl
  have c1_1_0 : W1.cell? ⟨w.heap.size + 1, 0, none⟩ = some (.int .i64 1) := (K1.out.at (w.heap.size + 1) [.int .i64 1, .int .i64 n, .int .i64 e, .int .i64 v] (by simp)).c 0 rfl
  have c1_1_1 : W1.cell? ⟨w.heap.size + 1, 1, none⟩ = some (.int .i64 n) := (K1.out.at (w.heap.size + 1) [.int .i64 1, .int .i64 n, .int .i64 e, .int .i64 v] (by simp)).c 1 rfl
  have c1_1_2 : W1.cell? ⟨w.heap.size + 1, 2, none⟩ = some (.int .i64 e) := (K1.out.at (w.heap.size + 1) [.int .i64 1, .int .i64 n, .int .i64 e, .int .i64 v] (by simp)).c 2 rfl
  have c1_1_3 : W1.cell? ⟨w.heap.size + 1, 3, none⟩ = some (.int .i64 v) := (K1.out.at (w.heap.size + 1) [.int .i64 1, .int .i64 n, .int .i64 e, .int .i64 v] (by simp)).c 3 rfl
  have c1_2_0 : W1.cell? ⟨w.heap.size, 0, none⟩ = some (.int .i64 1) := (K1.out.at (w.heap.size) [.int .i64 1, .int .i64 m, .int .i64 d, .int .i64 u] (by simp)).c 0 rfl
  have c1_2_1 : W1.cell? ⟨w.heap.size, 1, none⟩ = some (.int .i64 m) := (K1.out.at (w.heap.size) [.int .i64 1, .int .i64 m, .int .i64 d, .int .i64 u] (by simp)).c 1 rfl
  have c1_2_2 : W1.cell? ⟨w.heap.size, 2, none⟩ = some (.int .i64 d) := (K1.out.at (w.heap.size) [.int .i64 1, .int .i64 m, .int .i64 d, .int .i64 u] (by simp)).c 2 rfl
  have c1_2_3 : W1.cell? ⟨w.heap.size, 3, none⟩ = some (.int .i64 u) := (K1.out.at (w.heap.size) [.int .i64 1, .int .i64 m, .int .i64 d, .int .i64 u] (by simp)).c 3 rfl
  go_wp2_with fail
  refine (Y.out _).mono ?_
  rintro e W2 ⟨rfl, hb⟩
  have K2 : Hid (BS w [(w.heap.size + 2, [.int .i64 0, .int .i64 0, .int .i64 0, .int .i64 0]), (w.heap.size + 1, [.int .i64 1, .int .i64 n, .int .i64 e, .int .i64 v]), (w.heap.size, [.int .i64 1, .int .i64 m, .int .i64 d, .int .i64 u])] W2) := K1.out.below hb
  clear c1_0_0 z1_0_0 c1_0_1 z1_0_1 c1_0_2 z1_0_2 c1_0_3 z1_0_3 c1_1_0 c1_1_1 c1_1_2 c1_1_3 c1_2_0 c1_2_1 c1_2_2 c1_2_3
  clear hb K1
  have c2_0_0 : W2.cell? ⟨w.heap.size + 2, 0, none⟩ = some (.int .i64 0) := (K2.out.at (w.heap.size + 2) [.int .i64 0, .int .i64 0, .int .i64 0, .int .i64 0] (by simp)).c 0 rfl
  have z2_0_0 : W2.frozen? ⟨w.heap.size + 2, 0, none⟩ = false := (K2.out.at (w.heap.size + 2) [.int .i64 0, .int .i64 0, .int .i64 0, .int .i64 0] (by simp)).f 0 rfl
  have c2_0_1 : W2.cell? ⟨w.heap.size + 2, 1, none⟩ = some (.int .i64 0) := (K2.out.at (w.heap.size + 2) [.int .i64 0, .int .i64 0, .int .i64 0, .int .i64 0] (by simp)).c 1 rfl
  have z2_0_1 : W2.frozen? ⟨w.heap.size + 2, 1, none⟩ = false := (K2.out.at (w.heap.size + 2) [.int .i64 0, .int .i64 0, .int .i64 0, .int .i64 0] (by simp)).f 1 rfl
  have c2_0_2 : W2.cell? ⟨w.heap.size + 2, 2, none⟩ = some (.int .i64 0) := (K2.out.at (w.heap.size + 2) [.int .i64 0, .int .i64 0, .int .i64 0, .int .i64 0] (by simp)).c 2 rfl
  have z2_0_2 : W2.frozen? ⟨w.heap.size + 2, 2, none⟩ = false := (K2.out.at (w.heap.size + 2) [.int .i64 0, .int .i64 0, .int .i64 0, .int .i64 0] (by simp)).f 2 rfl
  have c2_0_3 : W2.cell? ⟨w.heap.size + 2, 3, none⟩ = some (.int .i64 0) := (K2.out.at (w.heap.size + 2) [.int .i64 0, .int .i64 0, .int .i64 0, .int .i64 0] (by simp)).c 3 rfl
  have z2_0_3 : W2.frozen? ⟨w.heap.size + 2, 3, none⟩ = false := (K2.out.at (w.heap.size + 2) [.int .i64 0, .int .i64 0, .int .i64 0, .int .i64 0] (by simp)).f 3 rfl
  have c2_1_0 : W2.cell? ⟨w.heap.size + 1, 0, none⟩ = some (.int .i64 1) := (K2.out.at (w.heap.size + 1) [.int .i64 1, .int .i64 n, .int .i64 e, .int .i64 v] (by simp)).c 0 rfl
  have c2_1_1 : W2.cell? ⟨w.heap.size + 1, 1, none⟩ = some (.int .i64 n) := (K2.out.at (w.heap.size + 1) [.int .i64 1, .int .i64 n, .int .i64 e, .int .i64 v] (by simp)).c 1 rfl
  have c2_1_2 : W2.cell? ⟨w.heap.size + 1, 2, none⟩ = some (.int .i64 e) := (K2.out.at (w.heap.size + 1) [.int .i64 1, .int .i64 n, .int .i64 e, .int .i64 v] (by simp)).c 2 rfl
  have c2_1_3 : W2.cell? ⟨w.heap.size + 1, 3, none⟩ = some (.int .i64 v) := (K2.out.at (w.heap.size + 1) [.int .i64 1, .int .i64 n, .int .i64 e, .int .i64 v] (by simp)).c 3 rfl
  have c2_2_0 : W2.cell? ⟨w.heap.size, 0, none⟩ = some (.int .i64 1) := (K2.out.at (w.heap.size) [.int .i64 1, .int .i64 m, .int .i64 d, .int .i64 u] (by simp)).c 0 rfl
  have c2_2_1 : W2.cell? ⟨w.heap.size, 1, none⟩ = some (.int .i64 m) := (K2.out.at (w.heap.size) [.int .i64 1, .int .i64 m, .int .i64 d, .int .i64 u] (by simp)).c 1 rfl
  have c2_2_2 : W2.cell? ⟨w.heap.size, 2, none⟩ = some (.int .i64 d) := (K2.out.at (w.heap.size) [.int .i64 1, .int .i64 m, .int .i64 d, .int .i64 u] (by simp)).c 2 rfl
  have c2_2_3 : W2.cell? ⟨w.heap.size, 3, none⟩ = some (.int .i64 u) := (K2.out.at (w.heap.size) [.int .i64 1, .int .i64 m, .int .i64 d, .int .i64 u] (by simp)).c 3 rfl
  have XF : Hid (Bx (W2.setCells (w.heap.size + 2) 0 [.int .i64 1, .int .i64 m, .int .i64 d, .int .i64 u]) (w.heap.size + 2) [.int .i64 1, .int .i64 m, .int .i64 d, .int .i64 u]) := (K2.out.at (w.heap.size + 2) [.int .i64 0, .int .i64 0, .int .i64 0, .int .i64 0] (by simp)).setAll _ rfl
  have BF : Hid (Below w.heap.size w (W2.setCells (w.heap.size + 2) 0 [.int .i64 1, .int .i64 m, .int .i64 d, .int .i64 u])) := below_setCells (by omega) _ _ _ K2.out.1
  have y0 := XF.out.c 0 rfl
  have y1 := XF.out.c 1 rfl
  have y2 := XF.out.c 2 rfl
  have y3 := XF.out.c 3 rfl
  simp only [World.setCells, Nat.zero_add, Nat.reduceAdd] at y0 y1 y2 y3
  clear XF
  go_wp2
  exact bodyPost_ret (v := .tuple #[.agg #[.int .i64 1, .int .i64 m, .int .i64 d, .int .i64 u], .int .i64 0]) (by simp [results, Try.results6, go_sem, y0, y1, y2, y3]) rfl ⟨rfl, BF.out⟩

set_option maxRecDepth 100000 in
set_option maxHeartbeats 4000000 in
theorem padd_ap0 (m d u n e v : Int)
    (X : Hid (∀ w : World, Calls Try.prog 13 #[.agg #[.int .i64 1, .int .i64 m, .int .i64 d, .int .i64 u]] w fun r' w' => r' = .returned (.bool true) ∧ Below w.heap.size w w'))
    (Y : Hid (∀ w : World, Calls Try.prog 13 #[.agg #[.int .i64 0, .int .i64 n, .int .i64 e, .int .i64 v]] w fun r' w' => r' = .returned (.bool true) ∧ Below w.heap.size w w'))
    (w : World) :
    Calls Try.prog 6 #[.agg #[.int .i64 1, .int .i64 m, .int .i64 d, .int .i64 u], .agg #[.int .i64 0, .int .i64 n, .int .i64 e, .int .i64 v]] w fun r' w' => r' = .returned (.tuple #[.agg #[.int .i64 1, .int .i64 m, .int .i64 d, .int .i64 u], .int .i64 0]) ∧ Below w.heap.size w w' := by
  have K0 : Hid (BS w [(w.heap.size + 2, [.int .i64 0, .int .i64 0, .int .i64 0, .int .i64 0]), (w.heap.size + 1, [.int .i64 0, .int .i64 n, .int .i64 e, .int .i64 v]), (w.heap.size, [.int .i64 1, .int .i64 m, .int .i64 d, .int .i64 u])] (((w.alloc (.cells #[.int .i64 1, .int .i64 m, .int .i64 d, .int .i64 u] 23)).alloc (.cells #[.int .i64 0, .int .i64 n, .int .i64 e, .int .i64 v] 23)).alloc (.cells #[.int .i64 0, .int .i64 0, .int .i64 0, .int .i64 0] 23))) := ((((BS.start w).new [.int .i64 1, .int .i64 m, .int .i64 d, .int .i64 u] 23 rfl).new [.int .i64 0, .int .i64 n, .int .i64 e, .int .i64 v] 23 (by simp)).new [.int .i64 0, .int .i64 0, .int .i64 0, .int .i64 0] 23 (by simp))
  go_enter Try.func6, Try.ntmps6
  go_wp2_with fail
  refine (X.out _).mono ?_
  rintro e W1 ⟨rfl, hb⟩
  have K1 : Hid (BS w [(w.heap.size + 2, [.int .i64 0, .int .i64 0, .int .i64 0, .int .i64 0]), (w.heap.size + 1, [.int .i64 0, .int .i64 n, .int .i64 e, .int .i64 v]), (w.heap.size, [.int .i64 1, .int .i64 m, .int .i64 d, .int .i64 u])] W1) := K0.out.below hb
  clear hb K0
  have c1_0_0 : W1.cell? ⟨w.heap.size + 2, 0, none⟩ = some (.int .i64 0) := (K1.out.at (w.heap.size + 2) [.int .i64 0, .int .i64 0, .int .i64 0, .int .i64 0] (by simp)).c 0 rfl
  have z1_0_0 : W1.frozen? ⟨w.heap.size + 2, 0, none⟩ = false := (K1.out.at (w.heap.size + 2) [.int .i64 0, .int .i64 0, .int .i64 0, .int .i64 0] (by simp)).f 0 rfl
  have c1_0_1 : W1.cell? ⟨w.heap.size + 2, 1, none⟩ = some (.int .i64 0) := (K1.out.at (w.heap.size + 2) [.int .i64 0, .int .i64 0, .int .i64 0, .int .i64 0] (by simp)).c 1 rfl
  have z1_0_1 : W1.frozen? ⟨w.heap.size + 2, 1, none⟩ = false := (K1.out.at (w.heap.size + 2) [.int .i64 0, .int .i64 0, .int .i64 0, .int .i64 0] (by simp)).f 1 rfl
  have c1_0_2 : W1.cell? ⟨w.heap.size + 2, 2, none⟩ = some (.int .i64 0) := (K1.out.at (w.heap.size + 2) [.int .i64 0, .int .i64 0, .int .i64 0, .int .i64 0] (by simp)).c 2 rfl
  have z1_0_2 : W1.frozen? ⟨w.heap.size + 2, 2, none⟩ = false := (K1.out.at (w.heap.size + 2) [.int .i64 0, .int .i64 0, .int .i64 0, .int .i64 0] (by simp)).f 2 rfl
  have c1_0_3 : W1.cell? ⟨w.heap.size + 2, 3, none⟩ = some (.int .i64 0) := (K1.out.at (w.heap.size + 2) [.int .i64 0, .int .i64 0, .int .i64 0, .int .i64 0] (by simp)).c 3 rfl
  have z1_0_3 : W1.frozen? ⟨w.heap.size + 2, 3, none⟩ = false := (K1.out.at (w.heap.size + 2) [.int .i64 0, .int .i64 0, .int .i64 0, .int .i64 0] (by simp)).f 3 rfl
  have c1_1_0 : W1.cell? ⟨w.heap.size + 1, 0, none⟩ = some (.int .i64 0) := (K1.out.at (w.heap.size + 1) [.int .i64 0, .int .i64 n, .int .i64 e, .int .i64 v] (by simp)).c 0 rfl
  have c1_1_1 : W1.cell? ⟨w.heap.size + 1, 1, none⟩ = some (.int .i64 n) := (K1.out.at (w.heap.size + 1) [.int .i64 0, .int .i64 n, .int .i64 e, .int .i64 v] (by simp)).c 1 rfl
  have c1_1_2 : W1.cell? ⟨w.heap.size + 1, 2, none⟩ = some (.int .i64 e) := (K1.out.at (w.heap.size + 1) [.int .i64 0, .int .i64 n, .int .i64 e, .int .i64 v] (by simp)).c 2 rfl
  have c1_1_3 : W1.cell? ⟨w.heap.size + 1, 3, none⟩ = some (.int .i64 v) := (K1.out.at (w.heap.size + 1) [.int .i64 0, .int .i64 n, .int .i64 e, .int .i64 v] (by simp)).c 3 rfl
  have c1_2_0 : W1.cell? ⟨w.heap.size, 0, none⟩ = some (.int .i64 1) := (K1.out.at (w.heap.size) [.int .i64 1, .int .i64 m, .int .i64 d, .int .i64 u] (by simp)).c 0 rfl
  have c1_2_1 : W1.cell? ⟨w.heap.size, 1, none⟩ = some (.int .i64 m) := (K1.out.at (w.heap.size) [.int .i64 1, .int .i64 m, .int .i64 d, .int .i64 u] (by simp)).c 1 rfl
  have c1_2_2 : W1.cell? ⟨w.heap.size, 2, none⟩ = some (.int .i64 d) := (K1.out.at (w.heap.size) [.int .i64 1, .int .i64 m, .int .i64 d, .int .i64 u] (by simp)).c 2 rfl
  have c1_2_3 : W1.cell? ⟨w.heap.size, 3, none⟩ = some (.int .i64 u) := (K1.out.at (w.heap.size) [.int .i64 1, .int .i64 m, .int .i64 d, .int .i64 u] (by simp)).c 3 rfl
  go_wp2_with fail
  refine (Y.out _).mono ?_
  rintro e W2 ⟨rfl, hb⟩
  have K2 : Hid (BS w [(w.heap.size + 2, [.int .i64 0, .int .i64 0, .int .i64 0, .int .i64 0]), (w.heap.size + 1, [.int .i64 0, .int .i64 n, .int .i64 e, .int .i64 v]), (w.heap.size, [.int .i64 1, .int .i64 m, .int .i64 d, .int .i64 u])] W2) := K1.out.below hb
  clear c1_0_0 z1_0_0 c1_0_1 z1_0_1 c1_0_2 z1_0_2 c1_0_3 z1_0_3 c1_1_0 c1_1_1 c1_1_2 c1_1_3 c1_2_0 c1_2_1 c1_2_2 c1_2_3
  clear hb K1
  have c2_0_0 : W2.cell? ⟨w.heap.size + 2, 0, none⟩ = some (.int .i64 0) := (K2.out.at (w.heap.size + 2) [.int .i64 0, .int .i64 0, .int .i64 0, .int .i64 0] (by simp)).c 0 rfl
  have z2_0_0 : W2.frozen? ⟨w.heap.size + 2, 0, none⟩ = false := (K2.out.at (w.heap.size + 2) [.int .i64 0, .int .i64 0, .int .i64 0, .int .i64 0] (by simp)).f 0 rfl
  have c2_0_1 : W2.cell? ⟨w.heap.size + 2, 1, none⟩ = some (.int .i64 0) := (K2.out.at (w.heap.size + 2) [.int .i64 0, .int .i64 0, .int .i64 0, .int .i64 0] (by simp)).c 1 rfl
  have z2_0_1 : W2.frozen? ⟨w.heap.size + 2, 1, none⟩ = false := (K2.out.at (w.heap.size + 2) [.int .i64 0, .int .i64 0, .int .i64 0, .int .i64 0] (by simp)).f 1 rfl
  have c2_0_2 : W2.cell? ⟨w.heap.size + 2, 2, none⟩ = some (.int .i64 0) := (K2.out.at (w.heap.size + 2) [.int .i64 0, .int .i64 0, .int .i64 0, .int .i64 0] (by simp)).c 2 rfl
  have z2_0_2 : W2.frozen? ⟨w.heap.size + 2, 2, none⟩ = false := (K2.out.at (w.heap.size + 2) [.int .i64 0, .int .i64 0, .int .i64 0, .int .i64 0] (by simp)).f 2 rfl
  have c2_0_3 : W2.cell? ⟨w.heap.size + 2, 3, none⟩ = some (.int .i64 0) := (K2.out.at (w.heap.size + 2) [.int .i64 0, .int .i64 0, .int .i64 0, .int .i64 0] (by simp)).c 3 rfl
  have z2_0_3 : W2.frozen? ⟨w.heap.size + 2, 3, none⟩ = false := (K2.out.at (w.heap.size + 2) [.int .i64 0, .int .i64 0, .int .i64 0, .int .i64 0] (by simp)).f 3 rfl
  have c2_1_0 : W2.cell? ⟨w.heap.size + 1, 0, none⟩ = some (.int .i64 0) := (K2.out.at (w.heap.size + 1) [.int .i64 0, .int .i64 n, .int .i64 e, .int .i64 v] (by simp)).c 0 rfl
  have c2_1_1 : W2.cell? ⟨w.heap.size + 1, 1, none⟩ = some (.int .i64 n) := (K2.out.at (w.heap.size + 1) [.int .i64 0, .int .i64 n, .int .i64 e, .int .i64 v] (by simp)).c 1 rfl
  have c2_1_2 : W2.cell? ⟨w.heap.size + 1, 2, none⟩ = some (.int .i64 e) := (K2.out.at (w.heap.size + 1) [.int .i64 0, .int .i64 n, .int .i64 e, .int .i64 v] (by simp)).c 2 rfl
  have c2_1_3 : W2.cell? ⟨w.heap.size + 1, 3, none⟩ = some (.int .i64 v) := (K2.out.at (w.heap.size + 1) [.int .i64 0, .int .i64 n, .int .i64 e, .int .i64 v] (by simp)).c 3 rfl
  have c2_2_0 : W2.cell? ⟨w.heap.size, 0, none⟩ = some (.int .i64 1) := (K2.out.at (w.heap.size) [.int .i64 1, .int .i64 m, .int .i64 d, .int .i64 u] (by simp)).c 0 rfl
  have c2_2_1 : W2.cell? ⟨w.heap.size, 1, none⟩ = some (.int .i64 m) := (K2.out.at (w.heap.size) [.int .i64 1, .int .i64 m, .int .i64 d, .int .i64 u] (by simp)).c 1 rfl
  have c2_2_2 : W2.cell? ⟨w.heap.size, 2, none⟩ = some (.int .i64 d) := (K2.out.at (w.heap.size) [.int .i64 1, .int .i64 m, .int .i64 d, .int .i64 u] (by simp)).c 2 rfl
  have c2_2_3 : W2.cell? ⟨w.heap.size, 3, none⟩ = some (.int .i64 u) := (K2.out.at (w.heap.size) [.int .i64 1, .int .i64 m, .int .i64 d, .int .i64 u] (by simp)).c 3 rfl
  have XF : Hid (Bx (W2.setCells (w.heap.size + 2) 0 [.int .i64 1, .int .i64 m, .int .i64 d, .int .i64 u]) (w.heap.size + 2) [.int .i64 1, .int .i64 m, .int .i64 d, .int .i64 u]) := (K2.out.at (w.heap.size + 2) [.int .i64 0, .int .i64 0, .int .i64 0, .int .i64 0] (by simp)).setAll _ rfl
  have BF : Hid (Below w.heap.size w (W2.setCells (w.heap.size + 2) 0 [.int .i64 1, .int .i64 m, .int .i64 d, .int .i64 u])) := below_setCells (by omega) _ _ _ K2.out.1
  have y0 := XF.out.c 0 rfl
  have y1 := XF.out.c 1 rfl
  have y2 := XF.out.c 2 rfl
  have y3 := XF.out.c 3 rfl
  simp only [World.setCells, Nat.zero_add, Nat.reduceAdd] at y0 y1 y2 y3
  clear XF
  go_wp2
  exact bodyPost_ret (v := .tuple #[.agg #[.int .i64 1, .int .i64 m, .int .i64 d, .int .i64 u], .int .i64 0]) (by simp [results, Try.results6, go_sem, y0, y1, y2, y3]) rfl ⟨rfl, BF.out⟩

set_option maxRecDepth 100000 in
set_option maxHeartbeats 4000000 in
theorem padd_b (m d u j n e v : Int) (hj : j ≠ 0)
    (X : Hid (∀ w : World, Calls Try.prog 13 #[.agg #[.int .i64 0, .int .i64 m, .int .i64 d, .int .i64 u]] w fun r' w' => r' = .returned (.bool true) ∧ Below w.heap.size w w'))
    (Y : Hid (∀ w : World, Calls Try.prog 13 #[.agg #[.int .i64 j, .int .i64 n, .int .i64 e, .int .i64 v]] w fun r' w' => r' = .returned (.bool true) ∧ Below w.heap.size w w'))
    (w : World) :
    Calls Try.prog 6 #[.agg #[.int .i64 0, .int .i64 m, .int .i64 d, .int .i64 u], .agg #[.int .i64 j, .int .i64 n, .int .i64 e, .int .i64 v]] w fun r' w' => r' = .returned (.tuple #[.agg #[.int .i64 j, .int .i64 n, .int .i64 e, .int .i64 v], .int .i64 0]) ∧ Below w.heap.size w w' := by
  have j1 : (j != 0) = true := bne_iff_ne.2 hj
  have K0 : Hid (BS w [(w.heap.size + 2, [.int .i64 0, .int .i64 0, .int .i64 0, .int .i64 0]), (w.heap.size + 1, [.int .i64 j, .int .i64 n, .int .i64 e, .int .i64 v]), (w.heap.size, [.int .i64 0, .int .i64 m, .int .i64 d, .int .i64 u])] (((w.alloc (.cells #[.int .i64 0, .int .i64 m, .int .i64 d, .int .i64 u] 23)).alloc (.cells #[.int .i64 j, .int .i64 n, .int .i64 e, .int .i64 v] 23)).alloc (.cells #[.int .i64 0, .int .i64 0, .int .i64 0, .int .i64 0] 23))) := ((((BS.start w).new [.int .i64 0, .int .i64 m, .int .i64 d, .int .i64 u] 23 rfl).new [.int .i64 j, .int .i64 n, .int .i64 e, .int .i64 v] 23 (by simp)).new [.int .i64 0, .int .i64 0, .int .i64 0, .int .i64 0] 23 (by simp))
  go_enter Try.func6, Try.ntmps6
  go_wp2_with fail
  refine (X.out _).mono ?_
  rintro e W1 ⟨rfl, hb⟩
  have K1 : Hid (BS w [(w.heap.size + 2, [.int .i64 0, .int .i64 0, .int .i64 0, .int .i64 0]), (w.heap.size + 1, [.int .i64 j, .int .i64 n, .int .i64 e, .int .i64 v]), (w.heap.size, [.int .i64 0, .int .i64 m, .int .i64 d, .int .i64 u])] W1) := K0.out.below hb
  clear hb K0
  have c1_0_0 : W1.cell? ⟨w.heap.size + 2, 0, none⟩ = some (.int .i64 0) := (K1.out.at (w.heap.size + 2) [.int .i64 0, .int .i64 0, .int .i64 0, .int .i64 0] (by simp)).c 0 rfl
  have z1_0_0 : W1.frozen? ⟨w.heap.size + 2, 0, none⟩ = false := (K1.out.at (w.heap.size + 2) [.int .i64 0, .int .i64 0, .int .i64 0, .int .i64 0] (by simp)).f 0 rfl
  have c1_0_1 : W1.cell? ⟨w.heap.size + 2, 1, none⟩ = some (.int .i64 0) := (K1.out.at (w.heap.size + 2) [.int .i64 0, .int .i64 0, .int .i64 0, .int .i64 0] (by simp)).c 1 rfl
  have z1_0_1 : W1.frozen? ⟨w.heap.size + 2, 1, none⟩ = false := (K1.out.at (w.heap.size + 2) [.int .i64 0, .int .i64 0, .int .i64 0, .int .i64 0] (by simp)).f 1 rfl
  have c1_0_2 : W1.cell? ⟨w.heap.size + 2, 2, none⟩ = some (.int .i64 0) := (K1.out.at (w.heap.size + 2) [.int .i64 0, .int .i64 0, .int .i64 0, .int .i64 0] (by simp)).c 2 rfl
  have z1_0_2 : W1.frozen? ⟨w.heap.size + 2, 2, none⟩ = false := (K1.out.at (w.heap.size + 2) [.int .i64 0, .int .i64 0, .int .i64 0, .int .i64 0] (by simp)).f 2 rfl
  have c1_0_3 : W1.cell? ⟨w.heap.size + 2, 3, none⟩ = some (.int .i64 0) := (K1.out.at (w.heap.size + 2) [.int .i64 0, .int .i64 0, .int .i64 0, .int .i64 0] (by simp)).c 3 rfl
  have z1_0_3 : W1.frozen? ⟨w.heap.size + 2, 3, none⟩ = false := (K1.out.at (w.heap.size + 2) [.int .i64 0, .int .i64 0, .int .i64 0, .int .i64 0] (by simp)).f 3 rfl
  have c1_1_0 : W1.cell? ⟨w.heap.size + 1, 0, none⟩ = some (.int .i64 j) := (K1.out.at (w.heap.size + 1) [.int .i64 j, .int .i64 n, .int .i64 e, .int .i64 v] (by simp)).c 0 rfl
  have c1_1_1 : W1.cell? ⟨w.heap.size + 1, 1, none⟩ = some (.int .i64 n) := (K1.out.at (w.heap.size + 1) [.int .i64 j, .int .i64 n, .int .i64 e, .int .i64 v] (by simp)).c 1 rfl
  have c1_1_2 : W1.cell? ⟨w.heap.size + 1, 2, none⟩ = some (.int .i64 e) := (K1.out.at (w.heap.size + 1) [.int .i64 j, .int .i64 n, .int .i64 e, .int .i64 v] (by simp)).c 2 rfl
  have c1_1_3 : W1.cell? ⟨w.heap.size + 1, 3, none⟩ = some (.int .i64 v) := (K1.out.at (w.heap.size + 1) [.int .i64 j, .int .i64 n, .int .i64 e, .int .i64 v] (by simp)).c 3 rfl
  have c1_2_0 : W1.cell? ⟨w.heap.size, 0, none⟩ = some (.int .i64 0) := (K1.out.at (w.heap.size) [.int .i64 0, .int .i64 m, .int .i64 d, .int .i64 u] (by simp)).c 0 rfl
  have c1_2_1 : W1.cell? ⟨w.heap.size, 1, none⟩ = some (.int .i64 m) := (K1.out.at (w.heap.size) [.int .i64 0, .int .i64 m, .int .i64 d, .int .i64 u] (by simp)).c 1 rfl
  have c1_2_2 : W1.cell? ⟨w.heap.size, 2, none⟩ = some (.int .i64 d) := (K1.out.at (w.heap.size) [.int .i64 0, .int .i64 m, .int .i64 d, .int .i64 u] (by simp)).c 2 rfl
  have c1_2_3 : W1.cell? ⟨w.heap.size, 3, none⟩ = some (.int .i64 u) := (K1.out.at (w.heap.size) [.int .i64 0, .int .i64 m, .int .i64 d, .int .i64 u] (by simp)).c 3 rfl
  go_wp2_with fail
  refine (Y.out _).mono ?_
  rintro e W2 ⟨rfl, hb⟩
  have K2 : Hid (BS w [(w.heap.size + 2, [.int .i64 0, .int .i64 0, .int .i64 0, .int .i64 0]), (w.heap.size + 1, [.int .i64 j, .int .i64 n, .int .i64 e, .int .i64 v]), (w.heap.size, [.int .i64 0, .int .i64 m, .int .i64 d, .int .i64 u])] W2) := K1.out.below hb
  clear c1_0_0 z1_0_0 c1_0_1 z1_0_1 c1_0_2 z1_0_2 c1_0_3 z1_0_3 c1_1_0 c1_1_1 c1_1_2 c1_1_3 c1_2_0 c1_2_1 c1_2_2 c1_2_3
  clear hb K1
  have c2_0_0 : W2.cell? ⟨w.heap.size + 2, 0, none⟩ = some (.int .i64 0) := (K2.out.at (w.heap.size + 2) [.int .i64 0, .int .i64 0, .int .i64 0, .int .i64 0] (by simp)).c 0 rfl
  have z2_0_0 : W2.frozen? ⟨w.heap.size + 2, 0, none⟩ = false := (K2.out.at (w.heap.size + 2) [.int .i64 0, .int .i64 0, .int .i64 0, .int .i64 0] (by simp)).f 0 rfl
  have c2_0_1 : W2.cell? ⟨w.heap.size + 2, 1, none⟩ = some (.int .i64 0) := (K2.out.at (w.heap.size + 2) [.int .i64 0, .int .i64 0, .int .i64 0, .int .i64 0] (by simp)).c 1 rfl
  have z2_0_1 : W2.frozen? ⟨w.heap.size + 2, 1, none⟩ = false := (K2.out.at (w.heap.size + 2) [.int .i64 0, .int .i64 0, .int .i64 0, .int .i64 0] (by simp)).f 1 rfl
  have c2_0_2 : W2.cell? ⟨w.heap.size + 2, 2, none⟩ = some (.int .i64 0) := (K2.out.at (w.heap.size + 2) [.int .i64 0, .int .i64 0, .int .i64 0, .int .i64 0] (by simp)).c 2 rfl
  have z2_0_2 : W2.frozen? ⟨w.heap.size + 2, 2, none⟩ = false := (K2.out.at (w.heap.size + 2) [.int .i64 0, .int .i64 0, .int .i64 0, .int .i64 0] (by simp)).f 2 rfl
  have c2_0_3 : W2.cell? ⟨w.heap.size + 2, 3, none⟩ = some (.int .i64 0) := (K2.out.at (w.heap.size + 2) [.int .i64 0, .int .i64 0, .int .i64 0, .int .i64 0] (by simp)).c 3 rfl
  have z2_0_3 : W2.frozen? ⟨w.heap.size + 2, 3, none⟩ = false := (K2.out.at (w.heap.size + 2) [.int .i64 0, .int .i64 0, .int .i64 0, .int .i64 0] (by simp)).f 3 rfl
  have c2_1_0 : W2.cell? ⟨w.heap.size + 1, 0, none⟩ = some (.int .i64 j) := (K2.out.at (w.heap.size + 1) [.int .i64 j, .int .i64 n, .int .i64 e, .int .i64 v] (by simp)).c 0 rfl
  have c2_1_1 : W2.cell? ⟨w.heap.size + 1, 1, none⟩ = some (.int .i64 n) := (K2.out.at (w.heap.size + 1) [.int .i64 j, .int .i64 n, .int .i64 e, .int .i64 v] (by simp)).c 1 rfl
  have c2_1_2 : W2.cell? ⟨w.heap.size + 1, 2, none⟩ = some (.int .i64 e) := (K2.out.at (w.heap.size + 1) [.int .i64 j, .int .i64 n, .int .i64 e, .int .i64 v] (by simp)).c 2 rfl
  have c2_1_3 : W2.cell? ⟨w.heap.size + 1, 3, none⟩ = some (.int .i64 v) := (K2.out.at (w.heap.size + 1) [.int .i64 j, .int .i64 n, .int .i64 e, .int .i64 v] (by simp)).c 3 rfl
  have c2_2_0 : W2.cell? ⟨w.heap.size, 0, none⟩ = some (.int .i64 0) := (K2.out.at (w.heap.size) [.int .i64 0, .int .i64 m, .int .i64 d, .int .i64 u] (by simp)).c 0 rfl
  have c2_2_1 : W2.cell? ⟨w.heap.size, 1, none⟩ = some (.int .i64 m) := (K2.out.at (w.heap.size) [.int .i64 0, .int .i64 m, .int .i64 d, .int .i64 u] (by simp)).c 1 rfl
  have c2_2_2 : W2.cell? ⟨w.heap.size, 2, none⟩ = some (.int .i64 d) := (K2.out.at (w.heap.size) [.int .i64 0, .int .i64 m, .int .i64 d, .int .i64 u] (by simp)).c 2 rfl
  have c2_2_3 : W2.cell? ⟨w.heap.size, 3, none⟩ = some (.int .i64 u) := (K2.out.at (w.heap.size) [.int .i64 0, .int .i64 m, .int .i64 d, .int .i64 u] (by simp)).c 3 rfl
  have XF : Hid (Bx (W2.setCells (w.heap.size + 2) 0 [.int .i64 j, .int .i64 n, .int .i64 e, .int .i64 v]) (w.heap.size + 2) [.int .i64 j, .int .i64 n, .int .i64 e, .int .i64 v]) := (K2.out.at (w.heap.size + 2) [.int .i64 0, .int .i64 0, .int .i64 0, .int .i64 0] (by simp)).setAll _ rfl
  have BF : Hid (Below w.heap.size w (W2.setCells (w.heap.size + 2) 0 [.int .i64 j, .int .i64 n, .int .i64 e, .int .i64 v])) := below_setCells (by omega) _ _ _ K2.out.1
  have y0 := XF.out.c 0 rfl
  have y1 := XF.out.c 1 rfl
  have y2 := XF.out.c 2 rfl
  have y3 := XF.out.c 3 rfl
  simp only [World.setCells, Nat.zero_add, Nat.reduceAdd] at y0 y1 y2 y3
  clear XF
  go_wp2
  exact bodyPost_ret (v := .tuple #[.agg #[.int .i64 j, .int .i64 n, .int .i64 e, .int .i64 v], .int .i64 0]) (by simp [results, Try.results6, go_sem, y0, y1, y2, y3]) rfl ⟨rfl, BF.out⟩

set_option maxRecDepth 100000 in
set_option maxHeartbeats 4000000 in
theorem padd_each (m d u n e v I M D U E : Int)
    (X : Hid (∀ w : World, Calls Try.prog 13 #[.agg #[.int .i64 0, .int .i64 m, .int .i64 d, .int .i64 u]] w fun r' w' => r' = .returned (.bool true) ∧ Below w.heap.size w w'))
    (Y : Hid (∀ w : World, Calls Try.prog 13 #[.agg #[.int .i64 0, .int .i64 n, .int .i64 e, .int .i64 v]] w fun r' w' => r' = .returned (.bool true) ∧ Below w.heap.size w w'))
    (EA : Hid (∀ w : World, Calls Try.prog 14 #[.agg #[.int .i64 0, .int .i64 m, .int .i64 d, .int .i64 u], .func (.func 15) #[.int .i64 n] #[], .func (.func 15) #[.int .i64 e] #[], .func (.func 15) #[.int .i64 v] #[]] w fun r' w' => r' = .returned (.tuple #[.agg #[.int .i64 I, .int .i64 M, .int .i64 D, .int .i64 U], .int .i64 E]) ∧ Below w.heap.size w w'))
    (w : World) :
    Calls Try.prog 6 #[.agg #[.int .i64 0, .int .i64 m, .int .i64 d, .int .i64 u], .agg #[.int .i64 0, .int .i64 n, .int .i64 e, .int .i64 v]] w fun r' w' => r' = .returned (.tuple #[.agg #[.int .i64 I, .int .i64 M, .int .i64 D, .int .i64 U], .int .i64 E]) ∧ Below w.heap.size w w' := by
  have K0 : Hid (BS w [(w.heap.size + 2, [.int .i64 0, .int .i64 0, .int .i64 0, .int .i64 0]), (w.heap.size + 1, [.int .i64 0, .int .i64 n, .int .i64 e, .int .i64 v]), (w.heap.size, [.int .i64 0, .int .i64 m, .int .i64 d, .int .i64 u])] (((w.alloc (.cells #[.int .i64 0, .int .i64 m, .int .i64 d, .int .i64 u] 23)).alloc (.cells #[.int .i64 0, .int .i64 n, .int .i64 e, .int .i64 v] 23)).alloc (.cells #[.int .i64 0, .int .i64 0, .int .i64 0, .int .i64 0] 23))) := ((((BS.start w).new [.int .i64 0, .int .i64 m, .int .i64 d, .int .i64 u] 23 rfl).new [.int .i64 0, .int .i64 n, .int .i64 e, .int .i64 v] 23 (by simp)).new [.int .i64 0, .int .i64 0, .int .i64 0, .int .i64 0] 23 (by simp))
  go_enter Try.func6, Try.ntmps6
  go_wp2_with fail
  refine (X.out _).mono ?_
  rintro e W1 ⟨rfl, hb⟩
  have K1 : Hid (BS w [(w.heap.size + 2, [.int .i64 0, .int .i64 0, .int .i64 0, .int .i64 0]), (w.heap.size + 1, [.int .i64 0, .int .i64 n, .int .i64 e, .int .i64 v]), (w.heap.size, [.int .i64 0, .int .i64 m, .int .i64 d, .int .i64 u])] W1) := K0.out.below hb
  clear hb K0
  have c1_0_0 : W1.cell? ⟨w.heap.size + 2, 0, none⟩ = some (.int .i64 0) := (K1.out.at (w.heap.size + 2) [.int .i64 0, .int .i64 0, .int .i64 0, .int .i64 0] (by simp)).c 0 rfl
  have z1_0_0 : W1.frozen? ⟨w.heap.size + 2, 0, none⟩ = false := (K1.out.at (w.heap.size + 2) [.int .i64 0, .int .i64 0, .int .i64 0, .int .i64 0] (by simp)).f 0 rfl
  have c1_0_1 : W1.cell? ⟨w.heap.size + 2, 1, none⟩ = some (.int .i64 0) := (K1.out.at (w.heap.size + 2) [.int .i64 0, .int .i64 0, .int .i64 0, .int .i64 0] (by simp)).c 1 rfl
  have z1_0_1 : W1.frozen? ⟨w.heap.size + 2, 1, none⟩ = false := (K1.out.at (w.heap.size + 2) [.int .i64 0, .int .i64 0, .int .i64 0, .int .i64 0] (by simp)).f 1 rfl
  have c1_0_2 : W1.cell? ⟨w.heap.size + 2, 2, none⟩ = some (.int .i64 0) := (K1.out.at (w.heap.size + 2) [.int .i64 0, .int .i64 0, .int .i64 0, .int .i64 0] (by simp)).c 2 rfl
  have z1_0_2 : W1.frozen? ⟨w.heap.size + 2, 2, none⟩ = false := (K1.out.at (w.heap.size + 2) [.int .i64 0, .int .i64 0, .int .i64 0, .int .i64 0] (by simp)).f 2 rfl
  have c1_0_3 : W1.cell? ⟨w.heap.size + 2, 3, none⟩ = some (.int .i64 0) := (K1.out.at (w.heap.size + 2) [.int .i64 0, .int .i64 0, .int .i64 0, .int .i64 0] (by simp)).c 3 rfl
  have z1_0_3 : W1.frozen? ⟨w.heap.size + 2, 3, none⟩ = false := (K1.out.at (w.heap.size + 2) [.int .i64 0, .int .i64 0, .int .i64 0, .int .i64 0] (by simp)).f 3 rfl
  have c1_1_0 : W1.cell? ⟨w.heap.size + 1, 0, none⟩ = some (.int .i64 0) := (K1.out.at (w.heap.size + 1) [.int .i64 0, .int .i64 n, .int .i64 e, .int .i64 v] (by simp)).c 0 rfl
  have c1_1_1 : W1.cell? ⟨w.heap.size + 1, 1, none⟩ = some (.int .i64 n) := (K1.out.at (w.heap.size + 1) [.int .i64 0, .int .i64 n, .int .i64 e, .int .i64 v] (by simp)).c 1 rfl
  have c1_1_2 : W1.cell? ⟨w.heap.size + 1, 2, none⟩ = some (.int .i64 e) := (K1.out.at (w.heap.size + 1) [.int .i64 0, .int .i64 n, .int .i64 e, .int .i64 v] (by simp)).c 2 rfl
  have c1_1_3 : W1.cell? ⟨w.heap.size + 1, 3, none⟩ = some (.int .i64 v) := (K1.out.at (w.heap.size + 1) [.int .i64 0, .int .i64 n, .int .i64 e, .int .i64 v] (by simp)).c 3 rfl
  have c1_2_0 : W1.cell? ⟨w.heap.size, 0, none⟩ = some (.int .i64 0) := (K1.out.at (w.heap.size) [.int .i64 0, .int .i64 m, .int .i64 d, .int .i64 u] (by simp)).c 0 rfl
  have c1_2_1 : W1.cell? ⟨w.heap.size, 1, none⟩ = some (.int .i64 m) := (K1.out.at (w.heap.size) [.int .i64 0, .int .i64 m, .int .i64 d, .int .i64 u] (by simp)).c 1 rfl
  have c1_2_2 : W1.cell? ⟨w.heap.size, 2, none⟩ = some (.int .i64 d) := (K1.out.at (w.heap.size) [.int .i64 0, .int .i64 m, .int .i64 d, .int .i64 u] (by simp)).c 2 rfl
  have c1_2_3 : W1.cell? ⟨w.heap.size, 3, none⟩ = some (.int .i64 u) := (K1.out.at (w.heap.size) [.int .i64 0, .int .i64 m, .int .i64 d, .int .i64 u] (by simp)).c 3 rfl
  go_wp2_with fail
  refine (Y.out _).mono ?_
  rintro e W2 ⟨rfl, hb⟩
  have K2 : Hid (BS w [(w.heap.size + 2, [.int .i64 0, .int .i64 0, .int .i64 0, .int .i64 0]), (w.heap.size + 1, [.int .i64 0, .int .i64 n, .int .i64 e, .int .i64 v]), (w.heap.size, [.int .i64 0, .int .i64 m, .int .i64 d, .int .i64 u])] W2) := K1.out.below hb
  clear c1_0_0 z1_0_0 c1_0_1 z1_0_1 c1_0_2 z1_0_2 c1_0_3 z1_0_3 c1_1_0 c1_1_1 c1_1_2 c1_1_3 c1_2_0 c1_2_1 c1_2_2 c1_2_3
  clear hb K1
  have c2_0_0 : W2.cell? ⟨w.heap.size + 2, 0, none⟩ = some (.int .i64 0) := (K2.out.at (w.heap.size + 2) [.int .i64 0, .int .i64 0, .int .i64 0, .int .i64 0] (by simp)).c 0 rfl
  have z2_0_0 : W2.frozen? ⟨w.heap.size + 2, 0, none⟩ = false := (K2.out.at (w.heap.size + 2) [.int .i64 0, .int .i64 0, .int .i64 0, .int .i64 0] (by simp)).f 0 rfl
  have c2_0_1 : W2.cell? ⟨w.heap.size + 2, 1, none⟩ = some (.int .i64 0) := (K2.out.at (w.heap.size + 2) [.int .i64 0, .int .i64 0, .int .i64 0, .int .i64 0] (by simp)).c 1 rfl
  have z2_0_1 : W2.frozen? ⟨w.heap.size + 2, 1, none⟩ = false := (K2.out.at (w.heap.size + 2) [.int .i64 0, .int .i64 0, .int .i64 0, .int .i64 0] (by simp)).f 1 rfl
  have c2_0_2 : W2.cell? ⟨w.heap.size + 2, 2, none⟩ = some (.int .i64 0) := (K2.out.at (w.heap.size + 2) [.int .i64 0, .int .i64 0, .int .i64 0, .int .i64 0] (by simp)).c 2 rfl
  have z2_0_2 : W2.frozen? ⟨w.heap.size + 2, 2, none⟩ = false := (K2.out.at (w.heap.size + 2) [.int .i64 0, .int .i64 0, .int .i64 0, .int .i64 0] (by simp)).f 2 rfl
  have c2_0_3 : W2.cell? ⟨w.heap.size + 2, 3, none⟩ = some (.int .i64 0) := (K2.out.at (w.heap.size + 2) [.int .i64 0, .int .i64 0, .int .i64 0, .int .i64 0] (by simp)).c 3 rfl
  have z2_0_3 : W2.frozen? ⟨w.heap.size + 2, 3, none⟩ = false := (K2.out.at (w.heap.size + 2) [.int .i64 0, .int .i64 0, .int .i64 0, .int .i64 0] (by simp)).f 3 rfl
  have c2_1_0 : W2.cell? ⟨w.heap.size + 1, 0, none⟩ = some (.int .i64 0) := (K2.out.at (w.heap.size + 1) [.int .i64 0, .int .i64 n, .int .i64 e, .int .i64 v] (by simp)).c 0 rfl
  have c2_1_1 : W2.cell? ⟨w.heap.size + 1, 1, none⟩ = some (.int .i64 n) := (K2.out.at (w.heap.size + 1) [.int .i64 0, .int .i64 n, .int .i64 e, .int .i64 v] (by simp)).c 1 rfl
  have c2_1_2 : W2.cell? ⟨w.heap.size + 1, 2, none⟩ = some (.int .i64 e) := (K2.out.at (w.heap.size + 1) [.int .i64 0, .int .i64 n, .int .i64 e, .int .i64 v] (by simp)).c 2 rfl
  have c2_1_3 : W2.cell? ⟨w.heap.size + 1, 3, none⟩ = some (.int .i64 v) := (K2.out.at (w.heap.size + 1) [.int .i64 0, .int .i64 n, .int .i64 e, .int .i64 v] (by simp)).c 3 rfl
  have c2_2_0 : W2.cell? ⟨w.heap.size, 0, none⟩ = some (.int .i64 0) := (K2.out.at (w.heap.size) [.int .i64 0, .int .i64 m, .int .i64 d, .int .i64 u] (by simp)).c 0 rfl
  have c2_2_1 : W2.cell? ⟨w.heap.size, 1, none⟩ = some (.int .i64 m) := (K2.out.at (w.heap.size) [.int .i64 0, .int .i64 m, .int .i64 d, .int .i64 u] (by simp)).c 1 rfl
  have c2_2_2 : W2.cell? ⟨w.heap.size, 2, none⟩ = some (.int .i64 d) := (K2.out.at (w.heap.size) [.int .i64 0, .int .i64 m, .int .i64 d, .int .i64 u] (by simp)).c 2 rfl
  have c2_2_3 : W2.cell? ⟨w.heap.size, 3, none⟩ = some (.int .i64 u) := (K2.out.at (w.heap.size) [.int .i64 0, .int .i64 m, .int .i64 d, .int .i64 u] (by simp)).c 3 rfl
  go_wp2_with fail
  refine (EA.out _).mono ?_
  rintro e W3 ⟨rfl, hb⟩
  have K3 : Hid (BS w [(w.heap.size + 2, [.int .i64 0, .int .i64 0, .int .i64 0, .int .i64 0]), (w.heap.size + 1, [.int .i64 0, .int .i64 n, .int .i64 e, .int .i64 v]), (w.heap.size, [.int .i64 0, .int .i64 m, .int .i64 d, .int .i64 u])] W3) := K2.out.below hb
  clear c2_0_0 z2_0_0 c2_0_1 z2_0_1 c2_0_2 z2_0_2 c2_0_3 z2_0_3 c2_1_0 c2_1_1 c2_1_2 c2_1_3 c2_2_0 c2_2_1 c2_2_2 c2_2_3
  clear hb K2
  have c3_0_0 : W3.cell? ⟨w.heap.size + 2, 0, none⟩ = some (.int .i64 0) := (K3.out.at (w.heap.size + 2) [.int .i64 0, .int .i64 0, .int .i64 0, .int .i64 0] (by simp)).c 0 rfl
  have z3_0_0 : W3.frozen? ⟨w.heap.size + 2, 0, none⟩ = false := (K3.out.at (w.heap.size + 2) [.int .i64 0, .int .i64 0, .int .i64 0, .int .i64 0] (by simp)).f 0 rfl
  have c3_0_1 : W3.cell? ⟨w.heap.size + 2, 1, none⟩ = some (.int .i64 0) := (K3.out.at (w.heap.size + 2) [.int .i64 0, .int .i64 0, .int .i64 0, .int .i64 0] (by simp)).c 1 rfl
  have z3_0_1 : W3.frozen? ⟨w.heap.size + 2, 1, none⟩ = false := (K3.out.at (w.heap.size + 2) [.int .i64 0, .int .i64 0, .int .i64 0, .int .i64 0] (by simp)).f 1 rfl
  have c3_0_2 : W3.cell? ⟨w.heap.size + 2, 2, none⟩ = some (.int .i64 0) := (K3.out.at (w.heap.size + 2) [.int .i64 0, .int .i64 0, .int .i64 0, .int .i64 0] (by simp)).c 2 rfl
  have z3_0_2 : W3.frozen? ⟨w.heap.size + 2, 2, none⟩ = false := (K3.out.at (w.heap.size + 2) [.int .i64 0, .int .i64 0, .int .i64 0, .int .i64 0] (by simp)).f 2 rfl
  have c3_0_3 : W3.cell? ⟨w.heap.size + 2, 3, none⟩ = some (.int .i64 0) := (K3.out.at (w.heap.size + 2) [.int .i64 0, .int .i64 0, .int .i64 0, .int .i64 0] (by simp)).c 3 rfl
  have z3_0_3 : W3.frozen? ⟨w.heap.size + 2, 3, none⟩ = false := (K3.out.at (w.heap.size + 2) [.int .i64 0, .int .i64 0, .int .i64 0, .int .i64 0] (by simp)).f 3 rfl
  have c3_1_0 : W3.cell? ⟨w.heap.size + 1, 0, none⟩ = some (.int .i64 0) := (K3.out.at (w.heap.size + 1) [.int .i64 0, .int .i64 n, .int .i64 e, .int .i64 v] (by simp)).c 0 rfl
  have c3_1_1 : W3.cell? ⟨w.heap.size + 1, 1, none⟩ = some (.int .i64 n) := (K3.out.at (w.heap.size + 1) [.int .i64 0, .int .i64 n, .int .i64 e, .int .i64 v] (by simp)).c 1 rfl
  have c3_1_2 : W3.cell? ⟨w.heap.size + 1, 2, none⟩ = some (.int .i64 e) := (K3.out.at (w.heap.size + 1) [.int .i64 0, .int .i64 n, .int .i64 e, .int .i64 v] (by simp)).c 2 rfl
  have c3_1_3 : W3.cell? ⟨w.heap.size + 1, 3, none⟩ = some (.int .i64 v) := (K3.out.at (w.heap.size + 1) [.int .i64 0, .int .i64 n, .int .i64 e, .int .i64 v] (by simp)).c 3 rfl
  have c3_2_0 : W3.cell? ⟨w.heap.size, 0, none⟩ = some (.int .i64 0) := (K3.out.at (w.heap.size) [.int .i64 0, .int .i64 m, .int .i64 d, .int .i64 u] (by simp)).c 0 rfl
  have c3_2_1 : W3.cell? ⟨w.heap.size, 1, none⟩ = some (.int .i64 m) := (K3.out.at (w.heap.size) [.int .i64 0, .int .i64 m, .int .i64 d, .int .i64 u] (by simp)).c 1 rfl
  have c3_2_2 : W3.cell? ⟨w.heap.size, 2, none⟩ = some (.int .i64 d) := (K3.out.at (w.heap.size) [.int .i64 0, .int .i64 m, .int .i64 d, .int .i64 u] (by simp)).c 2 rfl
  have c3_2_3 : W3.cell? ⟨w.heap.size, 3, none⟩ = some (.int .i64 u) := (K3.out.at (w.heap.size) [.int .i64 0, .int .i64 m, .int .i64 d, .int .i64 u] (by simp)).c 3 rfl
  have XF : Hid (Bx (W3.setCells (w.heap.size + 2) 0 [.int .i64 I, .int .i64 M, .int .i64 D, .int .i64 U]) (w.heap.size + 2) [.int .i64 I, .int .i64 M, .int .i64 D, .int .i64 U]) := (K3.out.at (w.heap.size + 2) [.int .i64 0, .int .i64 0, .int .i64 0, .int .i64 0] (by simp)).setAll _ rfl
  have BF : Hid (Below w.heap.size w (W3.setCells (w.heap.size + 2) 0 [.int .i64 I, .int .i64 M, .int .i64 D, .int .i64 U])) := below_setCells (by omega) _ _ _ K3.out.1
  have y0 := XF.out.c 0 rfl
  have y1 := XF.out.c 1 rfl
  have y2 := XF.out.c 2 rfl
  have y3 := XF.out.c 3 rfl
  simp only [World.setCells, Nat.zero_add, Nat.reduceAdd] at y0 y1 y2 y3
  clear XF
  go_wp2
  exact bodyPost_ret (v := .tuple #[.agg #[.int .i64 I, .int .i64 M, .int .i64 D, .int .i64 U], .int .i64 E]) (by simp [results, Try.results6, go_sem, y0, y1, y2, y3]) rfl ⟨rfl, BF.out⟩

set_option maxRecDepth 100000 in
set_option maxHeartbeats 4000000 in
theorem psub_no (i m d u j n e v a b c f g : Int) (hg : g ≠ 0)
    (NG : Hid (∀ w : World, Calls Try.prog 11 #[.agg #[.int .i64 j, .int .i64 n, .int .i64 e, .int .i64 v]] w fun r' w' => r' = .returned (.tuple #[.agg #[.int .i64 a, .int .i64 b, .int .i64 c, .int .i64 f], .int .i64 g]) ∧ Below w.heap.size w w'))
    (w : World) :
    Calls Try.prog 8 #[.agg #[.int .i64 i, .int .i64 m, .int .i64 d, .int .i64 u], .agg #[.int .i64 j, .int .i64 n, .int .i64 e, .int .i64 v]] w fun r' w' => r' = .returned (.tuple #[.agg #[.int .i64 0, .int .i64 0, .int .i64 0, .int .i64 0], .int .i64 g]) ∧ Below w.heap.size w w' := by
  have g1 : (g != 0) = true := bne_iff_ne.2 hg
  have K0 : Hid (BS w [(w.heap.size + 2, [.int .i64 0, .int .i64 0, .int .i64 0, .int .i64 0]), (w.heap.size + 1, [.int .i64 j, .int .i64 n, .int .i64 e, .int .i64 v]), (w.heap.size, [.int .i64 i, .int .i64 m, .int .i64 d, .int .i64 u])] (((w.alloc (.cells #[.int .i64 i, .int .i64 m, .int .i64 d, .int .i64 u] 23)).alloc (.cells #[.int .i64 j, .int .i64 n, .int .i64 e, .int .i64 v] 23)).alloc (.cells #[.int .i64 0, .int .i64 0, .int .i64 0, .int .i64 0] 23))) := ((((BS.start w).new [.int .i64 i, .int .i64 m, .int .i64 d, .int .i64 u] 23 rfl).new [.int .i64 j, .int .i64 n, .int .i64 e, .int .i64 v] 23 (by simp)).new [.int .i64 0, .int .i64 0, .int .i64 0, .int .i64 0] 23 (by simp))
  go_enter Try.func8, Try.ntmps8
  go_wp2_with fail
  refine (NG.out _).mono ?_
  rintro e W1 ⟨rfl, hb⟩
  have K1 : Hid (BS w [(w.heap.size + 2, [.int .i64 0, .int .i64 0, .int .i64 0, .int .i64 0]), (w.heap.size + 1, [.int .i64 j, .int .i64 n, .int .i64 e, .int .i64 v]), (w.heap.size, [.int .i64 i, .int .i64 m, .int .i64 d, .int .i64 u])] W1) := K0.out.below hb
  clear hb K0
  have c1_0_0 : W1.cell? ⟨w.heap.size + 2, 0, none⟩ = some (.int .i64 0) := (K1.out.at (w.heap.size + 2) [.int .i64 0, .int .i64 0, .int .i64 0, .int .i64 0] (by simp)).c 0 rfl
  have z1_0_0 : W1.frozen? ⟨w.heap.size + 2, 0, none⟩ = false := (K1.out.at (w.heap.size + 2) [.int .i64 0, .int .i64 0, .int .i64 0, .int .i64 0] (by simp)).f 0 rfl
  have c1_0_1 : W1.cell? ⟨w.heap.size + 2, 1, none⟩ = some (.int .i64 0) := (K1.out.at (w.heap.size + 2) [.int .i64 0, .int .i64 0, .int .i64 0, .int .i64 0] (by simp)).c 1 rfl
  have z1_0_1 : W1.frozen? ⟨w.heap.size + 2, 1, none⟩ = false := (K1.out.at (w.heap.size + 2) [.int .i64 0, .int .i64 0, .int .i64 0, .int .i64 0] (by simp)).f 1 rfl
  have c1_0_2 : W1.cell? ⟨w.heap.size + 2, 2, none⟩ = some (.int .i64 0) := (K1.out.at (w.heap.size + 2) [.int .i64 0, .int .i64 0, .int .i64 0, .int .i64 0] (by simp)).c 2 rfl
  have z1_0_2 : W1.frozen? ⟨w.heap.size + 2, 2, none⟩ = false := (K1.out.at (w.heap.size + 2) [.int .i64 0, .int .i64 0, .int .i64 0, .int .i64 0] (by simp)).f 2 rfl
  have c1_0_3 : W1.cell? ⟨w.heap.size + 2, 3, none⟩ = some (.int .i64 0) := (K1.out.at (w.heap.size + 2) [.int .i64 0, .int .i64 0, .int .i64 0, .int .i64 0] (by simp)).c 3 rfl
  have z1_0_3 : W1.frozen? ⟨w.heap.size + 2, 3, none⟩ = false := (K1.out.at (w.heap.size + 2) [.int .i64 0, .int .i64 0, .int .i64 0, .int .i64 0] (by simp)).f 3 rfl
  have c1_1_0 : W1.cell? ⟨w.heap.size + 1, 0, none⟩ = some (.int .i64 j) := (K1.out.at (w.heap.size + 1) [.int .i64 j, .int .i64 n, .int .i64 e, .int .i64 v] (by simp)).c 0 rfl
  have c1_1_1 : W1.cell? ⟨w.heap.size + 1, 1, none⟩ = some (.int .i64 n) := (K1.out.at (w.heap.size + 1) [.int .i64 j, .int .i64 n, .int .i64 e, .int .i64 v] (by simp)).c 1 rfl
  have c1_1_2 : W1.cell? ⟨w.heap.size + 1, 2, none⟩ = some (.int .i64 e) := (K1.out.at (w.heap.size + 1) [.int .i64 j, .int .i64 n, .int .i64 e, .int .i64 v] (by simp)).c 2 rfl
  have c1_1_3 : W1.cell? ⟨w.heap.size + 1, 3, none⟩ = some (.int .i64 v) := (K1.out.at (w.heap.size + 1) [.int .i64 j, .int .i64 n, .int .i64 e, .int .i64 v] (by simp)).c 3 rfl
  have c1_2_0 : W1.cell? ⟨w.heap.size, 0, none⟩ = some (.int .i64 i) := (K1.out.at (w.heap.size) [.int .i64 i, .int .i64 m, .int .i64 d, .int .i64 u] (by simp)).c 0 rfl
  have c1_2_1 : W1.cell? ⟨w.heap.size, 1, none⟩ = some (.int .i64 m) := (K1.out.at (w.heap.size) [.int .i64 i, .int .i64 m, .int .i64 d, .int .i64 u] (by simp)).c 1 rfl
  have c1_2_2 : W1.cell? ⟨w.heap.size, 2, none⟩ = some (.int .i64 d) := (K1.out.at (w.heap.size) [.int .i64 i, .int .i64 m, .int .i64 d, .int .i64 u] (by simp)).c 2 rfl
  have c1_2_3 : W1.cell? ⟨w.heap.size, 3, none⟩ = some (.int .i64 u) := (K1.out.at (w.heap.size) [.int .i64 i, .int .i64 m, .int .i64 d, .int .i64 u] (by simp)).c 3 rfl
  have Mz1 : Hid (BS w [(W1.heap.size, [.int .i64 a, .int .i64 b, .int .i64 c, .int .i64 f]), (w.heap.size + 2, [.int .i64 0, .int .i64 0, .int .i64 0, .int .i64 0]), (w.heap.size + 1, [.int .i64 j, .int .i64 n, .int .i64 e, .int .i64 v]), (w.heap.size, [.int .i64 i, .int .i64 m, .int .i64 d, .int .i64 u])] (W1.alloc (.cells #[.int .i64 a, .int .i64 b, .int .i64 c, .int .i64 f] 23))) := K1.out.new [.int .i64 a, .int .i64 b, .int .i64 c, .int .i64 f] 23 rfl
  go_upto_region 2 with fail
  refine gen_to (BS w [(W1.heap.size, [.int .i64 a, .int .i64 b, .int .i64 c, .int .i64 f]), (w.heap.size + 2, [.int .i64 0, .int .i64 0, .int .i64 0, .int .i64 0]), (w.heap.size + 1, [.int .i64 j, .int .i64 n, .int .i64 e, .int .i64 v]), (w.heap.size, [.int .i64 i, .int .i64 m, .int .i64 d, .int .i64 u])]) Mz1.out ?_
  clear c1_0_0 z1_0_0 c1_0_1 z1_0_1 c1_0_2 z1_0_2 c1_0_3 z1_0_3 c1_1_0 c1_1_1 c1_1_2 c1_1_3 c1_2_0 c1_2_1 c1_2_2 c1_2_3
  intro W2 K2'
  have K2 : Hid (BS w [(W1.heap.size, [.int .i64 a, .int .i64 b, .int .i64 c, .int .i64 f]), (w.heap.size + 2, [.int .i64 0, .int .i64 0, .int .i64 0, .int .i64 0]), (w.heap.size + 1, [.int .i64 j, .int .i64 n, .int .i64 e, .int .i64 v]), (w.heap.size, [.int .i64 i, .int .i64 m, .int .i64 d, .int .i64 u])] W2) := K2'
  clear K2' Mz1 K1
  have c2_0_0 : W2.cell? ⟨W1.heap.size, 0, none⟩ = some (.int .i64 a) := (K2.out.at (W1.heap.size) [.int .i64 a, .int .i64 b, .int .i64 c, .int .i64 f] (by simp)).c 0 rfl
  have c2_0_1 : W2.cell? ⟨W1.heap.size, 1, none⟩ = some (.int .i64 b) := (K2.out.at (W1.heap.size) [.int .i64 a, .int .i64 b, .int .i64 c, .int .i64 f] (by simp)).c 1 rfl
  have c2_0_2 : W2.cell? ⟨W1.heap.size, 2, none⟩ = some (.int .i64 c) := (K2.out.at (W1.heap.size) [.int .i64 a, .int .i64 b, .int .i64 c, .int .i64 f] (by simp)).c 2 rfl
  have c2_0_3 : W2.cell? ⟨W1.heap.size, 3, none⟩ = some (.int .i64 f) := (K2.out.at (W1.heap.size) [.int .i64 a, .int .i64 b, .int .i64 c, .int .i64 f] (by simp)).c 3 rfl
  have c2_1_0 : W2.cell? ⟨w.heap.size + 2, 0, none⟩ = some (.int .i64 0) := (K2.out.at (w.heap.size + 2) [.int .i64 0, .int .i64 0, .int .i64 0, .int .i64 0] (by simp)).c 0 rfl
  have z2_1_0 : W2.frozen? ⟨w.heap.size + 2, 0, none⟩ = false := (K2.out.at (w.heap.size + 2) [.int .i64 0, .int .i64 0, .int .i64 0, .int .i64 0] (by simp)).f 0 rfl
  have c2_1_1 : W2.cell? ⟨w.heap.size + 2, 1, none⟩ = some (.int .i64 0) := (K2.out.at (w.heap.size + 2) [.int .i64 0, .int .i64 0, .int .i64 0, .int .i64 0] (by simp)).c 1 rfl
  have z2_1_1 : W2.frozen? ⟨w.heap.size + 2, 1, none⟩ = false := (K2.out.at (w.heap.size + 2) [.int .i64 0, .int .i64 0, .int .i64 0, .int .i64 0] (by simp)).f 1 rfl
  have c2_1_2 : W2.cell? ⟨w.heap.size + 2, 2, none⟩ = some (.int .i64 0) := (K2.out.at (w.heap.size + 2) [.int .i64 0, .int .i64 0, .int .i64 0, .int .i64 0] (by simp)).c 2 rfl
  have z2_1_2 : W2.frozen? ⟨w.heap.size + 2, 2, none⟩ = false := (K2.out.at (w.heap.size + 2) [.int .i64 0, .int .i64 0, .int .i64 0, .int .i64 0] (by simp)).f 2 rfl
  have c2_1_3 : W2.cell? ⟨w.heap.size + 2, 3, none⟩ = some (.int .i64 0) := (K2.out.at (w.heap.size + 2) [.int .i64 0, .int .i64 0, .int .i64 0, .int .i64 0] (by simp)).c 3 rfl
  have z2_1_3 : W2.frozen? ⟨w.heap.size + 2, 3, none⟩ = false := (K2.out.at (w.heap.size + 2) [.int .i64 0, .int .i64 0, .int .i64 0, .int .i64 0] (by simp)).f 3 rfl
  have c2_2_0 : W2.cell? ⟨w.heap.size + 1, 0, none⟩ = some (.int .i64 j) := (K2.out.at (w.heap.size + 1) [.int .i64 j, .int .i64 n, .int .i64 e, .int .i64 v] (by simp)).c 0 rfl
  have c2_2_1 : W2.cell? ⟨w.heap.size + 1, 1, none⟩ = some (.int .i64 n) := (K2.out.at (w.heap.size + 1) [.int .i64 j, .int .i64 n, .int .i64 e, .int .i64 v] (by simp)).c 1 rfl
  have c2_2_2 : W2.cell? ⟨w.heap.size + 1, 2, none⟩ = some (.int .i64 e) := (K2.out.at (w.heap.size + 1) [.int .i64 j, .int .i64 n, .int .i64 e, .int .i64 v] (by simp)).c 2 rfl
  have c2_2_3 : W2.cell? ⟨w.heap.size + 1, 3, none⟩ = some (.int .i64 v) := (K2.out.at (w.heap.size + 1) [.int .i64 j, .int .i64 n, .int .i64 e, .int .i64 v] (by simp)).c 3 rfl
  have c2_3_0 : W2.cell? ⟨w.heap.size, 0, none⟩ = some (.int .i64 i) := (K2.out.at (w.heap.size) [.int .i64 i, .int .i64 m, .int .i64 d, .int .i64 u] (by simp)).c 0 rfl
  have c2_3_1 : W2.cell? ⟨w.heap.size, 1, none⟩ = some (.int .i64 m) := (K2.out.at (w.heap.size) [.int .i64 i, .int .i64 m, .int .i64 d, .int .i64 u] (by simp)).c 1 rfl
  have c2_3_2 : W2.cell? ⟨w.heap.size, 2, none⟩ = some (.int .i64 d) := (K2.out.at (w.heap.size) [.int .i64 i, .int .i64 m, .int .i64 d, .int .i64 u] (by simp)).c 2 rfl
  have c2_3_3 : W2.cell? ⟨w.heap.size, 3, none⟩ = some (.int .i64 u) := (K2.out.at (w.heap.size) [.int .i64 i, .int .i64 m, .int .i64 d, .int .i64 u] (by simp)).c 3 rfl
  have XF : Hid (Bx (W2.setCells (w.heap.size + 2) 0 [.int .i64 0, .int .i64 0, .int .i64 0, .int .i64 0]) (w.heap.size + 2) [.int .i64 0, .int .i64 0, .int .i64 0, .int .i64 0]) := (K2.out.at (w.heap.size + 2) [.int .i64 0, .int .i64 0, .int .i64 0, .int .i64 0] (by simp)).setAll _ rfl
  have BF : Hid (Below w.heap.size w (W2.setCells (w.heap.size + 2) 0 [.int .i64 0, .int .i64 0, .int .i64 0, .int .i64 0])) := below_setCells (by omega) _ _ _ K2.out.1
  have y0 := XF.out.c 0 rfl
  have y1 := XF.out.c 1 rfl
  have y2 := XF.out.c 2 rfl
  have y3 := XF.out.c 3 rfl
  simp only [World.setCells, Nat.zero_add, Nat.reduceAdd] at y0 y1 y2 y3
  clear XF
  go_wp2
  exact bodyPost_ret (v := .tuple #[.agg #[.int .i64 0, .int .i64 0, .int .i64 0, .int .i64 0], .int .i64 g]) (by simp [results, Try.results8, go_sem, y0, y1, y2, y3]) rfl ⟨rfl, BF.out⟩

set_option maxRecDepth 100000 in
set_option maxHeartbeats 4000000 in
theorem psub_yes (i m d u j n e v a b c f I M D U E : Int)
    (NG : Hid (∀ w : World, Calls Try.prog 11 #[.agg #[.int .i64 j, .int .i64 n, .int .i64 e, .int .i64 v]] w fun r' w' => r' = .returned (.tuple #[.agg #[.int .i64 a, .int .i64 b, .int .i64 c, .int .i64 f], .int .i64 0]) ∧ Below w.heap.size w w'))
    (AD : Hid (∀ w : World, Calls Try.prog 6 #[.agg #[.int .i64 i, .int .i64 m, .int .i64 d, .int .i64 u], .agg #[.int .i64 a, .int .i64 b, .int .i64 c, .int .i64 f]] w fun r' w' => r' = .returned (.tuple #[.agg #[.int .i64 I, .int .i64 M, .int .i64 D, .int .i64 U], .int .i64 E]) ∧ Below w.heap.size w w'))
    (w : World) :
    Calls Try.prog 8 #[.agg #[.int .i64 i, .int .i64 m, .int .i64 d, .int .i64 u], .agg #[.int .i64 j, .int .i64 n, .int .i64 e, .int .i64 v]] w fun r' w' => r' = .returned (.tuple #[.agg #[.int .i64 I, .int .i64 M, .int .i64 D, .int .i64 U], .int .i64 E]) ∧ Below w.heap.size w w' := by
  have K0 : Hid (BS w [(w.heap.size + 2, [.int .i64 0, .int .i64 0, .int .i64 0, .int .i64 0]), (w.heap.size + 1, [.int .i64 j, .int .i64 n, .int .i64 e, .int .i64 v]), (w.heap.size, [.int .i64 i, .int .i64 m, .int .i64 d, .int .i64 u])] (((w.alloc (.cells #[.int .i64 i, .int .i64 m, .int .i64 d, .int .i64 u] 23)).alloc (.cells #[.int .i64 j, .int .i64 n, .int .i64 e, .int .i64 v] 23)).alloc (.cells #[.int .i64 0, .int .i64 0, .int .i64 0, .int .i64 0] 23))) := ((((BS.start w).new [.int .i64 i, .int .i64 m, .int .i64 d, .int .i64 u] 23 rfl).new [.int .i64 j, .int .i64 n, .int .i64 e, .int .i64 v] 23 (by simp)).new [.int .i64 0, .int .i64 0, .int .i64 0, .int .i64 0] 23 (by simp))
  go_enter Try.func8, Try.ntmps8
  go_wp2_with fail
  refine (NG.out _).mono ?_
  rintro e W1 ⟨rfl, hb⟩
  have K1 : Hid (BS w [(w.heap.size + 2, [.int .i64 0, .int .i64 0, .int .i64 0, .int .i64 0]), (w.heap.size + 1, [.int .i64 j, .int .i64 n, .int .i64 e, .int .i64 v]), (w.heap.size, [.int .i64 i, .int .i64 m, .int .i64 d, .int .i64 u])] W1) := K0.out.below hb
  clear hb K0
  have c1_0_0 : W1.cell? ⟨w.heap.size + 2, 0, none⟩ = some (.int .i64 0) := (K1.out.at (w.heap.size + 2) [.int .i64 0, .int .i64 0, .int .i64 0, .int .i64 0] (by simp)).c 0 rfl
  have z1_0_0 : W1.frozen? ⟨w.heap.size + 2, 0, none⟩ = false := (K1.out.at (w.heap.size + 2) [.int .i64 0, .int .i64 0, .int .i64 0, .int .i64 0] (by simp)).f 0 rfl
  have c1_0_1 : W1.cell? ⟨w.heap.size + 2, 1, none⟩ = some (.int .i64 0) := (K1.out.at (w.heap.size + 2) [.int .i64 0, .int .i64 0, .int .i64 0, .int .i64 0] (by simp)).c 1 rfl
  have z1_0_1 : W1.frozen? ⟨w.heap.size + 2, 1, none⟩ = false := (K1.out.at (w.heap.size + 2) [.int .i64 0, .int .i64 0, .int .i64 0, .int .i64 0] (by simp)).f 1 rfl
  have c1_0_2 : W1.cell? ⟨w.heap.size + 2, 2, none⟩ = some (.int .i64 0) := (K1.out.at (w.heap.size + 2) [.int .i64 0, .int .i64 0, .int .i64 0, .int .i64 0] (by simp)).c 2 rfl
  have z1_0_2 : W1.frozen? ⟨w.heap.size + 2, 2, none⟩ = false := (K1.out.at (w.heap.size + 2) [.int .i64 0, .int .i64 0, .int .i64 0, .int .i64 0] (by simp)).f 2 rfl
  have c1_0_3 : W1.cell? ⟨w.heap.size + 2, 3, none⟩ = some (.int .i64 0) := (K1.out.at (w.heap.size + 2) [.int .i64 0, .int .i64 0, .int .i64 0, .int .i64 0] (by simp)).c 3 rfl
  have z1_0_3 : W1.frozen? ⟨w.heap.size + 2, 3, none⟩ = false := (K1.out.at (w.heap.size + 2) [.int .i64 0, .int .i64 0, .int .i64 0, .int .i64 0] (by simp)).f 3 rfl
  have c1_1_0 : W1.cell? ⟨w.heap.size + 1, 0, none⟩ = some (.int .i64 j) := (K1.out.at (w.heap.size + 1) [.int .i64 j, .int .i64 n, .int .i64 e, .int .i64 v] (by simp)).c 0 rfl
  have c1_1_1 : W1.cell? ⟨w.heap.size + 1, 1, none⟩ = some (.int .i64 n) := (K1.out.at (w.heap.size + 1) [.int .i64 j, .int .i64 n, .int .i64 e, .int .i64 v] (by simp)).c 1 rfl
  have c1_1_2 : W1.cell? ⟨w.heap.size + 1, 2, none⟩ = some (.int .i64 e) := (K1.out.at (w.heap.size + 1) [.int .i64 j, .int .i64 n, .int .i64 e, .int .i64 v] (by simp)).c 2 rfl
  have c1_1_3 : W1.cell? ⟨w.heap.size + 1, 3, none⟩ = some (.int .i64 v) := (K1.out.at (w.heap.size + 1) [.int .i64 j, .int .i64 n, .int .i64 e, .int .i64 v] (by simp)).c 3 rfl
  have c1_2_0 : W1.cell? ⟨w.heap.size, 0, none⟩ = some (.int .i64 i) := (K1.out.at (w.heap.size) [.int .i64 i, .int .i64 m, .int .i64 d, .int .i64 u] (by simp)).c 0 rfl
  have c1_2_1 : W1.cell? ⟨w.heap.size, 1, none⟩ = some (.int .i64 m) := (K1.out.at (w.heap.size) [.int .i64 i, .int .i64 m, .int .i64 d, .int .i64 u] (by simp)).c 1 rfl
  have c1_2_2 : W1.cell? ⟨w.heap.size, 2, none⟩ = some (.int .i64 d) := (K1.out.at (w.heap.size) [.int .i64 i, .int .i64 m, .int .i64 d, .int .i64 u] (by simp)).c 2 rfl
  have c1_2_3 : W1.cell? ⟨w.heap.size, 3, none⟩ = some (.int .i64 u) := (K1.out.at (w.heap.size) [.int .i64 i, .int .i64 m, .int .i64 d, .int .i64 u] (by simp)).c 3 rfl
  have Mz1 : Hid (BS w [(W1.heap.size, [.int .i64 a, .int .i64 b, .int .i64 c, .int .i64 f]), (w.heap.size + 2, [.int .i64 0, .int .i64 0, .int .i64 0, .int .i64 0]), (w.heap.size + 1, [.int .i64 j, .int .i64 n, .int .i64 e, .int .i64 v]), (w.heap.size, [.int .i64 i, .int .i64 m, .int .i64 d, .int .i64 u])] (W1.alloc (.cells #[.int .i64 a, .int .i64 b, .int .i64 c, .int .i64 f] 23))) := K1.out.new [.int .i64 a, .int .i64 b, .int .i64 c, .int .i64 f] 23 rfl
  go_upto_region 2 with fail
  refine gen_to (BS w [(W1.heap.size, [.int .i64 a, .int .i64 b, .int .i64 c, .int .i64 f]), (w.heap.size + 2, [.int .i64 0, .int .i64 0, .int .i64 0, .int .i64 0]), (w.heap.size + 1, [.int .i64 j, .int .i64 n, .int .i64 e, .int .i64 v]), (w.heap.size, [.int .i64 i, .int .i64 m, .int .i64 d, .int .i64 u])]) Mz1.out ?_
  clear c1_0_0 z1_0_0 c1_0_1 z1_0_1 c1_0_2 z1_0_2 c1_0_3 z1_0_3 c1_1_0 c1_1_1 c1_1_2 c1_1_3 c1_2_0 c1_2_1 c1_2_2 c1_2_3
  intro W2 K2'
  have K2 : Hid (BS w [(W1.heap.size, [.int .i64 a, .int .i64 b, .int .i64 c, .int .i64 f]), (w.heap.size + 2, [.int .i64 0, .int .i64 0, .int .i64 0, .int .i64 0]), (w.heap.size + 1, [.int .i64 j, .int .i64 n, .int .i64 e, .int .i64 v]), (w.heap.size, [.int .i64 i, .int .i64 m, .int .i64 d, .int .i64 u])] W2) := K2'
  clear K2' Mz1 K1
  have c2_0_0 : W2.cell? ⟨W1.heap.size, 0, none⟩ = some (.int .i64 a) := (K2.out.at (W1.heap.size) [.int .i64 a, .int .i64 b, .int .i64 c, .int .i64 f] (by simp)).c 0 rfl
  have c2_0_1 : W2.cell? ⟨W1.heap.size, 1, none⟩ = some (.int .i64 b) := (K2.out.at (W1.heap.size) [.int .i64 a, .int .i64 b, .int .i64 c, .int .i64 f] (by simp)).c 1 rfl
  have c2_0_2 : W2.cell? ⟨W1.heap.size, 2, none⟩ = some (.int .i64 c) := (K2.out.at (W1.heap.size) [.int .i64 a, .int .i64 b, .int .i64 c, .int .i64 f] (by simp)).c 2 rfl
  have c2_0_3 : W2.cell? ⟨W1.heap.size, 3, none⟩ = some (.int .i64 f) := (K2.out.at (W1.heap.size) [.int .i64 a, .int .i64 b, .int .i64 c, .int .i64 f] (by simp)).c 3 rfl
  have c2_1_0 : W2.cell? ⟨w.heap.size + 2, 0, none⟩ = some (.int .i64 0) := (K2.out.at (w.heap.size + 2) [.int .i64 0, .int .i64 0, .int .i64 0, .int .i64 0] (by simp)).c 0 rfl
  have z2_1_0 : W2.frozen? ⟨w.heap.size + 2, 0, none⟩ = false := (K2.out.at (w.heap.size + 2) [.int .i64 0, .int .i64 0, .int .i64 0, .int .i64 0] (by simp)).f 0 rfl
  have c2_1_1 : W2.cell? ⟨w.heap.size + 2, 1, none⟩ = some (.int .i64 0) := (K2.out.at (w.heap.size + 2) [.int .i64 0, .int .i64 0, .int .i64 0, .int .i64 0] (by simp)).c 1 rfl
  have z2_1_1 : W2.frozen? ⟨w.heap.size + 2, 1, none⟩ = false := (K2.out.at (w.heap.size + 2) [.int .i64 0, .int .i64 0, .int .i64 0, .int .i64 0] (by simp)).f 1 rfl
  have c2_1_2 : W2.cell? ⟨w.heap.size + 2, 2, none⟩ = some (.int .i64 0) := (K2.out.at (w.heap.size + 2) [.int .i64 0, .int .i64 0, .int .i64 0, .int .i64 0] (by simp)).c 2 rfl
  have z2_1_2 : W2.frozen? ⟨w.heap.size + 2, 2, none⟩ = false := (K2.out.at (w.heap.size + 2) [.int .i64 0, .int .i64 0, .int .i64 0, .int .i64 0] (by simp)).f 2 rfl
  have c2_1_3 : W2.cell? ⟨w.heap.size + 2, 3, none⟩ = some (.int .i64 0) := (K2.out.at (w.heap.size + 2) [.int .i64 0, .int .i64 0, .int .i64 0, .int .i64 0] (by simp)).c 3 rfl
  have z2_1_3 : W2.frozen? ⟨w.heap.size + 2, 3, none⟩ = false := (K2.out.at (w.heap.size + 2) [.int .i64 0, .int .i64 0, .int .i64 0, .int .i64 0] (by simp)).f 3 rfl
  have c2_2_0 : W2.cell? ⟨w.heap.size + 1, 0, none⟩ = some (.int .i64 j) := (K2.out.at (w.heap.size + 1) [.int .i64 j, .int .i64 n, .int .i64 e, .int .i64 v] (by simp)).c 0 rfl
  have c2_2_1 : W2.cell? ⟨w.heap.size + 1, 1, none⟩ = some (.int .i64 n) := (K2.out.at (w.heap.size + 1) [.int .i64 j, .int .i64 n, .int .i64 e, .int .i64 v] (by simp)).c 1 rfl
  have c2_2_2 : W2.cell? ⟨w.heap.size + 1, 2, none⟩ = some (.int .i64 e) := (K2.out.at (w.heap.size + 1) [.int .i64 j, .int .i64 n, .int .i64 e, .int .i64 v] (by simp)).c 2 rfl
  have c2_2_3 : W2.cell? ⟨w.heap.size + 1, 3, none⟩ = some (.int .i64 v) := (K2.out.at (w.heap.size + 1) [.int .i64 j, .int .i64 n, .int .i64 e, .int .i64 v] (by simp)).c 3 rfl
  have c2_3_0 : W2.cell? ⟨w.heap.size, 0, none⟩ = some (.int .i64 i) := (K2.out.at (w.heap.size) [.int .i64 i, .int .i64 m, .int .i64 d, .int .i64 u] (by simp)).c 0 rfl
  have c2_3_1 : W2.cell? ⟨w.heap.size, 1, none⟩ = some (.int .i64 m) := (K2.out.at (w.heap.size) [.int .i64 i, .int .i64 m, .int .i64 d, .int .i64 u] (by simp)).c 1 rfl
  have c2_3_2 : W2.cell? ⟨w.heap.size, 2, none⟩ = some (.int .i64 d) := (K2.out.at (w.heap.size) [.int .i64 i, .int .i64 m, .int .i64 d, .int .i64 u] (by simp)).c 2 rfl
  have c2_3_3 : W2.cell? ⟨w.heap.size, 3, none⟩ = some (.int .i64 u) := (K2.out.at (w.heap.size) [.int .i64 i, .int .i64 m, .int .i64 d, .int .i64 u] (by simp)).c 3 rfl
  go_wp2_with fail
  refine (AD.out _).mono ?_
  rintro e W3 ⟨rfl, hb⟩
  have K3 : Hid (BS w [(W1.heap.size, [.int .i64 a, .int .i64 b, .int .i64 c, .int .i64 f]), (w.heap.size + 2, [.int .i64 0, .int .i64 0, .int .i64 0, .int .i64 0]), (w.heap.size + 1, [.int .i64 j, .int .i64 n, .int .i64 e, .int .i64 v]), (w.heap.size, [.int .i64 i, .int .i64 m, .int .i64 d, .int .i64 u])] W3) := K2.out.below hb
  clear c2_0_0 c2_0_1 c2_0_2 c2_0_3 c2_1_0 z2_1_0 c2_1_1 z2_1_1 c2_1_2 z2_1_2 c2_1_3 z2_1_3 c2_2_0 c2_2_1 c2_2_2 c2_2_3 c2_3_0 c2_3_1 c2_3_2 c2_3_3
  clear hb K2
  have c3_0_0 : W3.cell? ⟨W1.heap.size, 0, none⟩ = some (.int .i64 a) := (K3.out.at (W1.heap.size) [.int .i64 a, .int .i64 b, .int .i64 c, .int .i64 f] (by simp)).c 0 rfl
  have c3_0_1 : W3.cell? ⟨W1.heap.size, 1, none⟩ = some (.int .i64 b) := (K3.out.at (W1.heap.size) [.int .i64 a, .int .i64 b, .int .i64 c, .int .i64 f] (by simp)).c 1 rfl
  have c3_0_2 : W3.cell? ⟨W1.heap.size, 2, none⟩ = some (.int .i64 c) := (K3.out.at (W1.heap.size) [.int .i64 a, .int .i64 b, .int .i64 c, .int .i64 f] (by simp)).c 2 rfl
  have c3_0_3 : W3.cell? ⟨W1.heap.size, 3, none⟩ = some (.int .i64 f) := (K3.out.at (W1.heap.size) [.int .i64 a, .int .i64 b, .int .i64 c, .int .i64 f] (by simp)).c 3 rfl
  have c3_1_0 : W3.cell? ⟨w.heap.size + 2, 0, none⟩ = some (.int .i64 0) := (K3.out.at (w.heap.size + 2) [.int .i64 0, .int .i64 0, .int .i64 0, .int .i64 0] (by simp)).c 0 rfl
  have z3_1_0 : W3.frozen? ⟨w.heap.size + 2, 0, none⟩ = false := (K3.out.at (w.heap.size + 2) [.int .i64 0, .int .i64 0, .int .i64 0, .int .i64 0] (by simp)).f 0 rfl
  have c3_1_1 : W3.cell? ⟨w.heap.size + 2, 1, none⟩ = some (.int .i64 0) := (K3.out.at (w.heap.size + 2) [.int .i64 0, .int .i64 0, .int .i64 0, .int .i64 0] (by simp)).c 1 rfl
  have z3_1_1 : W3.frozen? ⟨w.heap.size + 2, 1, none⟩ = false := (K3.out.at (w.heap.size + 2) [.int .i64 0, .int .i64 0, .int .i64 0, .int .i64 0] (by simp)).f 1 rfl
  have c3_1_2 : W3.cell? ⟨w.heap.size + 2, 2, none⟩ = some (.int .i64 0) := (K3.out.at (w.heap.size + 2) [.int .i64 0, .int .i64 0, .int .i64 0, .int .i64 0] (by simp)).c 2 rfl
  have z3_1_2 : W3.frozen? ⟨w.heap.size + 2, 2, none⟩ = false := (K3.out.at (w.heap.size + 2) [.int .i64 0, .int .i64 0, .int .i64 0, .int .i64 0] (by simp)).f 2 rfl
  have c3_1_3 : W3.cell? ⟨w.heap.size + 2, 3, none⟩ = some (.int .i64 0) := (K3.out.at (w.heap.size + 2) [.int .i64 0, .int .i64 0, .int .i64 0, .int .i64 0] (by simp)).c 3 rfl
  have z3_1_3 : W3.frozen? ⟨w.heap.size + 2, 3, none⟩ = false := (K3.out.at (w.heap.size + 2) [.int .i64 0, .int .i64 0, .int .i64 0, .int .i64 0] (by simp)).f 3 rfl
  have c3_2_0 : W3.cell? ⟨w.heap.size + 1, 0, none⟩ = some (.int .i64 j) := (K3.out.at (w.heap.size + 1) [.int .i64 j, .int .i64 n, .int .i64 e, .int .i64 v] (by simp)).c 0 rfl
  have c3_2_1 : W3.cell? ⟨w.heap.size + 1, 1, none⟩ = some (.int .i64 n) := (K3.out.at (w.heap.size + 1) [.int .i64 j, .int .i64 n, .int .i64 e, .int .i64 v] (by simp)).c 1 rfl
  have c3_2_2 : W3.cell? ⟨w.heap.size + 1, 2, none⟩ = some (.int .i64 e) := (K3.out.at (w.heap.size + 1) [.int .i64 j, .int .i64 n, .int .i64 e, .int .i64 v] (by simp)).c 2 rfl
  have c3_2_3 : W3.cell? ⟨w.heap.size + 1, 3, none⟩ = some (.int .i64 v) := (K3.out.at (w.heap.size + 1) [.int .i64 j, .int .i64 n, .int .i64 e, .int .i64 v] (by simp)).c 3 rfl
  have c3_3_0 : W3.cell? ⟨w.heap.size, 0, none⟩ = some (.int .i64 i) := (K3.out.at (w.heap.size) [.int .i64 i, .int .i64 m, .int .i64 d, .int .i64 u] (by simp)).c 0 rfl
  have c3_3_1 : W3.cell? ⟨w.heap.size, 1, none⟩ = some (.int .i64 m) := (K3.out.at (w.heap.size) [.int .i64 i, .int .i64 m, .int .i64 d, .int .i64 u] (by simp)).c 1 rfl
  have c3_3_2 : W3.cell? ⟨w.heap.size, 2, none⟩ = some (.int .i64 d) := (K3.out.at (w.heap.size) [.int .i64 i, .int .i64 m, .int .i64 d, .int .i64 u] (by simp)).c 2 rfl
  have c3_3_3 : W3.cell? ⟨w.heap.size, 3, none⟩ = some (.int .i64 u) := (K3.out.at (w.heap.size) [.int .i64 i, .int .i64 m, .int .i64 d, .int .i64 u] (by simp)).c 3 rfl
  have XF : Hid (Bx (W3.setCells (w.heap.size + 2) 0 [.int .i64 I, .int .i64 M, .int .i64 D, .int .i64 U]) (w.heap.size + 2) [.int .i64 I, .int .i64 M, .int .i64 D, .int .i64 U]) := (K3.out.at (w.heap.size + 2) [.int .i64 0, .int .i64 0, .int .i64 0, .int .i64 0] (by simp)).setAll _ rfl
  have BF : Hid (Below w.heap.size w (W3.setCells (w.heap.size + 2) 0 [.int .i64 I, .int .i64 M, .int .i64 D, .int .i64 U])) := below_setCells (by omega) _ _ _ K3.out.1
  have y0 := XF.out.c 0 rfl
  have y1 := XF.out.c 1 rfl
  have y2 := XF.out.c 2 rfl
  have y3 := XF.out.c 3 rfl
  simp only [World.setCells, Nat.zero_add, Nat.reduceAdd] at y0 y1 y2 y3
  clear XF
  go_wp2
  exact bodyPost_ret (v := .tuple #[.agg #[.int .i64 I, .int .i64 M, .int .i64 D, .int .i64 U], .int .i64 E]) (by simp [results, Try.results8, go_sem, y0, y1, y2, y3]) rfl ⟨rfl, BF.out⟩


end Go.Proofs.Ytghfgabajdghiac
