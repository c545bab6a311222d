/- Dates apart and in order; the reference's. -/
import Derived.Test.YtghfgabajdghiaaDoorDyD
namespace Go.Proofs.YtghfgabajdghiaaDoor
open Go.RowKit
set_option linter.unusedVariables false

set_option maxRecDepth 100000 in
set_option maxHeartbeats 4000000 in
theorem dsub_no1 (i a j b : Int)
    (X : Hid (∀ w : World, Cvl.Lens w → Calls Tryd.prog 13 #[.agg #[.int .i64 i, .int .i64 a]] w fun r' w' => r' = .returned (.bool false) ∧ Below w.heap.size w w'))
    (w : World) (hL : Hid (∀ W : World, Below w.heap.size w W → Cvl.Lens W)) :
    Calls Tryd.prog 18 #[.agg #[.int .i64 i, .int .i64 a], .agg #[.int .i64 j, .int .i64 b]] w fun r' w' => r' = .returned (.tuple #[.int .i64 0, .int .i64 1]) ∧ Below w.heap.size w w' := by
  have K0 : Hid (BS w [(w.heap.size + 1, [.int .i64 j, .int .i64 b]), (w.heap.size, [.int .i64 i, .int .i64 a])] ((w.alloc (.cells #[.int .i64 i, .int .i64 a] 23)).alloc (.cells #[.int .i64 j, .int .i64 b] 23))) := (((BS.start w).new [.int .i64 i, .int .i64 a] 23 rfl).new [.int .i64 j, .int .i64 b] 23 (by simp))
  go_enter Tryd.func18, Tryd.ntmps18
  go_wp2_with fail
  refine (X.out _ (hL.out _ K0.out.1)).mono ?_
  rintro e W1 ⟨rfl, hb⟩
  have K1 : Hid (BS w [(w.heap.size + 1, [.int .i64 j, .int .i64 b]), (w.heap.size, [.int .i64 i, .int .i64 a])] W1) := K0.out.below hb
  clear hb K0
  have c1_0_0 : W1.cell? ⟨w.heap.size + 1, 0, none⟩ = some (.int .i64 j) := (K1.out.at (w.heap.size + 1) [.int .i64 j, .int .i64 b] (by simp)).c 0 rfl
  have c1_0_1 : W1.cell? ⟨w.heap.size + 1, 1, none⟩ = some (.int .i64 b) := (K1.out.at (w.heap.size + 1) [.int .i64 j, .int .i64 b] (by simp)).c 1 rfl
  have c1_1_0 : W1.cell? ⟨w.heap.size, 0, none⟩ = some (.int .i64 i) := (K1.out.at (w.heap.size) [.int .i64 i, .int .i64 a] (by simp)).c 0 rfl
  have c1_1_1 : W1.cell? ⟨w.heap.size, 1, none⟩ = some (.int .i64 a) := (K1.out.at (w.heap.size) [.int .i64 i, .int .i64 a] (by simp)).c 1 rfl
  go_wp2
  exact bodyPost_ret (v := .tuple #[.int .i64 0, .int .i64 1]) (by simp [results, Tryd.results18, go_sem]) rfl ⟨rfl, K1.out.1⟩

set_option maxRecDepth 100000 in
set_option maxHeartbeats 4000000 in
theorem dsub_no2 (i a j b : Int)
    (X : Hid (∀ w : World, Cvl.Lens w → Calls Tryd.prog 13 #[.agg #[.int .i64 i, .int .i64 a]] w fun r' w' => r' = .returned (.bool true) ∧ Below w.heap.size w w'))
    (Y : Hid (∀ w : World, Cvl.Lens w → Calls Tryd.prog 13 #[.agg #[.int .i64 j, .int .i64 b]] w fun r' w' => r' = .returned (.bool false) ∧ Below w.heap.size w w'))
    (w : World) (hL : Hid (∀ W : World, Below w.heap.size w W → Cvl.Lens W)) :
    Calls Tryd.prog 18 #[.agg #[.int .i64 i, .int .i64 a], .agg #[.int .i64 j, .int .i64 b]] w fun r' w' => r' = .returned (.tuple #[.int .i64 0, .int .i64 1]) ∧ Below w.heap.size w w' := by
  have K0 : Hid (BS w [(w.heap.size + 1, [.int .i64 j, .int .i64 b]), (w.heap.size, [.int .i64 i, .int .i64 a])] ((w.alloc (.cells #[.int .i64 i, .int .i64 a] 23)).alloc (.cells #[.int .i64 j, .int .i64 b] 23))) := (((BS.start w).new [.int .i64 i, .int .i64 a] 23 rfl).new [.int .i64 j, .int .i64 b] 23 (by simp))
  go_enter Tryd.func18, Tryd.ntmps18
  go_wp2_with fail
  refine (X.out _ (hL.out _ K0.out.1)).mono ?_
  rintro e W1 ⟨rfl, hb⟩
  have K1 : Hid (BS w [(w.heap.size + 1, [.int .i64 j, .int .i64 b]), (w.heap.size, [.int .i64 i, .int .i64 a])] W1) := K0.out.below hb
  clear hb K0
  have c1_0_0 : W1.cell? ⟨w.heap.size + 1, 0, none⟩ = some (.int .i64 j) := (K1.out.at (w.heap.size + 1) [.int .i64 j, .int .i64 b] (by simp)).c 0 rfl
  have c1_0_1 : W1.cell? ⟨w.heap.size + 1, 1, none⟩ = some (.int .i64 b) := (K1.out.at (w.heap.size + 1) [.int .i64 j, .int .i64 b] (by simp)).c 1 rfl
  have c1_1_0 : W1.cell? ⟨w.heap.size, 0, none⟩ = some (.int .i64 i) := (K1.out.at (w.heap.size) [.int .i64 i, .int .i64 a] (by simp)).c 0 rfl
  have c1_1_1 : W1.cell? ⟨w.heap.size, 1, none⟩ = some (.int .i64 a) := (K1.out.at (w.heap.size) [.int .i64 i, .int .i64 a] (by simp)).c 1 rfl
  go_wp2_with fail
  refine (Y.out _ (hL.out _ K1.out.1)).mono ?_
  rintro e W2 ⟨rfl, hb⟩
  have K2 : Hid (BS w [(w.heap.size + 1, [.int .i64 j, .int .i64 b]), (w.heap.size, [.int .i64 i, .int .i64 a])] W2) := K1.out.below hb
  clear c1_0_0 c1_0_1 c1_1_0 c1_1_1
  clear hb K1
  have c2_0_0 : W2.cell? ⟨w.heap.size + 1, 0, none⟩ = some (.int .i64 j) := (K2.out.at (w.heap.size + 1) [.int .i64 j, .int .i64 b] (by simp)).c 0 rfl
  have c2_0_1 : W2.cell? ⟨w.heap.size + 1, 1, none⟩ = some (.int .i64 b) := (K2.out.at (w.heap.size + 1) [.int .i64 j, .int .i64 b] (by simp)).c 1 rfl
  have c2_1_0 : W2.cell? ⟨w.heap.size, 0, none⟩ = some (.int .i64 i) := (K2.out.at (w.heap.size) [.int .i64 i, .int .i64 a] (by simp)).c 0 rfl
  have c2_1_1 : W2.cell? ⟨w.heap.size, 1, none⟩ = some (.int .i64 a) := (K2.out.at (w.heap.size) [.int .i64 i, .int .i64 a] (by simp)).c 1 rfl
  go_wp2
  exact bodyPost_ret (v := .tuple #[.int .i64 0, .int .i64 1]) (by simp [results, Tryd.results18, go_sem]) rfl ⟨rfl, K2.out.1⟩

set_option maxRecDepth 100000 in
set_option maxHeartbeats 4000000 in
theorem dsub_inf1 (i a j b : Int) (hi : i ≠ 0)
    (X : Hid (∀ w : World, Cvl.Lens w → Calls Tryd.prog 13 #[.agg #[.int .i64 i, .int .i64 a]] w fun r' w' => r' = .returned (.bool true) ∧ Below w.heap.size w w'))
    (Y : Hid (∀ w : World, Cvl.Lens w → Calls Tryd.prog 13 #[.agg #[.int .i64 j, .int .i64 b]] w fun r' w' => r' = .returned (.bool true) ∧ Below w.heap.size w w'))
    (w : World) (hL : Hid (∀ W : World, Below w.heap.size w W → Cvl.Lens W)) :
    Calls Tryd.prog 18 #[.agg #[.int .i64 i, .int .i64 a], .agg #[.int .i64 j, .int .i64 b]] w fun r' w' => r' = .returned (.tuple #[.int .i64 0, .int .i64 10]) ∧ Below w.heap.size w w' := by
  have i1 : (i != 0) = true := bne_iff_ne.2 hi
  have K0 : Hid (BS w [(w.heap.size + 1, [.int .i64 j, .int .i64 b]), (w.heap.size, [.int .i64 i, .int .i64 a])] ((w.alloc (.cells #[.int .i64 i, .int .i64 a] 23)).alloc (.cells #[.int .i64 j, .int .i64 b] 23))) := (((BS.start w).new [.int .i64 i, .int .i64 a] 23 rfl).new [.int .i64 j, .int .i64 b] 23 (by simp))
  go_enter Tryd.func18, Tryd.ntmps18
  go_wp2_with fail
  refine (X.out _ (hL.out _ K0.out.1)).mono ?_
  rintro e W1 ⟨rfl, hb⟩
  have K1 : Hid (BS w [(w.heap.size + 1, [.int .i64 j, .int .i64 b]), (w.heap.size, [.int .i64 i, .int .i64 a])] W1) := K0.out.below hb
  clear hb K0
  have c1_0_0 : W1.cell? ⟨w.heap.size + 1, 0, none⟩ = some (.int .i64 j) := (K1.out.at (w.heap.size + 1) [.int .i64 j, .int .i64 b] (by simp)).c 0 rfl
  have c1_0_1 : W1.cell? ⟨w.heap.size + 1, 1, none⟩ = some (.int .i64 b) := (K1.out.at (w.heap.size + 1) [.int .i64 j, .int .i64 b] (by simp)).c 1 rfl
  have c1_1_0 : W1.cell? ⟨w.heap.size, 0, none⟩ = some (.int .i64 i) := (K1.out.at (w.heap.size) [.int .i64 i, .int .i64 a] (by simp)).c 0 rfl
  have c1_1_1 : W1.cell? ⟨w.heap.size, 1, none⟩ = some (.int .i64 a) := (K1.out.at (w.heap.size) [.int .i64 i, .int .i64 a] (by simp)).c 1 rfl
  go_wp2_with fail
  refine (Y.out _ (hL.out _ K1.out.1)).mono ?_
  rintro e W2 ⟨rfl, hb⟩
  have K2 : Hid (BS w [(w.heap.size + 1, [.int .i64 j, .int .i64 b]), (w.heap.size, [.int .i64 i, .int .i64 a])] W2) := K1.out.below hb
  clear c1_0_0 c1_0_1 c1_1_0 c1_1_1
  clear hb K1
  have c2_0_0 : W2.cell? ⟨w.heap.size + 1, 0, none⟩ = some (.int .i64 j) := (K2.out.at (w.heap.size + 1) [.int .i64 j, .int .i64 b] (by simp)).c 0 rfl
  have c2_0_1 : W2.cell? ⟨w.heap.size + 1, 1, none⟩ = some (.int .i64 b) := (K2.out.at (w.heap.size + 1) [.int .i64 j, .int .i64 b] (by simp)).c 1 rfl
  have c2_1_0 : W2.cell? ⟨w.heap.size, 0, none⟩ = some (.int .i64 i) := (K2.out.at (w.heap.size) [.int .i64 i, .int .i64 a] (by simp)).c 0 rfl
  have c2_1_1 : W2.cell? ⟨w.heap.size, 1, none⟩ = some (.int .i64 a) := (K2.out.at (w.heap.size) [.int .i64 i, .int .i64 a] (by simp)).c 1 rfl
  go_wp2
  exact bodyPost_ret (v := .tuple #[.int .i64 0, .int .i64 10]) (by simp [results, Tryd.results18, go_sem]) rfl ⟨rfl, K2.out.1⟩

set_option maxRecDepth 100000 in
set_option maxHeartbeats 4000000 in
theorem dsub_inf2 (a j b : Int) (hj : j ≠ 0)
    (X : Hid (∀ w : World, Cvl.Lens w → Calls Tryd.prog 13 #[.agg #[.int .i64 0, .int .i64 a]] w fun r' w' => r' = .returned (.bool true) ∧ Below w.heap.size w w'))
    (Y : Hid (∀ w : World, Cvl.Lens w → Calls Tryd.prog 13 #[.agg #[.int .i64 j, .int .i64 b]] w fun r' w' => r' = .returned (.bool true) ∧ Below w.heap.size w w'))
    (w : World) (hL : Hid (∀ W : World, Below w.heap.size w W → Cvl.Lens W)) :
    Calls Tryd.prog 18 #[.agg #[.int .i64 0, .int .i64 a], .agg #[.int .i64 j, .int .i64 b]] w fun r' w' => r' = .returned (.tuple #[.int .i64 0, .int .i64 10]) ∧ Below w.heap.size w w' := by
  have j1 : (j != 0) = true := bne_iff_ne.2 hj
  have K0 : Hid (BS w [(w.heap.size + 1, [.int .i64 j, .int .i64 b]), (w.heap.size, [.int .i64 0, .int .i64 a])] ((w.alloc (.cells #[.int .i64 0, .int .i64 a] 23)).alloc (.cells #[.int .i64 j, .int .i64 b] 23))) := (((BS.start w).new [.int .i64 0, .int .i64 a] 23 rfl).new [.int .i64 j, .int .i64 b] 23 (by simp))
  go_enter Tryd.func18, Tryd.ntmps18
  go_wp2_with fail
  refine (X.out _ (hL.out _ K0.out.1)).mono ?_
  rintro e W1 ⟨rfl, hb⟩
  have K1 : Hid (BS w [(w.heap.size + 1, [.int .i64 j, .int .i64 b]), (w.heap.size, [.int .i64 0, .int .i64 a])] W1) := K0.out.below hb
  clear hb K0
  have c1_0_0 : W1.cell? ⟨w.heap.size + 1, 0, none⟩ = some (.int .i64 j) := (K1.out.at (w.heap.size + 1) [.int .i64 j, .int .i64 b] (by simp)).c 0 rfl
  have c1_0_1 : W1.cell? ⟨w.heap.size + 1, 1, none⟩ = some (.int .i64 b) := (K1.out.at (w.heap.size + 1) [.int .i64 j, .int .i64 b] (by simp)).c 1 rfl
  have c1_1_0 : W1.cell? ⟨w.heap.size, 0, none⟩ = some (.int .i64 0) := (K1.out.at (w.heap.size) [.int .i64 0, .int .i64 a] (by simp)).c 0 rfl
  have c1_1_1 : W1.cell? ⟨w.heap.size, 1, none⟩ = some (.int .i64 a) := (K1.out.at (w.heap.size) [.int .i64 0, .int .i64 a] (by simp)).c 1 rfl
  go_wp2_with fail
  refine (Y.out _ (hL.out _ K1.out.1)).mono ?_
  rintro e W2 ⟨rfl, hb⟩
  have K2 : Hid (BS w [(w.heap.size + 1, [.int .i64 j, .int .i64 b]), (w.heap.size, [.int .i64 0, .int .i64 a])] W2) := K1.out.below hb
  clear c1_0_0 c1_0_1 c1_1_0 c1_1_1
  clear hb K1
  have c2_0_0 : W2.cell? ⟨w.heap.size + 1, 0, none⟩ = some (.int .i64 j) := (K2.out.at (w.heap.size + 1) [.int .i64 j, .int .i64 b] (by simp)).c 0 rfl
  have c2_0_1 : W2.cell? ⟨w.heap.size + 1, 1, none⟩ = some (.int .i64 b) := (K2.out.at (w.heap.size + 1) [.int .i64 j, .int .i64 b] (by simp)).c 1 rfl
  have c2_1_0 : W2.cell? ⟨w.heap.size, 0, none⟩ = some (.int .i64 0) := (K2.out.at (w.heap.size) [.int .i64 0, .int .i64 a] (by simp)).c 0 rfl
  have c2_1_1 : W2.cell? ⟨w.heap.size, 1, none⟩ = some (.int .i64 a) := (K2.out.at (w.heap.size) [.int .i64 0, .int .i64 a] (by simp)).c 1 rfl
  go_wp2
  exact bodyPost_ret (v := .tuple #[.int .i64 0, .int .i64 10]) (by simp [results, Tryd.results18, go_sem]) rfl ⟨rfl, K2.out.1⟩

set_option maxRecDepth 100000 in
set_option maxHeartbeats 4000000 in
theorem dsub_yes (a b v e : Int)
    (X : Hid (∀ w : World, Cvl.Lens w → Calls Tryd.prog 13 #[.agg #[.int .i64 0, .int .i64 a]] w fun r' w' => r' = .returned (.bool true) ∧ Below w.heap.size w w'))
    (Y : Hid (∀ w : World, Cvl.Lens w → Calls Tryd.prog 13 #[.agg #[.int .i64 0, .int .i64 b]] w fun r' w' => r' = .returned (.bool true) ∧ Below w.heap.size w w'))
    (S : Hid (∀ w : World, Calls Tryd.prog 45 #[.int .i64 a, .int .i64 b] w fun r' w' => r' = .returned (.tuple #[.int .i64 v, .int .i64 e]) ∧ w' = w))
    (w : World) (hL : Hid (∀ W : World, Below w.heap.size w W → Cvl.Lens W)) :
    Calls Tryd.prog 18 #[.agg #[.int .i64 0, .int .i64 a], .agg #[.int .i64 0, .int .i64 b]] w fun r' w' => r' = .returned (.tuple #[.int .i64 v, .int .i64 e]) ∧ Below w.heap.size w w' := by
  have K0 : Hid (BS w [(w.heap.size + 1, [.int .i64 0, .int .i64 b]), (w.heap.size, [.int .i64 0, .int .i64 a])] ((w.alloc (.cells #[.int .i64 0, .int .i64 a] 23)).alloc (.cells #[.int .i64 0, .int .i64 b] 23))) := (((BS.start w).new [.int .i64 0, .int .i64 a] 23 rfl).new [.int .i64 0, .int .i64 b] 23 (by simp))
  go_enter Tryd.func18, Tryd.ntmps18
  go_wp2_with fail
  refine (X.out _ (hL.out _ K0.out.1)).mono ?_
  rintro e W1 ⟨rfl, hb⟩
  have K1 : Hid (BS w [(w.heap.size + 1, [.int .i64 0, .int .i64 b]), (w.heap.size, [.int .i64 0, .int .i64 a])] W1) := K0.out.below hb
  clear hb K0
  have c1_0_0 : W1.cell? ⟨w.heap.size + 1, 0, none⟩ = some (.int .i64 0) := (K1.out.at (w.heap.size + 1) [.int .i64 0, .int .i64 b] (by simp)).c 0 rfl
  have c1_0_1 : W1.cell? ⟨w.heap.size + 1, 1, none⟩ = some (.int .i64 b) := (K1.out.at (w.heap.size + 1) [.int .i64 0, .int .i64 b] (by simp)).c 1 rfl
  have c1_1_0 : W1.cell? ⟨w.heap.size, 0, none⟩ = some (.int .i64 0) := (K1.out.at (w.heap.size) [.int .i64 0, .int .i64 a] (by simp)).c 0 rfl
  have c1_1_1 : W1.cell? ⟨w.heap.size, 1, none⟩ = some (.int .i64 a) := (K1.out.at (w.heap.size) [.int .i64 0, .int .i64 a] (by simp)).c 1 rfl
  go_wp2_with fail
  refine (Y.out _ (hL.out _ K1.out.1)).mono ?_
  rintro e W2 ⟨rfl, hb⟩
  have K2 : Hid (BS w [(w.heap.size + 1, [.int .i64 0, .int .i64 b]), (w.heap.size, [.int .i64 0, .int .i64 a])] W2) := K1.out.below hb
  clear c1_0_0 c1_0_1 c1_1_0 c1_1_1
  clear hb K1
  have c2_0_0 : W2.cell? ⟨w.heap.size + 1, 0, none⟩ = some (.int .i64 0) := (K2.out.at (w.heap.size + 1) [.int .i64 0, .int .i64 b] (by simp)).c 0 rfl
  have c2_0_1 : W2.cell? ⟨w.heap.size + 1, 1, none⟩ = some (.int .i64 b) := (K2.out.at (w.heap.size + 1) [.int .i64 0, .int .i64 b] (by simp)).c 1 rfl
  have c2_1_0 : W2.cell? ⟨w.heap.size, 0, none⟩ = some (.int .i64 0) := (K2.out.at (w.heap.size) [.int .i64 0, .int .i64 a] (by simp)).c 0 rfl
  have c2_1_1 : W2.cell? ⟨w.heap.size, 1, none⟩ = some (.int .i64 a) := (K2.out.at (w.heap.size) [.int .i64 0, .int .i64 a] (by simp)).c 1 rfl
  go_wp2_with fail
  refine (S.out _).mono ?_
  rintro e W3 ⟨rfl, rfl⟩
  go_wp2
  exact bodyPost_ret (v := .tuple #[.int .i64 v, .int .i64 e]) (by simp [results, Tryd.results18, go_sem]) rfl ⟨rfl, K2.out.1⟩

set_option maxRecDepth 100000 in
set_option maxHeartbeats 4000000 in
theorem rsub_no1 (i a j b : Int)
    (X : Hid (∀ w : World, Calls Tryd.prog 14 #[.agg #[.int .i64 i, .int .i64 a]] w fun r' w' => r' = .returned (.bool false) ∧ Below w.heap.size w w'))
    (w : World) :
    Calls Tryd.prog 19 #[.agg #[.int .i64 i, .int .i64 a], .agg #[.int .i64 j, .int .i64 b]] w fun r' w' => r' = .returned (.tuple #[.int .i64 0, .int .i64 1]) ∧ Below w.heap.size w w' := by
  have K0 : Hid (BS w [(w.heap.size + 1, [.int .i64 j, .int .i64 b]), (w.heap.size, [.int .i64 i, .int .i64 a])] ((w.alloc (.cells #[.int .i64 i, .int .i64 a] 23)).alloc (.cells #[.int .i64 j, .int .i64 b] 23))) := (((BS.start w).new [.int .i64 i, .int .i64 a] 23 rfl).new [.int .i64 j, .int .i64 b] 23 (by simp))
  go_enter Tryd.func19, Tryd.ntmps19
  go_wp2_with fail
  refine (X.out _).mono ?_
  rintro e W1 ⟨rfl, hb⟩
  have K1 : Hid (BS w [(w.heap.size + 1, [.int .i64 j, .int .i64 b]), (w.heap.size, [.int .i64 i, .int .i64 a])] W1) := K0.out.below hb
  clear hb K0
  have c1_0_0 : W1.cell? ⟨w.heap.size + 1, 0, none⟩ = some (.int .i64 j) := (K1.out.at (w.heap.size + 1) [.int .i64 j, .int .i64 b] (by simp)).c 0 rfl
  have c1_0_1 : W1.cell? ⟨w.heap.size + 1, 1, none⟩ = some (.int .i64 b) := (K1.out.at (w.heap.size + 1) [.int .i64 j, .int .i64 b] (by simp)).c 1 rfl
  have c1_1_0 : W1.cell? ⟨w.heap.size, 0, none⟩ = some (.int .i64 i) := (K1.out.at (w.heap.size) [.int .i64 i, .int .i64 a] (by simp)).c 0 rfl
  have c1_1_1 : W1.cell? ⟨w.heap.size, 1, none⟩ = some (.int .i64 a) := (K1.out.at (w.heap.size) [.int .i64 i, .int .i64 a] (by simp)).c 1 rfl
  go_wp2
  exact bodyPost_ret (v := .tuple #[.int .i64 0, .int .i64 1]) (by simp [results, Tryd.results19, go_sem]) rfl ⟨rfl, K1.out.1⟩

set_option maxRecDepth 100000 in
set_option maxHeartbeats 4000000 in
theorem rsub_no2 (i a j b : Int)
    (X : Hid (∀ w : World, Calls Tryd.prog 14 #[.agg #[.int .i64 i, .int .i64 a]] w fun r' w' => r' = .returned (.bool true) ∧ Below w.heap.size w w'))
    (Y : Hid (∀ w : World, Calls Tryd.prog 14 #[.agg #[.int .i64 j, .int .i64 b]] w fun r' w' => r' = .returned (.bool false) ∧ Below w.heap.size w w'))
    (w : World) :
    Calls Tryd.prog 19 #[.agg #[.int .i64 i, .int .i64 a], .agg #[.int .i64 j, .int .i64 b]] w fun r' w' => r' = .returned (.tuple #[.int .i64 0, .int .i64 1]) ∧ Below w.heap.size w w' := by
  have K0 : Hid (BS w [(w.heap.size + 1, [.int .i64 j, .int .i64 b]), (w.heap.size, [.int .i64 i, .int .i64 a])] ((w.alloc (.cells #[.int .i64 i, .int .i64 a] 23)).alloc (.cells #[.int .i64 j, .int .i64 b] 23))) := (((BS.start w).new [.int .i64 i, .int .i64 a] 23 rfl).new [.int .i64 j, .int .i64 b] 23 (by simp))
  go_enter Tryd.func19, Tryd.ntmps19
  go_wp2_with fail
  refine (X.out _).mono ?_
  rintro e W1 ⟨rfl, hb⟩
  have K1 : Hid (BS w [(w.heap.size + 1, [.int .i64 j, .int .i64 b]), (w.heap.size, [.int .i64 i, .int .i64 a])] W1) := K0.out.below hb
  clear hb K0
  have c1_0_0 : W1.cell? ⟨w.heap.size + 1, 0, none⟩ = some (.int .i64 j) := (K1.out.at (w.heap.size + 1) [.int .i64 j, .int .i64 b] (by simp)).c 0 rfl
  have c1_0_1 : W1.cell? ⟨w.heap.size + 1, 1, none⟩ = some (.int .i64 b) := (K1.out.at (w.heap.size + 1) [.int .i64 j, .int .i64 b] (by simp)).c 1 rfl
  have c1_1_0 : W1.cell? ⟨w.heap.size, 0, none⟩ = some (.int .i64 i) := (K1.out.at (w.heap.size) [.int .i64 i, .int .i64 a] (by simp)).c 0 rfl
  have c1_1_1 : W1.cell? ⟨w.heap.size, 1, none⟩ = some (.int .i64 a) := (K1.out.at (w.heap.size) [.int .i64 i, .int .i64 a] (by simp)).c 1 rfl
  go_wp2_with fail
  refine (Y.out _).mono ?_
  rintro e W2 ⟨rfl, hb⟩
  have K2 : Hid (BS w [(w.heap.size + 1, [.int .i64 j, .int .i64 b]), (w.heap.size, [.int .i64 i, .int .i64 a])] W2) := K1.out.below hb
  clear c1_0_0 c1_0_1 c1_1_0 c1_1_1
  clear hb K1
  have c2_0_0 : W2.cell? ⟨w.heap.size + 1, 0, none⟩ = some (.int .i64 j) := (K2.out.at (w.heap.size + 1) [.int .i64 j, .int .i64 b] (by simp)).c 0 rfl
  have c2_0_1 : W2.cell? ⟨w.heap.size + 1, 1, none⟩ = some (.int .i64 b) := (K2.out.at (w.heap.size + 1) [.int .i64 j, .int .i64 b] (by simp)).c 1 rfl
  have c2_1_0 : W2.cell? ⟨w.heap.size, 0, none⟩ = some (.int .i64 i) := (K2.out.at (w.heap.size) [.int .i64 i, .int .i64 a] (by simp)).c 0 rfl
  have c2_1_1 : W2.cell? ⟨w.heap.size, 1, none⟩ = some (.int .i64 a) := (K2.out.at (w.heap.size) [.int .i64 i, .int .i64 a] (by simp)).c 1 rfl
  go_wp2
  exact bodyPost_ret (v := .tuple #[.int .i64 0, .int .i64 1]) (by simp [results, Tryd.results19, go_sem]) rfl ⟨rfl, K2.out.1⟩

set_option maxRecDepth 100000 in
set_option maxHeartbeats 4000000 in
theorem rsub_inf1 (i a j b : Int) (hi : i ≠ 0)
    (X : Hid (∀ w : World, Calls Tryd.prog 14 #[.agg #[.int .i64 i, .int .i64 a]] w fun r' w' => r' = .returned (.bool true) ∧ Below w.heap.size w w'))
    (Y : Hid (∀ w : World, Calls Tryd.prog 14 #[.agg #[.int .i64 j, .int .i64 b]] w fun r' w' => r' = .returned (.bool true) ∧ Below w.heap.size w w'))
    (w : World) :
    Calls Tryd.prog 19 #[.agg #[.int .i64 i, .int .i64 a], .agg #[.int .i64 j, .int .i64 b]] w fun r' w' => r' = .returned (.tuple #[.int .i64 0, .int .i64 10]) ∧ Below w.heap.size w w' := by
  have i1 : (i != 0) = true := bne_iff_ne.2 hi
  have K0 : Hid (BS w [(w.heap.size + 1, [.int .i64 j, .int .i64 b]), (w.heap.size, [.int .i64 i, .int .i64 a])] ((w.alloc (.cells #[.int .i64 i, .int .i64 a] 23)).alloc (.cells #[.int .i64 j, .int .i64 b] 23))) := (((BS.start w).new [.int .i64 i, .int .i64 a] 23 rfl).new [.int .i64 j, .int .i64 b] 23 (by simp))
  go_enter Tryd.func19, Tryd.ntmps19
  go_wp2_with fail
  refine (X.out _).mono ?_
  rintro e W1 ⟨rfl, hb⟩
  have K1 : Hid (BS w [(w.heap.size + 1, [.int .i64 j, .int .i64 b]), (w.heap.size, [.int .i64 i, .int .i64 a])] W1) := K0.out.below hb
  clear hb K0
  have c1_0_0 : W1.cell? ⟨w.heap.size + 1, 0, none⟩ = some (.int .i64 j) := (K1.out.at (w.heap.size + 1) [.int .i64 j, .int .i64 b] (by simp)).c 0 rfl
  have c1_0_1 : W1.cell? ⟨w.heap.size + 1, 1, none⟩ = some (.int .i64 b) := (K1.out.at (w.heap.size + 1) [.int .i64 j, .int .i64 b] (by simp)).c 1 rfl
  have c1_1_0 : W1.cell? ⟨w.heap.size, 0, none⟩ = some (.int .i64 i) := (K1.out.at (w.heap.size) [.int .i64 i, .int .i64 a] (by simp)).c 0 rfl
  have c1_1_1 : W1.cell? ⟨w.heap.size, 1, none⟩ = some (.int .i64 a) := (K1.out.at (w.heap.size) [.int .i64 i, .int .i64 a] (by simp)).c 1 rfl
  go_wp2_with fail
  refine (Y.out _).mono ?_
  rintro e W2 ⟨rfl, hb⟩
  have K2 : Hid (BS w [(w.heap.size + 1, [.int .i64 j, .int .i64 b]), (w.heap.size, [.int .i64 i, .int .i64 a])] W2) := K1.out.below hb
  clear c1_0_0 c1_0_1 c1_1_0 c1_1_1
  clear hb K1
  have c2_0_0 : W2.cell? ⟨w.heap.size + 1, 0, none⟩ = some (.int .i64 j) := (K2.out.at (w.heap.size + 1) [.int .i64 j, .int .i64 b] (by simp)).c 0 rfl
  have c2_0_1 : W2.cell? ⟨w.heap.size + 1, 1, none⟩ = some (.int .i64 b) := (K2.out.at (w.heap.size + 1) [.int .i64 j, .int .i64 b] (by simp)).c 1 rfl
  have c2_1_0 : W2.cell? ⟨w.heap.size, 0, none⟩ = some (.int .i64 i) := (K2.out.at (w.heap.size) [.int .i64 i, .int .i64 a] (by simp)).c 0 rfl
  have c2_1_1 : W2.cell? ⟨w.heap.size, 1, none⟩ = some (.int .i64 a) := (K2.out.at (w.heap.size) [.int .i64 i, .int .i64 a] (by simp)).c 1 rfl
  go_wp2
  exact bodyPost_ret (v := .tuple #[.int .i64 0, .int .i64 10]) (by simp [results, Tryd.results19, go_sem]) rfl ⟨rfl, K2.out.1⟩

set_option maxRecDepth 100000 in
set_option maxHeartbeats 4000000 in
theorem rsub_inf2 (a j b : Int) (hj : j ≠ 0)
    (X : Hid (∀ w : World, Calls Tryd.prog 14 #[.agg #[.int .i64 0, .int .i64 a]] w fun r' w' => r' = .returned (.bool true) ∧ Below w.heap.size w w'))
    (Y : Hid (∀ w : World, Calls Tryd.prog 14 #[.agg #[.int .i64 j, .int .i64 b]] w fun r' w' => r' = .returned (.bool true) ∧ Below w.heap.size w w'))
    (w : World) :
    Calls Tryd.prog 19 #[.agg #[.int .i64 0, .int .i64 a], .agg #[.int .i64 j, .int .i64 b]] w fun r' w' => r' = .returned (.tuple #[.int .i64 0, .int .i64 10]) ∧ Below w.heap.size w w' := by
  have j1 : (j != 0) = true := bne_iff_ne.2 hj
  have K0 : Hid (BS w [(w.heap.size + 1, [.int .i64 j, .int .i64 b]), (w.heap.size, [.int .i64 0, .int .i64 a])] ((w.alloc (.cells #[.int .i64 0, .int .i64 a] 23)).alloc (.cells #[.int .i64 j, .int .i64 b] 23))) := (((BS.start w).new [.int .i64 0, .int .i64 a] 23 rfl).new [.int .i64 j, .int .i64 b] 23 (by simp))
  go_enter Tryd.func19, Tryd.ntmps19
  go_wp2_with fail
  refine (X.out _).mono ?_
  rintro e W1 ⟨rfl, hb⟩
  have K1 : Hid (BS w [(w.heap.size + 1, [.int .i64 j, .int .i64 b]), (w.heap.size, [.int .i64 0, .int .i64 a])] W1) := K0.out.below hb
  clear hb K0
  have c1_0_0 : W1.cell? ⟨w.heap.size + 1, 0, none⟩ = some (.int .i64 j) := (K1.out.at (w.heap.size + 1) [.int .i64 j, .int .i64 b] (by simp)).c 0 rfl
  have c1_0_1 : W1.cell? ⟨w.heap.size + 1, 1, none⟩ = some (.int .i64 b) := (K1.out.at (w.heap.size + 1) [.int .i64 j, .int .i64 b] (by simp)).c 1 rfl
  have c1_1_0 : W1.cell? ⟨w.heap.size, 0, none⟩ = some (.int .i64 0) := (K1.out.at (w.heap.size) [.int .i64 0, .int .i64 a] (by simp)).c 0 rfl
  have c1_1_1 : W1.cell? ⟨w.heap.size, 1, none⟩ = some (.int .i64 a) := (K1.out.at (w.heap.size) [.int .i64 0, .int .i64 a] (by simp)).c 1 rfl
  go_wp2_with fail
  refine (Y.out _).mono ?_
  rintro e W2 ⟨rfl, hb⟩
  have K2 : Hid (BS w [(w.heap.size + 1, [.int .i64 j, .int .i64 b]), (w.heap.size, [.int .i64 0, .int .i64 a])] W2) := K1.out.below hb
  clear c1_0_0 c1_0_1 c1_1_0 c1_1_1
  clear hb K1
  have c2_0_0 : W2.cell? ⟨w.heap.size + 1, 0, none⟩ = some (.int .i64 j) := (K2.out.at (w.heap.size + 1) [.int .i64 j, .int .i64 b] (by simp)).c 0 rfl
  have c2_0_1 : W2.cell? ⟨w.heap.size + 1, 1, none⟩ = some (.int .i64 b) := (K2.out.at (w.heap.size + 1) [.int .i64 j, .int .i64 b] (by simp)).c 1 rfl
  have c2_1_0 : W2.cell? ⟨w.heap.size, 0, none⟩ = some (.int .i64 0) := (K2.out.at (w.heap.size) [.int .i64 0, .int .i64 a] (by simp)).c 0 rfl
  have c2_1_1 : W2.cell? ⟨w.heap.size, 1, none⟩ = some (.int .i64 a) := (K2.out.at (w.heap.size) [.int .i64 0, .int .i64 a] (by simp)).c 1 rfl
  go_wp2
  exact bodyPost_ret (v := .tuple #[.int .i64 0, .int .i64 10]) (by simp [results, Tryd.results19, go_sem]) rfl ⟨rfl, K2.out.1⟩

set_option maxRecDepth 100000 in
set_option maxHeartbeats 4000000 in
theorem rsub_yes (a b : Int) (a1 : -2451507 ≤ a) (a2 : a ≤ 106751982) (b1 : -2451507 ≤ b) (b2 : b ≤ 106751982)
    (X : Hid (∀ w : World, Calls Tryd.prog 14 #[.agg #[.int .i64 0, .int .i64 a]] w fun r' w' => r' = .returned (.bool true) ∧ Below w.heap.size w w'))
    (Y : Hid (∀ w : World, Calls Tryd.prog 14 #[.agg #[.int .i64 0, .int .i64 b]] w fun r' w' => r' = .returned (.bool true) ∧ Below w.heap.size w w'))
    (w : World) :
    Calls Tryd.prog 19 #[.agg #[.int .i64 0, .int .i64 a], .agg #[.int .i64 0, .int .i64 b]] w fun r' w' => r' = .returned (.tuple #[.int .i64 (a - b), .int .i64 0]) ∧ Below w.heap.size w w' := by
  have K0 : Hid (BS w [(w.heap.size + 1, [.int .i64 0, .int .i64 b]), (w.heap.size, [.int .i64 0, .int .i64 a])] ((w.alloc (.cells #[.int .i64 0, .int .i64 a] 23)).alloc (.cells #[.int .i64 0, .int .i64 b] 23))) := (((BS.start w).new [.int .i64 0, .int .i64 a] 23 rfl).new [.int .i64 0, .int .i64 b] 23 (by simp))
  go_enter Tryd.func19, Tryd.ntmps19
  go_wp2_with fail
  refine (X.out _).mono ?_
  rintro e W1 ⟨rfl, hb⟩
  have K1 : Hid (BS w [(w.heap.size + 1, [.int .i64 0, .int .i64 b]), (w.heap.size, [.int .i64 0, .int .i64 a])] W1) := K0.out.below hb
  clear hb K0
  have c1_0_0 : W1.cell? ⟨w.heap.size + 1, 0, none⟩ = some (.int .i64 0) := (K1.out.at (w.heap.size + 1) [.int .i64 0, .int .i64 b] (by simp)).c 0 rfl
  have c1_0_1 : W1.cell? ⟨w.heap.size + 1, 1, none⟩ = some (.int .i64 b) := (K1.out.at (w.heap.size + 1) [.int .i64 0, .int .i64 b] (by simp)).c 1 rfl
  have c1_1_0 : W1.cell? ⟨w.heap.size, 0, none⟩ = some (.int .i64 0) := (K1.out.at (w.heap.size) [.int .i64 0, .int .i64 a] (by simp)).c 0 rfl
  have c1_1_1 : W1.cell? ⟨w.heap.size, 1, none⟩ = some (.int .i64 a) := (K1.out.at (w.heap.size) [.int .i64 0, .int .i64 a] (by simp)).c 1 rfl
  go_wp2_with fail
  refine (Y.out _).mono ?_
  rintro e W2 ⟨rfl, hb⟩
  have K2 : Hid (BS w [(w.heap.size + 1, [.int .i64 0, .int .i64 b]), (w.heap.size, [.int .i64 0, .int .i64 a])] W2) := K1.out.below hb
  clear c1_0_0 c1_0_1 c1_1_0 c1_1_1
  clear hb K1
  have c2_0_0 : W2.cell? ⟨w.heap.size + 1, 0, none⟩ = some (.int .i64 0) := (K2.out.at (w.heap.size + 1) [.int .i64 0, .int .i64 b] (by simp)).c 0 rfl
  have c2_0_1 : W2.cell? ⟨w.heap.size + 1, 1, none⟩ = some (.int .i64 b) := (K2.out.at (w.heap.size + 1) [.int .i64 0, .int .i64 b] (by simp)).c 1 rfl
  have c2_1_0 : W2.cell? ⟨w.heap.size, 0, none⟩ = some (.int .i64 0) := (K2.out.at (w.heap.size) [.int .i64 0, .int .i64 a] (by simp)).c 0 rfl
  have c2_1_1 : W2.cell? ⟨w.heap.size, 1, none⟩ = some (.int .i64 a) := (K2.out.at (w.heap.size) [.int .i64 0, .int .i64 a] (by simp)).c 1 rfl
  go_wp2
  exact bodyPost_ret (v := .tuple #[.int .i64 (a - b), .int .i64 0]) (by simp [results, Tryd.results19, go_sem]) rfl ⟨rfl, K2.out.1⟩

/-- which comes first. -/
def ordV (i j a b : Int) : Int := if i < j ∨ i = j ∧ a < b then -1 else if j < i ∨ b < a then 1 else 0

set_option maxRecDepth 100000 in
set_option maxHeartbeats 4000000 in
theorem order_1 (i j a b : Int) (h : i < j)
    (w : World) :
    Calls Tryd.prog 48 #[.int .i64 i, .int .i64 j, .int .i64 a, .int .i64 b] w fun r' w' => r' = .returned (.int .i64 (-1)) ∧ w' = w := by
  go_enter Tryd.func48, Tryd.ntmps48
  go_wp2
  go_ret
  exact ⟨rfl, rfl⟩

set_option maxRecDepth 100000 in
set_option maxHeartbeats 4000000 in
theorem order_2 (i j a b : Int) (h : i = j) (g : a < b)
    (w : World) :
    Calls Tryd.prog 48 #[.int .i64 i, .int .i64 j, .int .i64 a, .int .i64 b] w fun r' w' => r' = .returned (.int .i64 (-1)) ∧ w' = w := by
  subst h
  go_enter Tryd.func48, Tryd.ntmps48
  go_wp2
  go_ret
  exact ⟨rfl, rfl⟩

set_option maxRecDepth 100000 in
set_option maxHeartbeats 4000000 in
theorem order_3 (i j a b : Int) (h : j < i)
    (w : World) :
    Calls Tryd.prog 48 #[.int .i64 i, .int .i64 j, .int .i64 a, .int .i64 b] w fun r' w' => r' = .returned (.int .i64 (1)) ∧ w' = w := by
  have h1 : ¬ i < j := by omega
  have h2 : (i == j) = false := by simp; omega
  go_enter Tryd.func48, Tryd.ntmps48
  go_wp2
  go_ret
  exact ⟨rfl, rfl⟩

set_option maxRecDepth 100000 in
set_option maxHeartbeats 4000000 in
theorem order_4 (i j a b : Int) (h : i = j) (g : b < a)
    (w : World) :
    Calls Tryd.prog 48 #[.int .i64 i, .int .i64 j, .int .i64 a, .int .i64 b] w fun r' w' => r' = .returned (.int .i64 (1)) ∧ w' = w := by
  subst h
  have g1 : ¬ a < b := by omega
  go_enter Tryd.func48, Tryd.ntmps48
  go_wp2
  go_ret
  exact ⟨rfl, rfl⟩

set_option maxRecDepth 100000 in
set_option maxHeartbeats 4000000 in
theorem order_5 (i j a b : Int) (h : i = j) (g : a = b)
    (w : World) :
    Calls Tryd.prog 48 #[.int .i64 i, .int .i64 j, .int .i64 a, .int .i64 b] w fun r' w' => r' = .returned (.int .i64 (0)) ∧ w' = w := by
  subst h
  subst g
  go_enter Tryd.func48, Tryd.ntmps48
  go_wp2
  go_ret
  exact ⟨rfl, rfl⟩

theorem order_any (i j a b : Int) (w : World) : Calls Tryd.prog 48 #[.int .i64 i, .int .i64 j, .int .i64 a, .int .i64 b] w fun r w' => r = .returned (.int .i64 (ordV i j a b)) ∧ w' = w := by
  unfold ordV
  by_cases h : i < j
  · rw [if_pos (.inl h)]; exact order_1 i j a b h w
  · by_cases g : i = j
    · by_cases k : a < b
      · rw [if_pos (.inr ⟨g, k⟩)]; exact order_2 i j a b g k w
      · rw [if_neg (by omega)]
        by_cases l : b < a
        · rw [if_pos (.inr l)]; exact order_4 i j a b g l w
        · rw [if_neg (by omega)]; exact order_5 i j a b g (by omega) w
    · rw [if_neg (by omega), if_pos (by omega)]; exact order_3 i j a b (by omega) w

set_option maxRecDepth 100000 in
set_option maxHeartbeats 4000000 in
theorem dcmp_no1 (i a j b : Int)
    (X : Hid (∀ w : World, Cvl.Lens w → Calls Tryd.prog 13 #[.agg #[.int .i64 i, .int .i64 a]] w fun r' w' => r' = .returned (.bool false) ∧ Below w.heap.size w w'))
    (w : World) (hL : Hid (∀ W : World, Below w.heap.size w W → Cvl.Lens W)) :
    Calls Tryd.prog 22 #[.agg #[.int .i64 i, .int .i64 a], .agg #[.int .i64 j, .int .i64 b]] w fun r' w' => r' = .returned (.int .i64 0) ∧ Below w.heap.size w w' := by
  have K0 : Hid (BS w [(w.heap.size + 1, [.int .i64 j, .int .i64 b]), (w.heap.size, [.int .i64 i, .int .i64 a])] ((w.alloc (.cells #[.int .i64 i, .int .i64 a] 23)).alloc (.cells #[.int .i64 j, .int .i64 b] 23))) := (((BS.start w).new [.int .i64 i, .int .i64 a] 23 rfl).new [.int .i64 j, .int .i64 b] 23 (by simp))
  go_enter Tryd.func22, Tryd.ntmps22
  go_wp2_with fail
  refine (X.out _ (hL.out _ K0.out.1)).mono ?_
  rintro e W1 ⟨rfl, hb⟩
  have K1 : Hid (BS w [(w.heap.size + 1, [.int .i64 j, .int .i64 b]), (w.heap.size, [.int .i64 i, .int .i64 a])] W1) := K0.out.below hb
  clear hb K0
  have c1_0_0 : W1.cell? ⟨w.heap.size + 1, 0, none⟩ = some (.int .i64 j) := (K1.out.at (w.heap.size + 1) [.int .i64 j, .int .i64 b] (by simp)).c 0 rfl
  have c1_0_1 : W1.cell? ⟨w.heap.size + 1, 1, none⟩ = some (.int .i64 b) := (K1.out.at (w.heap.size + 1) [.int .i64 j, .int .i64 b] (by simp)).c 1 rfl
  have c1_1_0 : W1.cell? ⟨w.heap.size, 0, none⟩ = some (.int .i64 i) := (K1.out.at (w.heap.size) [.int .i64 i, .int .i64 a] (by simp)).c 0 rfl
  have c1_1_1 : W1.cell? ⟨w.heap.size, 1, none⟩ = some (.int .i64 a) := (K1.out.at (w.heap.size) [.int .i64 i, .int .i64 a] (by simp)).c 1 rfl
  go_wp2
  go_ret
  exact ⟨rfl, K1.out.1⟩

set_option maxRecDepth 100000 in
set_option maxHeartbeats 4000000 in
theorem dcmp_no2 (i a j b : Int)
    (X : Hid (∀ w : World, Cvl.Lens w → Calls Tryd.prog 13 #[.agg #[.int .i64 i, .int .i64 a]] w fun r' w' => r' = .returned (.bool true) ∧ Below w.heap.size w w'))
    (Y : Hid (∀ w : World, Cvl.Lens w → Calls Tryd.prog 13 #[.agg #[.int .i64 j, .int .i64 b]] w fun r' w' => r' = .returned (.bool false) ∧ Below w.heap.size w w'))
    (w : World) (hL : Hid (∀ W : World, Below w.heap.size w W → Cvl.Lens W)) :
    Calls Tryd.prog 22 #[.agg #[.int .i64 i, .int .i64 a], .agg #[.int .i64 j, .int .i64 b]] w fun r' w' => r' = .returned (.int .i64 0) ∧ Below w.heap.size w w' := by
  have K0 : Hid (BS w [(w.heap.size + 1, [.int .i64 j, .int .i64 b]), (w.heap.size, [.int .i64 i, .int .i64 a])] ((w.alloc (.cells #[.int .i64 i, .int .i64 a] 23)).alloc (.cells #[.int .i64 j, .int .i64 b] 23))) := (((BS.start w).new [.int .i64 i, .int .i64 a] 23 rfl).new [.int .i64 j, .int .i64 b] 23 (by simp))
  go_enter Tryd.func22, Tryd.ntmps22
  go_wp2_with fail
  refine (X.out _ (hL.out _ K0.out.1)).mono ?_
  rintro e W1 ⟨rfl, hb⟩
  have K1 : Hid (BS w [(w.heap.size + 1, [.int .i64 j, .int .i64 b]), (w.heap.size, [.int .i64 i, .int .i64 a])] W1) := K0.out.below hb
  clear hb K0
  have c1_0_0 : W1.cell? ⟨w.heap.size + 1, 0, none⟩ = some (.int .i64 j) := (K1.out.at (w.heap.size + 1) [.int .i64 j, .int .i64 b] (by simp)).c 0 rfl
  have c1_0_1 : W1.cell? ⟨w.heap.size + 1, 1, none⟩ = some (.int .i64 b) := (K1.out.at (w.heap.size + 1) [.int .i64 j, .int .i64 b] (by simp)).c 1 rfl
  have c1_1_0 : W1.cell? ⟨w.heap.size, 0, none⟩ = some (.int .i64 i) := (K1.out.at (w.heap.size) [.int .i64 i, .int .i64 a] (by simp)).c 0 rfl
  have c1_1_1 : W1.cell? ⟨w.heap.size, 1, none⟩ = some (.int .i64 a) := (K1.out.at (w.heap.size) [.int .i64 i, .int .i64 a] (by simp)).c 1 rfl
  go_wp2_with fail
  refine (Y.out _ (hL.out _ K1.out.1)).mono ?_
  rintro e W2 ⟨rfl, hb⟩
  have K2 : Hid (BS w [(w.heap.size + 1, [.int .i64 j, .int .i64 b]), (w.heap.size, [.int .i64 i, .int .i64 a])] W2) := K1.out.below hb
  clear c1_0_0 c1_0_1 c1_1_0 c1_1_1
  clear hb K1
  have c2_0_0 : W2.cell? ⟨w.heap.size + 1, 0, none⟩ = some (.int .i64 j) := (K2.out.at (w.heap.size + 1) [.int .i64 j, .int .i64 b] (by simp)).c 0 rfl
  have c2_0_1 : W2.cell? ⟨w.heap.size + 1, 1, none⟩ = some (.int .i64 b) := (K2.out.at (w.heap.size + 1) [.int .i64 j, .int .i64 b] (by simp)).c 1 rfl
  have c2_1_0 : W2.cell? ⟨w.heap.size, 0, none⟩ = some (.int .i64 i) := (K2.out.at (w.heap.size) [.int .i64 i, .int .i64 a] (by simp)).c 0 rfl
  have c2_1_1 : W2.cell? ⟨w.heap.size, 1, none⟩ = some (.int .i64 a) := (K2.out.at (w.heap.size) [.int .i64 i, .int .i64 a] (by simp)).c 1 rfl
  go_wp2
  go_ret
  exact ⟨rfl, K2.out.1⟩

set_option maxRecDepth 100000 in
set_option maxHeartbeats 4000000 in
theorem dcmp_1 (i a j b : Int) (h : i < j)
    (X : Hid (∀ w : World, Cvl.Lens w → Calls Tryd.prog 13 #[.agg #[.int .i64 i, .int .i64 a]] w fun r' w' => r' = .returned (.bool true) ∧ Below w.heap.size w w'))
    (Y : Hid (∀ w : World, Cvl.Lens w → Calls Tryd.prog 13 #[.agg #[.int .i64 j, .int .i64 b]] w fun r' w' => r' = .returned (.bool true) ∧ Below w.heap.size w w'))
    (w : World) (hL : Hid (∀ W : World, Below w.heap.size w W → Cvl.Lens W)) :
    Calls Tryd.prog 22 #[.agg #[.int .i64 i, .int .i64 a], .agg #[.int .i64 j, .int .i64 b]] w fun r' w' => r' = .returned (.int .i64 (-1)) ∧ Below w.heap.size w w' := by
  have h2 : (i == j) = false := by simp; omega
  have K0 : Hid (BS w [(w.heap.size + 1, [.int .i64 j, .int .i64 b]), (w.heap.size, [.int .i64 i, .int .i64 a])] ((w.alloc (.cells #[.int .i64 i, .int .i64 a] 23)).alloc (.cells #[.int .i64 j, .int .i64 b] 23))) := (((BS.start w).new [.int .i64 i, .int .i64 a] 23 rfl).new [.int .i64 j, .int .i64 b] 23 (by simp))
  go_enter Tryd.func22, Tryd.ntmps22
  go_wp2_with fail
  refine (X.out _ (hL.out _ K0.out.1)).mono ?_
  rintro e W1 ⟨rfl, hb⟩
  have K1 : Hid (BS w [(w.heap.size + 1, [.int .i64 j, .int .i64 b]), (w.heap.size, [.int .i64 i, .int .i64 a])] W1) := K0.out.below hb
  clear hb K0
  have c1_0_0 : W1.cell? ⟨w.heap.size + 1, 0, none⟩ = some (.int .i64 j) := (K1.out.at (w.heap.size + 1) [.int .i64 j, .int .i64 b] (by simp)).c 0 rfl
  have c1_0_1 : W1.cell? ⟨w.heap.size + 1, 1, none⟩ = some (.int .i64 b) := (K1.out.at (w.heap.size + 1) [.int .i64 j, .int .i64 b] (by simp)).c 1 rfl
  have c1_1_0 : W1.cell? ⟨w.heap.size, 0, none⟩ = some (.int .i64 i) := (K1.out.at (w.heap.size) [.int .i64 i, .int .i64 a] (by simp)).c 0 rfl
  have c1_1_1 : W1.cell? ⟨w.heap.size, 1, none⟩ = some (.int .i64 a) := (K1.out.at (w.heap.size) [.int .i64 i, .int .i64 a] (by simp)).c 1 rfl
  go_wp2_with fail
  refine (Y.out _ (hL.out _ K1.out.1)).mono ?_
  rintro e W2 ⟨rfl, hb⟩
  have K2 : Hid (BS w [(w.heap.size + 1, [.int .i64 j, .int .i64 b]), (w.heap.size, [.int .i64 i, .int .i64 a])] W2) := K1.out.below hb
  clear c1_0_0 c1_0_1 c1_1_0 c1_1_1
  clear hb K1
  have c2_0_0 : W2.cell? ⟨w.heap.size + 1, 0, none⟩ = some (.int .i64 j) := (K2.out.at (w.heap.size + 1) [.int .i64 j, .int .i64 b] (by simp)).c 0 rfl
  have c2_0_1 : W2.cell? ⟨w.heap.size + 1, 1, none⟩ = some (.int .i64 b) := (K2.out.at (w.heap.size + 1) [.int .i64 j, .int .i64 b] (by simp)).c 1 rfl
  have c2_1_0 : W2.cell? ⟨w.heap.size, 0, none⟩ = some (.int .i64 i) := (K2.out.at (w.heap.size) [.int .i64 i, .int .i64 a] (by simp)).c 0 rfl
  have c2_1_1 : W2.cell? ⟨w.heap.size, 1, none⟩ = some (.int .i64 a) := (K2.out.at (w.heap.size) [.int .i64 i, .int .i64 a] (by simp)).c 1 rfl
  go_wp2
  go_ret
  exact ⟨rfl, K2.out.1⟩

set_option maxRecDepth 100000 in
set_option maxHeartbeats 4000000 in
theorem dcmp_2 (i a b : Int) (g : a < b)
    (X : Hid (∀ w : World, Cvl.Lens w → Calls Tryd.prog 13 #[.agg #[.int .i64 i, .int .i64 a]] w fun r' w' => r' = .returned (.bool true) ∧ Below w.heap.size w w'))
    (Y : Hid (∀ w : World, Cvl.Lens w → Calls Tryd.prog 13 #[.agg #[.int .i64 i, .int .i64 b]] w fun r' w' => r' = .returned (.bool true) ∧ Below w.heap.size w w'))
    (w : World) (hL : Hid (∀ W : World, Below w.heap.size w W → Cvl.Lens W)) :
    Calls Tryd.prog 22 #[.agg #[.int .i64 i, .int .i64 a], .agg #[.int .i64 i, .int .i64 b]] w fun r' w' => r' = .returned (.int .i64 (-1)) ∧ Below w.heap.size w w' := by
  have h2 : (a == b) = false := by simp; omega
  have K0 : Hid (BS w [(w.heap.size + 1, [.int .i64 i, .int .i64 b]), (w.heap.size, [.int .i64 i, .int .i64 a])] ((w.alloc (.cells #[.int .i64 i, .int .i64 a] 23)).alloc (.cells #[.int .i64 i, .int .i64 b] 23))) := (((BS.start w).new [.int .i64 i, .int .i64 a] 23 rfl).new [.int .i64 i, .int .i64 b] 23 (by simp))
  go_enter Tryd.func22, Tryd.ntmps22
  go_wp2_with fail
  refine (X.out _ (hL.out _ K0.out.1)).mono ?_
  rintro e W1 ⟨rfl, hb⟩
  have K1 : Hid (BS w [(w.heap.size + 1, [.int .i64 i, .int .i64 b]), (w.heap.size, [.int .i64 i, .int .i64 a])] W1) := K0.out.below hb
  clear hb K0
  have c1_0_0 : W1.cell? ⟨w.heap.size + 1, 0, none⟩ = some (.int .i64 i) := (K1.out.at (w.heap.size + 1) [.int .i64 i, .int .i64 b] (by simp)).c 0 rfl
  have c1_0_1 : W1.cell? ⟨w.heap.size + 1, 1, none⟩ = some (.int .i64 b) := (K1.out.at (w.heap.size + 1) [.int .i64 i, .int .i64 b] (by simp)).c 1 rfl
  have c1_1_0 : W1.cell? ⟨w.heap.size, 0, none⟩ = some (.int .i64 i) := (K1.out.at (w.heap.size) [.int .i64 i, .int .i64 a] (by simp)).c 0 rfl
  have c1_1_1 : W1.cell? ⟨w.heap.size, 1, none⟩ = some (.int .i64 a) := (K1.out.at (w.heap.size) [.int .i64 i, .int .i64 a] (by simp)).c 1 rfl
  go_wp2_with fail
  refine (Y.out _ (hL.out _ K1.out.1)).mono ?_
  rintro e W2 ⟨rfl, hb⟩
  have K2 : Hid (BS w [(w.heap.size + 1, [.int .i64 i, .int .i64 b]), (w.heap.size, [.int .i64 i, .int .i64 a])] W2) := K1.out.below hb
  clear c1_0_0 c1_0_1 c1_1_0 c1_1_1
  clear hb K1
  have c2_0_0 : W2.cell? ⟨w.heap.size + 1, 0, none⟩ = some (.int .i64 i) := (K2.out.at (w.heap.size + 1) [.int .i64 i, .int .i64 b] (by simp)).c 0 rfl
  have c2_0_1 : W2.cell? ⟨w.heap.size + 1, 1, none⟩ = some (.int .i64 b) := (K2.out.at (w.heap.size + 1) [.int .i64 i, .int .i64 b] (by simp)).c 1 rfl
  have c2_1_0 : W2.cell? ⟨w.heap.size, 0, none⟩ = some (.int .i64 i) := (K2.out.at (w.heap.size) [.int .i64 i, .int .i64 a] (by simp)).c 0 rfl
  have c2_1_1 : W2.cell? ⟨w.heap.size, 1, none⟩ = some (.int .i64 a) := (K2.out.at (w.heap.size) [.int .i64 i, .int .i64 a] (by simp)).c 1 rfl
  go_wp2
  go_ret
  exact ⟨rfl, K2.out.1⟩

set_option maxRecDepth 100000 in
set_option maxHeartbeats 4000000 in
theorem dcmp_3 (i a j b : Int) (h : j < i)
    (X : Hid (∀ w : World, Cvl.Lens w → Calls Tryd.prog 13 #[.agg #[.int .i64 i, .int .i64 a]] w fun r' w' => r' = .returned (.bool true) ∧ Below w.heap.size w w'))
    (Y : Hid (∀ w : World, Cvl.Lens w → Calls Tryd.prog 13 #[.agg #[.int .i64 j, .int .i64 b]] w fun r' w' => r' = .returned (.bool true) ∧ Below w.heap.size w w'))
    (w : World) (hL : Hid (∀ W : World, Below w.heap.size w W → Cvl.Lens W)) :
    Calls Tryd.prog 22 #[.agg #[.int .i64 i, .int .i64 a], .agg #[.int .i64 j, .int .i64 b]] w fun r' w' => r' = .returned (.int .i64 (1)) ∧ Below w.heap.size w w' := by
  have h1 : ¬ i < j := by omega
  have h2 : (i == j) = false := by simp; omega
  have K0 : Hid (BS w [(w.heap.size + 1, [.int .i64 j, .int .i64 b]), (w.heap.size, [.int .i64 i, .int .i64 a])] ((w.alloc (.cells #[.int .i64 i, .int .i64 a] 23)).alloc (.cells #[.int .i64 j, .int .i64 b] 23))) := (((BS.start w).new [.int .i64 i, .int .i64 a] 23 rfl).new [.int .i64 j, .int .i64 b] 23 (by simp))
  go_enter Tryd.func22, Tryd.ntmps22
  go_wp2_with fail
  refine (X.out _ (hL.out _ K0.out.1)).mono ?_
  rintro e W1 ⟨rfl, hb⟩
  have K1 : Hid (BS w [(w.heap.size + 1, [.int .i64 j, .int .i64 b]), (w.heap.size, [.int .i64 i, .int .i64 a])] W1) := K0.out.below hb
  clear hb K0
  have c1_0_0 : W1.cell? ⟨w.heap.size + 1, 0, none⟩ = some (.int .i64 j) := (K1.out.at (w.heap.size + 1) [.int .i64 j, .int .i64 b] (by simp)).c 0 rfl
  have c1_0_1 : W1.cell? ⟨w.heap.size + 1, 1, none⟩ = some (.int .i64 b) := (K1.out.at (w.heap.size + 1) [.int .i64 j, .int .i64 b] (by simp)).c 1 rfl
  have c1_1_0 : W1.cell? ⟨w.heap.size, 0, none⟩ = some (.int .i64 i) := (K1.out.at (w.heap.size) [.int .i64 i, .int .i64 a] (by simp)).c 0 rfl
  have c1_1_1 : W1.cell? ⟨w.heap.size, 1, none⟩ = some (.int .i64 a) := (K1.out.at (w.heap.size) [.int .i64 i, .int .i64 a] (by simp)).c 1 rfl
  go_wp2_with fail
  refine (Y.out _ (hL.out _ K1.out.1)).mono ?_
  rintro e W2 ⟨rfl, hb⟩
  have K2 : Hid (BS w [(w.heap.size + 1, [.int .i64 j, .int .i64 b]), (w.heap.size, [.int .i64 i, .int .i64 a])] W2) := K1.out.below hb
  clear c1_0_0 c1_0_1 c1_1_0 c1_1_1
  clear hb K1
  have c2_0_0 : W2.cell? ⟨w.heap.size + 1, 0, none⟩ = some (.int .i64 j) := (K2.out.at (w.heap.size + 1) [.int .i64 j, .int .i64 b] (by simp)).c 0 rfl
  have c2_0_1 : W2.cell? ⟨w.heap.size + 1, 1, none⟩ = some (.int .i64 b) := (K2.out.at (w.heap.size + 1) [.int .i64 j, .int .i64 b] (by simp)).c 1 rfl
  have c2_1_0 : W2.cell? ⟨w.heap.size, 0, none⟩ = some (.int .i64 i) := (K2.out.at (w.heap.size) [.int .i64 i, .int .i64 a] (by simp)).c 0 rfl
  have c2_1_1 : W2.cell? ⟨w.heap.size, 1, none⟩ = some (.int .i64 a) := (K2.out.at (w.heap.size) [.int .i64 i, .int .i64 a] (by simp)).c 1 rfl
  go_wp2
  go_ret
  exact ⟨rfl, K2.out.1⟩

set_option maxRecDepth 100000 in
set_option maxHeartbeats 4000000 in
theorem dcmp_4 (i a b : Int) (g : b < a)
    (X : Hid (∀ w : World, Cvl.Lens w → Calls Tryd.prog 13 #[.agg #[.int .i64 i, .int .i64 a]] w fun r' w' => r' = .returned (.bool true) ∧ Below w.heap.size w w'))
    (Y : Hid (∀ w : World, Cvl.Lens w → Calls Tryd.prog 13 #[.agg #[.int .i64 i, .int .i64 b]] w fun r' w' => r' = .returned (.bool true) ∧ Below w.heap.size w w'))
    (w : World) (hL : Hid (∀ W : World, Below w.heap.size w W → Cvl.Lens W)) :
    Calls Tryd.prog 22 #[.agg #[.int .i64 i, .int .i64 a], .agg #[.int .i64 i, .int .i64 b]] w fun r' w' => r' = .returned (.int .i64 (1)) ∧ Below w.heap.size w w' := by
  have g1 : ¬ a < b := by omega
  have h2 : (a == b) = false := by simp; omega
  have K0 : Hid (BS w [(w.heap.size + 1, [.int .i64 i, .int .i64 b]), (w.heap.size, [.int .i64 i, .int .i64 a])] ((w.alloc (.cells #[.int .i64 i, .int .i64 a] 23)).alloc (.cells #[.int .i64 i, .int .i64 b] 23))) := (((BS.start w).new [.int .i64 i, .int .i64 a] 23 rfl).new [.int .i64 i, .int .i64 b] 23 (by simp))
  go_enter Tryd.func22, Tryd.ntmps22
  go_wp2_with fail
  refine (X.out _ (hL.out _ K0.out.1)).mono ?_
  rintro e W1 ⟨rfl, hb⟩
  have K1 : Hid (BS w [(w.heap.size + 1, [.int .i64 i, .int .i64 b]), (w.heap.size, [.int .i64 i, .int .i64 a])] W1) := K0.out.below hb
  clear hb K0
  have c1_0_0 : W1.cell? ⟨w.heap.size + 1, 0, none⟩ = some (.int .i64 i) := (K1.out.at (w.heap.size + 1) [.int .i64 i, .int .i64 b] (by simp)).c 0 rfl
  have c1_0_1 : W1.cell? ⟨w.heap.size + 1, 1, none⟩ = some (.int .i64 b) := (K1.out.at (w.heap.size + 1) [.int .i64 i, .int .i64 b] (by simp)).c 1 rfl
  have c1_1_0 : W1.cell? ⟨w.heap.size, 0, none⟩ = some (.int .i64 i) := (K1.out.at (w.heap.size) [.int .i64 i, .int .i64 a] (by simp)).c 0 rfl
  have c1_1_1 : W1.cell? ⟨w.heap.size, 1, none⟩ = some (.int .i64 a) := (K1.out.at (w.heap.size) [.int .i64 i, .int .i64 a] (by simp)).c 1 rfl
  go_wp2_with fail
  refine (Y.out _ (hL.out _ K1.out.1)).mono ?_
  rintro e W2 ⟨rfl, hb⟩
  have K2 : Hid (BS w [(w.heap.size + 1, [.int .i64 i, .int .i64 b]), (w.heap.size, [.int .i64 i, .int .i64 a])] W2) := K1.out.below hb
  clear c1_0_0 c1_0_1 c1_1_0 c1_1_1
  clear hb K1
  have c2_0_0 : W2.cell? ⟨w.heap.size + 1, 0, none⟩ = some (.int .i64 i) := (K2.out.at (w.heap.size + 1) [.int .i64 i, .int .i64 b] (by simp)).c 0 rfl
  have c2_0_1 : W2.cell? ⟨w.heap.size + 1, 1, none⟩ = some (.int .i64 b) := (K2.out.at (w.heap.size + 1) [.int .i64 i, .int .i64 b] (by simp)).c 1 rfl
  have c2_1_0 : W2.cell? ⟨w.heap.size, 0, none⟩ = some (.int .i64 i) := (K2.out.at (w.heap.size) [.int .i64 i, .int .i64 a] (by simp)).c 0 rfl
  have c2_1_1 : W2.cell? ⟨w.heap.size, 1, none⟩ = some (.int .i64 a) := (K2.out.at (w.heap.size) [.int .i64 i, .int .i64 a] (by simp)).c 1 rfl
  go_wp2
  go_ret
  exact ⟨rfl, K2.out.1⟩

set_option maxRecDepth 100000 in
set_option maxHeartbeats 4000000 in
theorem dcmp_5 (i a : Int)
    (X : Hid (∀ w : World, Cvl.Lens w → Calls Tryd.prog 13 #[.agg #[.int .i64 i, .int .i64 a]] w fun r' w' => r' = .returned (.bool true) ∧ Below w.heap.size w w'))
    (Y : Hid (∀ w : World, Cvl.Lens w → Calls Tryd.prog 13 #[.agg #[.int .i64 i, .int .i64 a]] w fun r' w' => r' = .returned (.bool true) ∧ Below w.heap.size w w'))
    (w : World) (hL : Hid (∀ W : World, Below w.heap.size w W → Cvl.Lens W)) :
    Calls Tryd.prog 22 #[.agg #[.int .i64 i, .int .i64 a], .agg #[.int .i64 i, .int .i64 a]] w fun r' w' => r' = .returned (.int .i64 (0)) ∧ Below w.heap.size w w' := by
  have K0 : Hid (BS w [(w.heap.size + 1, [.int .i64 i, .int .i64 a]), (w.heap.size, [.int .i64 i, .int .i64 a])] ((w.alloc (.cells #[.int .i64 i, .int .i64 a] 23)).alloc (.cells #[.int .i64 i, .int .i64 a] 23))) := (((BS.start w).new [.int .i64 i, .int .i64 a] 23 rfl).new [.int .i64 i, .int .i64 a] 23 (by simp))
  go_enter Tryd.func22, Tryd.ntmps22
  go_wp2_with fail
  refine (X.out _ (hL.out _ K0.out.1)).mono ?_
  rintro e W1 ⟨rfl, hb⟩
  have K1 : Hid (BS w [(w.heap.size + 1, [.int .i64 i, .int .i64 a]), (w.heap.size, [.int .i64 i, .int .i64 a])] W1) := K0.out.below hb
  clear hb K0
  have c1_0_0 : W1.cell? ⟨w.heap.size + 1, 0, none⟩ = some (.int .i64 i) := (K1.out.at (w.heap.size + 1) [.int .i64 i, .int .i64 a] (by simp)).c 0 rfl
  have c1_0_1 : W1.cell? ⟨w.heap.size + 1, 1, none⟩ = some (.int .i64 a) := (K1.out.at (w.heap.size + 1) [.int .i64 i, .int .i64 a] (by simp)).c 1 rfl
  have c1_1_0 : W1.cell? ⟨w.heap.size, 0, none⟩ = some (.int .i64 i) := (K1.out.at (w.heap.size) [.int .i64 i, .int .i64 a] (by simp)).c 0 rfl
  have c1_1_1 : W1.cell? ⟨w.heap.size, 1, none⟩ = some (.int .i64 a) := (K1.out.at (w.heap.size) [.int .i64 i, .int .i64 a] (by simp)).c 1 rfl
  go_wp2_with fail
  refine (Y.out _ (hL.out _ K1.out.1)).mono ?_
  rintro e W2 ⟨rfl, hb⟩
  have K2 : Hid (BS w [(w.heap.size + 1, [.int .i64 i, .int .i64 a]), (w.heap.size, [.int .i64 i, .int .i64 a])] W2) := K1.out.below hb
  clear c1_0_0 c1_0_1 c1_1_0 c1_1_1
  clear hb K1
  have c2_0_0 : W2.cell? ⟨w.heap.size + 1, 0, none⟩ = some (.int .i64 i) := (K2.out.at (w.heap.size + 1) [.int .i64 i, .int .i64 a] (by simp)).c 0 rfl
  have c2_0_1 : W2.cell? ⟨w.heap.size + 1, 1, none⟩ = some (.int .i64 a) := (K2.out.at (w.heap.size + 1) [.int .i64 i, .int .i64 a] (by simp)).c 1 rfl
  have c2_1_0 : W2.cell? ⟨w.heap.size, 0, none⟩ = some (.int .i64 i) := (K2.out.at (w.heap.size) [.int .i64 i, .int .i64 a] (by simp)).c 0 rfl
  have c2_1_1 : W2.cell? ⟨w.heap.size, 1, none⟩ = some (.int .i64 a) := (K2.out.at (w.heap.size) [.int .i64 i, .int .i64 a] (by simp)).c 1 rfl
  go_wp2
  go_ret
  exact ⟨rfl, K2.out.1⟩

set_option maxRecDepth 100000 in
set_option maxHeartbeats 4000000 in
theorem rcmp_no1 (i a j b : Int)
    (X : Hid (∀ w : World, Calls Tryd.prog 14 #[.agg #[.int .i64 i, .int .i64 a]] w fun r' w' => r' = .returned (.bool false) ∧ Below w.heap.size w w'))
    (w : World) :
    Calls Tryd.prog 23 #[.agg #[.int .i64 i, .int .i64 a], .agg #[.int .i64 j, .int .i64 b]] w fun r' w' => r' = .returned (.int .i64 0) ∧ Below w.heap.size w w' := by
  have K0 : Hid (BS w [(w.heap.size + 1, [.int .i64 j, .int .i64 b]), (w.heap.size, [.int .i64 i, .int .i64 a])] ((w.alloc (.cells #[.int .i64 i, .int .i64 a] 23)).alloc (.cells #[.int .i64 j, .int .i64 b] 23))) := (((BS.start w).new [.int .i64 i, .int .i64 a] 23 rfl).new [.int .i64 j, .int .i64 b] 23 (by simp))
  go_enter Tryd.func23, Tryd.ntmps23
  go_wp2_with fail
  refine (X.out _).mono ?_
  rintro e W1 ⟨rfl, hb⟩
  have K1 : Hid (BS w [(w.heap.size + 1, [.int .i64 j, .int .i64 b]), (w.heap.size, [.int .i64 i, .int .i64 a])] W1) := K0.out.below hb
  clear hb K0
  have c1_0_0 : W1.cell? ⟨w.heap.size + 1, 0, none⟩ = some (.int .i64 j) := (K1.out.at (w.heap.size + 1) [.int .i64 j, .int .i64 b] (by simp)).c 0 rfl
  have c1_0_1 : W1.cell? ⟨w.heap.size + 1, 1, none⟩ = some (.int .i64 b) := (K1.out.at (w.heap.size + 1) [.int .i64 j, .int .i64 b] (by simp)).c 1 rfl
  have c1_1_0 : W1.cell? ⟨w.heap.size, 0, none⟩ = some (.int .i64 i) := (K1.out.at (w.heap.size) [.int .i64 i, .int .i64 a] (by simp)).c 0 rfl
  have c1_1_1 : W1.cell? ⟨w.heap.size, 1, none⟩ = some (.int .i64 a) := (K1.out.at (w.heap.size) [.int .i64 i, .int .i64 a] (by simp)).c 1 rfl
  go_wp2
  go_ret
  exact ⟨rfl, K1.out.1⟩

set_option maxRecDepth 100000 in
set_option maxHeartbeats 4000000 in
theorem rcmp_no2 (i a j b : Int)
    (X : Hid (∀ w : World, Calls Tryd.prog 14 #[.agg #[.int .i64 i, .int .i64 a]] w fun r' w' => r' = .returned (.bool true) ∧ Below w.heap.size w w'))
    (Y : Hid (∀ w : World, Calls Tryd.prog 14 #[.agg #[.int .i64 j, .int .i64 b]] w fun r' w' => r' = .returned (.bool false) ∧ Below w.heap.size w w'))
    (w : World) :
    Calls Tryd.prog 23 #[.agg #[.int .i64 i, .int .i64 a], .agg #[.int .i64 j, .int .i64 b]] w fun r' w' => r' = .returned (.int .i64 0) ∧ Below w.heap.size w w' := by
  have K0 : Hid (BS w [(w.heap.size + 1, [.int .i64 j, .int .i64 b]), (w.heap.size, [.int .i64 i, .int .i64 a])] ((w.alloc (.cells #[.int .i64 i, .int .i64 a] 23)).alloc (.cells #[.int .i64 j, .int .i64 b] 23))) := (((BS.start w).new [.int .i64 i, .int .i64 a] 23 rfl).new [.int .i64 j, .int .i64 b] 23 (by simp))
  go_enter Tryd.func23, Tryd.ntmps23
  go_wp2_with fail
  refine (X.out _).mono ?_
  rintro e W1 ⟨rfl, hb⟩
  have K1 : Hid (BS w [(w.heap.size + 1, [.int .i64 j, .int .i64 b]), (w.heap.size, [.int .i64 i, .int .i64 a])] W1) := K0.out.below hb
  clear hb K0
  have c1_0_0 : W1.cell? ⟨w.heap.size + 1, 0, none⟩ = some (.int .i64 j) := (K1.out.at (w.heap.size + 1) [.int .i64 j, .int .i64 b] (by simp)).c 0 rfl
  have c1_0_1 : W1.cell? ⟨w.heap.size + 1, 1, none⟩ = some (.int .i64 b) := (K1.out.at (w.heap.size + 1) [.int .i64 j, .int .i64 b] (by simp)).c 1 rfl
  have c1_1_0 : W1.cell? ⟨w.heap.size, 0, none⟩ = some (.int .i64 i) := (K1.out.at (w.heap.size) [.int .i64 i, .int .i64 a] (by simp)).c 0 rfl
  have c1_1_1 : W1.cell? ⟨w.heap.size, 1, none⟩ = some (.int .i64 a) := (K1.out.at (w.heap.size) [.int .i64 i, .int .i64 a] (by simp)).c 1 rfl
  go_wp2_with fail
  refine (Y.out _).mono ?_
  rintro e W2 ⟨rfl, hb⟩
  have K2 : Hid (BS w [(w.heap.size + 1, [.int .i64 j, .int .i64 b]), (w.heap.size, [.int .i64 i, .int .i64 a])] W2) := K1.out.below hb
  clear c1_0_0 c1_0_1 c1_1_0 c1_1_1
  clear hb K1
  have c2_0_0 : W2.cell? ⟨w.heap.size + 1, 0, none⟩ = some (.int .i64 j) := (K2.out.at (w.heap.size + 1) [.int .i64 j, .int .i64 b] (by simp)).c 0 rfl
  have c2_0_1 : W2.cell? ⟨w.heap.size + 1, 1, none⟩ = some (.int .i64 b) := (K2.out.at (w.heap.size + 1) [.int .i64 j, .int .i64 b] (by simp)).c 1 rfl
  have c2_1_0 : W2.cell? ⟨w.heap.size, 0, none⟩ = some (.int .i64 i) := (K2.out.at (w.heap.size) [.int .i64 i, .int .i64 a] (by simp)).c 0 rfl
  have c2_1_1 : W2.cell? ⟨w.heap.size, 1, none⟩ = some (.int .i64 a) := (K2.out.at (w.heap.size) [.int .i64 i, .int .i64 a] (by simp)).c 1 rfl
  go_wp2
  go_ret
  exact ⟨rfl, K2.out.1⟩

set_option maxRecDepth 100000 in
set_option maxHeartbeats 4000000 in
theorem rcmp_yes (i a j b v : Int)
    (X : Hid (∀ w : World, Calls Tryd.prog 14 #[.agg #[.int .i64 i, .int .i64 a]] w fun r' w' => r' = .returned (.bool true) ∧ Below w.heap.size w w'))
    (Y : Hid (∀ w : World, Calls Tryd.prog 14 #[.agg #[.int .i64 j, .int .i64 b]] w fun r' w' => r' = .returned (.bool true) ∧ Below w.heap.size w w'))
    (O : Hid (∀ w : World, Calls Tryd.prog 48 #[.int .i64 i, .int .i64 j, .int .i64 a, .int .i64 b] w fun r' w' => r' = .returned (.int .i64 v) ∧ w' = w))
    (w : World) :
    Calls Tryd.prog 23 #[.agg #[.int .i64 i, .int .i64 a], .agg #[.int .i64 j, .int .i64 b]] w fun r' w' => r' = .returned (.int .i64 v) ∧ Below w.heap.size w w' := by
  have K0 : Hid (BS w [(w.heap.size + 1, [.int .i64 j, .int .i64 b]), (w.heap.size, [.int .i64 i, .int .i64 a])] ((w.alloc (.cells #[.int .i64 i, .int .i64 a] 23)).alloc (.cells #[.int .i64 j, .int .i64 b] 23))) := (((BS.start w).new [.int .i64 i, .int .i64 a] 23 rfl).new [.int .i64 j, .int .i64 b] 23 (by simp))
  go_enter Tryd.func23, Tryd.ntmps23
  go_wp2_with fail
  refine (X.out _).mono ?_
  rintro e W1 ⟨rfl, hb⟩
  have K1 : Hid (BS w [(w.heap.size + 1, [.int .i64 j, .int .i64 b]), (w.heap.size, [.int .i64 i, .int .i64 a])] W1) := K0.out.below hb
  clear hb K0
  have c1_0_0 : W1.cell? ⟨w.heap.size + 1, 0, none⟩ = some (.int .i64 j) := (K1.out.at (w.heap.size + 1) [.int .i64 j, .int .i64 b] (by simp)).c 0 rfl
  have c1_0_1 : W1.cell? ⟨w.heap.size + 1, 1, none⟩ = some (.int .i64 b) := (K1.out.at (w.heap.size + 1) [.int .i64 j, .int .i64 b] (by simp)).c 1 rfl
  have c1_1_0 : W1.cell? ⟨w.heap.size, 0, none⟩ = some (.int .i64 i) := (K1.out.at (w.heap.size) [.int .i64 i, .int .i64 a] (by simp)).c 0 rfl
  have c1_1_1 : W1.cell? ⟨w.heap.size, 1, none⟩ = some (.int .i64 a) := (K1.out.at (w.heap.size) [.int .i64 i, .int .i64 a] (by simp)).c 1 rfl
  go_wp2_with fail
  refine (Y.out _).mono ?_
  rintro e W2 ⟨rfl, hb⟩
  have K2 : Hid (BS w [(w.heap.size + 1, [.int .i64 j, .int .i64 b]), (w.heap.size, [.int .i64 i, .int .i64 a])] W2) := K1.out.below hb
  clear c1_0_0 c1_0_1 c1_1_0 c1_1_1
  clear hb K1
  have c2_0_0 : W2.cell? ⟨w.heap.size + 1, 0, none⟩ = some (.int .i64 j) := (K2.out.at (w.heap.size + 1) [.int .i64 j, .int .i64 b] (by simp)).c 0 rfl
  have c2_0_1 : W2.cell? ⟨w.heap.size + 1, 1, none⟩ = some (.int .i64 b) := (K2.out.at (w.heap.size + 1) [.int .i64 j, .int .i64 b] (by simp)).c 1 rfl
  have c2_1_0 : W2.cell? ⟨w.heap.size, 0, none⟩ = some (.int .i64 i) := (K2.out.at (w.heap.size) [.int .i64 i, .int .i64 a] (by simp)).c 0 rfl
  have c2_1_1 : W2.cell? ⟨w.heap.size, 1, none⟩ = some (.int .i64 a) := (K2.out.at (w.heap.size) [.int .i64 i, .int .i64 a] (by simp)).c 1 rfl
  go_wp2_with fail
  refine (O.out _).mono ?_
  rintro e W3 ⟨rfl, rfl⟩
  go_wp2
  go_ret
  exact ⟨rfl, K2.out.1⟩

set_option maxRecDepth 100000 in
set_option maxHeartbeats 4000000 in
theorem scmp_no1 (i a j b : Int)
    (X : Hid (∀ w : World, Cvl.Lens w → Calls Tryd.prog 30 #[.agg #[.int .i64 i, .int .i64 a]] w fun r' w' => r' = .returned (.bool false) ∧ Below w.heap.size w w'))
    (w : World) (hL : Hid (∀ W : World, Below w.heap.size w W → Cvl.Lens W)) :
    Calls Tryd.prog 32 #[.agg #[.int .i64 i, .int .i64 a], .agg #[.int .i64 j, .int .i64 b]] w fun r' w' => r' = .returned (.int .i64 0) ∧ Below w.heap.size w w' := by
  have K0 : Hid (BS w [(w.heap.size + 1, [.int .i64 j, .int .i64 b]), (w.heap.size, [.int .i64 i, .int .i64 a])] ((w.alloc (.cells #[.int .i64 i, .int .i64 a] 38)).alloc (.cells #[.int .i64 j, .int .i64 b] 38))) := (((BS.start w).new [.int .i64 i, .int .i64 a] 38 rfl).new [.int .i64 j, .int .i64 b] 38 (by simp))
  go_enter Tryd.func32, Tryd.ntmps32
  go_wp2_with fail
  refine (X.out _ (hL.out _ K0.out.1)).mono ?_
  rintro e W1 ⟨rfl, hb⟩
  have K1 : Hid (BS w [(w.heap.size + 1, [.int .i64 j, .int .i64 b]), (w.heap.size, [.int .i64 i, .int .i64 a])] W1) := K0.out.below hb
  clear hb K0
  have c1_0_0 : W1.cell? ⟨w.heap.size + 1, 0, none⟩ = some (.int .i64 j) := (K1.out.at (w.heap.size + 1) [.int .i64 j, .int .i64 b] (by simp)).c 0 rfl
  have c1_0_1 : W1.cell? ⟨w.heap.size + 1, 1, none⟩ = some (.int .i64 b) := (K1.out.at (w.heap.size + 1) [.int .i64 j, .int .i64 b] (by simp)).c 1 rfl
  have c1_1_0 : W1.cell? ⟨w.heap.size, 0, none⟩ = some (.int .i64 i) := (K1.out.at (w.heap.size) [.int .i64 i, .int .i64 a] (by simp)).c 0 rfl
  have c1_1_1 : W1.cell? ⟨w.heap.size, 1, none⟩ = some (.int .i64 a) := (K1.out.at (w.heap.size) [.int .i64 i, .int .i64 a] (by simp)).c 1 rfl
  go_wp2
  go_ret
  exact ⟨rfl, K1.out.1⟩

set_option maxRecDepth 100000 in
set_option maxHeartbeats 4000000 in
theorem scmp_no2 (i a j b : Int)
    (X : Hid (∀ w : World, Cvl.Lens w → Calls Tryd.prog 30 #[.agg #[.int .i64 i, .int .i64 a]] w fun r' w' => r' = .returned (.bool true) ∧ Below w.heap.size w w'))
    (Y : Hid (∀ w : World, Cvl.Lens w → Calls Tryd.prog 30 #[.agg #[.int .i64 j, .int .i64 b]] w fun r' w' => r' = .returned (.bool false) ∧ Below w.heap.size w w'))
    (w : World) (hL : Hid (∀ W : World, Below w.heap.size w W → Cvl.Lens W)) :
    Calls Tryd.prog 32 #[.agg #[.int .i64 i, .int .i64 a], .agg #[.int .i64 j, .int .i64 b]] w fun r' w' => r' = .returned (.int .i64 0) ∧ Below w.heap.size w w' := by
  have K0 : Hid (BS w [(w.heap.size + 1, [.int .i64 j, .int .i64 b]), (w.heap.size, [.int .i64 i, .int .i64 a])] ((w.alloc (.cells #[.int .i64 i, .int .i64 a] 38)).alloc (.cells #[.int .i64 j, .int .i64 b] 38))) := (((BS.start w).new [.int .i64 i, .int .i64 a] 38 rfl).new [.int .i64 j, .int .i64 b] 38 (by simp))
  go_enter Tryd.func32, Tryd.ntmps32
  go_wp2_with fail
  refine (X.out _ (hL.out _ K0.out.1)).mono ?_
  rintro e W1 ⟨rfl, hb⟩
  have K1 : Hid (BS w [(w.heap.size + 1, [.int .i64 j, .int .i64 b]), (w.heap.size, [.int .i64 i, .int .i64 a])] W1) := K0.out.below hb
  clear hb K0
  have c1_0_0 : W1.cell? ⟨w.heap.size + 1, 0, none⟩ = some (.int .i64 j) := (K1.out.at (w.heap.size + 1) [.int .i64 j, .int .i64 b] (by simp)).c 0 rfl
  have c1_0_1 : W1.cell? ⟨w.heap.size + 1, 1, none⟩ = some (.int .i64 b) := (K1.out.at (w.heap.size + 1) [.int .i64 j, .int .i64 b] (by simp)).c 1 rfl
  have c1_1_0 : W1.cell? ⟨w.heap.size, 0, none⟩ = some (.int .i64 i) := (K1.out.at (w.heap.size) [.int .i64 i, .int .i64 a] (by simp)).c 0 rfl
  have c1_1_1 : W1.cell? ⟨w.heap.size, 1, none⟩ = some (.int .i64 a) := (K1.out.at (w.heap.size) [.int .i64 i, .int .i64 a] (by simp)).c 1 rfl
  go_wp2_with fail
  refine (Y.out _ (hL.out _ K1.out.1)).mono ?_
  rintro e W2 ⟨rfl, hb⟩
  have K2 : Hid (BS w [(w.heap.size + 1, [.int .i64 j, .int .i64 b]), (w.heap.size, [.int .i64 i, .int .i64 a])] W2) := K1.out.below hb
  clear c1_0_0 c1_0_1 c1_1_0 c1_1_1
  clear hb K1
  have c2_0_0 : W2.cell? ⟨w.heap.size + 1, 0, none⟩ = some (.int .i64 j) := (K2.out.at (w.heap.size + 1) [.int .i64 j, .int .i64 b] (by simp)).c 0 rfl
  have c2_0_1 : W2.cell? ⟨w.heap.size + 1, 1, none⟩ = some (.int .i64 b) := (K2.out.at (w.heap.size + 1) [.int .i64 j, .int .i64 b] (by simp)).c 1 rfl
  have c2_1_0 : W2.cell? ⟨w.heap.size, 0, none⟩ = some (.int .i64 i) := (K2.out.at (w.heap.size) [.int .i64 i, .int .i64 a] (by simp)).c 0 rfl
  have c2_1_1 : W2.cell? ⟨w.heap.size, 1, none⟩ = some (.int .i64 a) := (K2.out.at (w.heap.size) [.int .i64 i, .int .i64 a] (by simp)).c 1 rfl
  go_wp2
  go_ret
  exact ⟨rfl, K2.out.1⟩

set_option maxRecDepth 100000 in
set_option maxHeartbeats 4000000 in
theorem scmp_1 (i a j b : Int) (h : i < j)
    (X : Hid (∀ w : World, Cvl.Lens w → Calls Tryd.prog 30 #[.agg #[.int .i64 i, .int .i64 a]] w fun r' w' => r' = .returned (.bool true) ∧ Below w.heap.size w w'))
    (Y : Hid (∀ w : World, Cvl.Lens w → Calls Tryd.prog 30 #[.agg #[.int .i64 j, .int .i64 b]] w fun r' w' => r' = .returned (.bool true) ∧ Below w.heap.size w w'))
    (w : World) (hL : Hid (∀ W : World, Below w.heap.size w W → Cvl.Lens W)) :
    Calls Tryd.prog 32 #[.agg #[.int .i64 i, .int .i64 a], .agg #[.int .i64 j, .int .i64 b]] w fun r' w' => r' = .returned (.int .i64 (-1)) ∧ Below w.heap.size w w' := by
  have h2 : (i == j) = false := by simp; omega
  have K0 : Hid (BS w [(w.heap.size + 1, [.int .i64 j, .int .i64 b]), (w.heap.size, [.int .i64 i, .int .i64 a])] ((w.alloc (.cells #[.int .i64 i, .int .i64 a] 38)).alloc (.cells #[.int .i64 j, .int .i64 b] 38))) := (((BS.start w).new [.int .i64 i, .int .i64 a] 38 rfl).new [.int .i64 j, .int .i64 b] 38 (by simp))
  go_enter Tryd.func32, Tryd.ntmps32
  go_wp2_with fail
  refine (X.out _ (hL.out _ K0.out.1)).mono ?_
  rintro e W1 ⟨rfl, hb⟩
  have K1 : Hid (BS w [(w.heap.size + 1, [.int .i64 j, .int .i64 b]), (w.heap.size, [.int .i64 i, .int .i64 a])] W1) := K0.out.below hb
  clear hb K0
  have c1_0_0 : W1.cell? ⟨w.heap.size + 1, 0, none⟩ = some (.int .i64 j) := (K1.out.at (w.heap.size + 1) [.int .i64 j, .int .i64 b] (by simp)).c 0 rfl
  have c1_0_1 : W1.cell? ⟨w.heap.size + 1, 1, none⟩ = some (.int .i64 b) := (K1.out.at (w.heap.size + 1) [.int .i64 j, .int .i64 b] (by simp)).c 1 rfl
  have c1_1_0 : W1.cell? ⟨w.heap.size, 0, none⟩ = some (.int .i64 i) := (K1.out.at (w.heap.size) [.int .i64 i, .int .i64 a] (by simp)).c 0 rfl
  have c1_1_1 : W1.cell? ⟨w.heap.size, 1, none⟩ = some (.int .i64 a) := (K1.out.at (w.heap.size) [.int .i64 i, .int .i64 a] (by simp)).c 1 rfl
  go_wp2_with fail
  refine (Y.out _ (hL.out _ K1.out.1)).mono ?_
  rintro e W2 ⟨rfl, hb⟩
  have K2 : Hid (BS w [(w.heap.size + 1, [.int .i64 j, .int .i64 b]), (w.heap.size, [.int .i64 i, .int .i64 a])] W2) := K1.out.below hb
  clear c1_0_0 c1_0_1 c1_1_0 c1_1_1
  clear hb K1
  have c2_0_0 : W2.cell? ⟨w.heap.size + 1, 0, none⟩ = some (.int .i64 j) := (K2.out.at (w.heap.size + 1) [.int .i64 j, .int .i64 b] (by simp)).c 0 rfl
  have c2_0_1 : W2.cell? ⟨w.heap.size + 1, 1, none⟩ = some (.int .i64 b) := (K2.out.at (w.heap.size + 1) [.int .i64 j, .int .i64 b] (by simp)).c 1 rfl
  have c2_1_0 : W2.cell? ⟨w.heap.size, 0, none⟩ = some (.int .i64 i) := (K2.out.at (w.heap.size) [.int .i64 i, .int .i64 a] (by simp)).c 0 rfl
  have c2_1_1 : W2.cell? ⟨w.heap.size, 1, none⟩ = some (.int .i64 a) := (K2.out.at (w.heap.size) [.int .i64 i, .int .i64 a] (by simp)).c 1 rfl
  go_wp2
  go_ret
  exact ⟨rfl, K2.out.1⟩

set_option maxRecDepth 100000 in
set_option maxHeartbeats 4000000 in
theorem scmp_2 (i a b : Int) (g : a < b)
    (X : Hid (∀ w : World, Cvl.Lens w → Calls Tryd.prog 30 #[.agg #[.int .i64 i, .int .i64 a]] w fun r' w' => r' = .returned (.bool true) ∧ Below w.heap.size w w'))
    (Y : Hid (∀ w : World, Cvl.Lens w → Calls Tryd.prog 30 #[.agg #[.int .i64 i, .int .i64 b]] w fun r' w' => r' = .returned (.bool true) ∧ Below w.heap.size w w'))
    (w : World) (hL : Hid (∀ W : World, Below w.heap.size w W → Cvl.Lens W)) :
    Calls Tryd.prog 32 #[.agg #[.int .i64 i, .int .i64 a], .agg #[.int .i64 i, .int .i64 b]] w fun r' w' => r' = .returned (.int .i64 (-1)) ∧ Below w.heap.size w w' := by
  have h2 : (a == b) = false := by simp; omega
  have K0 : Hid (BS w [(w.heap.size + 1, [.int .i64 i, .int .i64 b]), (w.heap.size, [.int .i64 i, .int .i64 a])] ((w.alloc (.cells #[.int .i64 i, .int .i64 a] 38)).alloc (.cells #[.int .i64 i, .int .i64 b] 38))) := (((BS.start w).new [.int .i64 i, .int .i64 a] 38 rfl).new [.int .i64 i, .int .i64 b] 38 (by simp))
  go_enter Tryd.func32, Tryd.ntmps32
  go_wp2_with fail
  refine (X.out _ (hL.out _ K0.out.1)).mono ?_
  rintro e W1 ⟨rfl, hb⟩
  have K1 : Hid (BS w [(w.heap.size + 1, [.int .i64 i, .int .i64 b]), (w.heap.size, [.int .i64 i, .int .i64 a])] W1) := K0.out.below hb
  clear hb K0
  have c1_0_0 : W1.cell? ⟨w.heap.size + 1, 0, none⟩ = some (.int .i64 i) := (K1.out.at (w.heap.size + 1) [.int .i64 i, .int .i64 b] (by simp)).c 0 rfl
  have c1_0_1 : W1.cell? ⟨w.heap.size + 1, 1, none⟩ = some (.int .i64 b) := (K1.out.at (w.heap.size + 1) [.int .i64 i, .int .i64 b] (by simp)).c 1 rfl
  have c1_1_0 : W1.cell? ⟨w.heap.size, 0, none⟩ = some (.int .i64 i) := (K1.out.at (w.heap.size) [.int .i64 i, .int .i64 a] (by simp)).c 0 rfl
  have c1_1_1 : W1.cell? ⟨w.heap.size, 1, none⟩ = some (.int .i64 a) := (K1.out.at (w.heap.size) [.int .i64 i, .int .i64 a] (by simp)).c 1 rfl
  go_wp2_with fail
  refine (Y.out _ (hL.out _ K1.out.1)).mono ?_
  rintro e W2 ⟨rfl, hb⟩
  have K2 : Hid (BS w [(w.heap.size + 1, [.int .i64 i, .int .i64 b]), (w.heap.size, [.int .i64 i, .int .i64 a])] W2) := K1.out.below hb
  clear c1_0_0 c1_0_1 c1_1_0 c1_1_1
  clear hb K1
  have c2_0_0 : W2.cell? ⟨w.heap.size + 1, 0, none⟩ = some (.int .i64 i) := (K2.out.at (w.heap.size + 1) [.int .i64 i, .int .i64 b] (by simp)).c 0 rfl
  have c2_0_1 : W2.cell? ⟨w.heap.size + 1, 1, none⟩ = some (.int .i64 b) := (K2.out.at (w.heap.size + 1) [.int .i64 i, .int .i64 b] (by simp)).c 1 rfl
  have c2_1_0 : W2.cell? ⟨w.heap.size, 0, none⟩ = some (.int .i64 i) := (K2.out.at (w.heap.size) [.int .i64 i, .int .i64 a] (by simp)).c 0 rfl
  have c2_1_1 : W2.cell? ⟨w.heap.size, 1, none⟩ = some (.int .i64 a) := (K2.out.at (w.heap.size) [.int .i64 i, .int .i64 a] (by simp)).c 1 rfl
  go_wp2
  go_ret
  exact ⟨rfl, K2.out.1⟩

set_option maxRecDepth 100000 in
set_option maxHeartbeats 4000000 in
theorem scmp_3 (i a j b : Int) (h : j < i)
    (X : Hid (∀ w : World, Cvl.Lens w → Calls Tryd.prog 30 #[.agg #[.int .i64 i, .int .i64 a]] w fun r' w' => r' = .returned (.bool true) ∧ Below w.heap.size w w'))
    (Y : Hid (∀ w : World, Cvl.Lens w → Calls Tryd.prog 30 #[.agg #[.int .i64 j, .int .i64 b]] w fun r' w' => r' = .returned (.bool true) ∧ Below w.heap.size w w'))
    (w : World) (hL : Hid (∀ W : World, Below w.heap.size w W → Cvl.Lens W)) :
    Calls Tryd.prog 32 #[.agg #[.int .i64 i, .int .i64 a], .agg #[.int .i64 j, .int .i64 b]] w fun r' w' => r' = .returned (.int .i64 (1)) ∧ Below w.heap.size w w' := by
  have h1 : ¬ i < j := by omega
  have h2 : (i == j) = false := by simp; omega
  have K0 : Hid (BS w [(w.heap.size + 1, [.int .i64 j, .int .i64 b]), (w.heap.size, [.int .i64 i, .int .i64 a])] ((w.alloc (.cells #[.int .i64 i, .int .i64 a] 38)).alloc (.cells #[.int .i64 j, .int .i64 b] 38))) := (((BS.start w).new [.int .i64 i, .int .i64 a] 38 rfl).new [.int .i64 j, .int .i64 b] 38 (by simp))
  go_enter Tryd.func32, Tryd.ntmps32
  go_wp2_with fail
  refine (X.out _ (hL.out _ K0.out.1)).mono ?_
  rintro e W1 ⟨rfl, hb⟩
  have K1 : Hid (BS w [(w.heap.size + 1, [.int .i64 j, .int .i64 b]), (w.heap.size, [.int .i64 i, .int .i64 a])] W1) := K0.out.below hb
  clear hb K0
  have c1_0_0 : W1.cell? ⟨w.heap.size + 1, 0, none⟩ = some (.int .i64 j) := (K1.out.at (w.heap.size + 1) [.int .i64 j, .int .i64 b] (by simp)).c 0 rfl
  have c1_0_1 : W1.cell? ⟨w.heap.size + 1, 1, none⟩ = some (.int .i64 b) := (K1.out.at (w.heap.size + 1) [.int .i64 j, .int .i64 b] (by simp)).c 1 rfl
  have c1_1_0 : W1.cell? ⟨w.heap.size, 0, none⟩ = some (.int .i64 i) := (K1.out.at (w.heap.size) [.int .i64 i, .int .i64 a] (by simp)).c 0 rfl
  have c1_1_1 : W1.cell? ⟨w.heap.size, 1, none⟩ = some (.int .i64 a) := (K1.out.at (w.heap.size) [.int .i64 i, .int .i64 a] (by simp)).c 1 rfl
  go_wp2_with fail
  refine (Y.out _ (hL.out _ K1.out.1)).mono ?_
  rintro e W2 ⟨rfl, hb⟩
  have K2 : Hid (BS w [(w.heap.size + 1, [.int .i64 j, .int .i64 b]), (w.heap.size, [.int .i64 i, .int .i64 a])] W2) := K1.out.below hb
  clear c1_0_0 c1_0_1 c1_1_0 c1_1_1
  clear hb K1
  have c2_0_0 : W2.cell? ⟨w.heap.size + 1, 0, none⟩ = some (.int .i64 j) := (K2.out.at (w.heap.size + 1) [.int .i64 j, .int .i64 b] (by simp)).c 0 rfl
  have c2_0_1 : W2.cell? ⟨w.heap.size + 1, 1, none⟩ = some (.int .i64 b) := (K2.out.at (w.heap.size + 1) [.int .i64 j, .int .i64 b] (by simp)).c 1 rfl
  have c2_1_0 : W2.cell? ⟨w.heap.size, 0, none⟩ = some (.int .i64 i) := (K2.out.at (w.heap.size) [.int .i64 i, .int .i64 a] (by simp)).c 0 rfl
  have c2_1_1 : W2.cell? ⟨w.heap.size, 1, none⟩ = some (.int .i64 a) := (K2.out.at (w.heap.size) [.int .i64 i, .int .i64 a] (by simp)).c 1 rfl
  go_wp2
  go_ret
  exact ⟨rfl, K2.out.1⟩

set_option maxRecDepth 100000 in
set_option maxHeartbeats 4000000 in
theorem scmp_4 (i a b : Int) (g : b < a)
    (X : Hid (∀ w : World, Cvl.Lens w → Calls Tryd.prog 30 #[.agg #[.int .i64 i, .int .i64 a]] w fun r' w' => r' = .returned (.bool true) ∧ Below w.heap.size w w'))
    (Y : Hid (∀ w : World, Cvl.Lens w → Calls Tryd.prog 30 #[.agg #[.int .i64 i, .int .i64 b]] w fun r' w' => r' = .returned (.bool true) ∧ Below w.heap.size w w'))
    (w : World) (hL : Hid (∀ W : World, Below w.heap.size w W → Cvl.Lens W)) :
    Calls Tryd.prog 32 #[.agg #[.int .i64 i, .int .i64 a], .agg #[.int .i64 i, .int .i64 b]] w fun r' w' => r' = .returned (.int .i64 (1)) ∧ Below w.heap.size w w' := by
  have g1 : ¬ a < b := by omega
  have h2 : (a == b) = false := by simp; omega
  have K0 : Hid (BS w [(w.heap.size + 1, [.int .i64 i, .int .i64 b]), (w.heap.size, [.int .i64 i, .int .i64 a])] ((w.alloc (.cells #[.int .i64 i, .int .i64 a] 38)).alloc (.cells #[.int .i64 i, .int .i64 b] 38))) := (((BS.start w).new [.int .i64 i, .int .i64 a] 38 rfl).new [.int .i64 i, .int .i64 b] 38 (by simp))
  go_enter Tryd.func32, Tryd.ntmps32
  go_wp2_with fail
  refine (X.out _ (hL.out _ K0.out.1)).mono ?_
  rintro e W1 ⟨rfl, hb⟩
  have K1 : Hid (BS w [(w.heap.size + 1, [.int .i64 i, .int .i64 b]), (w.heap.size, [.int .i64 i, .int .i64 a])] W1) := K0.out.below hb
  clear hb K0
  have c1_0_0 : W1.cell? ⟨w.heap.size + 1, 0, none⟩ = some (.int .i64 i) := (K1.out.at (w.heap.size + 1) [.int .i64 i, .int .i64 b] (by simp)).c 0 rfl
  have c1_0_1 : W1.cell? ⟨w.heap.size + 1, 1, none⟩ = some (.int .i64 b) := (K1.out.at (w.heap.size + 1) [.int .i64 i, .int .i64 b] (by simp)).c 1 rfl
  have c1_1_0 : W1.cell? ⟨w.heap.size, 0, none⟩ = some (.int .i64 i) := (K1.out.at (w.heap.size) [.int .i64 i, .int .i64 a] (by simp)).c 0 rfl
  have c1_1_1 : W1.cell? ⟨w.heap.size, 1, none⟩ = some (.int .i64 a) := (K1.out.at (w.heap.size) [.int .i64 i, .int .i64 a] (by simp)).c 1 rfl
  go_wp2_with fail
  refine (Y.out _ (hL.out _ K1.out.1)).mono ?_
  rintro e W2 ⟨rfl, hb⟩
  have K2 : Hid (BS w [(w.heap.size + 1, [.int .i64 i, .int .i64 b]), (w.heap.size, [.int .i64 i, .int .i64 a])] W2) := K1.out.below hb
  clear c1_0_0 c1_0_1 c1_1_0 c1_1_1
  clear hb K1
  have c2_0_0 : W2.cell? ⟨w.heap.size + 1, 0, none⟩ = some (.int .i64 i) := (K2.out.at (w.heap.size + 1) [.int .i64 i, .int .i64 b] (by simp)).c 0 rfl
  have c2_0_1 : W2.cell? ⟨w.heap.size + 1, 1, none⟩ = some (.int .i64 b) := (K2.out.at (w.heap.size + 1) [.int .i64 i, .int .i64 b] (by simp)).c 1 rfl
  have c2_1_0 : W2.cell? ⟨w.heap.size, 0, none⟩ = some (.int .i64 i) := (K2.out.at (w.heap.size) [.int .i64 i, .int .i64 a] (by simp)).c 0 rfl
  have c2_1_1 : W2.cell? ⟨w.heap.size, 1, none⟩ = some (.int .i64 a) := (K2.out.at (w.heap.size) [.int .i64 i, .int .i64 a] (by simp)).c 1 rfl
  go_wp2
  go_ret
  exact ⟨rfl, K2.out.1⟩

set_option maxRecDepth 100000 in
set_option maxHeartbeats 4000000 in
theorem scmp_5 (i a : Int)
    (X : Hid (∀ w : World, Cvl.Lens w → Calls Tryd.prog 30 #[.agg #[.int .i64 i, .int .i64 a]] w fun r' w' => r' = .returned (.bool true) ∧ Below w.heap.size w w'))
    (Y : Hid (∀ w : World, Cvl.Lens w → Calls Tryd.prog 30 #[.agg #[.int .i64 i, .int .i64 a]] w fun r' w' => r' = .returned (.bool true) ∧ Below w.heap.size w w'))
    (w : World) (hL : Hid (∀ W : World, Below w.heap.size w W → Cvl.Lens W)) :
    Calls Tryd.prog 32 #[.agg #[.int .i64 i, .int .i64 a], .agg #[.int .i64 i, .int .i64 a]] w fun r' w' => r' = .returned (.int .i64 (0)) ∧ Below w.heap.size w w' := by
  have K0 : Hid (BS w [(w.heap.size + 1, [.int .i64 i, .int .i64 a]), (w.heap.size, [.int .i64 i, .int .i64 a])] ((w.alloc (.cells #[.int .i64 i, .int .i64 a] 38)).alloc (.cells #[.int .i64 i, .int .i64 a] 38))) := (((BS.start w).new [.int .i64 i, .int .i64 a] 38 rfl).new [.int .i64 i, .int .i64 a] 38 (by simp))
  go_enter Tryd.func32, Tryd.ntmps32
  go_wp2_with fail
  refine (X.out _ (hL.out _ K0.out.1)).mono ?_
  rintro e W1 ⟨rfl, hb⟩
  have K1 : Hid (BS w [(w.heap.size + 1, [.int .i64 i, .int .i64 a]), (w.heap.size, [.int .i64 i, .int .i64 a])] W1) := K0.out.below hb
  clear hb K0
  have c1_0_0 : W1.cell? ⟨w.heap.size + 1, 0, none⟩ = some (.int .i64 i) := (K1.out.at (w.heap.size + 1) [.int .i64 i, .int .i64 a] (by simp)).c 0 rfl
  have c1_0_1 : W1.cell? ⟨w.heap.size + 1, 1, none⟩ = some (.int .i64 a) := (K1.out.at (w.heap.size + 1) [.int .i64 i, .int .i64 a] (by simp)).c 1 rfl
  have c1_1_0 : W1.cell? ⟨w.heap.size, 0, none⟩ = some (.int .i64 i) := (K1.out.at (w.heap.size) [.int .i64 i, .int .i64 a] (by simp)).c 0 rfl
  have c1_1_1 : W1.cell? ⟨w.heap.size, 1, none⟩ = some (.int .i64 a) := (K1.out.at (w.heap.size) [.int .i64 i, .int .i64 a] (by simp)).c 1 rfl
  go_wp2_with fail
  refine (Y.out _ (hL.out _ K1.out.1)).mono ?_
  rintro e W2 ⟨rfl, hb⟩
  have K2 : Hid (BS w [(w.heap.size + 1, [.int .i64 i, .int .i64 a]), (w.heap.size, [.int .i64 i, .int .i64 a])] W2) := K1.out.below hb
  clear c1_0_0 c1_0_1 c1_1_0 c1_1_1
  clear hb K1
  have c2_0_0 : W2.cell? ⟨w.heap.size + 1, 0, none⟩ = some (.int .i64 i) := (K2.out.at (w.heap.size + 1) [.int .i64 i, .int .i64 a] (by simp)).c 0 rfl
  have c2_0_1 : W2.cell? ⟨w.heap.size + 1, 1, none⟩ = some (.int .i64 a) := (K2.out.at (w.heap.size + 1) [.int .i64 i, .int .i64 a] (by simp)).c 1 rfl
  have c2_1_0 : W2.cell? ⟨w.heap.size, 0, none⟩ = some (.int .i64 i) := (K2.out.at (w.heap.size) [.int .i64 i, .int .i64 a] (by simp)).c 0 rfl
  have c2_1_1 : W2.cell? ⟨w.heap.size, 1, none⟩ = some (.int .i64 a) := (K2.out.at (w.heap.size) [.int .i64 i, .int .i64 a] (by simp)).c 1 rfl
  go_wp2
  go_ret
  exact ⟨rfl, K2.out.1⟩

set_option maxRecDepth 100000 in
set_option maxHeartbeats 4000000 in
theorem rscmp_no1 (i a j b : Int)
    (X : Hid (∀ w : World, Calls Tryd.prog 31 #[.agg #[.int .i64 i, .int .i64 a]] w fun r' w' => r' = .returned (.bool false) ∧ Below w.heap.size w w'))
    (w : World) :
    Calls Tryd.prog 33 #[.agg #[.int .i64 i, .int .i64 a], .agg #[.int .i64 j, .int .i64 b]] w fun r' w' => r' = .returned (.int .i64 0) ∧ Below w.heap.size w w' := by
  have K0 : Hid (BS w [(w.heap.size + 1, [.int .i64 j, .int .i64 b]), (w.heap.size, [.int .i64 i, .int .i64 a])] ((w.alloc (.cells #[.int .i64 i, .int .i64 a] 38)).alloc (.cells #[.int .i64 j, .int .i64 b] 38))) := (((BS.start w).new [.int .i64 i, .int .i64 a] 38 rfl).new [.int .i64 j, .int .i64 b] 38 (by simp))
  go_enter Tryd.func33, Tryd.ntmps33
  go_wp2_with fail
  refine (X.out _).mono ?_
  rintro e W1 ⟨rfl, hb⟩
  have K1 : Hid (BS w [(w.heap.size + 1, [.int .i64 j, .int .i64 b]), (w.heap.size, [.int .i64 i, .int .i64 a])] W1) := K0.out.below hb
  clear hb K0
  have c1_0_0 : W1.cell? ⟨w.heap.size + 1, 0, none⟩ = some (.int .i64 j) := (K1.out.at (w.heap.size + 1) [.int .i64 j, .int .i64 b] (by simp)).c 0 rfl
  have c1_0_1 : W1.cell? ⟨w.heap.size + 1, 1, none⟩ = some (.int .i64 b) := (K1.out.at (w.heap.size + 1) [.int .i64 j, .int .i64 b] (by simp)).c 1 rfl
  have c1_1_0 : W1.cell? ⟨w.heap.size, 0, none⟩ = some (.int .i64 i) := (K1.out.at (w.heap.size) [.int .i64 i, .int .i64 a] (by simp)).c 0 rfl
  have c1_1_1 : W1.cell? ⟨w.heap.size, 1, none⟩ = some (.int .i64 a) := (K1.out.at (w.heap.size) [.int .i64 i, .int .i64 a] (by simp)).c 1 rfl
  go_wp2
  go_ret
  exact ⟨rfl, K1.out.1⟩

set_option maxRecDepth 100000 in
set_option maxHeartbeats 4000000 in
theorem rscmp_no2 (i a j b : Int)
    (X : Hid (∀ w : World, Calls Tryd.prog 31 #[.agg #[.int .i64 i, .int .i64 a]] w fun r' w' => r' = .returned (.bool true) ∧ Below w.heap.size w w'))
    (Y : Hid (∀ w : World, Calls Tryd.prog 31 #[.agg #[.int .i64 j, .int .i64 b]] w fun r' w' => r' = .returned (.bool false) ∧ Below w.heap.size w w'))
    (w : World) :
    Calls Tryd.prog 33 #[.agg #[.int .i64 i, .int .i64 a], .agg #[.int .i64 j, .int .i64 b]] w fun r' w' => r' = .returned (.int .i64 0) ∧ Below w.heap.size w w' := by
  have K0 : Hid (BS w [(w.heap.size + 1, [.int .i64 j, .int .i64 b]), (w.heap.size, [.int .i64 i, .int .i64 a])] ((w.alloc (.cells #[.int .i64 i, .int .i64 a] 38)).alloc (.cells #[.int .i64 j, .int .i64 b] 38))) := (((BS.start w).new [.int .i64 i, .int .i64 a] 38 rfl).new [.int .i64 j, .int .i64 b] 38 (by simp))
  go_enter Tryd.func33, Tryd.ntmps33
  go_wp2_with fail
  refine (X.out _).mono ?_
  rintro e W1 ⟨rfl, hb⟩
  have K1 : Hid (BS w [(w.heap.size + 1, [.int .i64 j, .int .i64 b]), (w.heap.size, [.int .i64 i, .int .i64 a])] W1) := K0.out.below hb
  clear hb K0
  have c1_0_0 : W1.cell? ⟨w.heap.size + 1, 0, none⟩ = some (.int .i64 j) := (K1.out.at (w.heap.size + 1) [.int .i64 j, .int .i64 b] (by simp)).c 0 rfl
  have c1_0_1 : W1.cell? ⟨w.heap.size + 1, 1, none⟩ = some (.int .i64 b) := (K1.out.at (w.heap.size + 1) [.int .i64 j, .int .i64 b] (by simp)).c 1 rfl
  have c1_1_0 : W1.cell? ⟨w.heap.size, 0, none⟩ = some (.int .i64 i) := (K1.out.at (w.heap.size) [.int .i64 i, .int .i64 a] (by simp)).c 0 rfl
  have c1_1_1 : W1.cell? ⟨w.heap.size, 1, none⟩ = some (.int .i64 a) := (K1.out.at (w.heap.size) [.int .i64 i, .int .i64 a] (by simp)).c 1 rfl
  go_wp2_with fail
  refine (Y.out _).mono ?_
  rintro e W2 ⟨rfl, hb⟩
  have K2 : Hid (BS w [(w.heap.size + 1, [.int .i64 j, .int .i64 b]), (w.heap.size, [.int .i64 i, .int .i64 a])] W2) := K1.out.below hb
  clear c1_0_0 c1_0_1 c1_1_0 c1_1_1
  clear hb K1
  have c2_0_0 : W2.cell? ⟨w.heap.size + 1, 0, none⟩ = some (.int .i64 j) := (K2.out.at (w.heap.size + 1) [.int .i64 j, .int .i64 b] (by simp)).c 0 rfl
  have c2_0_1 : W2.cell? ⟨w.heap.size + 1, 1, none⟩ = some (.int .i64 b) := (K2.out.at (w.heap.size + 1) [.int .i64 j, .int .i64 b] (by simp)).c 1 rfl
  have c2_1_0 : W2.cell? ⟨w.heap.size, 0, none⟩ = some (.int .i64 i) := (K2.out.at (w.heap.size) [.int .i64 i, .int .i64 a] (by simp)).c 0 rfl
  have c2_1_1 : W2.cell? ⟨w.heap.size, 1, none⟩ = some (.int .i64 a) := (K2.out.at (w.heap.size) [.int .i64 i, .int .i64 a] (by simp)).c 1 rfl
  go_wp2
  go_ret
  exact ⟨rfl, K2.out.1⟩

set_option maxRecDepth 100000 in
set_option maxHeartbeats 4000000 in
theorem rscmp_yes (i a j b v : Int)
    (X : Hid (∀ w : World, Calls Tryd.prog 31 #[.agg #[.int .i64 i, .int .i64 a]] w fun r' w' => r' = .returned (.bool true) ∧ Below w.heap.size w w'))
    (Y : Hid (∀ w : World, Calls Tryd.prog 31 #[.agg #[.int .i64 j, .int .i64 b]] w fun r' w' => r' = .returned (.bool true) ∧ Below w.heap.size w w'))
    (O : Hid (∀ w : World, Calls Tryd.prog 48 #[.int .i64 i, .int .i64 j, .int .i64 a, .int .i64 b] w fun r' w' => r' = .returned (.int .i64 v) ∧ w' = w))
    (w : World) :
    Calls Tryd.prog 33 #[.agg #[.int .i64 i, .int .i64 a], .agg #[.int .i64 j, .int .i64 b]] w fun r' w' => r' = .returned (.int .i64 v) ∧ Below w.heap.size w w' := by
  have K0 : Hid (BS w [(w.heap.size + 1, [.int .i64 j, .int .i64 b]), (w.heap.size, [.int .i64 i, .int .i64 a])] ((w.alloc (.cells #[.int .i64 i, .int .i64 a] 38)).alloc (.cells #[.int .i64 j, .int .i64 b] 38))) := (((BS.start w).new [.int .i64 i, .int .i64 a] 38 rfl).new [.int .i64 j, .int .i64 b] 38 (by simp))
  go_enter Tryd.func33, Tryd.ntmps33
  go_wp2_with fail
  refine (X.out _).mono ?_
  rintro e W1 ⟨rfl, hb⟩
  have K1 : Hid (BS w [(w.heap.size + 1, [.int .i64 j, .int .i64 b]), (w.heap.size, [.int .i64 i, .int .i64 a])] W1) := K0.out.below hb
  clear hb K0
  have c1_0_0 : W1.cell? ⟨w.heap.size + 1, 0, none⟩ = some (.int .i64 j) := (K1.out.at (w.heap.size + 1) [.int .i64 j, .int .i64 b] (by simp)).c 0 rfl
  have c1_0_1 : W1.cell? ⟨w.heap.size + 1, 1, none⟩ = some (.int .i64 b) := (K1.out.at (w.heap.size + 1) [.int .i64 j, .int .i64 b] (by simp)).c 1 rfl
  have c1_1_0 : W1.cell? ⟨w.heap.size, 0, none⟩ = some (.int .i64 i) := (K1.out.at (w.heap.size) [.int .i64 i, .int .i64 a] (by simp)).c 0 rfl
  have c1_1_1 : W1.cell? ⟨w.heap.size, 1, none⟩ = some (.int .i64 a) := (K1.out.at (w.heap.size) [.int .i64 i, .int .i64 a] (by simp)).c 1 rfl
  go_wp2_with fail
  refine (Y.out _).mono ?_
  rintro e W2 ⟨rfl, hb⟩
  have K2 : Hid (BS w [(w.heap.size + 1, [.int .i64 j, .int .i64 b]), (w.heap.size, [.int .i64 i, .int .i64 a])] W2) := K1.out.below hb
  clear c1_0_0 c1_0_1 c1_1_0 c1_1_1
  clear hb K1
  have c2_0_0 : W2.cell? ⟨w.heap.size + 1, 0, none⟩ = some (.int .i64 j) := (K2.out.at (w.heap.size + 1) [.int .i64 j, .int .i64 b] (by simp)).c 0 rfl
  have c2_0_1 : W2.cell? ⟨w.heap.size + 1, 1, none⟩ = some (.int .i64 b) := (K2.out.at (w.heap.size + 1) [.int .i64 j, .int .i64 b] (by simp)).c 1 rfl
  have c2_1_0 : W2.cell? ⟨w.heap.size, 0, none⟩ = some (.int .i64 i) := (K2.out.at (w.heap.size) [.int .i64 i, .int .i64 a] (by simp)).c 0 rfl
  have c2_1_1 : W2.cell? ⟨w.heap.size, 1, none⟩ = some (.int .i64 a) := (K2.out.at (w.heap.size) [.int .i64 i, .int .i64 a] (by simp)).c 1 rfl
  go_wp2_with fail
  refine (O.out _).mono ?_
  rintro e W3 ⟨rfl, rfl⟩
  go_wp2
  go_ret
  exact ⟨rfl, K2.out.1⟩

set_option maxRecDepth 100000 in
set_option maxHeartbeats 4000000 in
theorem radd_no (i d n : Int)
    (R : Hid (∀ w : World, Calls Tryd.prog 14 #[.agg #[.int .i64 i, .int .i64 d]] w fun r' w' => r' = .returned (.bool false) ∧ Below w.heap.size w w'))
    (w : World) :
    Calls Tryd.prog 17 #[.agg #[.int .i64 i, .int .i64 d], .int .i64 n] w fun r' w' => r' = .returned (.tuple #[.agg #[.int .i64 0, .int .i64 0], .int .i64 1]) ∧ Below w.heap.size w w' := by
  have K0 : Hid (BS w [(w.heap.size + 1, [.int .i64 0, .int .i64 0]), (w.heap.size, [.int .i64 i, .int .i64 d])] ((w.alloc (.cells #[.int .i64 i, .int .i64 d] 23)).alloc (.cells #[.int .i64 0, .int .i64 0] 23))) := (((BS.start w).new [.int .i64 i, .int .i64 d] 23 rfl).new [.int .i64 0, .int .i64 0] 23 (by simp))
  go_enter Tryd.func17, Tryd.ntmps17
  go_wp2_with fail
  refine (R.out _).mono ?_
  rintro e W1 ⟨rfl, hb⟩
  have K1 : Hid (BS w [(w.heap.size + 1, [.int .i64 0, .int .i64 0]), (w.heap.size, [.int .i64 i, .int .i64 d])] W1) := K0.out.below hb
  clear hb K0
  have c1_0_0 : W1.cell? ⟨w.heap.size + 1, 0, none⟩ = some (.int .i64 0) := (K1.out.at (w.heap.size + 1) [.int .i64 0, .int .i64 0] (by simp)).c 0 rfl
  have z1_0_0 : W1.frozen? ⟨w.heap.size + 1, 0, none⟩ = false := (K1.out.at (w.heap.size + 1) [.int .i64 0, .int .i64 0] (by simp)).f 0 rfl
  have c1_0_1 : W1.cell? ⟨w.heap.size + 1, 1, none⟩ = some (.int .i64 0) := (K1.out.at (w.heap.size + 1) [.int .i64 0, .int .i64 0] (by simp)).c 1 rfl
  have z1_0_1 : W1.frozen? ⟨w.heap.size + 1, 1, none⟩ = false := (K1.out.at (w.heap.size + 1) [.int .i64 0, .int .i64 0] (by simp)).f 1 rfl
  have c1_1_0 : W1.cell? ⟨w.heap.size, 0, none⟩ = some (.int .i64 i) := (K1.out.at (w.heap.size) [.int .i64 i, .int .i64 d] (by simp)).c 0 rfl
  have c1_1_1 : W1.cell? ⟨w.heap.size, 1, none⟩ = some (.int .i64 d) := (K1.out.at (w.heap.size) [.int .i64 i, .int .i64 d] (by simp)).c 1 rfl
  have XF : Hid (Bx (W1.setCells (w.heap.size + 1) 0 [.int .i64 0, .int .i64 0]) (w.heap.size + 1) [.int .i64 0, .int .i64 0]) := (K1.out.at (w.heap.size + 1) [.int .i64 0, .int .i64 0] (by simp)).setAll _ rfl
  have BF : Hid (Below w.heap.size w (W1.setCells (w.heap.size + 1) 0 [.int .i64 0, .int .i64 0])) := below_setCells (by omega) _ _ _ K1.out.1
  have y0 := XF.out.c 0 rfl
  have y1 := XF.out.c 1 rfl
  simp only [World.setCells, Nat.zero_add] at y0 y1
  clear XF
  go_wp2
  exact bodyPost_ret (v := .tuple #[.agg #[.int .i64 0, .int .i64 0], .int .i64 1]) (by simp [results, Tryd.results17, go_sem, y0, y1]) rfl ⟨rfl, BF.out⟩

set_option maxRecDepth 100000 in
set_option maxHeartbeats 4000000 in
theorem radd_inf (i d n : Int) (hi : i ≠ 0)
    (R : Hid (∀ w : World, Calls Tryd.prog 14 #[.agg #[.int .i64 i, .int .i64 d]] w fun r' w' => r' = .returned (.bool true) ∧ Below w.heap.size w w'))
    (w : World) :
    Calls Tryd.prog 17 #[.agg #[.int .i64 i, .int .i64 d], .int .i64 n] w fun r' w' => r' = .returned (.tuple #[.agg #[.int .i64 i, .int .i64 d], .int .i64 0]) ∧ Below w.heap.size w w' := by
  have i1 : (i != 0) = true := bne_iff_ne.2 hi
  have K0 : Hid (BS w [(w.heap.size + 1, [.int .i64 0, .int .i64 0]), (w.heap.size, [.int .i64 i, .int .i64 d])] ((w.alloc (.cells #[.int .i64 i, .int .i64 d] 23)).alloc (.cells #[.int .i64 0, .int .i64 0] 23))) := (((BS.start w).new [.int .i64 i, .int .i64 d] 23 rfl).new [.int .i64 0, .int .i64 0] 23 (by simp))
  go_enter Tryd.func17, Tryd.ntmps17
  go_wp2_with fail
  refine (R.out _).mono ?_
  rintro e W1 ⟨rfl, hb⟩
  have K1 : Hid (BS w [(w.heap.size + 1, [.int .i64 0, .int .i64 0]), (w.heap.size, [.int .i64 i, .int .i64 d])] W1) := K0.out.below hb
  clear hb K0
  have c1_0_0 : W1.cell? ⟨w.heap.size + 1, 0, none⟩ = some (.int .i64 0) := (K1.out.at (w.heap.size + 1) [.int .i64 0, .int .i64 0] (by simp)).c 0 rfl
  have z1_0_0 : W1.frozen? ⟨w.heap.size + 1, 0, none⟩ = false := (K1.out.at (w.heap.size + 1) [.int .i64 0, .int .i64 0] (by simp)).f 0 rfl
  have c1_0_1 : W1.cell? ⟨w.heap.size + 1, 1, none⟩ = some (.int .i64 0) := (K1.out.at (w.heap.size + 1) [.int .i64 0, .int .i64 0] (by simp)).c 1 rfl
  have z1_0_1 : W1.frozen? ⟨w.heap.size + 1, 1, none⟩ = false := (K1.out.at (w.heap.size + 1) [.int .i64 0, .int .i64 0] (by simp)).f 1 rfl
  have c1_1_0 : W1.cell? ⟨w.heap.size, 0, none⟩ = some (.int .i64 i) := (K1.out.at (w.heap.size) [.int .i64 i, .int .i64 d] (by simp)).c 0 rfl
  have c1_1_1 : W1.cell? ⟨w.heap.size, 1, none⟩ = some (.int .i64 d) := (K1.out.at (w.heap.size) [.int .i64 i, .int .i64 d] (by simp)).c 1 rfl
  have XF : Hid (Bx (W1.setCells (w.heap.size + 1) 0 [.int .i64 i, .int .i64 d]) (w.heap.size + 1) [.int .i64 i, .int .i64 d]) := (K1.out.at (w.heap.size + 1) [.int .i64 0, .int .i64 0] (by simp)).setAll _ rfl
  have BF : Hid (Below w.heap.size w (W1.setCells (w.heap.size + 1) 0 [.int .i64 i, .int .i64 d])) := below_setCells (by omega) _ _ _ K1.out.1
  have y0 := XF.out.c 0 rfl
  have y1 := XF.out.c 1 rfl
  simp only [World.setCells, Nat.zero_add] at y0 y1
  clear XF
  go_wp2
  exact bodyPost_ret (v := .tuple #[.agg #[.int .i64 i, .int .i64 d], .int .i64 0]) (by simp [results, Tryd.results17, go_sem, y0, y1]) rfl ⟨rfl, BF.out⟩

set_option maxRecDepth 100000 in
set_option maxHeartbeats 4000000 in
theorem radd_yes (d n v e V E : Int)
    (R : Hid (∀ w : World, Calls Tryd.prog 14 #[.agg #[.int .i64 0, .int .i64 d]] w fun r' w' => r' = .returned (.bool true) ∧ Below w.heap.size w w'))
    (F : Hid (∀ w : World, Calls Tryd.prog 44 #[.int .i64 d, .int .i64 n] w fun r' w' => r' = .returned (.tuple #[.int .i64 v, .int .i64 e]) ∧ Below w.heap.size w w'))
    (O : Hid (∀ w : World, Calls Tryd.prog 43 #[.int .i64 v, .int .i64 e] w fun r' w' => r' = .returned (.tuple #[.agg #[.int .i64 0, .int .i64 V], .int .i64 E]) ∧ Below w.heap.size w w'))
    (w : World) :
    Calls Tryd.prog 17 #[.agg #[.int .i64 0, .int .i64 d], .int .i64 n] w fun r' w' => r' = .returned (.tuple #[.agg #[.int .i64 0, .int .i64 V], .int .i64 E]) ∧ Below w.heap.size w w' := by
  have K0 : Hid (BS w [(w.heap.size + 1, [.int .i64 0, .int .i64 0]), (w.heap.size, [.int .i64 0, .int .i64 d])] ((w.alloc (.cells #[.int .i64 0, .int .i64 d] 23)).alloc (.cells #[.int .i64 0, .int .i64 0] 23))) := (((BS.start w).new [.int .i64 0, .int .i64 d] 23 rfl).new [.int .i64 0, .int .i64 0] 23 (by simp))
  go_enter Tryd.func17, Tryd.ntmps17
  go_wp2_with fail
  refine (R.out _).mono ?_
  rintro e W1 ⟨rfl, hb⟩
  have K1 : Hid (BS w [(w.heap.size + 1, [.int .i64 0, .int .i64 0]), (w.heap.size, [.int .i64 0, .int .i64 d])] W1) := K0.out.below hb
  clear hb K0
  have c1_0_0 : W1.cell? ⟨w.heap.size + 1, 0, none⟩ = some (.int .i64 0) := (K1.out.at (w.heap.size + 1) [.int .i64 0, .int .i64 0] (by simp)).c 0 rfl
  have z1_0_0 : W1.frozen? ⟨w.heap.size + 1, 0, none⟩ = false := (K1.out.at (w.heap.size + 1) [.int .i64 0, .int .i64 0] (by simp)).f 0 rfl
  have c1_0_1 : W1.cell? ⟨w.heap.size + 1, 1, none⟩ = some (.int .i64 0) := (K1.out.at (w.heap.size + 1) [.int .i64 0, .int .i64 0] (by simp)).c 1 rfl
  have z1_0_1 : W1.frozen? ⟨w.heap.size + 1, 1, none⟩ = false := (K1.out.at (w.heap.size + 1) [.int .i64 0, .int .i64 0] (by simp)).f 1 rfl
  have c1_1_0 : W1.cell? ⟨w.heap.size, 0, none⟩ = some (.int .i64 0) := (K1.out.at (w.heap.size) [.int .i64 0, .int .i64 d] (by simp)).c 0 rfl
  have c1_1_1 : W1.cell? ⟨w.heap.size, 1, none⟩ = some (.int .i64 d) := (K1.out.at (w.heap.size) [.int .i64 0, .int .i64 d] (by simp)).c 1 rfl
  go_wp2_with fail
  refine (F.out _).mono ?_
  rintro e W2 ⟨rfl, hb⟩
  have K2 : Hid (BS w [(w.heap.size + 1, [.int .i64 0, .int .i64 0]), (w.heap.size, [.int .i64 0, .int .i64 d])] W2) := K1.out.below hb
  clear c1_0_0 z1_0_0 c1_0_1 z1_0_1 c1_1_0 c1_1_1
  clear hb K1
  have c2_0_0 : W2.cell? ⟨w.heap.size + 1, 0, none⟩ = some (.int .i64 0) := (K2.out.at (w.heap.size + 1) [.int .i64 0, .int .i64 0] (by simp)).c 0 rfl
  have z2_0_0 : W2.frozen? ⟨w.heap.size + 1, 0, none⟩ = false := (K2.out.at (w.heap.size + 1) [.int .i64 0, .int .i64 0] (by simp)).f 0 rfl
  have c2_0_1 : W2.cell? ⟨w.heap.size + 1, 1, none⟩ = some (.int .i64 0) := (K2.out.at (w.heap.size + 1) [.int .i64 0, .int .i64 0] (by simp)).c 1 rfl
  have z2_0_1 : W2.frozen? ⟨w.heap.size + 1, 1, none⟩ = false := (K2.out.at (w.heap.size + 1) [.int .i64 0, .int .i64 0] (by simp)).f 1 rfl
  have c2_1_0 : W2.cell? ⟨w.heap.size, 0, none⟩ = some (.int .i64 0) := (K2.out.at (w.heap.size) [.int .i64 0, .int .i64 d] (by simp)).c 0 rfl
  have c2_1_1 : W2.cell? ⟨w.heap.size, 1, none⟩ = some (.int .i64 d) := (K2.out.at (w.heap.size) [.int .i64 0, .int .i64 d] (by simp)).c 1 rfl
  go_wp2_with fail
  refine (O.out _).mono ?_
  rintro e W3 ⟨rfl, hb⟩
  have K3 : Hid (BS w [(w.heap.size + 1, [.int .i64 0, .int .i64 0]), (w.heap.size, [.int .i64 0, .int .i64 d])] W3) := K2.out.below hb
  clear c2_0_0 z2_0_0 c2_0_1 z2_0_1 c2_1_0 c2_1_1
  clear hb K2
  have c3_0_0 : W3.cell? ⟨w.heap.size + 1, 0, none⟩ = some (.int .i64 0) := (K3.out.at (w.heap.size + 1) [.int .i64 0, .int .i64 0] (by simp)).c 0 rfl
  have z3_0_0 : W3.frozen? ⟨w.heap.size + 1, 0, none⟩ = false := (K3.out.at (w.heap.size + 1) [.int .i64 0, .int .i64 0] (by simp)).f 0 rfl
  have c3_0_1 : W3.cell? ⟨w.heap.size + 1, 1, none⟩ = some (.int .i64 0) := (K3.out.at (w.heap.size + 1) [.int .i64 0, .int .i64 0] (by simp)).c 1 rfl
  have z3_0_1 : W3.frozen? ⟨w.heap.size + 1, 1, none⟩ = false := (K3.out.at (w.heap.size + 1) [.int .i64 0, .int .i64 0] (by simp)).f 1 rfl
  have c3_1_0 : W3.cell? ⟨w.heap.size, 0, none⟩ = some (.int .i64 0) := (K3.out.at (w.heap.size) [.int .i64 0, .int .i64 d] (by simp)).c 0 rfl
  have c3_1_1 : W3.cell? ⟨w.heap.size, 1, none⟩ = some (.int .i64 d) := (K3.out.at (w.heap.size) [.int .i64 0, .int .i64 d] (by simp)).c 1 rfl
  have XF : Hid (Bx (W3.setCells (w.heap.size + 1) 0 [.int .i64 0, .int .i64 V]) (w.heap.size + 1) [.int .i64 0, .int .i64 V]) := (K3.out.at (w.heap.size + 1) [.int .i64 0, .int .i64 0] (by simp)).setAll _ rfl
  have BF : Hid (Below w.heap.size w (W3.setCells (w.heap.size + 1) 0 [.int .i64 0, .int .i64 V])) := below_setCells (by omega) _ _ _ K3.out.1
  have y0 := XF.out.c 0 rfl
  have y1 := XF.out.c 1 rfl
  simp only [World.setCells, Nat.zero_add] at y0 y1
  clear XF
  go_wp2
  exact bodyPost_ret (v := .tuple #[.agg #[.int .i64 0, .int .i64 V], .int .i64 E]) (by simp [results, Tryd.results17, go_sem, y0, y1]) rfl ⟨rfl, BF.out⟩

set_option maxRecDepth 100000 in
set_option maxHeartbeats 4000000 in
theorem rshf_no (i d n : Int)
    (R : Hid (∀ w : World, Calls Tryd.prog 14 #[.agg #[.int .i64 i, .int .i64 d]] w fun r' w' => r' = .returned (.bool false) ∧ Below w.heap.size w w'))
    (w : World) :
    Calls Tryd.prog 21 #[.agg #[.int .i64 i, .int .i64 d], .int .i64 n] w fun r' w' => r' = .returned (.tuple #[.agg #[.int .i64 0, .int .i64 0], .int .i64 1]) ∧ Below w.heap.size w w' := by
  have K0 : Hid (BS w [(w.heap.size + 1, [.int .i64 0, .int .i64 0]), (w.heap.size, [.int .i64 i, .int .i64 d])] ((w.alloc (.cells #[.int .i64 i, .int .i64 d] 23)).alloc (.cells #[.int .i64 0, .int .i64 0] 23))) := (((BS.start w).new [.int .i64 i, .int .i64 d] 23 rfl).new [.int .i64 0, .int .i64 0] 23 (by simp))
  go_enter Tryd.func21, Tryd.ntmps21
  go_wp2_with fail
  refine (R.out _).mono ?_
  rintro e W1 ⟨rfl, hb⟩
  have K1 : Hid (BS w [(w.heap.size + 1, [.int .i64 0, .int .i64 0]), (w.heap.size, [.int .i64 i, .int .i64 d])] W1) := K0.out.below hb
  clear hb K0
  have c1_0_0 : W1.cell? ⟨w.heap.size + 1, 0, none⟩ = some (.int .i64 0) := (K1.out.at (w.heap.size + 1) [.int .i64 0, .int .i64 0] (by simp)).c 0 rfl
  have z1_0_0 : W1.frozen? ⟨w.heap.size + 1, 0, none⟩ = false := (K1.out.at (w.heap.size + 1) [.int .i64 0, .int .i64 0] (by simp)).f 0 rfl
  have c1_0_1 : W1.cell? ⟨w.heap.size + 1, 1, none⟩ = some (.int .i64 0) := (K1.out.at (w.heap.size + 1) [.int .i64 0, .int .i64 0] (by simp)).c 1 rfl
  have z1_0_1 : W1.frozen? ⟨w.heap.size + 1, 1, none⟩ = false := (K1.out.at (w.heap.size + 1) [.int .i64 0, .int .i64 0] (by simp)).f 1 rfl
  have c1_1_0 : W1.cell? ⟨w.heap.size, 0, none⟩ = some (.int .i64 i) := (K1.out.at (w.heap.size) [.int .i64 i, .int .i64 d] (by simp)).c 0 rfl
  have c1_1_1 : W1.cell? ⟨w.heap.size, 1, none⟩ = some (.int .i64 d) := (K1.out.at (w.heap.size) [.int .i64 i, .int .i64 d] (by simp)).c 1 rfl
  have XF : Hid (Bx (W1.setCells (w.heap.size + 1) 0 [.int .i64 0, .int .i64 0]) (w.heap.size + 1) [.int .i64 0, .int .i64 0]) := (K1.out.at (w.heap.size + 1) [.int .i64 0, .int .i64 0] (by simp)).setAll _ rfl
  have BF : Hid (Below w.heap.size w (W1.setCells (w.heap.size + 1) 0 [.int .i64 0, .int .i64 0])) := below_setCells (by omega) _ _ _ K1.out.1
  have y0 := XF.out.c 0 rfl
  have y1 := XF.out.c 1 rfl
  simp only [World.setCells, Nat.zero_add] at y0 y1
  clear XF
  go_wp2
  exact bodyPost_ret (v := .tuple #[.agg #[.int .i64 0, .int .i64 0], .int .i64 1]) (by simp [results, Tryd.results21, go_sem, y0, y1]) rfl ⟨rfl, BF.out⟩

set_option maxRecDepth 100000 in
set_option maxHeartbeats 4000000 in
theorem rshf_inf (i d n : Int) (hi : i ≠ 0)
    (R : Hid (∀ w : World, Calls Tryd.prog 14 #[.agg #[.int .i64 i, .int .i64 d]] w fun r' w' => r' = .returned (.bool true) ∧ Below w.heap.size w w'))
    (w : World) :
    Calls Tryd.prog 21 #[.agg #[.int .i64 i, .int .i64 d], .int .i64 n] w fun r' w' => r' = .returned (.tuple #[.agg #[.int .i64 i, .int .i64 d], .int .i64 0]) ∧ Below w.heap.size w w' := by
  have i1 : (i != 0) = true := bne_iff_ne.2 hi
  have K0 : Hid (BS w [(w.heap.size + 1, [.int .i64 0, .int .i64 0]), (w.heap.size, [.int .i64 i, .int .i64 d])] ((w.alloc (.cells #[.int .i64 i, .int .i64 d] 23)).alloc (.cells #[.int .i64 0, .int .i64 0] 23))) := (((BS.start w).new [.int .i64 i, .int .i64 d] 23 rfl).new [.int .i64 0, .int .i64 0] 23 (by simp))
  go_enter Tryd.func21, Tryd.ntmps21
  go_wp2_with fail
  refine (R.out _).mono ?_
  rintro e W1 ⟨rfl, hb⟩
  have K1 : Hid (BS w [(w.heap.size + 1, [.int .i64 0, .int .i64 0]), (w.heap.size, [.int .i64 i, .int .i64 d])] W1) := K0.out.below hb
  clear hb K0
  have c1_0_0 : W1.cell? ⟨w.heap.size + 1, 0, none⟩ = some (.int .i64 0) := (K1.out.at (w.heap.size + 1) [.int .i64 0, .int .i64 0] (by simp)).c 0 rfl
  have z1_0_0 : W1.frozen? ⟨w.heap.size + 1, 0, none⟩ = false := (K1.out.at (w.heap.size + 1) [.int .i64 0, .int .i64 0] (by simp)).f 0 rfl
  have c1_0_1 : W1.cell? ⟨w.heap.size + 1, 1, none⟩ = some (.int .i64 0) := (K1.out.at (w.heap.size + 1) [.int .i64 0, .int .i64 0] (by simp)).c 1 rfl
  have z1_0_1 : W1.frozen? ⟨w.heap.size + 1, 1, none⟩ = false := (K1.out.at (w.heap.size + 1) [.int .i64 0, .int .i64 0] (by simp)).f 1 rfl
  have c1_1_0 : W1.cell? ⟨w.heap.size, 0, none⟩ = some (.int .i64 i) := (K1.out.at (w.heap.size) [.int .i64 i, .int .i64 d] (by simp)).c 0 rfl
  have c1_1_1 : W1.cell? ⟨w.heap.size, 1, none⟩ = some (.int .i64 d) := (K1.out.at (w.heap.size) [.int .i64 i, .int .i64 d] (by simp)).c 1 rfl
  have XF : Hid (Bx (W1.setCells (w.heap.size + 1) 0 [.int .i64 i, .int .i64 d]) (w.heap.size + 1) [.int .i64 i, .int .i64 d]) := (K1.out.at (w.heap.size + 1) [.int .i64 0, .int .i64 0] (by simp)).setAll _ rfl
  have BF : Hid (Below w.heap.size w (W1.setCells (w.heap.size + 1) 0 [.int .i64 i, .int .i64 d])) := below_setCells (by omega) _ _ _ K1.out.1
  have y0 := XF.out.c 0 rfl
  have y1 := XF.out.c 1 rfl
  simp only [World.setCells, Nat.zero_add] at y0 y1
  clear XF
  go_wp2
  exact bodyPost_ret (v := .tuple #[.agg #[.int .i64 i, .int .i64 d], .int .i64 0]) (by simp [results, Tryd.results21, go_sem, y0, y1]) rfl ⟨rfl, BF.out⟩

set_option maxRecDepth 100000 in
set_option maxHeartbeats 4000000 in
theorem rshf_yes (d n v e V E : Int)
    (R : Hid (∀ w : World, Calls Tryd.prog 14 #[.agg #[.int .i64 0, .int .i64 d]] w fun r' w' => r' = .returned (.bool true) ∧ Below w.heap.size w w'))
    (F : Hid (∀ w : World, Calls Tryd.prog 47 #[.int .i64 d, .int .i64 n] w fun r' w' => r' = .returned (.tuple #[.int .i64 v, .int .i64 e]) ∧ w' = w))
    (O : Hid (∀ w : World, Calls Tryd.prog 43 #[.int .i64 v, .int .i64 e] w fun r' w' => r' = .returned (.tuple #[.agg #[.int .i64 0, .int .i64 V], .int .i64 E]) ∧ Below w.heap.size w w'))
    (w : World) :
    Calls Tryd.prog 21 #[.agg #[.int .i64 0, .int .i64 d], .int .i64 n] w fun r' w' => r' = .returned (.tuple #[.agg #[.int .i64 0, .int .i64 V], .int .i64 E]) ∧ Below w.heap.size w w' := by
  have K0 : Hid (BS w [(w.heap.size + 1, [.int .i64 0, .int .i64 0]), (w.heap.size, [.int .i64 0, .int .i64 d])] ((w.alloc (.cells #[.int .i64 0, .int .i64 d] 23)).alloc (.cells #[.int .i64 0, .int .i64 0] 23))) := (((BS.start w).new [.int .i64 0, .int .i64 d] 23 rfl).new [.int .i64 0, .int .i64 0] 23 (by simp))
  go_enter Tryd.func21, Tryd.ntmps21
  go_wp2_with fail
  refine (R.out _).mono ?_
  rintro e W1 ⟨rfl, hb⟩
  have K1 : Hid (BS w [(w.heap.size + 1, [.int .i64 0, .int .i64 0]), (w.heap.size, [.int .i64 0, .int .i64 d])] W1) := K0.out.below hb
  clear hb K0
  have c1_0_0 : W1.cell? ⟨w.heap.size + 1, 0, none⟩ = some (.int .i64 0) := (K1.out.at (w.heap.size + 1) [.int .i64 0, .int .i64 0] (by simp)).c 0 rfl
  have z1_0_0 : W1.frozen? ⟨w.heap.size + 1, 0, none⟩ = false := (K1.out.at (w.heap.size + 1) [.int .i64 0, .int .i64 0] (by simp)).f 0 rfl
  have c1_0_1 : W1.cell? ⟨w.heap.size + 1, 1, none⟩ = some (.int .i64 0) := (K1.out.at (w.heap.size + 1) [.int .i64 0, .int .i64 0] (by simp)).c 1 rfl
  have z1_0_1 : W1.frozen? ⟨w.heap.size + 1, 1, none⟩ = false := (K1.out.at (w.heap.size + 1) [.int .i64 0, .int .i64 0] (by simp)).f 1 rfl
  have c1_1_0 : W1.cell? ⟨w.heap.size, 0, none⟩ = some (.int .i64 0) := (K1.out.at (w.heap.size) [.int .i64 0, .int .i64 d] (by simp)).c 0 rfl
  have c1_1_1 : W1.cell? ⟨w.heap.size, 1, none⟩ = some (.int .i64 d) := (K1.out.at (w.heap.size) [.int .i64 0, .int .i64 d] (by simp)).c 1 rfl
  go_wp2_with fail
  refine (F.out _).mono ?_
  rintro e W2 ⟨rfl, rfl⟩
  go_wp2_with fail
  refine (O.out _).mono ?_
  rintro e W3 ⟨rfl, hb⟩
  have K3 : Hid (BS w [(w.heap.size + 1, [.int .i64 0, .int .i64 0]), (w.heap.size, [.int .i64 0, .int .i64 d])] W3) := K1.out.below hb
  clear c1_0_0 z1_0_0 c1_0_1 z1_0_1 c1_1_0 c1_1_1
  clear hb K1
  have c3_0_0 : W3.cell? ⟨w.heap.size + 1, 0, none⟩ = some (.int .i64 0) := (K3.out.at (w.heap.size + 1) [.int .i64 0, .int .i64 0] (by simp)).c 0 rfl
  have z3_0_0 : W3.frozen? ⟨w.heap.size + 1, 0, none⟩ = false := (K3.out.at (w.heap.size + 1) [.int .i64 0, .int .i64 0] (by simp)).f 0 rfl
  have c3_0_1 : W3.cell? ⟨w.heap.size + 1, 1, none⟩ = some (.int .i64 0) := (K3.out.at (w.heap.size + 1) [.int .i64 0, .int .i64 0] (by simp)).c 1 rfl
  have z3_0_1 : W3.frozen? ⟨w.heap.size + 1, 1, none⟩ = false := (K3.out.at (w.heap.size + 1) [.int .i64 0, .int .i64 0] (by simp)).f 1 rfl
  have c3_1_0 : W3.cell? ⟨w.heap.size, 0, none⟩ = some (.int .i64 0) := (K3.out.at (w.heap.size) [.int .i64 0, .int .i64 d] (by simp)).c 0 rfl
  have c3_1_1 : W3.cell? ⟨w.heap.size, 1, none⟩ = some (.int .i64 d) := (K3.out.at (w.heap.size) [.int .i64 0, .int .i64 d] (by simp)).c 1 rfl
  have XF : Hid (Bx (W3.setCells (w.heap.size + 1) 0 [.int .i64 0, .int .i64 V]) (w.heap.size + 1) [.int .i64 0, .int .i64 V]) := (K3.out.at (w.heap.size + 1) [.int .i64 0, .int .i64 0] (by simp)).setAll _ rfl
  have BF : Hid (Below w.heap.size w (W3.setCells (w.heap.size + 1) 0 [.int .i64 0, .int .i64 V])) := below_setCells (by omega) _ _ _ K3.out.1
  have y0 := XF.out.c 0 rfl
  have y1 := XF.out.c 1 rfl
  simp only [World.setCells, Nat.zero_add] at y0 y1
  clear XF
  go_wp2
  exact bodyPost_ret (v := .tuple #[.agg #[.int .i64 0, .int .i64 V], .int .i64 E]) (by simp [results, Tryd.results21, go_sem, y0, y1]) rfl ⟨rfl, BF.out⟩


end Go.Proofs.YtghfgabajdghiaaDoor
