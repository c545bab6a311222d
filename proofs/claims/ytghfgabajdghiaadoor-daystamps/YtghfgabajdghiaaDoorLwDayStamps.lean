/- The walk of DayStamps. -/
import Derived.Test.YtghfgabajdghiaaDoorDyK
import Derived.Deep.Cut
namespace Go.Proofs.YtghfgabajdghiaaDoor
open Go.RowKit
set_option linter.unusedVariables false

set_option maxRecDepth 100000 in
set_option maxHeartbeats 4000000 in
theorem core_DayStamps (i a n j b l c s t S p q P f g h e z : Int) (v : Bool)
    (A1 : Hid (∀ w : World, Cvl.Lens w → Calls Tryd.prog 24 #[.agg #[.int .i64 i, .int .i64 a], .int .i64 n] w fun r' w' => r' = .returned (.tuple #[.agg #[.int .i64 s, .int .i64 t], .int .i64 S]) ∧ Below w.heap.size w w'))
    (A2 : Hid (∀ w : World, Calls Tryd.prog 25 #[.agg #[.int .i64 i, .int .i64 a], .int .i64 n] w fun r' w' => r' = .returned (.tuple #[.agg #[.int .i64 s, .int .i64 t], .int .i64 S]) ∧ Below w.heap.size w w'))
    (S1 : Hid (∀ w : World, Cvl.Lens w → Calls Tryd.prog 26 #[.agg #[.int .i64 i, .int .i64 a]] w fun r' w' => r' = .returned (.tuple #[.agg #[.int .i64 p, .int .i64 q], .int .i64 P]) ∧ Below w.heap.size w w'))
    (S2 : Hid (∀ w : World, Calls Tryd.prog 27 #[.agg #[.int .i64 i, .int .i64 a]] w fun r' w' => r' = .returned (.tuple #[.agg #[.int .i64 p, .int .i64 q], .int .i64 P]) ∧ Below w.heap.size w w'))
    (O1 : Hid (∀ w : World, Cvl.Lens w → Calls Tryd.prog 28 #[.agg #[.int .i64 j, .int .i64 b]] w fun r' w' => r' = .returned (.tuple #[.agg #[.int .i64 f, .int .i64 g], .int .i64 h, .int .i64 e]) ∧ Below w.heap.size w w'))
    (O2 : Hid (∀ w : World, Calls Tryd.prog 29 #[.agg #[.int .i64 j, .int .i64 b]] w fun r' w' => r' = .returned (.tuple #[.agg #[.int .i64 f, .int .i64 g], .int .i64 h, .int .i64 e]) ∧ Below w.heap.size w w'))
    (V1 : Hid (∀ w : World, Cvl.Lens w → Calls Tryd.prog 30 #[.agg #[.int .i64 j, .int .i64 b]] w fun r' w' => r' = .returned (.bool v) ∧ Below w.heap.size w w'))
    (V2 : Hid (∀ w : World, Calls Tryd.prog 31 #[.agg #[.int .i64 j, .int .i64 b]] w fun r' w' => r' = .returned (.bool v) ∧ Below w.heap.size w w'))
    (C1 : Hid (∀ w : World, Cvl.Lens w → Calls Tryd.prog 32 #[.agg #[.int .i64 j, .int .i64 b], .agg #[.int .i64 l, .int .i64 c]] w fun r' w' => r' = .returned (.int .i64 z) ∧ Below w.heap.size w w'))
    (C2 : Hid (∀ w : World, Calls Tryd.prog 33 #[.agg #[.int .i64 j, .int .i64 b], .agg #[.int .i64 l, .int .i64 c]] w fun r' w' => r' = .returned (.int .i64 z) ∧ Below w.heap.size w w'))
    (KN : Hid (∀ w : World, Cvl.Lens w → Calls Tryd.prog 15 #[] w fun r' w' => r' = .returned (.bool true) ∧ Below w.heap.size w w'))
    (w : World) (hL : Hid (∀ W : World, Below w.heap.size w W → Cvl.Lens W)) :
    Calls Tryd.prog 5 #[.agg #[.int .i64 i, .int .i64 a], .int .i64 n, .agg #[.int .i64 j, .int .i64 b], .agg #[.int .i64 l, .int .i64 c]] w fun r' w' => r' = .returned (.bool true) ∧ Below w.heap.size w w' := by
  have K0 : Hid (BS w [(w.heap.size + 2, [.int .i64 l, .int .i64 c]), (w.heap.size + 1, [.int .i64 j, .int .i64 b]), (w.heap.size, [.int .i64 i, .int .i64 a])] (((w.alloc (.cells #[.int .i64 i, .int .i64 a] 23)).alloc (.cells #[.int .i64 j, .int .i64 b] 38)).alloc (.cells #[.int .i64 l, .int .i64 c] 38))) := ((((BS.start w).new [.int .i64 i, .int .i64 a] 23 rfl).new [.int .i64 j, .int .i64 b] 38 (by simp)).new [.int .i64 l, .int .i64 c] 38 (by simp))
  go_enter Tryd.func5, Tryd.ntmps5
  go_wp2_with fail
  refine (A1.out _ (hL.out _ K0.out.1)).mono ?_
  rintro e W1 ⟨rfl, hb⟩
  have K1 : Hid (BS w [(w.heap.size + 2, [.int .i64 l, .int .i64 c]), (w.heap.size + 1, [.int .i64 j, .int .i64 b]), (w.heap.size, [.int .i64 i, .int .i64 a])] W1) := K0.out.below hb
  clear hb K0
  have c1_0_0 : W1.cell? ⟨w.heap.size + 2, 0, none⟩ = some (.int .i64 l) := (K1.out.at (w.heap.size + 2) [.int .i64 l, .int .i64 c] (by simp)).c 0 rfl
  have c1_0_1 : W1.cell? ⟨w.heap.size + 2, 1, none⟩ = some (.int .i64 c) := (K1.out.at (w.heap.size + 2) [.int .i64 l, .int .i64 c] (by simp)).c 1 rfl
  have c1_1_0 : W1.cell? ⟨w.heap.size + 1, 0, none⟩ = some (.int .i64 j) := (K1.out.at (w.heap.size + 1) [.int .i64 j, .int .i64 b] (by simp)).c 0 rfl
  have c1_1_1 : W1.cell? ⟨w.heap.size + 1, 1, none⟩ = some (.int .i64 b) := (K1.out.at (w.heap.size + 1) [.int .i64 j, .int .i64 b] (by simp)).c 1 rfl
  have c1_2_0 : W1.cell? ⟨w.heap.size, 0, none⟩ = some (.int .i64 i) := (K1.out.at (w.heap.size) [.int .i64 i, .int .i64 a] (by simp)).c 0 rfl
  have c1_2_1 : W1.cell? ⟨w.heap.size, 1, none⟩ = some (.int .i64 a) := (K1.out.at (w.heap.size) [.int .i64 i, .int .i64 a] (by simp)).c 1 rfl
  have Mz1 : Hid (BS w [(W1.heap.size, [.int .i64 s, .int .i64 t]), (w.heap.size + 2, [.int .i64 l, .int .i64 c]), (w.heap.size + 1, [.int .i64 j, .int .i64 b]), (w.heap.size, [.int .i64 i, .int .i64 a])] (W1.alloc (.cells #[.int .i64 s, .int .i64 t] 38))) := K1.out.new [.int .i64 s, .int .i64 t] 38 rfl
  go_upto_region 2 with fail
  refine gen_to (BS w [(W1.heap.size, [.int .i64 s, .int .i64 t]), (w.heap.size + 2, [.int .i64 l, .int .i64 c]), (w.heap.size + 1, [.int .i64 j, .int .i64 b]), (w.heap.size, [.int .i64 i, .int .i64 a])]) Mz1.out ?_
  clear c1_0_0 c1_0_1 c1_1_0 c1_1_1 c1_2_0 c1_2_1
  intro W2 K2'
  have K2 : Hid (BS w [(W1.heap.size, [.int .i64 s, .int .i64 t]), (w.heap.size + 2, [.int .i64 l, .int .i64 c]), (w.heap.size + 1, [.int .i64 j, .int .i64 b]), (w.heap.size, [.int .i64 i, .int .i64 a])] W2) := K2'
  clear K2' Mz1 K1
  have c2_0_0 : W2.cell? ⟨W1.heap.size, 0, none⟩ = some (.int .i64 s) := (K2.out.at (W1.heap.size) [.int .i64 s, .int .i64 t] (by simp)).c 0 rfl
  have c2_0_1 : W2.cell? ⟨W1.heap.size, 1, none⟩ = some (.int .i64 t) := (K2.out.at (W1.heap.size) [.int .i64 s, .int .i64 t] (by simp)).c 1 rfl
  have c2_1_0 : W2.cell? ⟨w.heap.size + 2, 0, none⟩ = some (.int .i64 l) := (K2.out.at (w.heap.size + 2) [.int .i64 l, .int .i64 c] (by simp)).c 0 rfl
  have c2_1_1 : W2.cell? ⟨w.heap.size + 2, 1, none⟩ = some (.int .i64 c) := (K2.out.at (w.heap.size + 2) [.int .i64 l, .int .i64 c] (by simp)).c 1 rfl
  have c2_2_0 : W2.cell? ⟨w.heap.size + 1, 0, none⟩ = some (.int .i64 j) := (K2.out.at (w.heap.size + 1) [.int .i64 j, .int .i64 b] (by simp)).c 0 rfl
  have c2_2_1 : W2.cell? ⟨w.heap.size + 1, 1, none⟩ = some (.int .i64 b) := (K2.out.at (w.heap.size + 1) [.int .i64 j, .int .i64 b] (by simp)).c 1 rfl
  have c2_3_0 : W2.cell? ⟨w.heap.size, 0, none⟩ = some (.int .i64 i) := (K2.out.at (w.heap.size) [.int .i64 i, .int .i64 a] (by simp)).c 0 rfl
  have c2_3_1 : W2.cell? ⟨w.heap.size, 1, none⟩ = some (.int .i64 a) := (K2.out.at (w.heap.size) [.int .i64 i, .int .i64 a] (by simp)).c 1 rfl
  go_wp2_with fail
  refine (A2.out _).mono ?_
  rintro e W3 ⟨rfl, hb⟩
  have K3 : Hid (BS w [(W1.heap.size, [.int .i64 s, .int .i64 t]), (w.heap.size + 2, [.int .i64 l, .int .i64 c]), (w.heap.size + 1, [.int .i64 j, .int .i64 b]), (w.heap.size, [.int .i64 i, .int .i64 a])] W3) := K2.out.below hb
  clear c2_0_0 c2_0_1 c2_1_0 c2_1_1 c2_2_0 c2_2_1 c2_3_0 c2_3_1
  clear hb K2
  have c3_0_0 : W3.cell? ⟨W1.heap.size, 0, none⟩ = some (.int .i64 s) := (K3.out.at (W1.heap.size) [.int .i64 s, .int .i64 t] (by simp)).c 0 rfl
  have c3_0_1 : W3.cell? ⟨W1.heap.size, 1, none⟩ = some (.int .i64 t) := (K3.out.at (W1.heap.size) [.int .i64 s, .int .i64 t] (by simp)).c 1 rfl
  have c3_1_0 : W3.cell? ⟨w.heap.size + 2, 0, none⟩ = some (.int .i64 l) := (K3.out.at (w.heap.size + 2) [.int .i64 l, .int .i64 c] (by simp)).c 0 rfl
  have c3_1_1 : W3.cell? ⟨w.heap.size + 2, 1, none⟩ = some (.int .i64 c) := (K3.out.at (w.heap.size + 2) [.int .i64 l, .int .i64 c] (by simp)).c 1 rfl
  have c3_2_0 : W3.cell? ⟨w.heap.size + 1, 0, none⟩ = some (.int .i64 j) := (K3.out.at (w.heap.size + 1) [.int .i64 j, .int .i64 b] (by simp)).c 0 rfl
  have c3_2_1 : W3.cell? ⟨w.heap.size + 1, 1, none⟩ = some (.int .i64 b) := (K3.out.at (w.heap.size + 1) [.int .i64 j, .int .i64 b] (by simp)).c 1 rfl
  have c3_3_0 : W3.cell? ⟨w.heap.size, 0, none⟩ = some (.int .i64 i) := (K3.out.at (w.heap.size) [.int .i64 i, .int .i64 a] (by simp)).c 0 rfl
  have c3_3_1 : W3.cell? ⟨w.heap.size, 1, none⟩ = some (.int .i64 a) := (K3.out.at (w.heap.size) [.int .i64 i, .int .i64 a] (by simp)).c 1 rfl
  have Mz3 : Hid (BS w [(W3.heap.size, [.int .i64 s, .int .i64 t]), (W1.heap.size, [.int .i64 s, .int .i64 t]), (w.heap.size + 2, [.int .i64 l, .int .i64 c]), (w.heap.size + 1, [.int .i64 j, .int .i64 b]), (w.heap.size, [.int .i64 i, .int .i64 a])] (W3.alloc (.cells #[.int .i64 s, .int .i64 t] 38))) := K3.out.new [.int .i64 s, .int .i64 t] 38 rfl
  go_upto_region 3 with fail
  refine gen_to (BS w [(W3.heap.size, [.int .i64 s, .int .i64 t]), (W1.heap.size, [.int .i64 s, .int .i64 t]), (w.heap.size + 2, [.int .i64 l, .int .i64 c]), (w.heap.size + 1, [.int .i64 j, .int .i64 b]), (w.heap.size, [.int .i64 i, .int .i64 a])]) Mz3.out ?_
  clear c3_0_0 c3_0_1 c3_1_0 c3_1_1 c3_2_0 c3_2_1 c3_3_0 c3_3_1
  intro W4 K4'
  have K4 : Hid (BS w [(W3.heap.size, [.int .i64 s, .int .i64 t]), (W1.heap.size, [.int .i64 s, .int .i64 t]), (w.heap.size + 2, [.int .i64 l, .int .i64 c]), (w.heap.size + 1, [.int .i64 j, .int .i64 b]), (w.heap.size, [.int .i64 i, .int .i64 a])] W4) := K4'
  clear K4' Mz3 K3
  have c4_0_0 : W4.cell? ⟨W3.heap.size, 0, none⟩ = some (.int .i64 s) := (K4.out.at (W3.heap.size) [.int .i64 s, .int .i64 t] (by simp)).c 0 rfl
  have c4_0_1 : W4.cell? ⟨W3.heap.size, 1, none⟩ = some (.int .i64 t) := (K4.out.at (W3.heap.size) [.int .i64 s, .int .i64 t] (by simp)).c 1 rfl
  have c4_1_0 : W4.cell? ⟨W1.heap.size, 0, none⟩ = some (.int .i64 s) := (K4.out.at (W1.heap.size) [.int .i64 s, .int .i64 t] (by simp)).c 0 rfl
  have c4_1_1 : W4.cell? ⟨W1.heap.size, 1, none⟩ = some (.int .i64 t) := (K4.out.at (W1.heap.size) [.int .i64 s, .int .i64 t] (by simp)).c 1 rfl
  have c4_2_0 : W4.cell? ⟨w.heap.size + 2, 0, none⟩ = some (.int .i64 l) := (K4.out.at (w.heap.size + 2) [.int .i64 l, .int .i64 c] (by simp)).c 0 rfl
  have c4_2_1 : W4.cell? ⟨w.heap.size + 2, 1, none⟩ = some (.int .i64 c) := (K4.out.at (w.heap.size + 2) [.int .i64 l, .int .i64 c] (by simp)).c 1 rfl
  have c4_3_0 : W4.cell? ⟨w.heap.size + 1, 0, none⟩ = some (.int .i64 j) := (K4.out.at (w.heap.size + 1) [.int .i64 j, .int .i64 b] (by simp)).c 0 rfl
  have c4_3_1 : W4.cell? ⟨w.heap.size + 1, 1, none⟩ = some (.int .i64 b) := (K4.out.at (w.heap.size + 1) [.int .i64 j, .int .i64 b] (by simp)).c 1 rfl
  have c4_4_0 : W4.cell? ⟨w.heap.size, 0, none⟩ = some (.int .i64 i) := (K4.out.at (w.heap.size) [.int .i64 i, .int .i64 a] (by simp)).c 0 rfl
  have c4_4_1 : W4.cell? ⟨w.heap.size, 1, none⟩ = some (.int .i64 a) := (K4.out.at (w.heap.size) [.int .i64 i, .int .i64 a] (by simp)).c 1 rfl
  go_wp2_with fail
  refine (S1.out _ (hL.out _ K4.out.1)).mono ?_
  rintro e W5 ⟨rfl, hb⟩
  have K5 : Hid (BS w [(W3.heap.size, [.int .i64 s, .int .i64 t]), (W1.heap.size, [.int .i64 s, .int .i64 t]), (w.heap.size + 2, [.int .i64 l, .int .i64 c]), (w.heap.size + 1, [.int .i64 j, .int .i64 b]), (w.heap.size, [.int .i64 i, .int .i64 a])] W5) := K4.out.below hb
  clear c4_0_0 c4_0_1 c4_1_0 c4_1_1 c4_2_0 c4_2_1 c4_3_0 c4_3_1 c4_4_0 c4_4_1
  clear hb K4
  have c5_0_0 : W5.cell? ⟨W3.heap.size, 0, none⟩ = some (.int .i64 s) := (K5.out.at (W3.heap.size) [.int .i64 s, .int .i64 t] (by simp)).c 0 rfl
  have c5_0_1 : W5.cell? ⟨W3.heap.size, 1, none⟩ = some (.int .i64 t) := (K5.out.at (W3.heap.size) [.int .i64 s, .int .i64 t] (by simp)).c 1 rfl
  have c5_1_0 : W5.cell? ⟨W1.heap.size, 0, none⟩ = some (.int .i64 s) := (K5.out.at (W1.heap.size) [.int .i64 s, .int .i64 t] (by simp)).c 0 rfl
  have c5_1_1 : W5.cell? ⟨W1.heap.size, 1, none⟩ = some (.int .i64 t) := (K5.out.at (W1.heap.size) [.int .i64 s, .int .i64 t] (by simp)).c 1 rfl
  have c5_2_0 : W5.cell? ⟨w.heap.size + 2, 0, none⟩ = some (.int .i64 l) := (K5.out.at (w.heap.size + 2) [.int .i64 l, .int .i64 c] (by simp)).c 0 rfl
  have c5_2_1 : W5.cell? ⟨w.heap.size + 2, 1, none⟩ = some (.int .i64 c) := (K5.out.at (w.heap.size + 2) [.int .i64 l, .int .i64 c] (by simp)).c 1 rfl
  have c5_3_0 : W5.cell? ⟨w.heap.size + 1, 0, none⟩ = some (.int .i64 j) := (K5.out.at (w.heap.size + 1) [.int .i64 j, .int .i64 b] (by simp)).c 0 rfl
  have c5_3_1 : W5.cell? ⟨w.heap.size + 1, 1, none⟩ = some (.int .i64 b) := (K5.out.at (w.heap.size + 1) [.int .i64 j, .int .i64 b] (by simp)).c 1 rfl
  have c5_4_0 : W5.cell? ⟨w.heap.size, 0, none⟩ = some (.int .i64 i) := (K5.out.at (w.heap.size) [.int .i64 i, .int .i64 a] (by simp)).c 0 rfl
  have c5_4_1 : W5.cell? ⟨w.heap.size, 1, none⟩ = some (.int .i64 a) := (K5.out.at (w.heap.size) [.int .i64 i, .int .i64 a] (by simp)).c 1 rfl
  have Mz5 : Hid (BS w [(W5.heap.size, [.int .i64 p, .int .i64 q]), (W3.heap.size, [.int .i64 s, .int .i64 t]), (W1.heap.size, [.int .i64 s, .int .i64 t]), (w.heap.size + 2, [.int .i64 l, .int .i64 c]), (w.heap.size + 1, [.int .i64 j, .int .i64 b]), (w.heap.size, [.int .i64 i, .int .i64 a])] (W5.alloc (.cells #[.int .i64 p, .int .i64 q] 38))) := K5.out.new [.int .i64 p, .int .i64 q] 38 rfl
  go_upto_region 4 with fail
  refine gen_to (BS w [(W5.heap.size, [.int .i64 p, .int .i64 q]), (W3.heap.size, [.int .i64 s, .int .i64 t]), (W1.heap.size, [.int .i64 s, .int .i64 t]), (w.heap.size + 2, [.int .i64 l, .int .i64 c]), (w.heap.size + 1, [.int .i64 j, .int .i64 b]), (w.heap.size, [.int .i64 i, .int .i64 a])]) Mz5.out ?_
  clear c5_0_0 c5_0_1 c5_1_0 c5_1_1 c5_2_0 c5_2_1 c5_3_0 c5_3_1 c5_4_0 c5_4_1
  intro W6 K6'
  have K6 : Hid (BS w [(W5.heap.size, [.int .i64 p, .int .i64 q]), (W3.heap.size, [.int .i64 s, .int .i64 t]), (W1.heap.size, [.int .i64 s, .int .i64 t]), (w.heap.size + 2, [.int .i64 l, .int .i64 c]), (w.heap.size + 1, [.int .i64 j, .int .i64 b]), (w.heap.size, [.int .i64 i, .int .i64 a])] W6) := K6'
  clear K6' Mz5 K5
  have c6_0_0 : W6.cell? ⟨W5.heap.size, 0, none⟩ = some (.int .i64 p) := (K6.out.at (W5.heap.size) [.int .i64 p, .int .i64 q] (by simp)).c 0 rfl
  have c6_0_1 : W6.cell? ⟨W5.heap.size, 1, none⟩ = some (.int .i64 q) := (K6.out.at (W5.heap.size) [.int .i64 p, .int .i64 q] (by simp)).c 1 rfl
  have c6_1_0 : W6.cell? ⟨W3.heap.size, 0, none⟩ = some (.int .i64 s) := (K6.out.at (W3.heap.size) [.int .i64 s, .int .i64 t] (by simp)).c 0 rfl
  have c6_1_1 : W6.cell? ⟨W3.heap.size, 1, none⟩ = some (.int .i64 t) := (K6.out.at (W3.heap.size) [.int .i64 s, .int .i64 t] (by simp)).c 1 rfl
  have c6_2_0 : W6.cell? ⟨W1.heap.size, 0, none⟩ = some (.int .i64 s) := (K6.out.at (W1.heap.size) [.int .i64 s, .int .i64 t] (by simp)).c 0 rfl
  have c6_2_1 : W6.cell? ⟨W1.heap.size, 1, none⟩ = some (.int .i64 t) := (K6.out.at (W1.heap.size) [.int .i64 s, .int .i64 t] (by simp)).c 1 rfl
  have c6_3_0 : W6.cell? ⟨w.heap.size + 2, 0, none⟩ = some (.int .i64 l) := (K6.out.at (w.heap.size + 2) [.int .i64 l, .int .i64 c] (by simp)).c 0 rfl
  have c6_3_1 : W6.cell? ⟨w.heap.size + 2, 1, none⟩ = some (.int .i64 c) := (K6.out.at (w.heap.size + 2) [.int .i64 l, .int .i64 c] (by simp)).c 1 rfl
  have c6_4_0 : W6.cell? ⟨w.heap.size + 1, 0, none⟩ = some (.int .i64 j) := (K6.out.at (w.heap.size + 1) [.int .i64 j, .int .i64 b] (by simp)).c 0 rfl
  have c6_4_1 : W6.cell? ⟨w.heap.size + 1, 1, none⟩ = some (.int .i64 b) := (K6.out.at (w.heap.size + 1) [.int .i64 j, .int .i64 b] (by simp)).c 1 rfl
  have c6_5_0 : W6.cell? ⟨w.heap.size, 0, none⟩ = some (.int .i64 i) := (K6.out.at (w.heap.size) [.int .i64 i, .int .i64 a] (by simp)).c 0 rfl
  have c6_5_1 : W6.cell? ⟨w.heap.size, 1, none⟩ = some (.int .i64 a) := (K6.out.at (w.heap.size) [.int .i64 i, .int .i64 a] (by simp)).c 1 rfl
  go_wp2_with fail
  refine (S2.out _).mono ?_
  rintro e W7 ⟨rfl, hb⟩
  have K7 : Hid (BS w [(W5.heap.size, [.int .i64 p, .int .i64 q]), (W3.heap.size, [.int .i64 s, .int .i64 t]), (W1.heap.size, [.int .i64 s, .int .i64 t]), (w.heap.size + 2, [.int .i64 l, .int .i64 c]), (w.heap.size + 1, [.int .i64 j, .int .i64 b]), (w.heap.size, [.int .i64 i, .int .i64 a])] W7) := K6.out.below hb
  clear c6_0_0 c6_0_1 c6_1_0 c6_1_1 c6_2_0 c6_2_1 c6_3_0 c6_3_1 c6_4_0 c6_4_1 c6_5_0 c6_5_1
  clear hb K6
  have c7_0_0 : W7.cell? ⟨W5.heap.size, 0, none⟩ = some (.int .i64 p) := (K7.out.at (W5.heap.size) [.int .i64 p, .int .i64 q] (by simp)).c 0 rfl
  have c7_0_1 : W7.cell? ⟨W5.heap.size, 1, none⟩ = some (.int .i64 q) := (K7.out.at (W5.heap.size) [.int .i64 p, .int .i64 q] (by simp)).c 1 rfl
  have c7_1_0 : W7.cell? ⟨W3.heap.size, 0, none⟩ = some (.int .i64 s) := (K7.out.at (W3.heap.size) [.int .i64 s, .int .i64 t] (by simp)).c 0 rfl
  have c7_1_1 : W7.cell? ⟨W3.heap.size, 1, none⟩ = some (.int .i64 t) := (K7.out.at (W3.heap.size) [.int .i64 s, .int .i64 t] (by simp)).c 1 rfl
  have c7_2_0 : W7.cell? ⟨W1.heap.size, 0, none⟩ = some (.int .i64 s) := (K7.out.at (W1.heap.size) [.int .i64 s, .int .i64 t] (by simp)).c 0 rfl
  have c7_2_1 : W7.cell? ⟨W1.heap.size, 1, none⟩ = some (.int .i64 t) := (K7.out.at (W1.heap.size) [.int .i64 s, .int .i64 t] (by simp)).c 1 rfl
  have c7_3_0 : W7.cell? ⟨w.heap.size + 2, 0, none⟩ = some (.int .i64 l) := (K7.out.at (w.heap.size + 2) [.int .i64 l, .int .i64 c] (by simp)).c 0 rfl
  have c7_3_1 : W7.cell? ⟨w.heap.size + 2, 1, none⟩ = some (.int .i64 c) := (K7.out.at (w.heap.size + 2) [.int .i64 l, .int .i64 c] (by simp)).c 1 rfl
  have c7_4_0 : W7.cell? ⟨w.heap.size + 1, 0, none⟩ = some (.int .i64 j) := (K7.out.at (w.heap.size + 1) [.int .i64 j, .int .i64 b] (by simp)).c 0 rfl
  have c7_4_1 : W7.cell? ⟨w.heap.size + 1, 1, none⟩ = some (.int .i64 b) := (K7.out.at (w.heap.size + 1) [.int .i64 j, .int .i64 b] (by simp)).c 1 rfl
  have c7_5_0 : W7.cell? ⟨w.heap.size, 0, none⟩ = some (.int .i64 i) := (K7.out.at (w.heap.size) [.int .i64 i, .int .i64 a] (by simp)).c 0 rfl
  have c7_5_1 : W7.cell? ⟨w.heap.size, 1, none⟩ = some (.int .i64 a) := (K7.out.at (w.heap.size) [.int .i64 i, .int .i64 a] (by simp)).c 1 rfl
  have Mz7 : Hid (BS w [(W7.heap.size, [.int .i64 p, .int .i64 q]), (W5.heap.size, [.int .i64 p, .int .i64 q]), (W3.heap.size, [.int .i64 s, .int .i64 t]), (W1.heap.size, [.int .i64 s, .int .i64 t]), (w.heap.size + 2, [.int .i64 l, .int .i64 c]), (w.heap.size + 1, [.int .i64 j, .int .i64 b]), (w.heap.size, [.int .i64 i, .int .i64 a])] (W7.alloc (.cells #[.int .i64 p, .int .i64 q] 38))) := K7.out.new [.int .i64 p, .int .i64 q] 38 rfl
  go_upto_region 5 with fail
  refine gen_to (BS w [(W7.heap.size, [.int .i64 p, .int .i64 q]), (W5.heap.size, [.int .i64 p, .int .i64 q]), (W3.heap.size, [.int .i64 s, .int .i64 t]), (W1.heap.size, [.int .i64 s, .int .i64 t]), (w.heap.size + 2, [.int .i64 l, .int .i64 c]), (w.heap.size + 1, [.int .i64 j, .int .i64 b]), (w.heap.size, [.int .i64 i, .int .i64 a])]) Mz7.out ?_
  clear c7_0_0 c7_0_1 c7_1_0 c7_1_1 c7_2_0 c7_2_1 c7_3_0 c7_3_1 c7_4_0 c7_4_1 c7_5_0 c7_5_1
  intro W8 K8'
  have K8 : Hid (BS w [(W7.heap.size, [.int .i64 p, .int .i64 q]), (W5.heap.size, [.int .i64 p, .int .i64 q]), (W3.heap.size, [.int .i64 s, .int .i64 t]), (W1.heap.size, [.int .i64 s, .int .i64 t]), (w.heap.size + 2, [.int .i64 l, .int .i64 c]), (w.heap.size + 1, [.int .i64 j, .int .i64 b]), (w.heap.size, [.int .i64 i, .int .i64 a])] W8) := K8'
  clear K8' Mz7 K7
  have c8_0_0 : W8.cell? ⟨W7.heap.size, 0, none⟩ = some (.int .i64 p) := (K8.out.at (W7.heap.size) [.int .i64 p, .int .i64 q] (by simp)).c 0 rfl
  have c8_0_1 : W8.cell? ⟨W7.heap.size, 1, none⟩ = some (.int .i64 q) := (K8.out.at (W7.heap.size) [.int .i64 p, .int .i64 q] (by simp)).c 1 rfl
  have c8_1_0 : W8.cell? ⟨W5.heap.size, 0, none⟩ = some (.int .i64 p) := (K8.out.at (W5.heap.size) [.int .i64 p, .int .i64 q] (by simp)).c 0 rfl
  have c8_1_1 : W8.cell? ⟨W5.heap.size, 1, none⟩ = some (.int .i64 q) := (K8.out.at (W5.heap.size) [.int .i64 p, .int .i64 q] (by simp)).c 1 rfl
  have c8_2_0 : W8.cell? ⟨W3.heap.size, 0, none⟩ = some (.int .i64 s) := (K8.out.at (W3.heap.size) [.int .i64 s, .int .i64 t] (by simp)).c 0 rfl
  have c8_2_1 : W8.cell? ⟨W3.heap.size, 1, none⟩ = some (.int .i64 t) := (K8.out.at (W3.heap.size) [.int .i64 s, .int .i64 t] (by simp)).c 1 rfl
  have c8_3_0 : W8.cell? ⟨W1.heap.size, 0, none⟩ = some (.int .i64 s) := (K8.out.at (W1.heap.size) [.int .i64 s, .int .i64 t] (by simp)).c 0 rfl
  have c8_3_1 : W8.cell? ⟨W1.heap.size, 1, none⟩ = some (.int .i64 t) := (K8.out.at (W1.heap.size) [.int .i64 s, .int .i64 t] (by simp)).c 1 rfl
  have c8_4_0 : W8.cell? ⟨w.heap.size + 2, 0, none⟩ = some (.int .i64 l) := (K8.out.at (w.heap.size + 2) [.int .i64 l, .int .i64 c] (by simp)).c 0 rfl
  have c8_4_1 : W8.cell? ⟨w.heap.size + 2, 1, none⟩ = some (.int .i64 c) := (K8.out.at (w.heap.size + 2) [.int .i64 l, .int .i64 c] (by simp)).c 1 rfl
  have c8_5_0 : W8.cell? ⟨w.heap.size + 1, 0, none⟩ = some (.int .i64 j) := (K8.out.at (w.heap.size + 1) [.int .i64 j, .int .i64 b] (by simp)).c 0 rfl
  have c8_5_1 : W8.cell? ⟨w.heap.size + 1, 1, none⟩ = some (.int .i64 b) := (K8.out.at (w.heap.size + 1) [.int .i64 j, .int .i64 b] (by simp)).c 1 rfl
  have c8_6_0 : W8.cell? ⟨w.heap.size, 0, none⟩ = some (.int .i64 i) := (K8.out.at (w.heap.size) [.int .i64 i, .int .i64 a] (by simp)).c 0 rfl
  have c8_6_1 : W8.cell? ⟨w.heap.size, 1, none⟩ = some (.int .i64 a) := (K8.out.at (w.heap.size) [.int .i64 i, .int .i64 a] (by simp)).c 1 rfl
  go_wp2_with fail
  refine (O1.out _ (hL.out _ K8.out.1)).mono ?_
  rintro e W9 ⟨rfl, hb⟩
  have K9 : Hid (BS w [(W7.heap.size, [.int .i64 p, .int .i64 q]), (W5.heap.size, [.int .i64 p, .int .i64 q]), (W3.heap.size, [.int .i64 s, .int .i64 t]), (W1.heap.size, [.int .i64 s, .int .i64 t]), (w.heap.size + 2, [.int .i64 l, .int .i64 c]), (w.heap.size + 1, [.int .i64 j, .int .i64 b]), (w.heap.size, [.int .i64 i, .int .i64 a])] W9) := K8.out.below hb
  clear c8_0_0 c8_0_1 c8_1_0 c8_1_1 c8_2_0 c8_2_1 c8_3_0 c8_3_1 c8_4_0 c8_4_1 c8_5_0 c8_5_1 c8_6_0 c8_6_1
  clear hb K8
  have c9_0_0 : W9.cell? ⟨W7.heap.size, 0, none⟩ = some (.int .i64 p) := (K9.out.at (W7.heap.size) [.int .i64 p, .int .i64 q] (by simp)).c 0 rfl
  have c9_0_1 : W9.cell? ⟨W7.heap.size, 1, none⟩ = some (.int .i64 q) := (K9.out.at (W7.heap.size) [.int .i64 p, .int .i64 q] (by simp)).c 1 rfl
  have c9_1_0 : W9.cell? ⟨W5.heap.size, 0, none⟩ = some (.int .i64 p) := (K9.out.at (W5.heap.size) [.int .i64 p, .int .i64 q] (by simp)).c 0 rfl
  have c9_1_1 : W9.cell? ⟨W5.heap.size, 1, none⟩ = some (.int .i64 q) := (K9.out.at (W5.heap.size) [.int .i64 p, .int .i64 q] (by simp)).c 1 rfl
  have c9_2_0 : W9.cell? ⟨W3.heap.size, 0, none⟩ = some (.int .i64 s) := (K9.out.at (W3.heap.size) [.int .i64 s, .int .i64 t] (by simp)).c 0 rfl
  have c9_2_1 : W9.cell? ⟨W3.heap.size, 1, none⟩ = some (.int .i64 t) := (K9.out.at (W3.heap.size) [.int .i64 s, .int .i64 t] (by simp)).c 1 rfl
  have c9_3_0 : W9.cell? ⟨W1.heap.size, 0, none⟩ = some (.int .i64 s) := (K9.out.at (W1.heap.size) [.int .i64 s, .int .i64 t] (by simp)).c 0 rfl
  have c9_3_1 : W9.cell? ⟨W1.heap.size, 1, none⟩ = some (.int .i64 t) := (K9.out.at (W1.heap.size) [.int .i64 s, .int .i64 t] (by simp)).c 1 rfl
  have c9_4_0 : W9.cell? ⟨w.heap.size + 2, 0, none⟩ = some (.int .i64 l) := (K9.out.at (w.heap.size + 2) [.int .i64 l, .int .i64 c] (by simp)).c 0 rfl
  have c9_4_1 : W9.cell? ⟨w.heap.size + 2, 1, none⟩ = some (.int .i64 c) := (K9.out.at (w.heap.size + 2) [.int .i64 l, .int .i64 c] (by simp)).c 1 rfl
  have c9_5_0 : W9.cell? ⟨w.heap.size + 1, 0, none⟩ = some (.int .i64 j) := (K9.out.at (w.heap.size + 1) [.int .i64 j, .int .i64 b] (by simp)).c 0 rfl
  have c9_5_1 : W9.cell? ⟨w.heap.size + 1, 1, none⟩ = some (.int .i64 b) := (K9.out.at (w.heap.size + 1) [.int .i64 j, .int .i64 b] (by simp)).c 1 rfl
  have c9_6_0 : W9.cell? ⟨w.heap.size, 0, none⟩ = some (.int .i64 i) := (K9.out.at (w.heap.size) [.int .i64 i, .int .i64 a] (by simp)).c 0 rfl
  have c9_6_1 : W9.cell? ⟨w.heap.size, 1, none⟩ = some (.int .i64 a) := (K9.out.at (w.heap.size) [.int .i64 i, .int .i64 a] (by simp)).c 1 rfl
  have Mz9 : Hid (BS w [(W9.heap.size, [.int .i64 f, .int .i64 g]), (W7.heap.size, [.int .i64 p, .int .i64 q]), (W5.heap.size, [.int .i64 p, .int .i64 q]), (W3.heap.size, [.int .i64 s, .int .i64 t]), (W1.heap.size, [.int .i64 s, .int .i64 t]), (w.heap.size + 2, [.int .i64 l, .int .i64 c]), (w.heap.size + 1, [.int .i64 j, .int .i64 b]), (w.heap.size, [.int .i64 i, .int .i64 a])] (W9.alloc (.cells #[.int .i64 f, .int .i64 g] 23))) := K9.out.new [.int .i64 f, .int .i64 g] 23 rfl
  go_upto_region 6 with fail
  refine gen_to (BS w [(W9.heap.size, [.int .i64 f, .int .i64 g]), (W7.heap.size, [.int .i64 p, .int .i64 q]), (W5.heap.size, [.int .i64 p, .int .i64 q]), (W3.heap.size, [.int .i64 s, .int .i64 t]), (W1.heap.size, [.int .i64 s, .int .i64 t]), (w.heap.size + 2, [.int .i64 l, .int .i64 c]), (w.heap.size + 1, [.int .i64 j, .int .i64 b]), (w.heap.size, [.int .i64 i, .int .i64 a])]) Mz9.out ?_
  clear c9_0_0 c9_0_1 c9_1_0 c9_1_1 c9_2_0 c9_2_1 c9_3_0 c9_3_1 c9_4_0 c9_4_1 c9_5_0 c9_5_1 c9_6_0 c9_6_1
  intro W10 K10'
  have K10 : Hid (BS w [(W9.heap.size, [.int .i64 f, .int .i64 g]), (W7.heap.size, [.int .i64 p, .int .i64 q]), (W5.heap.size, [.int .i64 p, .int .i64 q]), (W3.heap.size, [.int .i64 s, .int .i64 t]), (W1.heap.size, [.int .i64 s, .int .i64 t]), (w.heap.size + 2, [.int .i64 l, .int .i64 c]), (w.heap.size + 1, [.int .i64 j, .int .i64 b]), (w.heap.size, [.int .i64 i, .int .i64 a])] W10) := K10'
  clear K10' Mz9 K9
  have c10_0_0 : W10.cell? ⟨W9.heap.size, 0, none⟩ = some (.int .i64 f) := (K10.out.at (W9.heap.size) [.int .i64 f, .int .i64 g] (by simp)).c 0 rfl
  have c10_0_1 : W10.cell? ⟨W9.heap.size, 1, none⟩ = some (.int .i64 g) := (K10.out.at (W9.heap.size) [.int .i64 f, .int .i64 g] (by simp)).c 1 rfl
  have c10_1_0 : W10.cell? ⟨W7.heap.size, 0, none⟩ = some (.int .i64 p) := (K10.out.at (W7.heap.size) [.int .i64 p, .int .i64 q] (by simp)).c 0 rfl
  have c10_1_1 : W10.cell? ⟨W7.heap.size, 1, none⟩ = some (.int .i64 q) := (K10.out.at (W7.heap.size) [.int .i64 p, .int .i64 q] (by simp)).c 1 rfl
  have c10_2_0 : W10.cell? ⟨W5.heap.size, 0, none⟩ = some (.int .i64 p) := (K10.out.at (W5.heap.size) [.int .i64 p, .int .i64 q] (by simp)).c 0 rfl
  have c10_2_1 : W10.cell? ⟨W5.heap.size, 1, none⟩ = some (.int .i64 q) := (K10.out.at (W5.heap.size) [.int .i64 p, .int .i64 q] (by simp)).c 1 rfl
  have c10_3_0 : W10.cell? ⟨W3.heap.size, 0, none⟩ = some (.int .i64 s) := (K10.out.at (W3.heap.size) [.int .i64 s, .int .i64 t] (by simp)).c 0 rfl
  have c10_3_1 : W10.cell? ⟨W3.heap.size, 1, none⟩ = some (.int .i64 t) := (K10.out.at (W3.heap.size) [.int .i64 s, .int .i64 t] (by simp)).c 1 rfl
  have c10_4_0 : W10.cell? ⟨W1.heap.size, 0, none⟩ = some (.int .i64 s) := (K10.out.at (W1.heap.size) [.int .i64 s, .int .i64 t] (by simp)).c 0 rfl
  have c10_4_1 : W10.cell? ⟨W1.heap.size, 1, none⟩ = some (.int .i64 t) := (K10.out.at (W1.heap.size) [.int .i64 s, .int .i64 t] (by simp)).c 1 rfl
  have c10_5_0 : W10.cell? ⟨w.heap.size + 2, 0, none⟩ = some (.int .i64 l) := (K10.out.at (w.heap.size + 2) [.int .i64 l, .int .i64 c] (by simp)).c 0 rfl
  have c10_5_1 : W10.cell? ⟨w.heap.size + 2, 1, none⟩ = some (.int .i64 c) := (K10.out.at (w.heap.size + 2) [.int .i64 l, .int .i64 c] (by simp)).c 1 rfl
  have c10_6_0 : W10.cell? ⟨w.heap.size + 1, 0, none⟩ = some (.int .i64 j) := (K10.out.at (w.heap.size + 1) [.int .i64 j, .int .i64 b] (by simp)).c 0 rfl
  have c10_6_1 : W10.cell? ⟨w.heap.size + 1, 1, none⟩ = some (.int .i64 b) := (K10.out.at (w.heap.size + 1) [.int .i64 j, .int .i64 b] (by simp)).c 1 rfl
  have c10_7_0 : W10.cell? ⟨w.heap.size, 0, none⟩ = some (.int .i64 i) := (K10.out.at (w.heap.size) [.int .i64 i, .int .i64 a] (by simp)).c 0 rfl
  have c10_7_1 : W10.cell? ⟨w.heap.size, 1, none⟩ = some (.int .i64 a) := (K10.out.at (w.heap.size) [.int .i64 i, .int .i64 a] (by simp)).c 1 rfl
  go_wp2_with fail
  refine (O2.out _).mono ?_
  rintro e W11 ⟨rfl, hb⟩
  have K11 : Hid (BS w [(W9.heap.size, [.int .i64 f, .int .i64 g]), (W7.heap.size, [.int .i64 p, .int .i64 q]), (W5.heap.size, [.int .i64 p, .int .i64 q]), (W3.heap.size, [.int .i64 s, .int .i64 t]), (W1.heap.size, [.int .i64 s, .int .i64 t]), (w.heap.size + 2, [.int .i64 l, .int .i64 c]), (w.heap.size + 1, [.int .i64 j, .int .i64 b]), (w.heap.size, [.int .i64 i, .int .i64 a])] W11) := K10.out.below hb
  clear c10_0_0 c10_0_1 c10_1_0 c10_1_1 c10_2_0 c10_2_1 c10_3_0 c10_3_1 c10_4_0 c10_4_1 c10_5_0 c10_5_1 c10_6_0 c10_6_1 c10_7_0 c10_7_1
  clear hb K10
  have c11_0_0 : W11.cell? ⟨W9.heap.size, 0, none⟩ = some (.int .i64 f) := (K11.out.at (W9.heap.size) [.int .i64 f, .int .i64 g] (by simp)).c 0 rfl
  have c11_0_1 : W11.cell? ⟨W9.heap.size, 1, none⟩ = some (.int .i64 g) := (K11.out.at (W9.heap.size) [.int .i64 f, .int .i64 g] (by simp)).c 1 rfl
  have c11_1_0 : W11.cell? ⟨W7.heap.size, 0, none⟩ = some (.int .i64 p) := (K11.out.at (W7.heap.size) [.int .i64 p, .int .i64 q] (by simp)).c 0 rfl
  have c11_1_1 : W11.cell? ⟨W7.heap.size, 1, none⟩ = some (.int .i64 q) := (K11.out.at (W7.heap.size) [.int .i64 p, .int .i64 q] (by simp)).c 1 rfl
  have c11_2_0 : W11.cell? ⟨W5.heap.size, 0, none⟩ = some (.int .i64 p) := (K11.out.at (W5.heap.size) [.int .i64 p, .int .i64 q] (by simp)).c 0 rfl
  have c11_2_1 : W11.cell? ⟨W5.heap.size, 1, none⟩ = some (.int .i64 q) := (K11.out.at (W5.heap.size) [.int .i64 p, .int .i64 q] (by simp)).c 1 rfl
  have c11_3_0 : W11.cell? ⟨W3.heap.size, 0, none⟩ = some (.int .i64 s) := (K11.out.at (W3.heap.size) [.int .i64 s, .int .i64 t] (by simp)).c 0 rfl
  have c11_3_1 : W11.cell? ⟨W3.heap.size, 1, none⟩ = some (.int .i64 t) := (K11.out.at (W3.heap.size) [.int .i64 s, .int .i64 t] (by simp)).c 1 rfl
  have c11_4_0 : W11.cell? ⟨W1.heap.size, 0, none⟩ = some (.int .i64 s) := (K11.out.at (W1.heap.size) [.int .i64 s, .int .i64 t] (by simp)).c 0 rfl
  have c11_4_1 : W11.cell? ⟨W1.heap.size, 1, none⟩ = some (.int .i64 t) := (K11.out.at (W1.heap.size) [.int .i64 s, .int .i64 t] (by simp)).c 1 rfl
  have c11_5_0 : W11.cell? ⟨w.heap.size + 2, 0, none⟩ = some (.int .i64 l) := (K11.out.at (w.heap.size + 2) [.int .i64 l, .int .i64 c] (by simp)).c 0 rfl
  have c11_5_1 : W11.cell? ⟨w.heap.size + 2, 1, none⟩ = some (.int .i64 c) := (K11.out.at (w.heap.size + 2) [.int .i64 l, .int .i64 c] (by simp)).c 1 rfl
  have c11_6_0 : W11.cell? ⟨w.heap.size + 1, 0, none⟩ = some (.int .i64 j) := (K11.out.at (w.heap.size + 1) [.int .i64 j, .int .i64 b] (by simp)).c 0 rfl
  have c11_6_1 : W11.cell? ⟨w.heap.size + 1, 1, none⟩ = some (.int .i64 b) := (K11.out.at (w.heap.size + 1) [.int .i64 j, .int .i64 b] (by simp)).c 1 rfl
  have c11_7_0 : W11.cell? ⟨w.heap.size, 0, none⟩ = some (.int .i64 i) := (K11.out.at (w.heap.size) [.int .i64 i, .int .i64 a] (by simp)).c 0 rfl
  have c11_7_1 : W11.cell? ⟨w.heap.size, 1, none⟩ = some (.int .i64 a) := (K11.out.at (w.heap.size) [.int .i64 i, .int .i64 a] (by simp)).c 1 rfl
  have Mz11 : Hid (BS w [(W11.heap.size, [.int .i64 f, .int .i64 g]), (W9.heap.size, [.int .i64 f, .int .i64 g]), (W7.heap.size, [.int .i64 p, .int .i64 q]), (W5.heap.size, [.int .i64 p, .int .i64 q]), (W3.heap.size, [.int .i64 s, .int .i64 t]), (W1.heap.size, [.int .i64 s, .int .i64 t]), (w.heap.size + 2, [.int .i64 l, .int .i64 c]), (w.heap.size + 1, [.int .i64 j, .int .i64 b]), (w.heap.size, [.int .i64 i, .int .i64 a])] (W11.alloc (.cells #[.int .i64 f, .int .i64 g] 23))) := K11.out.new [.int .i64 f, .int .i64 g] 23 rfl
  go_upto_region 7 with fail
  refine gen_to (BS w [(W11.heap.size, [.int .i64 f, .int .i64 g]), (W9.heap.size, [.int .i64 f, .int .i64 g]), (W7.heap.size, [.int .i64 p, .int .i64 q]), (W5.heap.size, [.int .i64 p, .int .i64 q]), (W3.heap.size, [.int .i64 s, .int .i64 t]), (W1.heap.size, [.int .i64 s, .int .i64 t]), (w.heap.size + 2, [.int .i64 l, .int .i64 c]), (w.heap.size + 1, [.int .i64 j, .int .i64 b]), (w.heap.size, [.int .i64 i, .int .i64 a])]) Mz11.out ?_
  clear c11_0_0 c11_0_1 c11_1_0 c11_1_1 c11_2_0 c11_2_1 c11_3_0 c11_3_1 c11_4_0 c11_4_1 c11_5_0 c11_5_1 c11_6_0 c11_6_1 c11_7_0 c11_7_1
  intro W12 K12'
  have K12 : Hid (BS w [(W11.heap.size, [.int .i64 f, .int .i64 g]), (W9.heap.size, [.int .i64 f, .int .i64 g]), (W7.heap.size, [.int .i64 p, .int .i64 q]), (W5.heap.size, [.int .i64 p, .int .i64 q]), (W3.heap.size, [.int .i64 s, .int .i64 t]), (W1.heap.size, [.int .i64 s, .int .i64 t]), (w.heap.size + 2, [.int .i64 l, .int .i64 c]), (w.heap.size + 1, [.int .i64 j, .int .i64 b]), (w.heap.size, [.int .i64 i, .int .i64 a])] W12) := K12'
  clear K12' Mz11 K11
  have c12_0_0 : W12.cell? ⟨W11.heap.size, 0, none⟩ = some (.int .i64 f) := (K12.out.at (W11.heap.size) [.int .i64 f, .int .i64 g] (by simp)).c 0 rfl
  have c12_0_1 : W12.cell? ⟨W11.heap.size, 1, none⟩ = some (.int .i64 g) := (K12.out.at (W11.heap.size) [.int .i64 f, .int .i64 g] (by simp)).c 1 rfl
  have c12_1_0 : W12.cell? ⟨W9.heap.size, 0, none⟩ = some (.int .i64 f) := (K12.out.at (W9.heap.size) [.int .i64 f, .int .i64 g] (by simp)).c 0 rfl
  have c12_1_1 : W12.cell? ⟨W9.heap.size, 1, none⟩ = some (.int .i64 g) := (K12.out.at (W9.heap.size) [.int .i64 f, .int .i64 g] (by simp)).c 1 rfl
  have c12_2_0 : W12.cell? ⟨W7.heap.size, 0, none⟩ = some (.int .i64 p) := (K12.out.at (W7.heap.size) [.int .i64 p, .int .i64 q] (by simp)).c 0 rfl
  have c12_2_1 : W12.cell? ⟨W7.heap.size, 1, none⟩ = some (.int .i64 q) := (K12.out.at (W7.heap.size) [.int .i64 p, .int .i64 q] (by simp)).c 1 rfl
  have c12_3_0 : W12.cell? ⟨W5.heap.size, 0, none⟩ = some (.int .i64 p) := (K12.out.at (W5.heap.size) [.int .i64 p, .int .i64 q] (by simp)).c 0 rfl
  have c12_3_1 : W12.cell? ⟨W5.heap.size, 1, none⟩ = some (.int .i64 q) := (K12.out.at (W5.heap.size) [.int .i64 p, .int .i64 q] (by simp)).c 1 rfl
  have c12_4_0 : W12.cell? ⟨W3.heap.size, 0, none⟩ = some (.int .i64 s) := (K12.out.at (W3.heap.size) [.int .i64 s, .int .i64 t] (by simp)).c 0 rfl
  have c12_4_1 : W12.cell? ⟨W3.heap.size, 1, none⟩ = some (.int .i64 t) := (K12.out.at (W3.heap.size) [.int .i64 s, .int .i64 t] (by simp)).c 1 rfl
  have c12_5_0 : W12.cell? ⟨W1.heap.size, 0, none⟩ = some (.int .i64 s) := (K12.out.at (W1.heap.size) [.int .i64 s, .int .i64 t] (by simp)).c 0 rfl
  have c12_5_1 : W12.cell? ⟨W1.heap.size, 1, none⟩ = some (.int .i64 t) := (K12.out.at (W1.heap.size) [.int .i64 s, .int .i64 t] (by simp)).c 1 rfl
  have c12_6_0 : W12.cell? ⟨w.heap.size + 2, 0, none⟩ = some (.int .i64 l) := (K12.out.at (w.heap.size + 2) [.int .i64 l, .int .i64 c] (by simp)).c 0 rfl
  have c12_6_1 : W12.cell? ⟨w.heap.size + 2, 1, none⟩ = some (.int .i64 c) := (K12.out.at (w.heap.size + 2) [.int .i64 l, .int .i64 c] (by simp)).c 1 rfl
  have c12_7_0 : W12.cell? ⟨w.heap.size + 1, 0, none⟩ = some (.int .i64 j) := (K12.out.at (w.heap.size + 1) [.int .i64 j, .int .i64 b] (by simp)).c 0 rfl
  have c12_7_1 : W12.cell? ⟨w.heap.size + 1, 1, none⟩ = some (.int .i64 b) := (K12.out.at (w.heap.size + 1) [.int .i64 j, .int .i64 b] (by simp)).c 1 rfl
  have c12_8_0 : W12.cell? ⟨w.heap.size, 0, none⟩ = some (.int .i64 i) := (K12.out.at (w.heap.size) [.int .i64 i, .int .i64 a] (by simp)).c 0 rfl
  have c12_8_1 : W12.cell? ⟨w.heap.size, 1, none⟩ = some (.int .i64 a) := (K12.out.at (w.heap.size) [.int .i64 i, .int .i64 a] (by simp)).c 1 rfl
  go_wp2_with fail
  clear c12_0_0 c12_0_1 c12_1_0 c12_1_1 c12_2_0 c12_2_1 c12_3_0 c12_3_1 c12_4_0 c12_4_1 c12_5_0 c12_5_1 c12_6_0 c12_6_1 c12_7_0 c12_7_1 c12_8_0 c12_8_1
  refine wp_region_held_drew (S := BS w [(W11.heap.size, [.int .i64 f, .int .i64 g]), (W9.heap.size, [.int .i64 f, .int .i64 g]), (W7.heap.size, [.int .i64 p, .int .i64 q]), (W5.heap.size, [.int .i64 p, .int .i64 q]), (W3.heap.size, [.int .i64 s, .int .i64 t]), (W1.heap.size, [.int .i64 s, .int .i64 t]), (w.heap.size + 2, [.int .i64 l, .int .i64 c]), (w.heap.size + 1, [.int .i64 j, .int .i64 b]), (w.heap.size, [.int .i64 i, .int .i64 a])]) (by kernel_rfl) K12.out.drew (fun hHeld => ?_)
  refine wpAnyH_take (i := 0) (v := ?_) (oi := { dst := some 57, op := _, type := _, pos := _, after := _, guard := none }) rfl (by kernel_rfl) (by kernel_rfl) (by kernel_rfl) (fun _ _ _ h => h) (Or.inl ⟨by kernel_rfl, ?_⟩) (by assumption) ?_
  case refine_2 => (intro w9 hSw; have l0_0 := (hSw.at (W11.heap.size) [.int .i64 f, .int .i64 g] (by simp)).c 0 rfl; have l0_1 := (hSw.at (W11.heap.size) [.int .i64 f, .int .i64 g] (by simp)).c 1 rfl; have l1_0 := (hSw.at (W9.heap.size) [.int .i64 f, .int .i64 g] (by simp)).c 0 rfl; have l1_1 := (hSw.at (W9.heap.size) [.int .i64 f, .int .i64 g] (by simp)).c 1 rfl; have l2_0 := (hSw.at (W7.heap.size) [.int .i64 p, .int .i64 q] (by simp)).c 0 rfl; have l2_1 := (hSw.at (W7.heap.size) [.int .i64 p, .int .i64 q] (by simp)).c 1 rfl; have l3_0 := (hSw.at (W5.heap.size) [.int .i64 p, .int .i64 q] (by simp)).c 0 rfl; have l3_1 := (hSw.at (W5.heap.size) [.int .i64 p, .int .i64 q] (by simp)).c 1 rfl; have l4_0 := (hSw.at (W3.heap.size) [.int .i64 s, .int .i64 t] (by simp)).c 0 rfl; have l4_1 := (hSw.at (W3.heap.size) [.int .i64 s, .int .i64 t] (by simp)).c 1 rfl; have l5_0 := (hSw.at (W1.heap.size) [.int .i64 s, .int .i64 t] (by simp)).c 0 rfl; have l5_1 := (hSw.at (W1.heap.size) [.int .i64 s, .int .i64 t] (by simp)).c 1 rfl; have l6_0 := (hSw.at (w.heap.size + 2) [.int .i64 l, .int .i64 c] (by simp)).c 0 rfl; have l6_1 := (hSw.at (w.heap.size + 2) [.int .i64 l, .int .i64 c] (by simp)).c 1 rfl; have l7_0 := (hSw.at (w.heap.size + 1) [.int .i64 j, .int .i64 b] (by simp)).c 0 rfl; have l7_1 := (hSw.at (w.heap.size + 1) [.int .i64 j, .int .i64 b] (by simp)).c 1 rfl; have l8_0 := (hSw.at (w.heap.size) [.int .i64 i, .int .i64 a] (by simp)).c 0 rfl; have l8_1 := (hSw.at (w.heap.size) [.int .i64 i, .int .i64 a] (by simp)).c 1 rfl; clear hSw; go_simp; try with_reducible rfl)
  simp only [Act.put, List.setIfInBounds_toArray, List.set_cons_zero, List.set_cons_succ]
  refine wpAnyH_take (i := 1) (v := ?_) (oi := { dst := some 58, op := _, type := _, pos := _, after := _, guard := none }) rfl (by kernel_rfl) (by kernel_rfl) (by kernel_rfl) (fun _ _ _ h => h) (Or.inl ⟨by kernel_rfl, ?_⟩) (by assumption) ?_
  case refine_2 => (intro w9 hSw; have l0_0 := (hSw.at (W11.heap.size) [.int .i64 f, .int .i64 g] (by simp)).c 0 rfl; have l0_1 := (hSw.at (W11.heap.size) [.int .i64 f, .int .i64 g] (by simp)).c 1 rfl; have l1_0 := (hSw.at (W9.heap.size) [.int .i64 f, .int .i64 g] (by simp)).c 0 rfl; have l1_1 := (hSw.at (W9.heap.size) [.int .i64 f, .int .i64 g] (by simp)).c 1 rfl; have l2_0 := (hSw.at (W7.heap.size) [.int .i64 p, .int .i64 q] (by simp)).c 0 rfl; have l2_1 := (hSw.at (W7.heap.size) [.int .i64 p, .int .i64 q] (by simp)).c 1 rfl; have l3_0 := (hSw.at (W5.heap.size) [.int .i64 p, .int .i64 q] (by simp)).c 0 rfl; have l3_1 := (hSw.at (W5.heap.size) [.int .i64 p, .int .i64 q] (by simp)).c 1 rfl; have l4_0 := (hSw.at (W3.heap.size) [.int .i64 s, .int .i64 t] (by simp)).c 0 rfl; have l4_1 := (hSw.at (W3.heap.size) [.int .i64 s, .int .i64 t] (by simp)).c 1 rfl; have l5_0 := (hSw.at (W1.heap.size) [.int .i64 s, .int .i64 t] (by simp)).c 0 rfl; have l5_1 := (hSw.at (W1.heap.size) [.int .i64 s, .int .i64 t] (by simp)).c 1 rfl; have l6_0 := (hSw.at (w.heap.size + 2) [.int .i64 l, .int .i64 c] (by simp)).c 0 rfl; have l6_1 := (hSw.at (w.heap.size + 2) [.int .i64 l, .int .i64 c] (by simp)).c 1 rfl; have l7_0 := (hSw.at (w.heap.size + 1) [.int .i64 j, .int .i64 b] (by simp)).c 0 rfl; have l7_1 := (hSw.at (w.heap.size + 1) [.int .i64 j, .int .i64 b] (by simp)).c 1 rfl; have l8_0 := (hSw.at (w.heap.size) [.int .i64 i, .int .i64 a] (by simp)).c 0 rfl; have l8_1 := (hSw.at (w.heap.size) [.int .i64 i, .int .i64 a] (by simp)).c 1 rfl; clear hSw; go_simp; try with_reducible rfl)
  simp only [Act.put, List.setIfInBounds_toArray, List.set_cons_zero, List.set_cons_succ]
  refine wpAnyH_take (i := 2) (v := ?_) (oi := { dst := some 59, op := _, type := _, pos := _, after := _, guard := none }) rfl (by kernel_rfl) (by kernel_rfl) (by kernel_rfl) (fun _ _ _ h => h) (Or.inl ⟨by kernel_rfl, ?_⟩) (by assumption) ?_
  case refine_2 => (intro w9 hSw; clear hSw; go_simp; try with_reducible rfl)
  simp only [Act.put, List.setIfInBounds_toArray, List.set_cons_zero, List.set_cons_succ]
  refine wpAnyH_take (i := 3) (v := ?_) (oi := { dst := some 60, op := _, type := _, pos := _, after := _, guard := none }) rfl (by kernel_rfl) (by kernel_rfl) (by kernel_rfl) (fun _ _ _ h => h) (Or.inl ⟨by kernel_rfl, ?_⟩) (by assumption) ?_
  case refine_2 => (intro w9 hSw; clear hSw; go_simp; try with_reducible rfl)
  simp only [Act.put, List.setIfInBounds_toArray, List.set_cons_zero, List.set_cons_succ]
  refine wpAnyH_take (i := 4) (v := ?_) (oi := { dst := some 61, op := _, type := _, pos := _, after := _, guard := some (3, true) }) rfl (by kernel_rfl) (by kernel_rfl) (by kernel_rfl) (fun _ _ _ h => h) (Or.inl ⟨by kernel_rfl, ?_⟩) (by assumption) ?_
  case refine_2 => (intro w9 hSw; clear hSw; go_simp; try with_reducible rfl)
  simp only [Act.put, List.setIfInBounds_toArray, List.set_cons_zero, List.set_cons_succ]
  refine wpAnyH_take (i := 5) (v := ?_) (oi := { dst := some 62, op := _, type := _, pos := _, after := _, guard := some (3, true) }) rfl (by kernel_rfl) (by kernel_rfl) (by kernel_rfl) (fun _ _ _ h => h) (Or.inl ⟨by kernel_rfl, ?_⟩) (by assumption) ?_
  case refine_2 => (intro w9 hSw; clear hSw; go_simp; try with_reducible rfl)
  simp only [Act.put, List.setIfInBounds_toArray, List.set_cons_zero, List.set_cons_succ]
  refine wpAnyH_take (i := 6) (v := ?_) (oi := { dst := some 63, op := _, type := _, pos := _, after := _, guard := some (3, true) }) rfl (by kernel_rfl) (by kernel_rfl) (by kernel_rfl) (fun _ _ _ h => h) (Or.inl ⟨by kernel_rfl, ?_⟩) (by assumption) ?_
  case refine_2 => (intro w9 hSw; clear hSw; go_simp; try with_reducible rfl)
  simp only [Act.put, List.setIfInBounds_toArray, List.set_cons_zero, List.set_cons_succ]
  refine wpAnyH_take (i := 7) (v := ?_) (oi := { dst := some 64, op := _, type := _, pos := _, after := _, guard := none }) rfl (by kernel_rfl) (by kernel_rfl) (by kernel_rfl) (fun _ _ _ h => h) (Or.inl ⟨by kernel_rfl, ?_⟩) (by assumption) ?_
  case refine_2 => (intro w9 hSw; clear hSw; go_simp; try with_reducible rfl)
  simp only [Act.put, List.setIfInBounds_toArray, List.set_cons_zero, List.set_cons_succ]
  refine wpAnyH_take (i := 8) (v := ?_) (oi := { dst := some 65, op := _, type := _, pos := _, after := _, guard := none }) rfl (by kernel_rfl) (by kernel_rfl) (by kernel_rfl) (fun _ _ _ h => h) (Or.inl ⟨by kernel_rfl, ?_⟩) (by assumption) ?_
  case refine_2 => (intro w9 hSw; clear hSw; go_simp; try with_reducible rfl)
  simp only [Act.put, List.setIfInBounds_toArray, List.set_cons_zero, List.set_cons_succ]
  refine wpAnyH_take (i := 9) (v := ?_) (oi := { dst := some 66, op := _, type := _, pos := _, after := _, guard := some (8, true) }) rfl (by kernel_rfl) (by kernel_rfl) (by kernel_rfl) (fun _ _ _ h => h) (Or.inl ⟨by kernel_rfl, ?_⟩) (by assumption) ?_
  case refine_2 => (intro w9 hSw; have l0_0 := (hSw.at (W11.heap.size) [.int .i64 f, .int .i64 g] (by simp)).c 0 rfl; have l0_1 := (hSw.at (W11.heap.size) [.int .i64 f, .int .i64 g] (by simp)).c 1 rfl; have l1_0 := (hSw.at (W9.heap.size) [.int .i64 f, .int .i64 g] (by simp)).c 0 rfl; have l1_1 := (hSw.at (W9.heap.size) [.int .i64 f, .int .i64 g] (by simp)).c 1 rfl; have l2_0 := (hSw.at (W7.heap.size) [.int .i64 p, .int .i64 q] (by simp)).c 0 rfl; have l2_1 := (hSw.at (W7.heap.size) [.int .i64 p, .int .i64 q] (by simp)).c 1 rfl; have l3_0 := (hSw.at (W5.heap.size) [.int .i64 p, .int .i64 q] (by simp)).c 0 rfl; have l3_1 := (hSw.at (W5.heap.size) [.int .i64 p, .int .i64 q] (by simp)).c 1 rfl; have l4_0 := (hSw.at (W3.heap.size) [.int .i64 s, .int .i64 t] (by simp)).c 0 rfl; have l4_1 := (hSw.at (W3.heap.size) [.int .i64 s, .int .i64 t] (by simp)).c 1 rfl; have l5_0 := (hSw.at (W1.heap.size) [.int .i64 s, .int .i64 t] (by simp)).c 0 rfl; have l5_1 := (hSw.at (W1.heap.size) [.int .i64 s, .int .i64 t] (by simp)).c 1 rfl; have l6_0 := (hSw.at (w.heap.size + 2) [.int .i64 l, .int .i64 c] (by simp)).c 0 rfl; have l6_1 := (hSw.at (w.heap.size + 2) [.int .i64 l, .int .i64 c] (by simp)).c 1 rfl; have l7_0 := (hSw.at (w.heap.size + 1) [.int .i64 j, .int .i64 b] (by simp)).c 0 rfl; have l7_1 := (hSw.at (w.heap.size + 1) [.int .i64 j, .int .i64 b] (by simp)).c 1 rfl; have l8_0 := (hSw.at (w.heap.size) [.int .i64 i, .int .i64 a] (by simp)).c 0 rfl; have l8_1 := (hSw.at (w.heap.size) [.int .i64 i, .int .i64 a] (by simp)).c 1 rfl; clear hSw; go_simp; try with_reducible rfl)
  simp only [Act.put, List.setIfInBounds_toArray, List.set_cons_zero, List.set_cons_succ]
  refine wpAnyH_take (i := 10) (v := ?_) (oi := { dst := some 67, op := _, type := _, pos := _, after := _, guard := some (8, true) }) rfl (by kernel_rfl) (by kernel_rfl) (by kernel_rfl) (fun _ _ _ h => h) (Or.inl ⟨by kernel_rfl, ?_⟩) (by assumption) ?_
  case refine_2 => (intro w9 hSw; have l0_0 := (hSw.at (W11.heap.size) [.int .i64 f, .int .i64 g] (by simp)).c 0 rfl; have l0_1 := (hSw.at (W11.heap.size) [.int .i64 f, .int .i64 g] (by simp)).c 1 rfl; have l1_0 := (hSw.at (W9.heap.size) [.int .i64 f, .int .i64 g] (by simp)).c 0 rfl; have l1_1 := (hSw.at (W9.heap.size) [.int .i64 f, .int .i64 g] (by simp)).c 1 rfl; have l2_0 := (hSw.at (W7.heap.size) [.int .i64 p, .int .i64 q] (by simp)).c 0 rfl; have l2_1 := (hSw.at (W7.heap.size) [.int .i64 p, .int .i64 q] (by simp)).c 1 rfl; have l3_0 := (hSw.at (W5.heap.size) [.int .i64 p, .int .i64 q] (by simp)).c 0 rfl; have l3_1 := (hSw.at (W5.heap.size) [.int .i64 p, .int .i64 q] (by simp)).c 1 rfl; have l4_0 := (hSw.at (W3.heap.size) [.int .i64 s, .int .i64 t] (by simp)).c 0 rfl; have l4_1 := (hSw.at (W3.heap.size) [.int .i64 s, .int .i64 t] (by simp)).c 1 rfl; have l5_0 := (hSw.at (W1.heap.size) [.int .i64 s, .int .i64 t] (by simp)).c 0 rfl; have l5_1 := (hSw.at (W1.heap.size) [.int .i64 s, .int .i64 t] (by simp)).c 1 rfl; have l6_0 := (hSw.at (w.heap.size + 2) [.int .i64 l, .int .i64 c] (by simp)).c 0 rfl; have l6_1 := (hSw.at (w.heap.size + 2) [.int .i64 l, .int .i64 c] (by simp)).c 1 rfl; have l7_0 := (hSw.at (w.heap.size + 1) [.int .i64 j, .int .i64 b] (by simp)).c 0 rfl; have l7_1 := (hSw.at (w.heap.size + 1) [.int .i64 j, .int .i64 b] (by simp)).c 1 rfl; have l8_0 := (hSw.at (w.heap.size) [.int .i64 i, .int .i64 a] (by simp)).c 0 rfl; have l8_1 := (hSw.at (w.heap.size) [.int .i64 i, .int .i64 a] (by simp)).c 1 rfl; clear hSw; go_simp; try with_reducible rfl)
  simp only [Act.put, List.setIfInBounds_toArray, List.set_cons_zero, List.set_cons_succ]
  refine wpAnyH_take (i := 11) (v := ?_) (oi := { dst := some 68, op := _, type := _, pos := _, after := _, guard := some (8, true) }) rfl (by kernel_rfl) (by kernel_rfl) (by kernel_rfl) (fun _ _ _ h => h) (Or.inl ⟨by kernel_rfl, ?_⟩) (by assumption) ?_
  case refine_2 => (intro w9 hSw; clear hSw; go_simp; try with_reducible rfl)
  simp only [Act.put, List.setIfInBounds_toArray, List.set_cons_zero, List.set_cons_succ]
  refine wpAnyH_take (i := 12) (v := ?_) (oi := { dst := some 69, op := _, type := _, pos := _, after := _, guard := none }) rfl (by kernel_rfl) (by kernel_rfl) (by kernel_rfl) (fun _ _ _ h => h) (Or.inl ⟨by kernel_rfl, ?_⟩) (by assumption) ?_
  case refine_2 => (intro w9 hSw; clear hSw; go_simp; try with_reducible rfl)
  simp only [Act.put, List.setIfInBounds_toArray, List.set_cons_zero, List.set_cons_succ]
  refine wpAnyH_take (i := 13) (v := ?_) (oi := { dst := some 70, op := _, type := _, pos := _, after := _, guard := none }) rfl (by kernel_rfl) (by kernel_rfl) (by kernel_rfl) (fun _ _ _ h => h) (Or.inl ⟨by kernel_rfl, ?_⟩) (by assumption) ?_
  case refine_2 => (intro w9 hSw; clear hSw; go_simp; try with_reducible rfl)
  simp only [Act.put, List.setIfInBounds_toArray, List.set_cons_zero, List.set_cons_succ]
  refine wpAnyH_take (i := 14) (v := ?_) (oi := { dst := some 71, op := _, type := _, pos := _, after := _, guard := some (13, true) }) rfl (by kernel_rfl) (by kernel_rfl) (by kernel_rfl) (fun _ _ _ h => h) (Or.inl ⟨by kernel_rfl, ?_⟩) (by assumption) ?_
  case refine_2 => (intro w9 hSw; clear hSw; go_simp; try with_reducible rfl)
  simp only [Act.put, List.setIfInBounds_toArray, List.set_cons_zero, List.set_cons_succ]
  refine wpAnyH_take (i := 15) (v := ?_) (oi := { dst := some 72, op := _, type := _, pos := _, after := _, guard := some (13, true) }) rfl (by kernel_rfl) (by kernel_rfl) (by kernel_rfl) (fun _ _ _ h => h) (Or.inl ⟨by kernel_rfl, ?_⟩) (by assumption) ?_
  case refine_2 => (intro w9 hSw; clear hSw; go_simp; try with_reducible rfl)
  simp only [Act.put, List.setIfInBounds_toArray, List.set_cons_zero, List.set_cons_succ]
  refine wpAnyH_take (i := 16) (v := ?_) (oi := { dst := some 73, op := _, type := _, pos := _, after := _, guard := some (13, true) }) rfl (by kernel_rfl) (by kernel_rfl) (by kernel_rfl) (fun _ _ _ h => h) (Or.inl ⟨by kernel_rfl, ?_⟩) (by assumption) ?_
  case refine_2 => (intro w9 hSw; clear hSw; go_simp; try with_reducible rfl)
  simp only [Act.put, List.setIfInBounds_toArray, List.set_cons_zero, List.set_cons_succ]
  refine wpAnyH_take (i := 17) (v := ?_) (oi := { dst := some 74, op := _, type := _, pos := _, after := _, guard := none }) rfl (by kernel_rfl) (by kernel_rfl) (by kernel_rfl) (fun _ _ _ h => h) (Or.inl ⟨by kernel_rfl, ?_⟩) (by assumption) ?_
  case refine_2 => (intro w9 hSw; clear hSw; go_simp; try with_reducible rfl)
  simp only [Act.put, List.setIfInBounds_toArray, List.set_cons_zero, List.set_cons_succ]
  refine wpAnyH_take (i := 18) (v := ?_) (oi := { dst := some 75, op := _, type := _, pos := _, after := _, guard := none }) rfl (by kernel_rfl) (by kernel_rfl) (by kernel_rfl) (fun _ _ _ h => h) (Or.inl ⟨by kernel_rfl, ?_⟩) (by assumption) ?_
  case refine_2 => (intro w9 hSw; clear hSw; go_simp; try with_reducible rfl)
  simp only [Act.put, List.setIfInBounds_toArray, List.set_cons_zero, List.set_cons_succ]
  refine wpAnyH_take (i := 19) (v := ?_) (oi := { dst := some 76, op := _, type := _, pos := _, after := _, guard := some (18, true) }) rfl (by kernel_rfl) (by kernel_rfl) (by kernel_rfl) (fun _ _ _ h => h) (Or.inl ⟨by kernel_rfl, ?_⟩) (by assumption) ?_
  case refine_2 => (intro w9 hSw; have l0_0 := (hSw.at (W11.heap.size) [.int .i64 f, .int .i64 g] (by simp)).c 0 rfl; have l0_1 := (hSw.at (W11.heap.size) [.int .i64 f, .int .i64 g] (by simp)).c 1 rfl; have l1_0 := (hSw.at (W9.heap.size) [.int .i64 f, .int .i64 g] (by simp)).c 0 rfl; have l1_1 := (hSw.at (W9.heap.size) [.int .i64 f, .int .i64 g] (by simp)).c 1 rfl; have l2_0 := (hSw.at (W7.heap.size) [.int .i64 p, .int .i64 q] (by simp)).c 0 rfl; have l2_1 := (hSw.at (W7.heap.size) [.int .i64 p, .int .i64 q] (by simp)).c 1 rfl; have l3_0 := (hSw.at (W5.heap.size) [.int .i64 p, .int .i64 q] (by simp)).c 0 rfl; have l3_1 := (hSw.at (W5.heap.size) [.int .i64 p, .int .i64 q] (by simp)).c 1 rfl; have l4_0 := (hSw.at (W3.heap.size) [.int .i64 s, .int .i64 t] (by simp)).c 0 rfl; have l4_1 := (hSw.at (W3.heap.size) [.int .i64 s, .int .i64 t] (by simp)).c 1 rfl; have l5_0 := (hSw.at (W1.heap.size) [.int .i64 s, .int .i64 t] (by simp)).c 0 rfl; have l5_1 := (hSw.at (W1.heap.size) [.int .i64 s, .int .i64 t] (by simp)).c 1 rfl; have l6_0 := (hSw.at (w.heap.size + 2) [.int .i64 l, .int .i64 c] (by simp)).c 0 rfl; have l6_1 := (hSw.at (w.heap.size + 2) [.int .i64 l, .int .i64 c] (by simp)).c 1 rfl; have l7_0 := (hSw.at (w.heap.size + 1) [.int .i64 j, .int .i64 b] (by simp)).c 0 rfl; have l7_1 := (hSw.at (w.heap.size + 1) [.int .i64 j, .int .i64 b] (by simp)).c 1 rfl; have l8_0 := (hSw.at (w.heap.size) [.int .i64 i, .int .i64 a] (by simp)).c 0 rfl; have l8_1 := (hSw.at (w.heap.size) [.int .i64 i, .int .i64 a] (by simp)).c 1 rfl; clear hSw; go_simp; try with_reducible rfl)
  simp only [Act.put, List.setIfInBounds_toArray, List.set_cons_zero, List.set_cons_succ]
  refine wpAnyH_take (i := 20) (v := ?_) (oi := { dst := some 77, op := _, type := _, pos := _, after := _, guard := some (18, true) }) rfl (by kernel_rfl) (by kernel_rfl) (by kernel_rfl) (fun _ _ _ h => h) (Or.inl ⟨by kernel_rfl, ?_⟩) (by assumption) ?_
  case refine_2 => (intro w9 hSw; have l0_0 := (hSw.at (W11.heap.size) [.int .i64 f, .int .i64 g] (by simp)).c 0 rfl; have l0_1 := (hSw.at (W11.heap.size) [.int .i64 f, .int .i64 g] (by simp)).c 1 rfl; have l1_0 := (hSw.at (W9.heap.size) [.int .i64 f, .int .i64 g] (by simp)).c 0 rfl; have l1_1 := (hSw.at (W9.heap.size) [.int .i64 f, .int .i64 g] (by simp)).c 1 rfl; have l2_0 := (hSw.at (W7.heap.size) [.int .i64 p, .int .i64 q] (by simp)).c 0 rfl; have l2_1 := (hSw.at (W7.heap.size) [.int .i64 p, .int .i64 q] (by simp)).c 1 rfl; have l3_0 := (hSw.at (W5.heap.size) [.int .i64 p, .int .i64 q] (by simp)).c 0 rfl; have l3_1 := (hSw.at (W5.heap.size) [.int .i64 p, .int .i64 q] (by simp)).c 1 rfl; have l4_0 := (hSw.at (W3.heap.size) [.int .i64 s, .int .i64 t] (by simp)).c 0 rfl; have l4_1 := (hSw.at (W3.heap.size) [.int .i64 s, .int .i64 t] (by simp)).c 1 rfl; have l5_0 := (hSw.at (W1.heap.size) [.int .i64 s, .int .i64 t] (by simp)).c 0 rfl; have l5_1 := (hSw.at (W1.heap.size) [.int .i64 s, .int .i64 t] (by simp)).c 1 rfl; have l6_0 := (hSw.at (w.heap.size + 2) [.int .i64 l, .int .i64 c] (by simp)).c 0 rfl; have l6_1 := (hSw.at (w.heap.size + 2) [.int .i64 l, .int .i64 c] (by simp)).c 1 rfl; have l7_0 := (hSw.at (w.heap.size + 1) [.int .i64 j, .int .i64 b] (by simp)).c 0 rfl; have l7_1 := (hSw.at (w.heap.size + 1) [.int .i64 j, .int .i64 b] (by simp)).c 1 rfl; have l8_0 := (hSw.at (w.heap.size) [.int .i64 i, .int .i64 a] (by simp)).c 0 rfl; have l8_1 := (hSw.at (w.heap.size) [.int .i64 i, .int .i64 a] (by simp)).c 1 rfl; clear hSw; go_simp; try with_reducible rfl)
  simp only [Act.put, List.setIfInBounds_toArray, List.set_cons_zero, List.set_cons_succ]
  refine wpAnyH_take (i := 21) (v := ?_) (oi := { dst := some 78, op := _, type := _, pos := _, after := _, guard := some (18, true) }) rfl (by kernel_rfl) (by kernel_rfl) (by kernel_rfl) (fun _ _ _ h => h) (Or.inl ⟨by kernel_rfl, ?_⟩) (by assumption) ?_
  case refine_2 => (intro w9 hSw; clear hSw; go_simp; try with_reducible rfl)
  simp only [Act.put, List.setIfInBounds_toArray, List.set_cons_zero, List.set_cons_succ]
  refine wpAnyH_take (i := 22) (v := ?_) (oi := { dst := some 79, op := _, type := _, pos := _, after := _, guard := none }) rfl (by kernel_rfl) (by kernel_rfl) (by kernel_rfl) (fun _ _ _ h => h) (Or.inl ⟨by kernel_rfl, ?_⟩) (by assumption) ?_
  case refine_2 => (intro w9 hSw; clear hSw; go_simp; try with_reducible rfl)
  simp only [Act.put, List.setIfInBounds_toArray, List.set_cons_zero, List.set_cons_succ]
  refine wpAnyH_take (i := 23) (v := ?_) (oi := { dst := some 80, op := _, type := _, pos := _, after := _, guard := none }) rfl (by kernel_rfl) (by kernel_rfl) (by kernel_rfl) (fun _ _ _ h => h) (Or.inl ⟨by kernel_rfl, ?_⟩) (by assumption) ?_
  case refine_2 => (intro w9 hSw; clear hSw; go_simp; try with_reducible rfl)
  simp only [Act.put, List.setIfInBounds_toArray, List.set_cons_zero, List.set_cons_succ]
  refine wpAnyH_take (i := 24) (v := ?_) (oi := { dst := some 81, op := _, type := _, pos := _, after := _, guard := some (23, true) }) rfl (by kernel_rfl) (by kernel_rfl) (by kernel_rfl) (fun _ _ _ h => h) (Or.inl ⟨by kernel_rfl, ?_⟩) (by assumption) ?_
  case refine_2 => (intro w9 hSw; clear hSw; go_simp; try with_reducible rfl)
  simp only [Act.put, List.setIfInBounds_toArray, List.set_cons_zero, List.set_cons_succ]
  refine wpAnyH_take (i := 25) (v := ?_) (oi := { dst := some 82, op := _, type := _, pos := _, after := _, guard := some (23, true) }) rfl (by kernel_rfl) (by kernel_rfl) (by kernel_rfl) (fun _ _ _ h => h) (Or.inl ⟨by kernel_rfl, ?_⟩) (by assumption) ?_
  case refine_2 => (intro w9 hSw; clear hSw; go_simp; try with_reducible rfl)
  simp only [Act.put, List.setIfInBounds_toArray, List.set_cons_zero, List.set_cons_succ]
  refine wpAnyH_take (i := 26) (v := ?_) (oi := { dst := some 83, op := _, type := _, pos := _, after := _, guard := some (23, true) }) rfl (by kernel_rfl) (by kernel_rfl) (by kernel_rfl) (fun _ _ _ h => h) (Or.inl ⟨by kernel_rfl, ?_⟩) (by assumption) ?_
  case refine_2 => (intro w9 hSw; clear hSw; go_simp; try with_reducible rfl)
  simp only [Act.put, List.setIfInBounds_toArray, List.set_cons_zero, List.set_cons_succ]
  refine wpAnyH_take (i := 27) (v := ?_) (oi := { dst := some 84, op := _, type := _, pos := _, after := _, guard := none }) rfl (by kernel_rfl) (by kernel_rfl) (by kernel_rfl) (fun _ _ _ h => h) (Or.inl ⟨by kernel_rfl, ?_⟩) (by assumption) ?_
  case refine_2 => (intro w9 hSw; clear hSw; go_simp; try with_reducible rfl)
  simp only [Act.put, List.setIfInBounds_toArray, List.set_cons_zero, List.set_cons_succ]
  refine wpAnyH_take (i := 28) (v := ?_) (oi := { dst := some 85, op := _, type := _, pos := _, after := _, guard := none }) rfl (by kernel_rfl) (by kernel_rfl) (by kernel_rfl) (fun _ _ _ h => h) (Or.inl ⟨by kernel_rfl, ?_⟩) (by assumption) ?_
  case refine_2 => (intro w9 hSw; clear hSw; go_simp; try with_reducible rfl)
  simp only [Act.put, List.setIfInBounds_toArray, List.set_cons_zero, List.set_cons_succ]
  refine wpAnyH_take (i := 29) (v := ?_) (oi := { dst := some 86, op := _, type := _, pos := _, after := _, guard := some (28, true) }) rfl (by kernel_rfl) (by kernel_rfl) (by kernel_rfl) (fun _ _ _ h => h) (Or.inl ⟨by kernel_rfl, ?_⟩) (by assumption) ?_
  case refine_2 => (intro w9 hSw; clear hSw; go_simp; try with_reducible rfl)
  simp only [Act.put, List.setIfInBounds_toArray, List.set_cons_zero, List.set_cons_succ]
  refine wpAnyH_take (i := 30) (v := ?_) (oi := { dst := some 87, op := _, type := _, pos := _, after := _, guard := some (28, true) }) rfl (by kernel_rfl) (by kernel_rfl) (by kernel_rfl) (fun _ _ _ h => h) (Or.inl ⟨by kernel_rfl, ?_⟩) (by assumption) ?_
  case refine_2 => (intro w9 hSw; clear hSw; go_simp; try with_reducible rfl)
  simp only [Act.put, List.setIfInBounds_toArray, List.set_cons_zero, List.set_cons_succ]
  refine wpAnyH_take (i := 31) (v := ?_) (oi := { dst := some 88, op := _, type := _, pos := _, after := _, guard := some (28, true) }) rfl (by kernel_rfl) (by kernel_rfl) (by kernel_rfl) (fun _ _ _ h => h) (Or.inl ⟨by kernel_rfl, ?_⟩) (by assumption) ?_
  case refine_2 => (intro w9 hSw; clear hSw; go_simp; try with_reducible rfl)
  simp only [Act.put, List.setIfInBounds_toArray, List.set_cons_zero, List.set_cons_succ]
  refine wpAnyH_take (i := 32) (v := ?_) (oi := { dst := some 89, op := _, type := _, pos := _, after := _, guard := none }) rfl (by kernel_rfl) (by kernel_rfl) (by kernel_rfl) (fun _ _ _ h => h) (Or.inl ⟨by kernel_rfl, ?_⟩) (by assumption) ?_
  case refine_2 => (intro w9 hSw; clear hSw; go_simp; try with_reducible rfl)
  simp only [Act.put, List.setIfInBounds_toArray, List.set_cons_zero, List.set_cons_succ]
  refine wpAnyH_take (i := 33) (v := ?_) (oi := { dst := some 90, op := _, type := _, pos := _, after := _, guard := none }) rfl (by kernel_rfl) (by kernel_rfl) (by kernel_rfl) (fun _ _ _ h => h) (Or.inl ⟨by kernel_rfl, ?_⟩) (by assumption) ?_
  case refine_2 => (intro w9 hSw; clear hSw; go_simp; try with_reducible rfl)
  simp only [Act.put, List.setIfInBounds_toArray, List.set_cons_zero, List.set_cons_succ]
  refine wpAnyH_take (i := 34) (v := ?_) (oi := { dst := some 91, op := _, type := _, pos := _, after := _, guard := some (33, true) }) rfl (by kernel_rfl) (by kernel_rfl) (by kernel_rfl) (fun _ _ _ h => h) (Or.inl ⟨by kernel_rfl, ?_⟩) (by assumption) ?_
  case refine_2 => (intro w9 hSw; have l0_0 := (hSw.at (W11.heap.size) [.int .i64 f, .int .i64 g] (by simp)).c 0 rfl; have l0_1 := (hSw.at (W11.heap.size) [.int .i64 f, .int .i64 g] (by simp)).c 1 rfl; have l1_0 := (hSw.at (W9.heap.size) [.int .i64 f, .int .i64 g] (by simp)).c 0 rfl; have l1_1 := (hSw.at (W9.heap.size) [.int .i64 f, .int .i64 g] (by simp)).c 1 rfl; have l2_0 := (hSw.at (W7.heap.size) [.int .i64 p, .int .i64 q] (by simp)).c 0 rfl; have l2_1 := (hSw.at (W7.heap.size) [.int .i64 p, .int .i64 q] (by simp)).c 1 rfl; have l3_0 := (hSw.at (W5.heap.size) [.int .i64 p, .int .i64 q] (by simp)).c 0 rfl; have l3_1 := (hSw.at (W5.heap.size) [.int .i64 p, .int .i64 q] (by simp)).c 1 rfl; have l4_0 := (hSw.at (W3.heap.size) [.int .i64 s, .int .i64 t] (by simp)).c 0 rfl; have l4_1 := (hSw.at (W3.heap.size) [.int .i64 s, .int .i64 t] (by simp)).c 1 rfl; have l5_0 := (hSw.at (W1.heap.size) [.int .i64 s, .int .i64 t] (by simp)).c 0 rfl; have l5_1 := (hSw.at (W1.heap.size) [.int .i64 s, .int .i64 t] (by simp)).c 1 rfl; have l6_0 := (hSw.at (w.heap.size + 2) [.int .i64 l, .int .i64 c] (by simp)).c 0 rfl; have l6_1 := (hSw.at (w.heap.size + 2) [.int .i64 l, .int .i64 c] (by simp)).c 1 rfl; have l7_0 := (hSw.at (w.heap.size + 1) [.int .i64 j, .int .i64 b] (by simp)).c 0 rfl; have l7_1 := (hSw.at (w.heap.size + 1) [.int .i64 j, .int .i64 b] (by simp)).c 1 rfl; have l8_0 := (hSw.at (w.heap.size) [.int .i64 i, .int .i64 a] (by simp)).c 0 rfl; have l8_1 := (hSw.at (w.heap.size) [.int .i64 i, .int .i64 a] (by simp)).c 1 rfl; clear hSw; go_simp; try with_reducible rfl)
  simp only [Act.put, List.setIfInBounds_toArray, List.set_cons_zero, List.set_cons_succ]
  refine wpAnyH_take (i := 36) (v := ?_) (oi := { dst := some 93, op := _, type := _, pos := _, after := _, guard := some (33, true) }) rfl (by kernel_rfl) (by kernel_rfl) (by kernel_rfl) (fun _ _ _ h => h) (Or.inl ⟨by kernel_rfl, ?_⟩) (by assumption) ?_
  case refine_2 => (intro w9 hSw; have l0_0 := (hSw.at (W11.heap.size) [.int .i64 f, .int .i64 g] (by simp)).c 0 rfl; have l0_1 := (hSw.at (W11.heap.size) [.int .i64 f, .int .i64 g] (by simp)).c 1 rfl; have l1_0 := (hSw.at (W9.heap.size) [.int .i64 f, .int .i64 g] (by simp)).c 0 rfl; have l1_1 := (hSw.at (W9.heap.size) [.int .i64 f, .int .i64 g] (by simp)).c 1 rfl; have l2_0 := (hSw.at (W7.heap.size) [.int .i64 p, .int .i64 q] (by simp)).c 0 rfl; have l2_1 := (hSw.at (W7.heap.size) [.int .i64 p, .int .i64 q] (by simp)).c 1 rfl; have l3_0 := (hSw.at (W5.heap.size) [.int .i64 p, .int .i64 q] (by simp)).c 0 rfl; have l3_1 := (hSw.at (W5.heap.size) [.int .i64 p, .int .i64 q] (by simp)).c 1 rfl; have l4_0 := (hSw.at (W3.heap.size) [.int .i64 s, .int .i64 t] (by simp)).c 0 rfl; have l4_1 := (hSw.at (W3.heap.size) [.int .i64 s, .int .i64 t] (by simp)).c 1 rfl; have l5_0 := (hSw.at (W1.heap.size) [.int .i64 s, .int .i64 t] (by simp)).c 0 rfl; have l5_1 := (hSw.at (W1.heap.size) [.int .i64 s, .int .i64 t] (by simp)).c 1 rfl; have l6_0 := (hSw.at (w.heap.size + 2) [.int .i64 l, .int .i64 c] (by simp)).c 0 rfl; have l6_1 := (hSw.at (w.heap.size + 2) [.int .i64 l, .int .i64 c] (by simp)).c 1 rfl; have l7_0 := (hSw.at (w.heap.size + 1) [.int .i64 j, .int .i64 b] (by simp)).c 0 rfl; have l7_1 := (hSw.at (w.heap.size + 1) [.int .i64 j, .int .i64 b] (by simp)).c 1 rfl; have l8_0 := (hSw.at (w.heap.size) [.int .i64 i, .int .i64 a] (by simp)).c 0 rfl; have l8_1 := (hSw.at (w.heap.size) [.int .i64 i, .int .i64 a] (by simp)).c 1 rfl; clear hSw; go_simp; try with_reducible rfl)
  simp only [Act.put, List.setIfInBounds_toArray, List.set_cons_zero, List.set_cons_succ]
  refine wpAnyH_ready (rs := [35]) (by kernel_rfl) (by simp) (AllReadyH.cons (o := { dst := some 92, op := _, type := _, pos := _, after := _, guard := some (33, true) }) rfl (fun K hK => ?_) AllReadyH.nil)
  go_simp
  refine (V1.out _ (hL.out _ hHeld.1)).mono ?_
  rintro e v1 ⟨rfl, hb1⟩
  refine hK.out _ _ (hHeld.below hb1) (fun hHeld => ?_)
  clear hK K hb1
  refine wpAnyH_ready (rs := [37]) (by kernel_rfl) (by simp) (AllReadyH.cons (o := { dst := some 94, op := _, type := _, pos := _, after := _, guard := some (33, true) }) rfl (fun K hK => ?_) AllReadyH.nil)
  go_simp
  refine (V2.out _).mono ?_
  rintro e v2 ⟨rfl, hb2⟩
  refine hK.out _ _ (hHeld.below hb2) (fun hHeld => ?_)
  clear hK K hb2
  refine wpAnyH_take (i := 38) (v := ?_) (oi := { dst := some 95, op := _, type := _, pos := _, after := _, guard := some (33, true) }) rfl (by kernel_rfl) (by kernel_rfl) (by kernel_rfl) (fun _ _ _ h => h) (Or.inl ⟨by kernel_rfl, ?_⟩) (by assumption) ?_
  case refine_2 => (intro w9 hSw; clear hSw; go_simp; try with_reducible rfl)
  simp only [Act.put, List.setIfInBounds_toArray, List.set_cons_zero, List.set_cons_succ]
  refine wpAnyH_take (i := 39) (v := ?_) (oi := { dst := some 96, op := _, type := _, pos := _, after := _, guard := none }) rfl (by kernel_rfl) (by kernel_rfl) (by kernel_rfl) (fun _ _ _ h => h) (Or.inl ⟨by kernel_rfl, ?_⟩) (by assumption) ?_
  case refine_2 => (intro w9 hSw; clear hSw; go_simp; try with_reducible rfl)
  simp only [Act.put, List.setIfInBounds_toArray, List.set_cons_zero, List.set_cons_succ]
  refine wpAnyH_take (i := 40) (v := ?_) (oi := { dst := some 97, op := _, type := _, pos := _, after := _, guard := none }) rfl (by kernel_rfl) (by kernel_rfl) (by kernel_rfl) (fun _ _ _ h => h) (Or.inl ⟨by kernel_rfl, ?_⟩) (by assumption) ?_
  case refine_2 => (intro w9 hSw; clear hSw; go_simp; try with_reducible rfl)
  simp only [Act.put, List.setIfInBounds_toArray, List.set_cons_zero, List.set_cons_succ]
  refine wpAnyH_take (i := 41) (v := ?_) (oi := { dst := some 98, op := _, type := _, pos := _, after := _, guard := some (40, true) }) rfl (by kernel_rfl) (by kernel_rfl) (by kernel_rfl) (fun _ _ _ h => h) (Or.inl ⟨by kernel_rfl, ?_⟩) (by assumption) ?_
  case refine_2 => (intro w9 hSw; have l0_0 := (hSw.at (W11.heap.size) [.int .i64 f, .int .i64 g] (by simp)).c 0 rfl; have l0_1 := (hSw.at (W11.heap.size) [.int .i64 f, .int .i64 g] (by simp)).c 1 rfl; have l1_0 := (hSw.at (W9.heap.size) [.int .i64 f, .int .i64 g] (by simp)).c 0 rfl; have l1_1 := (hSw.at (W9.heap.size) [.int .i64 f, .int .i64 g] (by simp)).c 1 rfl; have l2_0 := (hSw.at (W7.heap.size) [.int .i64 p, .int .i64 q] (by simp)).c 0 rfl; have l2_1 := (hSw.at (W7.heap.size) [.int .i64 p, .int .i64 q] (by simp)).c 1 rfl; have l3_0 := (hSw.at (W5.heap.size) [.int .i64 p, .int .i64 q] (by simp)).c 0 rfl; have l3_1 := (hSw.at (W5.heap.size) [.int .i64 p, .int .i64 q] (by simp)).c 1 rfl; have l4_0 := (hSw.at (W3.heap.size) [.int .i64 s, .int .i64 t] (by simp)).c 0 rfl; have l4_1 := (hSw.at (W3.heap.size) [.int .i64 s, .int .i64 t] (by simp)).c 1 rfl; have l5_0 := (hSw.at (W1.heap.size) [.int .i64 s, .int .i64 t] (by simp)).c 0 rfl; have l5_1 := (hSw.at (W1.heap.size) [.int .i64 s, .int .i64 t] (by simp)).c 1 rfl; have l6_0 := (hSw.at (w.heap.size + 2) [.int .i64 l, .int .i64 c] (by simp)).c 0 rfl; have l6_1 := (hSw.at (w.heap.size + 2) [.int .i64 l, .int .i64 c] (by simp)).c 1 rfl; have l7_0 := (hSw.at (w.heap.size + 1) [.int .i64 j, .int .i64 b] (by simp)).c 0 rfl; have l7_1 := (hSw.at (w.heap.size + 1) [.int .i64 j, .int .i64 b] (by simp)).c 1 rfl; have l8_0 := (hSw.at (w.heap.size) [.int .i64 i, .int .i64 a] (by simp)).c 0 rfl; have l8_1 := (hSw.at (w.heap.size) [.int .i64 i, .int .i64 a] (by simp)).c 1 rfl; clear hSw; go_simp; try with_reducible rfl)
  simp only [Act.put, List.setIfInBounds_toArray, List.set_cons_zero, List.set_cons_succ]
  refine wpAnyH_take (i := 42) (v := ?_) (oi := { dst := some 99, op := _, type := _, pos := _, after := _, guard := some (40, true) }) rfl (by kernel_rfl) (by kernel_rfl) (by kernel_rfl) (fun _ _ _ h => h) (Or.inl ⟨by kernel_rfl, ?_⟩) (by assumption) ?_
  case refine_2 => (intro w9 hSw; have l0_0 := (hSw.at (W11.heap.size) [.int .i64 f, .int .i64 g] (by simp)).c 0 rfl; have l0_1 := (hSw.at (W11.heap.size) [.int .i64 f, .int .i64 g] (by simp)).c 1 rfl; have l1_0 := (hSw.at (W9.heap.size) [.int .i64 f, .int .i64 g] (by simp)).c 0 rfl; have l1_1 := (hSw.at (W9.heap.size) [.int .i64 f, .int .i64 g] (by simp)).c 1 rfl; have l2_0 := (hSw.at (W7.heap.size) [.int .i64 p, .int .i64 q] (by simp)).c 0 rfl; have l2_1 := (hSw.at (W7.heap.size) [.int .i64 p, .int .i64 q] (by simp)).c 1 rfl; have l3_0 := (hSw.at (W5.heap.size) [.int .i64 p, .int .i64 q] (by simp)).c 0 rfl; have l3_1 := (hSw.at (W5.heap.size) [.int .i64 p, .int .i64 q] (by simp)).c 1 rfl; have l4_0 := (hSw.at (W3.heap.size) [.int .i64 s, .int .i64 t] (by simp)).c 0 rfl; have l4_1 := (hSw.at (W3.heap.size) [.int .i64 s, .int .i64 t] (by simp)).c 1 rfl; have l5_0 := (hSw.at (W1.heap.size) [.int .i64 s, .int .i64 t] (by simp)).c 0 rfl; have l5_1 := (hSw.at (W1.heap.size) [.int .i64 s, .int .i64 t] (by simp)).c 1 rfl; have l6_0 := (hSw.at (w.heap.size + 2) [.int .i64 l, .int .i64 c] (by simp)).c 0 rfl; have l6_1 := (hSw.at (w.heap.size + 2) [.int .i64 l, .int .i64 c] (by simp)).c 1 rfl; have l7_0 := (hSw.at (w.heap.size + 1) [.int .i64 j, .int .i64 b] (by simp)).c 0 rfl; have l7_1 := (hSw.at (w.heap.size + 1) [.int .i64 j, .int .i64 b] (by simp)).c 1 rfl; have l8_0 := (hSw.at (w.heap.size) [.int .i64 i, .int .i64 a] (by simp)).c 0 rfl; have l8_1 := (hSw.at (w.heap.size) [.int .i64 i, .int .i64 a] (by simp)).c 1 rfl; clear hSw; go_simp; try with_reducible rfl)
  simp only [Act.put, List.setIfInBounds_toArray, List.set_cons_zero, List.set_cons_succ]
  refine wpAnyH_take (i := 44) (v := ?_) (oi := { dst := some 101, op := _, type := _, pos := _, after := _, guard := some (40, true) }) rfl (by kernel_rfl) (by kernel_rfl) (by kernel_rfl) (fun _ _ _ h => h) (Or.inl ⟨by kernel_rfl, ?_⟩) (by assumption) ?_
  case refine_2 => (intro w9 hSw; have l0_0 := (hSw.at (W11.heap.size) [.int .i64 f, .int .i64 g] (by simp)).c 0 rfl; have l0_1 := (hSw.at (W11.heap.size) [.int .i64 f, .int .i64 g] (by simp)).c 1 rfl; have l1_0 := (hSw.at (W9.heap.size) [.int .i64 f, .int .i64 g] (by simp)).c 0 rfl; have l1_1 := (hSw.at (W9.heap.size) [.int .i64 f, .int .i64 g] (by simp)).c 1 rfl; have l2_0 := (hSw.at (W7.heap.size) [.int .i64 p, .int .i64 q] (by simp)).c 0 rfl; have l2_1 := (hSw.at (W7.heap.size) [.int .i64 p, .int .i64 q] (by simp)).c 1 rfl; have l3_0 := (hSw.at (W5.heap.size) [.int .i64 p, .int .i64 q] (by simp)).c 0 rfl; have l3_1 := (hSw.at (W5.heap.size) [.int .i64 p, .int .i64 q] (by simp)).c 1 rfl; have l4_0 := (hSw.at (W3.heap.size) [.int .i64 s, .int .i64 t] (by simp)).c 0 rfl; have l4_1 := (hSw.at (W3.heap.size) [.int .i64 s, .int .i64 t] (by simp)).c 1 rfl; have l5_0 := (hSw.at (W1.heap.size) [.int .i64 s, .int .i64 t] (by simp)).c 0 rfl; have l5_1 := (hSw.at (W1.heap.size) [.int .i64 s, .int .i64 t] (by simp)).c 1 rfl; have l6_0 := (hSw.at (w.heap.size + 2) [.int .i64 l, .int .i64 c] (by simp)).c 0 rfl; have l6_1 := (hSw.at (w.heap.size + 2) [.int .i64 l, .int .i64 c] (by simp)).c 1 rfl; have l7_0 := (hSw.at (w.heap.size + 1) [.int .i64 j, .int .i64 b] (by simp)).c 0 rfl; have l7_1 := (hSw.at (w.heap.size + 1) [.int .i64 j, .int .i64 b] (by simp)).c 1 rfl; have l8_0 := (hSw.at (w.heap.size) [.int .i64 i, .int .i64 a] (by simp)).c 0 rfl; have l8_1 := (hSw.at (w.heap.size) [.int .i64 i, .int .i64 a] (by simp)).c 1 rfl; clear hSw; go_simp; try with_reducible rfl)
  simp only [Act.put, List.setIfInBounds_toArray, List.set_cons_zero, List.set_cons_succ]
  refine wpAnyH_take (i := 45) (v := ?_) (oi := { dst := some 102, op := _, type := _, pos := _, after := _, guard := some (40, true) }) rfl (by kernel_rfl) (by kernel_rfl) (by kernel_rfl) (fun _ _ _ h => h) (Or.inl ⟨by kernel_rfl, ?_⟩) (by assumption) ?_
  case refine_2 => (intro w9 hSw; have l0_0 := (hSw.at (W11.heap.size) [.int .i64 f, .int .i64 g] (by simp)).c 0 rfl; have l0_1 := (hSw.at (W11.heap.size) [.int .i64 f, .int .i64 g] (by simp)).c 1 rfl; have l1_0 := (hSw.at (W9.heap.size) [.int .i64 f, .int .i64 g] (by simp)).c 0 rfl; have l1_1 := (hSw.at (W9.heap.size) [.int .i64 f, .int .i64 g] (by simp)).c 1 rfl; have l2_0 := (hSw.at (W7.heap.size) [.int .i64 p, .int .i64 q] (by simp)).c 0 rfl; have l2_1 := (hSw.at (W7.heap.size) [.int .i64 p, .int .i64 q] (by simp)).c 1 rfl; have l3_0 := (hSw.at (W5.heap.size) [.int .i64 p, .int .i64 q] (by simp)).c 0 rfl; have l3_1 := (hSw.at (W5.heap.size) [.int .i64 p, .int .i64 q] (by simp)).c 1 rfl; have l4_0 := (hSw.at (W3.heap.size) [.int .i64 s, .int .i64 t] (by simp)).c 0 rfl; have l4_1 := (hSw.at (W3.heap.size) [.int .i64 s, .int .i64 t] (by simp)).c 1 rfl; have l5_0 := (hSw.at (W1.heap.size) [.int .i64 s, .int .i64 t] (by simp)).c 0 rfl; have l5_1 := (hSw.at (W1.heap.size) [.int .i64 s, .int .i64 t] (by simp)).c 1 rfl; have l6_0 := (hSw.at (w.heap.size + 2) [.int .i64 l, .int .i64 c] (by simp)).c 0 rfl; have l6_1 := (hSw.at (w.heap.size + 2) [.int .i64 l, .int .i64 c] (by simp)).c 1 rfl; have l7_0 := (hSw.at (w.heap.size + 1) [.int .i64 j, .int .i64 b] (by simp)).c 0 rfl; have l7_1 := (hSw.at (w.heap.size + 1) [.int .i64 j, .int .i64 b] (by simp)).c 1 rfl; have l8_0 := (hSw.at (w.heap.size) [.int .i64 i, .int .i64 a] (by simp)).c 0 rfl; have l8_1 := (hSw.at (w.heap.size) [.int .i64 i, .int .i64 a] (by simp)).c 1 rfl; clear hSw; go_simp; try with_reducible rfl)
  simp only [Act.put, List.setIfInBounds_toArray, List.set_cons_zero, List.set_cons_succ]
  refine wpAnyH_ready (rs := [43]) (by kernel_rfl) (by simp) (AllReadyH.cons (o := { dst := some 100, op := _, type := _, pos := _, after := _, guard := some (40, true) }) rfl (fun K hK => ?_) AllReadyH.nil)
  go_simp
  refine (C1.out _ (hL.out _ hHeld.1)).mono ?_
  rintro e v3 ⟨rfl, hb3⟩
  refine hK.out _ _ (hHeld.below hb3) (fun hHeld => ?_)
  clear hK K hb3
  refine wpAnyH_ready (rs := [46]) (by kernel_rfl) (by simp) (AllReadyH.cons (o := { dst := some 103, op := _, type := _, pos := _, after := _, guard := some (40, true) }) rfl (fun K hK => ?_) AllReadyH.nil)
  go_simp
  refine (C2.out _).mono ?_
  rintro e v4 ⟨rfl, hb4⟩
  refine hK.out _ _ (hHeld.below hb4) (fun hHeld => ?_)
  clear hK K hb4
  refine wpAnyH_take (i := 47) (v := ?_) (oi := { dst := some 104, op := _, type := _, pos := _, after := _, guard := some (40, true) }) rfl (by kernel_rfl) (by kernel_rfl) (by kernel_rfl) (fun _ _ _ h => h) (Or.inl ⟨by kernel_rfl, ?_⟩) (by assumption) ?_
  case refine_2 => (intro w9 hSw; clear hSw; go_simp; try with_reducible rfl)
  simp only [Act.put, List.setIfInBounds_toArray, List.set_cons_zero, List.set_cons_succ]
  refine wpAnyH_take (i := 48) (v := ?_) (oi := { dst := some 105, op := _, type := _, pos := _, after := _, guard := none }) rfl (by kernel_rfl) (by kernel_rfl) (by kernel_rfl) (fun _ _ _ h => h) (Or.inl ⟨by kernel_rfl, ?_⟩) (by assumption) ?_
  case refine_2 => (intro w9 hSw; clear hSw; go_simp; try with_reducible rfl)
  simp only [Act.put, List.setIfInBounds_toArray, List.set_cons_zero, List.set_cons_succ]
  refine wpAnyH_take (i := 49) (v := ?_) (oi := { dst := some 106, op := _, type := _, pos := _, after := _, guard := none }) rfl (by kernel_rfl) (by kernel_rfl) (by kernel_rfl) (fun _ _ _ h => h) (Or.inl ⟨by kernel_rfl, ?_⟩) (by assumption) ?_
  case refine_2 => (intro w9 hSw; clear hSw; go_simp; try with_reducible rfl)
  simp only [Act.put, List.setIfInBounds_toArray, List.set_cons_zero, List.set_cons_succ]
  refine wpAnyH_ready (rs := [50]) (by kernel_rfl) (by simp) (AllReadyH.cons (o := { dst := some 107, op := _, type := _, pos := _, after := _, guard := some (49, true) }) rfl (fun K hK => ?_) AllReadyH.nil)
  go_simp
  refine (KN.out _ (hL.out _ hHeld.1)).mono ?_
  rintro e v5 ⟨rfl, hb5⟩
  refine hK.out _ _ (hHeld.below hb5) (fun hHeld => ?_)
  clear hK K hb5
  refine wpAnyH_take (i := 51) (v := ?_) (oi := { dst := some 108, op := _, type := _, pos := _, after := _, guard := none }) rfl (by kernel_rfl) (by kernel_rfl) (by kernel_rfl) (fun _ _ _ h => h) (Or.inl ⟨by kernel_rfl, ?_⟩) (by assumption) ?_
  case refine_2 => (intro w9 hSw; clear hSw; go_simp; try with_reducible rfl)
  simp only [Act.put, List.setIfInBounds_toArray, List.set_cons_zero, List.set_cons_succ]
  refine wpAnyH_take (i := 52) (v := ?_) (oi := { dst := some 8, op := _, type := _, pos := _, after := _, guard := none }) rfl (by kernel_rfl) (by kernel_rfl) (by kernel_rfl) (fun _ _ _ h => h) (Or.inl ⟨by kernel_rfl, ?_⟩) (by assumption) ?_
  case refine_2 => (intro w9 hSw; clear hSw; go_simp; try with_reducible rfl)
  simp only [Act.put, List.setIfInBounds_toArray, List.set_cons_zero, List.set_cons_succ]
  refine wpAnyH_done (by kernel_rfl) ?_ _
  have HB : Hid (Below w.heap.size w _) := hHeld.1
  clear hHeld
  go_wp2
  go_ret
  exact ⟨rfl, HB.out⟩


end Go.Proofs.YtghfgabajdghiaaDoor
