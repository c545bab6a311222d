/- The walk of DayBack. -/
import Derived.Test.YtghfgabajdghiaaDoorDyK
import Derived.Deep.Cut
namespace Go.Proofs.YtghfgabajdghiaaDoor
open Go.RowKit
set_option linter.unusedVariables false

set_option maxRecDepth 100000 in
set_option maxHeartbeats 4000000 in
theorem core_DayBack_an (i a j b n s t S D E : Int) (hS : S ≠ 0) (hE : E ≠ 0)
    (A1 : Hid (∀ w : World, Cvl.Lens w → Calls Tryd.prog 16 #[.agg #[.int .i64 i, .int .i64 a], .int .i64 n] w fun r' w' => r' = .returned (.tuple #[.agg #[.int .i64 s, .int .i64 t], .int .i64 S]) ∧ Below w.heap.size w w'))
    (S1 : Hid (∀ w : World, Cvl.Lens w → Calls Tryd.prog 18 #[.agg #[.int .i64 i, .int .i64 a], .agg #[.int .i64 j, .int .i64 b]] w fun r' w' => r' = .returned (.tuple #[.int .i64 D, .int .i64 E]) ∧ Below w.heap.size w w'))
    (KN : Hid (∀ w : World, Cvl.Lens w → Calls Tryd.prog 15 #[] w fun r' w' => r' = .returned (.bool true) ∧ Below w.heap.size w w'))
    (w : World) (hL : Hid (∀ W : World, Below w.heap.size w W → Cvl.Lens W)) :
    Calls Tryd.prog 6 #[.agg #[.int .i64 i, .int .i64 a], .agg #[.int .i64 j, .int .i64 b], .int .i64 n] w fun r' w' => r' = .returned (.bool true) ∧ Below w.heap.size w w' := by
  have s1 : (S == 0) = false := by simpa using hS
  have e1 : (E != 0) = true := bne_iff_ne.2 hE
  have K0 : Hid (BS w [(w.heap.size + 1, [.int .i64 j, .int .i64 b]), (w.heap.size, [.int .i64 i, .int .i64 a])] ((w.alloc (.cells #[.int .i64 i, .int .i64 a] 23)).alloc (.cells #[.int .i64 j, .int .i64 b] 23))) := (((BS.start w).new [.int .i64 i, .int .i64 a] 23 rfl).new [.int .i64 j, .int .i64 b] 23 (by simp))
  go_enter Tryd.func6, Tryd.ntmps6
  go_wp2_with fail
  refine (A1.out _ (hL.out _ K0.out.1)).mono ?_
  rintro e W1 ⟨rfl, hb⟩
  have K1 : Hid (BS w [(w.heap.size + 1, [.int .i64 j, .int .i64 b]), (w.heap.size, [.int .i64 i, .int .i64 a])] W1) := K0.out.below hb
  clear hb K0
  have c1_0_0 : W1.cell? ⟨w.heap.size + 1, 0, none⟩ = some (.int .i64 j) := (K1.out.at (w.heap.size + 1) [.int .i64 j, .int .i64 b] (by simp)).c 0 rfl
  have c1_0_1 : W1.cell? ⟨w.heap.size + 1, 1, none⟩ = some (.int .i64 b) := (K1.out.at (w.heap.size + 1) [.int .i64 j, .int .i64 b] (by simp)).c 1 rfl
  have c1_1_0 : W1.cell? ⟨w.heap.size, 0, none⟩ = some (.int .i64 i) := (K1.out.at (w.heap.size) [.int .i64 i, .int .i64 a] (by simp)).c 0 rfl
  have c1_1_1 : W1.cell? ⟨w.heap.size, 1, none⟩ = some (.int .i64 a) := (K1.out.at (w.heap.size) [.int .i64 i, .int .i64 a] (by simp)).c 1 rfl
  have Mz1 : Hid (BS w [(W1.heap.size, [.int .i64 s, .int .i64 t]), (w.heap.size + 1, [.int .i64 j, .int .i64 b]), (w.heap.size, [.int .i64 i, .int .i64 a])] (W1.alloc (.cells #[.int .i64 s, .int .i64 t] 23))) := K1.out.new [.int .i64 s, .int .i64 t] 23 rfl
  go_upto_region 2 with fail
  refine gen_to (BS w [(W1.heap.size, [.int .i64 s, .int .i64 t]), (w.heap.size + 1, [.int .i64 j, .int .i64 b]), (w.heap.size, [.int .i64 i, .int .i64 a])]) Mz1.out ?_
  clear c1_0_0 c1_0_1 c1_1_0 c1_1_1
  intro W2 K2'
  have K2 : Hid (BS w [(W1.heap.size, [.int .i64 s, .int .i64 t]), (w.heap.size + 1, [.int .i64 j, .int .i64 b]), (w.heap.size, [.int .i64 i, .int .i64 a])] W2) := K2'
  clear K2' Mz1 K1
  have c2_0_0 : W2.cell? ⟨W1.heap.size, 0, none⟩ = some (.int .i64 s) := (K2.out.at (W1.heap.size) [.int .i64 s, .int .i64 t] (by simp)).c 0 rfl
  have c2_0_1 : W2.cell? ⟨W1.heap.size, 1, none⟩ = some (.int .i64 t) := (K2.out.at (W1.heap.size) [.int .i64 s, .int .i64 t] (by simp)).c 1 rfl
  have c2_1_0 : W2.cell? ⟨w.heap.size + 1, 0, none⟩ = some (.int .i64 j) := (K2.out.at (w.heap.size + 1) [.int .i64 j, .int .i64 b] (by simp)).c 0 rfl
  have c2_1_1 : W2.cell? ⟨w.heap.size + 1, 1, none⟩ = some (.int .i64 b) := (K2.out.at (w.heap.size + 1) [.int .i64 j, .int .i64 b] (by simp)).c 1 rfl
  have c2_2_0 : W2.cell? ⟨w.heap.size, 0, none⟩ = some (.int .i64 i) := (K2.out.at (w.heap.size) [.int .i64 i, .int .i64 a] (by simp)).c 0 rfl
  have c2_2_1 : W2.cell? ⟨w.heap.size, 1, none⟩ = some (.int .i64 a) := (K2.out.at (w.heap.size) [.int .i64 i, .int .i64 a] (by simp)).c 1 rfl
  go_wp2_with fail
  refine (S1.out _ (hL.out _ K2.out.1)).mono ?_
  rintro e W3 ⟨rfl, hb⟩
  have K3 : Hid (BS w [(W1.heap.size, [.int .i64 s, .int .i64 t]), (w.heap.size + 1, [.int .i64 j, .int .i64 b]), (w.heap.size, [.int .i64 i, .int .i64 a])] W3) := K2.out.below hb
  clear c2_0_0 c2_0_1 c2_1_0 c2_1_1 c2_2_0 c2_2_1
  clear hb K2
  have c3_0_0 : W3.cell? ⟨W1.heap.size, 0, none⟩ = some (.int .i64 s) := (K3.out.at (W1.heap.size) [.int .i64 s, .int .i64 t] (by simp)).c 0 rfl
  have c3_0_1 : W3.cell? ⟨W1.heap.size, 1, none⟩ = some (.int .i64 t) := (K3.out.at (W1.heap.size) [.int .i64 s, .int .i64 t] (by simp)).c 1 rfl
  have c3_1_0 : W3.cell? ⟨w.heap.size + 1, 0, none⟩ = some (.int .i64 j) := (K3.out.at (w.heap.size + 1) [.int .i64 j, .int .i64 b] (by simp)).c 0 rfl
  have c3_1_1 : W3.cell? ⟨w.heap.size + 1, 1, none⟩ = some (.int .i64 b) := (K3.out.at (w.heap.size + 1) [.int .i64 j, .int .i64 b] (by simp)).c 1 rfl
  have c3_2_0 : W3.cell? ⟨w.heap.size, 0, none⟩ = some (.int .i64 i) := (K3.out.at (w.heap.size) [.int .i64 i, .int .i64 a] (by simp)).c 0 rfl
  have c3_2_1 : W3.cell? ⟨w.heap.size, 1, none⟩ = some (.int .i64 a) := (K3.out.at (w.heap.size) [.int .i64 i, .int .i64 a] (by simp)).c 1 rfl
  go_wp2_with fail
  refine (KN.out _ (hL.out _ K3.out.1)).mono ?_
  rintro e W4 ⟨rfl, hb⟩
  have K4 : Hid (BS w [(W1.heap.size, [.int .i64 s, .int .i64 t]), (w.heap.size + 1, [.int .i64 j, .int .i64 b]), (w.heap.size, [.int .i64 i, .int .i64 a])] W4) := K3.out.below hb
  clear c3_0_0 c3_0_1 c3_1_0 c3_1_1 c3_2_0 c3_2_1
  clear hb K3
  have c4_0_0 : W4.cell? ⟨W1.heap.size, 0, none⟩ = some (.int .i64 s) := (K4.out.at (W1.heap.size) [.int .i64 s, .int .i64 t] (by simp)).c 0 rfl
  have c4_0_1 : W4.cell? ⟨W1.heap.size, 1, none⟩ = some (.int .i64 t) := (K4.out.at (W1.heap.size) [.int .i64 s, .int .i64 t] (by simp)).c 1 rfl
  have c4_1_0 : W4.cell? ⟨w.heap.size + 1, 0, none⟩ = some (.int .i64 j) := (K4.out.at (w.heap.size + 1) [.int .i64 j, .int .i64 b] (by simp)).c 0 rfl
  have c4_1_1 : W4.cell? ⟨w.heap.size + 1, 1, none⟩ = some (.int .i64 b) := (K4.out.at (w.heap.size + 1) [.int .i64 j, .int .i64 b] (by simp)).c 1 rfl
  have c4_2_0 : W4.cell? ⟨w.heap.size, 0, none⟩ = some (.int .i64 i) := (K4.out.at (w.heap.size) [.int .i64 i, .int .i64 a] (by simp)).c 0 rfl
  have c4_2_1 : W4.cell? ⟨w.heap.size, 1, none⟩ = some (.int .i64 a) := (K4.out.at (w.heap.size) [.int .i64 i, .int .i64 a] (by simp)).c 1 rfl
  go_wp2
  go_ret
  exact ⟨rfl, K4.out.1⟩

set_option maxRecDepth 100000 in
set_option maxHeartbeats 4000000 in
theorem core_DayBack_ap (i a j b n s t S D : Int) (hS : S ≠ 0) (hD : 0 < D)
    (A1 : Hid (∀ w : World, Cvl.Lens w → Calls Tryd.prog 16 #[.agg #[.int .i64 i, .int .i64 a], .int .i64 n] w fun r' w' => r' = .returned (.tuple #[.agg #[.int .i64 s, .int .i64 t], .int .i64 S]) ∧ Below w.heap.size w w'))
    (S1 : Hid (∀ w : World, Cvl.Lens w → Calls Tryd.prog 18 #[.agg #[.int .i64 i, .int .i64 a], .agg #[.int .i64 j, .int .i64 b]] w fun r' w' => r' = .returned (.tuple #[.int .i64 D, .int .i64 0]) ∧ Below w.heap.size w w'))
    (A3 : Hid (∀ w : World, Cvl.Lens w → Calls Tryd.prog 16 #[.agg #[.int .i64 j, .int .i64 b], .int .i64 D] w fun r' w' => r' = .returned (.tuple #[.agg #[.int .i64 i, .int .i64 a], .int .i64 0]) ∧ Below w.heap.size w w'))
    (C1 : Hid (∀ w : World, Cvl.Lens w → Calls Tryd.prog 22 #[.agg #[.int .i64 i, .int .i64 a], .agg #[.int .i64 j, .int .i64 b]] w fun r' w' => r' = .returned (.int .i64 1) ∧ Below w.heap.size w w'))
    (KN : Hid (∀ w : World, Cvl.Lens w → Calls Tryd.prog 15 #[] w fun r' w' => r' = .returned (.bool true) ∧ Below w.heap.size w w'))
    (w : World) (hL : Hid (∀ W : World, Below w.heap.size w W → Cvl.Lens W)) :
    Calls Tryd.prog 6 #[.agg #[.int .i64 i, .int .i64 a], .agg #[.int .i64 j, .int .i64 b], .int .i64 n] w fun r' w' => r' = .returned (.bool true) ∧ Below w.heap.size w w' := by
  have s1 : (S == 0) = false := by simpa using hS
  have d1 : ¬ D < 0 := by omega
  have K0 : Hid (BS w [(w.heap.size + 1, [.int .i64 j, .int .i64 b]), (w.heap.size, [.int .i64 i, .int .i64 a])] ((w.alloc (.cells #[.int .i64 i, .int .i64 a] 23)).alloc (.cells #[.int .i64 j, .int .i64 b] 23))) := (((BS.start w).new [.int .i64 i, .int .i64 a] 23 rfl).new [.int .i64 j, .int .i64 b] 23 (by simp))
  go_enter Tryd.func6, Tryd.ntmps6
  go_wp2_with fail
  refine (A1.out _ (hL.out _ K0.out.1)).mono ?_
  rintro e W1 ⟨rfl, hb⟩
  have K1 : Hid (BS w [(w.heap.size + 1, [.int .i64 j, .int .i64 b]), (w.heap.size, [.int .i64 i, .int .i64 a])] W1) := K0.out.below hb
  clear hb K0
  have c1_0_0 : W1.cell? ⟨w.heap.size + 1, 0, none⟩ = some (.int .i64 j) := (K1.out.at (w.heap.size + 1) [.int .i64 j, .int .i64 b] (by simp)).c 0 rfl
  have c1_0_1 : W1.cell? ⟨w.heap.size + 1, 1, none⟩ = some (.int .i64 b) := (K1.out.at (w.heap.size + 1) [.int .i64 j, .int .i64 b] (by simp)).c 1 rfl
  have c1_1_0 : W1.cell? ⟨w.heap.size, 0, none⟩ = some (.int .i64 i) := (K1.out.at (w.heap.size) [.int .i64 i, .int .i64 a] (by simp)).c 0 rfl
  have c1_1_1 : W1.cell? ⟨w.heap.size, 1, none⟩ = some (.int .i64 a) := (K1.out.at (w.heap.size) [.int .i64 i, .int .i64 a] (by simp)).c 1 rfl
  have Mz1 : Hid (BS w [(W1.heap.size, [.int .i64 s, .int .i64 t]), (w.heap.size + 1, [.int .i64 j, .int .i64 b]), (w.heap.size, [.int .i64 i, .int .i64 a])] (W1.alloc (.cells #[.int .i64 s, .int .i64 t] 23))) := K1.out.new [.int .i64 s, .int .i64 t] 23 rfl
  go_upto_region 2 with fail
  refine gen_to (BS w [(W1.heap.size, [.int .i64 s, .int .i64 t]), (w.heap.size + 1, [.int .i64 j, .int .i64 b]), (w.heap.size, [.int .i64 i, .int .i64 a])]) Mz1.out ?_
  clear c1_0_0 c1_0_1 c1_1_0 c1_1_1
  intro W2 K2'
  have K2 : Hid (BS w [(W1.heap.size, [.int .i64 s, .int .i64 t]), (w.heap.size + 1, [.int .i64 j, .int .i64 b]), (w.heap.size, [.int .i64 i, .int .i64 a])] W2) := K2'
  clear K2' Mz1 K1
  have c2_0_0 : W2.cell? ⟨W1.heap.size, 0, none⟩ = some (.int .i64 s) := (K2.out.at (W1.heap.size) [.int .i64 s, .int .i64 t] (by simp)).c 0 rfl
  have c2_0_1 : W2.cell? ⟨W1.heap.size, 1, none⟩ = some (.int .i64 t) := (K2.out.at (W1.heap.size) [.int .i64 s, .int .i64 t] (by simp)).c 1 rfl
  have c2_1_0 : W2.cell? ⟨w.heap.size + 1, 0, none⟩ = some (.int .i64 j) := (K2.out.at (w.heap.size + 1) [.int .i64 j, .int .i64 b] (by simp)).c 0 rfl
  have c2_1_1 : W2.cell? ⟨w.heap.size + 1, 1, none⟩ = some (.int .i64 b) := (K2.out.at (w.heap.size + 1) [.int .i64 j, .int .i64 b] (by simp)).c 1 rfl
  have c2_2_0 : W2.cell? ⟨w.heap.size, 0, none⟩ = some (.int .i64 i) := (K2.out.at (w.heap.size) [.int .i64 i, .int .i64 a] (by simp)).c 0 rfl
  have c2_2_1 : W2.cell? ⟨w.heap.size, 1, none⟩ = some (.int .i64 a) := (K2.out.at (w.heap.size) [.int .i64 i, .int .i64 a] (by simp)).c 1 rfl
  go_wp2_with fail
  refine (S1.out _ (hL.out _ K2.out.1)).mono ?_
  rintro e W3 ⟨rfl, hb⟩
  have K3 : Hid (BS w [(W1.heap.size, [.int .i64 s, .int .i64 t]), (w.heap.size + 1, [.int .i64 j, .int .i64 b]), (w.heap.size, [.int .i64 i, .int .i64 a])] W3) := K2.out.below hb
  clear c2_0_0 c2_0_1 c2_1_0 c2_1_1 c2_2_0 c2_2_1
  clear hb K2
  have c3_0_0 : W3.cell? ⟨W1.heap.size, 0, none⟩ = some (.int .i64 s) := (K3.out.at (W1.heap.size) [.int .i64 s, .int .i64 t] (by simp)).c 0 rfl
  have c3_0_1 : W3.cell? ⟨W1.heap.size, 1, none⟩ = some (.int .i64 t) := (K3.out.at (W1.heap.size) [.int .i64 s, .int .i64 t] (by simp)).c 1 rfl
  have c3_1_0 : W3.cell? ⟨w.heap.size + 1, 0, none⟩ = some (.int .i64 j) := (K3.out.at (w.heap.size + 1) [.int .i64 j, .int .i64 b] (by simp)).c 0 rfl
  have c3_1_1 : W3.cell? ⟨w.heap.size + 1, 1, none⟩ = some (.int .i64 b) := (K3.out.at (w.heap.size + 1) [.int .i64 j, .int .i64 b] (by simp)).c 1 rfl
  have c3_2_0 : W3.cell? ⟨w.heap.size, 0, none⟩ = some (.int .i64 i) := (K3.out.at (w.heap.size) [.int .i64 i, .int .i64 a] (by simp)).c 0 rfl
  have c3_2_1 : W3.cell? ⟨w.heap.size, 1, none⟩ = some (.int .i64 a) := (K3.out.at (w.heap.size) [.int .i64 i, .int .i64 a] (by simp)).c 1 rfl
  go_wp2_with fail
  refine (A3.out _ (hL.out _ K3.out.1)).mono ?_
  rintro e W4 ⟨rfl, hb⟩
  have K4 : Hid (BS w [(W1.heap.size, [.int .i64 s, .int .i64 t]), (w.heap.size + 1, [.int .i64 j, .int .i64 b]), (w.heap.size, [.int .i64 i, .int .i64 a])] W4) := K3.out.below hb
  clear c3_0_0 c3_0_1 c3_1_0 c3_1_1 c3_2_0 c3_2_1
  clear hb K3
  have c4_0_0 : W4.cell? ⟨W1.heap.size, 0, none⟩ = some (.int .i64 s) := (K4.out.at (W1.heap.size) [.int .i64 s, .int .i64 t] (by simp)).c 0 rfl
  have c4_0_1 : W4.cell? ⟨W1.heap.size, 1, none⟩ = some (.int .i64 t) := (K4.out.at (W1.heap.size) [.int .i64 s, .int .i64 t] (by simp)).c 1 rfl
  have c4_1_0 : W4.cell? ⟨w.heap.size + 1, 0, none⟩ = some (.int .i64 j) := (K4.out.at (w.heap.size + 1) [.int .i64 j, .int .i64 b] (by simp)).c 0 rfl
  have c4_1_1 : W4.cell? ⟨w.heap.size + 1, 1, none⟩ = some (.int .i64 b) := (K4.out.at (w.heap.size + 1) [.int .i64 j, .int .i64 b] (by simp)).c 1 rfl
  have c4_2_0 : W4.cell? ⟨w.heap.size, 0, none⟩ = some (.int .i64 i) := (K4.out.at (w.heap.size) [.int .i64 i, .int .i64 a] (by simp)).c 0 rfl
  have c4_2_1 : W4.cell? ⟨w.heap.size, 1, none⟩ = some (.int .i64 a) := (K4.out.at (w.heap.size) [.int .i64 i, .int .i64 a] (by simp)).c 1 rfl
  have Mz4 : Hid (BS w [(W4.heap.size, [.int .i64 i, .int .i64 a]), (W1.heap.size, [.int .i64 s, .int .i64 t]), (w.heap.size + 1, [.int .i64 j, .int .i64 b]), (w.heap.size, [.int .i64 i, .int .i64 a])] (W4.alloc (.cells #[.int .i64 i, .int .i64 a] 23))) := K4.out.new [.int .i64 i, .int .i64 a] 23 rfl
  go_upto_region 10 with fail
  refine gen_to (BS w [(W4.heap.size, [.int .i64 i, .int .i64 a]), (W1.heap.size, [.int .i64 s, .int .i64 t]), (w.heap.size + 1, [.int .i64 j, .int .i64 b]), (w.heap.size, [.int .i64 i, .int .i64 a])]) Mz4.out ?_
  clear c4_0_0 c4_0_1 c4_1_0 c4_1_1 c4_2_0 c4_2_1
  intro W5 K5'
  have K5 : Hid (BS w [(W4.heap.size, [.int .i64 i, .int .i64 a]), (W1.heap.size, [.int .i64 s, .int .i64 t]), (w.heap.size + 1, [.int .i64 j, .int .i64 b]), (w.heap.size, [.int .i64 i, .int .i64 a])] W5) := K5'
  clear K5' Mz4 K4
  have c5_0_0 : W5.cell? ⟨W4.heap.size, 0, none⟩ = some (.int .i64 i) := (K5.out.at (W4.heap.size) [.int .i64 i, .int .i64 a] (by simp)).c 0 rfl
  have c5_0_1 : W5.cell? ⟨W4.heap.size, 1, none⟩ = some (.int .i64 a) := (K5.out.at (W4.heap.size) [.int .i64 i, .int .i64 a] (by simp)).c 1 rfl
  have c5_1_0 : W5.cell? ⟨W1.heap.size, 0, none⟩ = some (.int .i64 s) := (K5.out.at (W1.heap.size) [.int .i64 s, .int .i64 t] (by simp)).c 0 rfl
  have c5_1_1 : W5.cell? ⟨W1.heap.size, 1, none⟩ = some (.int .i64 t) := (K5.out.at (W1.heap.size) [.int .i64 s, .int .i64 t] (by simp)).c 1 rfl
  have c5_2_0 : W5.cell? ⟨w.heap.size + 1, 0, none⟩ = some (.int .i64 j) := (K5.out.at (w.heap.size + 1) [.int .i64 j, .int .i64 b] (by simp)).c 0 rfl
  have c5_2_1 : W5.cell? ⟨w.heap.size + 1, 1, none⟩ = some (.int .i64 b) := (K5.out.at (w.heap.size + 1) [.int .i64 j, .int .i64 b] (by simp)).c 1 rfl
  have c5_3_0 : W5.cell? ⟨w.heap.size, 0, none⟩ = some (.int .i64 i) := (K5.out.at (w.heap.size) [.int .i64 i, .int .i64 a] (by simp)).c 0 rfl
  have c5_3_1 : W5.cell? ⟨w.heap.size, 1, none⟩ = some (.int .i64 a) := (K5.out.at (w.heap.size) [.int .i64 i, .int .i64 a] (by simp)).c 1 rfl
  go_wp2_with fail
  refine (C1.out _ (hL.out _ K5.out.1)).mono ?_
  rintro e W6 ⟨rfl, hb⟩
  have K6 : Hid (BS w [(W4.heap.size, [.int .i64 i, .int .i64 a]), (W1.heap.size, [.int .i64 s, .int .i64 t]), (w.heap.size + 1, [.int .i64 j, .int .i64 b]), (w.heap.size, [.int .i64 i, .int .i64 a])] W6) := K5.out.below hb
  clear c5_0_0 c5_0_1 c5_1_0 c5_1_1 c5_2_0 c5_2_1 c5_3_0 c5_3_1
  clear hb K5
  have c6_0_0 : W6.cell? ⟨W4.heap.size, 0, none⟩ = some (.int .i64 i) := (K6.out.at (W4.heap.size) [.int .i64 i, .int .i64 a] (by simp)).c 0 rfl
  have c6_0_1 : W6.cell? ⟨W4.heap.size, 1, none⟩ = some (.int .i64 a) := (K6.out.at (W4.heap.size) [.int .i64 i, .int .i64 a] (by simp)).c 1 rfl
  have c6_1_0 : W6.cell? ⟨W1.heap.size, 0, none⟩ = some (.int .i64 s) := (K6.out.at (W1.heap.size) [.int .i64 s, .int .i64 t] (by simp)).c 0 rfl
  have c6_1_1 : W6.cell? ⟨W1.heap.size, 1, none⟩ = some (.int .i64 t) := (K6.out.at (W1.heap.size) [.int .i64 s, .int .i64 t] (by simp)).c 1 rfl
  have c6_2_0 : W6.cell? ⟨w.heap.size + 1, 0, none⟩ = some (.int .i64 j) := (K6.out.at (w.heap.size + 1) [.int .i64 j, .int .i64 b] (by simp)).c 0 rfl
  have c6_2_1 : W6.cell? ⟨w.heap.size + 1, 1, none⟩ = some (.int .i64 b) := (K6.out.at (w.heap.size + 1) [.int .i64 j, .int .i64 b] (by simp)).c 1 rfl
  have c6_3_0 : W6.cell? ⟨w.heap.size, 0, none⟩ = some (.int .i64 i) := (K6.out.at (w.heap.size) [.int .i64 i, .int .i64 a] (by simp)).c 0 rfl
  have c6_3_1 : W6.cell? ⟨w.heap.size, 1, none⟩ = some (.int .i64 a) := (K6.out.at (w.heap.size) [.int .i64 i, .int .i64 a] (by simp)).c 1 rfl
  go_wp2_with fail
  refine (C1.out _ (hL.out _ K6.out.1)).mono ?_
  rintro e W7 ⟨rfl, hb⟩
  have K7 : Hid (BS w [(W4.heap.size, [.int .i64 i, .int .i64 a]), (W1.heap.size, [.int .i64 s, .int .i64 t]), (w.heap.size + 1, [.int .i64 j, .int .i64 b]), (w.heap.size, [.int .i64 i, .int .i64 a])] W7) := K6.out.below hb
  clear c6_0_0 c6_0_1 c6_1_0 c6_1_1 c6_2_0 c6_2_1 c6_3_0 c6_3_1
  clear hb K6
  have c7_0_0 : W7.cell? ⟨W4.heap.size, 0, none⟩ = some (.int .i64 i) := (K7.out.at (W4.heap.size) [.int .i64 i, .int .i64 a] (by simp)).c 0 rfl
  have c7_0_1 : W7.cell? ⟨W4.heap.size, 1, none⟩ = some (.int .i64 a) := (K7.out.at (W4.heap.size) [.int .i64 i, .int .i64 a] (by simp)).c 1 rfl
  have c7_1_0 : W7.cell? ⟨W1.heap.size, 0, none⟩ = some (.int .i64 s) := (K7.out.at (W1.heap.size) [.int .i64 s, .int .i64 t] (by simp)).c 0 rfl
  have c7_1_1 : W7.cell? ⟨W1.heap.size, 1, none⟩ = some (.int .i64 t) := (K7.out.at (W1.heap.size) [.int .i64 s, .int .i64 t] (by simp)).c 1 rfl
  have c7_2_0 : W7.cell? ⟨w.heap.size + 1, 0, none⟩ = some (.int .i64 j) := (K7.out.at (w.heap.size + 1) [.int .i64 j, .int .i64 b] (by simp)).c 0 rfl
  have c7_2_1 : W7.cell? ⟨w.heap.size + 1, 1, none⟩ = some (.int .i64 b) := (K7.out.at (w.heap.size + 1) [.int .i64 j, .int .i64 b] (by simp)).c 1 rfl
  have c7_3_0 : W7.cell? ⟨w.heap.size, 0, none⟩ = some (.int .i64 i) := (K7.out.at (w.heap.size) [.int .i64 i, .int .i64 a] (by simp)).c 0 rfl
  have c7_3_1 : W7.cell? ⟨w.heap.size, 1, none⟩ = some (.int .i64 a) := (K7.out.at (w.heap.size) [.int .i64 i, .int .i64 a] (by simp)).c 1 rfl
  go_wp2_with fail
  refine (KN.out _ (hL.out _ K7.out.1)).mono ?_
  rintro e W8 ⟨rfl, hb⟩
  have K8 : Hid (BS w [(W4.heap.size, [.int .i64 i, .int .i64 a]), (W1.heap.size, [.int .i64 s, .int .i64 t]), (w.heap.size + 1, [.int .i64 j, .int .i64 b]), (w.heap.size, [.int .i64 i, .int .i64 a])] W8) := K7.out.below hb
  clear c7_0_0 c7_0_1 c7_1_0 c7_1_1 c7_2_0 c7_2_1 c7_3_0 c7_3_1
  clear hb K7
  have c8_0_0 : W8.cell? ⟨W4.heap.size, 0, none⟩ = some (.int .i64 i) := (K8.out.at (W4.heap.size) [.int .i64 i, .int .i64 a] (by simp)).c 0 rfl
  have c8_0_1 : W8.cell? ⟨W4.heap.size, 1, none⟩ = some (.int .i64 a) := (K8.out.at (W4.heap.size) [.int .i64 i, .int .i64 a] (by simp)).c 1 rfl
  have c8_1_0 : W8.cell? ⟨W1.heap.size, 0, none⟩ = some (.int .i64 s) := (K8.out.at (W1.heap.size) [.int .i64 s, .int .i64 t] (by simp)).c 0 rfl
  have c8_1_1 : W8.cell? ⟨W1.heap.size, 1, none⟩ = some (.int .i64 t) := (K8.out.at (W1.heap.size) [.int .i64 s, .int .i64 t] (by simp)).c 1 rfl
  have c8_2_0 : W8.cell? ⟨w.heap.size + 1, 0, none⟩ = some (.int .i64 j) := (K8.out.at (w.heap.size + 1) [.int .i64 j, .int .i64 b] (by simp)).c 0 rfl
  have c8_2_1 : W8.cell? ⟨w.heap.size + 1, 1, none⟩ = some (.int .i64 b) := (K8.out.at (w.heap.size + 1) [.int .i64 j, .int .i64 b] (by simp)).c 1 rfl
  have c8_3_0 : W8.cell? ⟨w.heap.size, 0, none⟩ = some (.int .i64 i) := (K8.out.at (w.heap.size) [.int .i64 i, .int .i64 a] (by simp)).c 0 rfl
  have c8_3_1 : W8.cell? ⟨w.heap.size, 1, none⟩ = some (.int .i64 a) := (K8.out.at (w.heap.size) [.int .i64 i, .int .i64 a] (by simp)).c 1 rfl
  go_wp2
  go_ret
  exact ⟨ret_bool (by simp; omega), K8.out.1⟩

set_option maxRecDepth 100000 in
set_option maxHeartbeats 4000000 in
theorem core_DayBack_am (i a j b n s t S D : Int) (hS : S ≠ 0) (hD : D < 0)
    (A1 : Hid (∀ w : World, Cvl.Lens w → Calls Tryd.prog 16 #[.agg #[.int .i64 i, .int .i64 a], .int .i64 n] w fun r' w' => r' = .returned (.tuple #[.agg #[.int .i64 s, .int .i64 t], .int .i64 S]) ∧ Below w.heap.size w w'))
    (S1 : Hid (∀ w : World, Cvl.Lens w → Calls Tryd.prog 18 #[.agg #[.int .i64 i, .int .i64 a], .agg #[.int .i64 j, .int .i64 b]] w fun r' w' => r' = .returned (.tuple #[.int .i64 D, .int .i64 0]) ∧ Below w.heap.size w w'))
    (A3 : Hid (∀ w : World, Cvl.Lens w → Calls Tryd.prog 16 #[.agg #[.int .i64 j, .int .i64 b], .int .i64 D] w fun r' w' => r' = .returned (.tuple #[.agg #[.int .i64 i, .int .i64 a], .int .i64 0]) ∧ Below w.heap.size w w'))
    (C1 : Hid (∀ w : World, Cvl.Lens w → Calls Tryd.prog 22 #[.agg #[.int .i64 i, .int .i64 a], .agg #[.int .i64 j, .int .i64 b]] w fun r' w' => r' = .returned (.int .i64 (-1)) ∧ Below w.heap.size w w'))
    (KN : Hid (∀ w : World, Cvl.Lens w → Calls Tryd.prog 15 #[] w fun r' w' => r' = .returned (.bool true) ∧ Below w.heap.size w w'))
    (w : World) (hL : Hid (∀ W : World, Below w.heap.size w W → Cvl.Lens W)) :
    Calls Tryd.prog 6 #[.agg #[.int .i64 i, .int .i64 a], .agg #[.int .i64 j, .int .i64 b], .int .i64 n] w fun r' w' => r' = .returned (.bool true) ∧ Below w.heap.size w w' := by
  have s1 : (S == 0) = false := by simpa using hS
  have d1 : ¬ 0 < D := by omega
  have K0 : Hid (BS w [(w.heap.size + 1, [.int .i64 j, .int .i64 b]), (w.heap.size, [.int .i64 i, .int .i64 a])] ((w.alloc (.cells #[.int .i64 i, .int .i64 a] 23)).alloc (.cells #[.int .i64 j, .int .i64 b] 23))) := (((BS.start w).new [.int .i64 i, .int .i64 a] 23 rfl).new [.int .i64 j, .int .i64 b] 23 (by simp))
  go_enter Tryd.func6, Tryd.ntmps6
  go_wp2_with fail
  refine (A1.out _ (hL.out _ K0.out.1)).mono ?_
  rintro e W1 ⟨rfl, hb⟩
  have K1 : Hid (BS w [(w.heap.size + 1, [.int .i64 j, .int .i64 b]), (w.heap.size, [.int .i64 i, .int .i64 a])] W1) := K0.out.below hb
  clear hb K0
  have c1_0_0 : W1.cell? ⟨w.heap.size + 1, 0, none⟩ = some (.int .i64 j) := (K1.out.at (w.heap.size + 1) [.int .i64 j, .int .i64 b] (by simp)).c 0 rfl
  have c1_0_1 : W1.cell? ⟨w.heap.size + 1, 1, none⟩ = some (.int .i64 b) := (K1.out.at (w.heap.size + 1) [.int .i64 j, .int .i64 b] (by simp)).c 1 rfl
  have c1_1_0 : W1.cell? ⟨w.heap.size, 0, none⟩ = some (.int .i64 i) := (K1.out.at (w.heap.size) [.int .i64 i, .int .i64 a] (by simp)).c 0 rfl
  have c1_1_1 : W1.cell? ⟨w.heap.size, 1, none⟩ = some (.int .i64 a) := (K1.out.at (w.heap.size) [.int .i64 i, .int .i64 a] (by simp)).c 1 rfl
  have Mz1 : Hid (BS w [(W1.heap.size, [.int .i64 s, .int .i64 t]), (w.heap.size + 1, [.int .i64 j, .int .i64 b]), (w.heap.size, [.int .i64 i, .int .i64 a])] (W1.alloc (.cells #[.int .i64 s, .int .i64 t] 23))) := K1.out.new [.int .i64 s, .int .i64 t] 23 rfl
  go_upto_region 2 with fail
  refine gen_to (BS w [(W1.heap.size, [.int .i64 s, .int .i64 t]), (w.heap.size + 1, [.int .i64 j, .int .i64 b]), (w.heap.size, [.int .i64 i, .int .i64 a])]) Mz1.out ?_
  clear c1_0_0 c1_0_1 c1_1_0 c1_1_1
  intro W2 K2'
  have K2 : Hid (BS w [(W1.heap.size, [.int .i64 s, .int .i64 t]), (w.heap.size + 1, [.int .i64 j, .int .i64 b]), (w.heap.size, [.int .i64 i, .int .i64 a])] W2) := K2'
  clear K2' Mz1 K1
  have c2_0_0 : W2.cell? ⟨W1.heap.size, 0, none⟩ = some (.int .i64 s) := (K2.out.at (W1.heap.size) [.int .i64 s, .int .i64 t] (by simp)).c 0 rfl
  have c2_0_1 : W2.cell? ⟨W1.heap.size, 1, none⟩ = some (.int .i64 t) := (K2.out.at (W1.heap.size) [.int .i64 s, .int .i64 t] (by simp)).c 1 rfl
  have c2_1_0 : W2.cell? ⟨w.heap.size + 1, 0, none⟩ = some (.int .i64 j) := (K2.out.at (w.heap.size + 1) [.int .i64 j, .int .i64 b] (by simp)).c 0 rfl
  have c2_1_1 : W2.cell? ⟨w.heap.size + 1, 1, none⟩ = some (.int .i64 b) := (K2.out.at (w.heap.size + 1) [.int .i64 j, .int .i64 b] (by simp)).c 1 rfl
  have c2_2_0 : W2.cell? ⟨w.heap.size, 0, none⟩ = some (.int .i64 i) := (K2.out.at (w.heap.size) [.int .i64 i, .int .i64 a] (by simp)).c 0 rfl
  have c2_2_1 : W2.cell? ⟨w.heap.size, 1, none⟩ = some (.int .i64 a) := (K2.out.at (w.heap.size) [.int .i64 i, .int .i64 a] (by simp)).c 1 rfl
  go_wp2_with fail
  refine (S1.out _ (hL.out _ K2.out.1)).mono ?_
  rintro e W3 ⟨rfl, hb⟩
  have K3 : Hid (BS w [(W1.heap.size, [.int .i64 s, .int .i64 t]), (w.heap.size + 1, [.int .i64 j, .int .i64 b]), (w.heap.size, [.int .i64 i, .int .i64 a])] W3) := K2.out.below hb
  clear c2_0_0 c2_0_1 c2_1_0 c2_1_1 c2_2_0 c2_2_1
  clear hb K2
  have c3_0_0 : W3.cell? ⟨W1.heap.size, 0, none⟩ = some (.int .i64 s) := (K3.out.at (W1.heap.size) [.int .i64 s, .int .i64 t] (by simp)).c 0 rfl
  have c3_0_1 : W3.cell? ⟨W1.heap.size, 1, none⟩ = some (.int .i64 t) := (K3.out.at (W1.heap.size) [.int .i64 s, .int .i64 t] (by simp)).c 1 rfl
  have c3_1_0 : W3.cell? ⟨w.heap.size + 1, 0, none⟩ = some (.int .i64 j) := (K3.out.at (w.heap.size + 1) [.int .i64 j, .int .i64 b] (by simp)).c 0 rfl
  have c3_1_1 : W3.cell? ⟨w.heap.size + 1, 1, none⟩ = some (.int .i64 b) := (K3.out.at (w.heap.size + 1) [.int .i64 j, .int .i64 b] (by simp)).c 1 rfl
  have c3_2_0 : W3.cell? ⟨w.heap.size, 0, none⟩ = some (.int .i64 i) := (K3.out.at (w.heap.size) [.int .i64 i, .int .i64 a] (by simp)).c 0 rfl
  have c3_2_1 : W3.cell? ⟨w.heap.size, 1, none⟩ = some (.int .i64 a) := (K3.out.at (w.heap.size) [.int .i64 i, .int .i64 a] (by simp)).c 1 rfl
  go_wp2_with fail
  refine (A3.out _ (hL.out _ K3.out.1)).mono ?_
  rintro e W4 ⟨rfl, hb⟩
  have K4 : Hid (BS w [(W1.heap.size, [.int .i64 s, .int .i64 t]), (w.heap.size + 1, [.int .i64 j, .int .i64 b]), (w.heap.size, [.int .i64 i, .int .i64 a])] W4) := K3.out.below hb
  clear c3_0_0 c3_0_1 c3_1_0 c3_1_1 c3_2_0 c3_2_1
  clear hb K3
  have c4_0_0 : W4.cell? ⟨W1.heap.size, 0, none⟩ = some (.int .i64 s) := (K4.out.at (W1.heap.size) [.int .i64 s, .int .i64 t] (by simp)).c 0 rfl
  have c4_0_1 : W4.cell? ⟨W1.heap.size, 1, none⟩ = some (.int .i64 t) := (K4.out.at (W1.heap.size) [.int .i64 s, .int .i64 t] (by simp)).c 1 rfl
  have c4_1_0 : W4.cell? ⟨w.heap.size + 1, 0, none⟩ = some (.int .i64 j) := (K4.out.at (w.heap.size + 1) [.int .i64 j, .int .i64 b] (by simp)).c 0 rfl
  have c4_1_1 : W4.cell? ⟨w.heap.size + 1, 1, none⟩ = some (.int .i64 b) := (K4.out.at (w.heap.size + 1) [.int .i64 j, .int .i64 b] (by simp)).c 1 rfl
  have c4_2_0 : W4.cell? ⟨w.heap.size, 0, none⟩ = some (.int .i64 i) := (K4.out.at (w.heap.size) [.int .i64 i, .int .i64 a] (by simp)).c 0 rfl
  have c4_2_1 : W4.cell? ⟨w.heap.size, 1, none⟩ = some (.int .i64 a) := (K4.out.at (w.heap.size) [.int .i64 i, .int .i64 a] (by simp)).c 1 rfl
  have Mz4 : Hid (BS w [(W4.heap.size, [.int .i64 i, .int .i64 a]), (W1.heap.size, [.int .i64 s, .int .i64 t]), (w.heap.size + 1, [.int .i64 j, .int .i64 b]), (w.heap.size, [.int .i64 i, .int .i64 a])] (W4.alloc (.cells #[.int .i64 i, .int .i64 a] 23))) := K4.out.new [.int .i64 i, .int .i64 a] 23 rfl
  go_upto_region 10 with fail
  refine gen_to (BS w [(W4.heap.size, [.int .i64 i, .int .i64 a]), (W1.heap.size, [.int .i64 s, .int .i64 t]), (w.heap.size + 1, [.int .i64 j, .int .i64 b]), (w.heap.size, [.int .i64 i, .int .i64 a])]) Mz4.out ?_
  clear c4_0_0 c4_0_1 c4_1_0 c4_1_1 c4_2_0 c4_2_1
  intro W5 K5'
  have K5 : Hid (BS w [(W4.heap.size, [.int .i64 i, .int .i64 a]), (W1.heap.size, [.int .i64 s, .int .i64 t]), (w.heap.size + 1, [.int .i64 j, .int .i64 b]), (w.heap.size, [.int .i64 i, .int .i64 a])] W5) := K5'
  clear K5' Mz4 K4
  have c5_0_0 : W5.cell? ⟨W4.heap.size, 0, none⟩ = some (.int .i64 i) := (K5.out.at (W4.heap.size) [.int .i64 i, .int .i64 a] (by simp)).c 0 rfl
  have c5_0_1 : W5.cell? ⟨W4.heap.size, 1, none⟩ = some (.int .i64 a) := (K5.out.at (W4.heap.size) [.int .i64 i, .int .i64 a] (by simp)).c 1 rfl
  have c5_1_0 : W5.cell? ⟨W1.heap.size, 0, none⟩ = some (.int .i64 s) := (K5.out.at (W1.heap.size) [.int .i64 s, .int .i64 t] (by simp)).c 0 rfl
  have c5_1_1 : W5.cell? ⟨W1.heap.size, 1, none⟩ = some (.int .i64 t) := (K5.out.at (W1.heap.size) [.int .i64 s, .int .i64 t] (by simp)).c 1 rfl
  have c5_2_0 : W5.cell? ⟨w.heap.size + 1, 0, none⟩ = some (.int .i64 j) := (K5.out.at (w.heap.size + 1) [.int .i64 j, .int .i64 b] (by simp)).c 0 rfl
  have c5_2_1 : W5.cell? ⟨w.heap.size + 1, 1, none⟩ = some (.int .i64 b) := (K5.out.at (w.heap.size + 1) [.int .i64 j, .int .i64 b] (by simp)).c 1 rfl
  have c5_3_0 : W5.cell? ⟨w.heap.size, 0, none⟩ = some (.int .i64 i) := (K5.out.at (w.heap.size) [.int .i64 i, .int .i64 a] (by simp)).c 0 rfl
  have c5_3_1 : W5.cell? ⟨w.heap.size, 1, none⟩ = some (.int .i64 a) := (K5.out.at (w.heap.size) [.int .i64 i, .int .i64 a] (by simp)).c 1 rfl
  go_wp2_with fail
  refine (C1.out _ (hL.out _ K5.out.1)).mono ?_
  rintro e W6 ⟨rfl, hb⟩
  have K6 : Hid (BS w [(W4.heap.size, [.int .i64 i, .int .i64 a]), (W1.heap.size, [.int .i64 s, .int .i64 t]), (w.heap.size + 1, [.int .i64 j, .int .i64 b]), (w.heap.size, [.int .i64 i, .int .i64 a])] W6) := K5.out.below hb
  clear c5_0_0 c5_0_1 c5_1_0 c5_1_1 c5_2_0 c5_2_1 c5_3_0 c5_3_1
  clear hb K5
  have c6_0_0 : W6.cell? ⟨W4.heap.size, 0, none⟩ = some (.int .i64 i) := (K6.out.at (W4.heap.size) [.int .i64 i, .int .i64 a] (by simp)).c 0 rfl
  have c6_0_1 : W6.cell? ⟨W4.heap.size, 1, none⟩ = some (.int .i64 a) := (K6.out.at (W4.heap.size) [.int .i64 i, .int .i64 a] (by simp)).c 1 rfl
  have c6_1_0 : W6.cell? ⟨W1.heap.size, 0, none⟩ = some (.int .i64 s) := (K6.out.at (W1.heap.size) [.int .i64 s, .int .i64 t] (by simp)).c 0 rfl
  have c6_1_1 : W6.cell? ⟨W1.heap.size, 1, none⟩ = some (.int .i64 t) := (K6.out.at (W1.heap.size) [.int .i64 s, .int .i64 t] (by simp)).c 1 rfl
  have c6_2_0 : W6.cell? ⟨w.heap.size + 1, 0, none⟩ = some (.int .i64 j) := (K6.out.at (w.heap.size + 1) [.int .i64 j, .int .i64 b] (by simp)).c 0 rfl
  have c6_2_1 : W6.cell? ⟨w.heap.size + 1, 1, none⟩ = some (.int .i64 b) := (K6.out.at (w.heap.size + 1) [.int .i64 j, .int .i64 b] (by simp)).c 1 rfl
  have c6_3_0 : W6.cell? ⟨w.heap.size, 0, none⟩ = some (.int .i64 i) := (K6.out.at (w.heap.size) [.int .i64 i, .int .i64 a] (by simp)).c 0 rfl
  have c6_3_1 : W6.cell? ⟨w.heap.size, 1, none⟩ = some (.int .i64 a) := (K6.out.at (w.heap.size) [.int .i64 i, .int .i64 a] (by simp)).c 1 rfl
  go_wp2_with fail
  refine (C1.out _ (hL.out _ K6.out.1)).mono ?_
  rintro e W7 ⟨rfl, hb⟩
  have K7 : Hid (BS w [(W4.heap.size, [.int .i64 i, .int .i64 a]), (W1.heap.size, [.int .i64 s, .int .i64 t]), (w.heap.size + 1, [.int .i64 j, .int .i64 b]), (w.heap.size, [.int .i64 i, .int .i64 a])] W7) := K6.out.below hb
  clear c6_0_0 c6_0_1 c6_1_0 c6_1_1 c6_2_0 c6_2_1 c6_3_0 c6_3_1
  clear hb K6
  have c7_0_0 : W7.cell? ⟨W4.heap.size, 0, none⟩ = some (.int .i64 i) := (K7.out.at (W4.heap.size) [.int .i64 i, .int .i64 a] (by simp)).c 0 rfl
  have c7_0_1 : W7.cell? ⟨W4.heap.size, 1, none⟩ = some (.int .i64 a) := (K7.out.at (W4.heap.size) [.int .i64 i, .int .i64 a] (by simp)).c 1 rfl
  have c7_1_0 : W7.cell? ⟨W1.heap.size, 0, none⟩ = some (.int .i64 s) := (K7.out.at (W1.heap.size) [.int .i64 s, .int .i64 t] (by simp)).c 0 rfl
  have c7_1_1 : W7.cell? ⟨W1.heap.size, 1, none⟩ = some (.int .i64 t) := (K7.out.at (W1.heap.size) [.int .i64 s, .int .i64 t] (by simp)).c 1 rfl
  have c7_2_0 : W7.cell? ⟨w.heap.size + 1, 0, none⟩ = some (.int .i64 j) := (K7.out.at (w.heap.size + 1) [.int .i64 j, .int .i64 b] (by simp)).c 0 rfl
  have c7_2_1 : W7.cell? ⟨w.heap.size + 1, 1, none⟩ = some (.int .i64 b) := (K7.out.at (w.heap.size + 1) [.int .i64 j, .int .i64 b] (by simp)).c 1 rfl
  have c7_3_0 : W7.cell? ⟨w.heap.size, 0, none⟩ = some (.int .i64 i) := (K7.out.at (w.heap.size) [.int .i64 i, .int .i64 a] (by simp)).c 0 rfl
  have c7_3_1 : W7.cell? ⟨w.heap.size, 1, none⟩ = some (.int .i64 a) := (K7.out.at (w.heap.size) [.int .i64 i, .int .i64 a] (by simp)).c 1 rfl
  go_wp2_with fail
  refine (KN.out _ (hL.out _ K7.out.1)).mono ?_
  rintro e W8 ⟨rfl, hb⟩
  have K8 : Hid (BS w [(W4.heap.size, [.int .i64 i, .int .i64 a]), (W1.heap.size, [.int .i64 s, .int .i64 t]), (w.heap.size + 1, [.int .i64 j, .int .i64 b]), (w.heap.size, [.int .i64 i, .int .i64 a])] W8) := K7.out.below hb
  clear c7_0_0 c7_0_1 c7_1_0 c7_1_1 c7_2_0 c7_2_1 c7_3_0 c7_3_1
  clear hb K7
  have c8_0_0 : W8.cell? ⟨W4.heap.size, 0, none⟩ = some (.int .i64 i) := (K8.out.at (W4.heap.size) [.int .i64 i, .int .i64 a] (by simp)).c 0 rfl
  have c8_0_1 : W8.cell? ⟨W4.heap.size, 1, none⟩ = some (.int .i64 a) := (K8.out.at (W4.heap.size) [.int .i64 i, .int .i64 a] (by simp)).c 1 rfl
  have c8_1_0 : W8.cell? ⟨W1.heap.size, 0, none⟩ = some (.int .i64 s) := (K8.out.at (W1.heap.size) [.int .i64 s, .int .i64 t] (by simp)).c 0 rfl
  have c8_1_1 : W8.cell? ⟨W1.heap.size, 1, none⟩ = some (.int .i64 t) := (K8.out.at (W1.heap.size) [.int .i64 s, .int .i64 t] (by simp)).c 1 rfl
  have c8_2_0 : W8.cell? ⟨w.heap.size + 1, 0, none⟩ = some (.int .i64 j) := (K8.out.at (w.heap.size + 1) [.int .i64 j, .int .i64 b] (by simp)).c 0 rfl
  have c8_2_1 : W8.cell? ⟨w.heap.size + 1, 1, none⟩ = some (.int .i64 b) := (K8.out.at (w.heap.size + 1) [.int .i64 j, .int .i64 b] (by simp)).c 1 rfl
  have c8_3_0 : W8.cell? ⟨w.heap.size, 0, none⟩ = some (.int .i64 i) := (K8.out.at (w.heap.size) [.int .i64 i, .int .i64 a] (by simp)).c 0 rfl
  have c8_3_1 : W8.cell? ⟨w.heap.size, 1, none⟩ = some (.int .i64 a) := (K8.out.at (w.heap.size) [.int .i64 i, .int .i64 a] (by simp)).c 1 rfl
  go_wp2
  go_ret
  exact ⟨ret_bool (by simp; omega), K8.out.1⟩

set_option maxRecDepth 100000 in
set_option maxHeartbeats 4000000 in
theorem core_DayBack_az (i a j b n s t S : Int) (hS : S ≠ 0)
    (A1 : Hid (∀ w : World, Cvl.Lens w → Calls Tryd.prog 16 #[.agg #[.int .i64 i, .int .i64 a], .int .i64 n] w fun r' w' => r' = .returned (.tuple #[.agg #[.int .i64 s, .int .i64 t], .int .i64 S]) ∧ Below w.heap.size w w'))
    (S1 : Hid (∀ w : World, Cvl.Lens w → Calls Tryd.prog 18 #[.agg #[.int .i64 i, .int .i64 a], .agg #[.int .i64 j, .int .i64 b]] w fun r' w' => r' = .returned (.tuple #[.int .i64 0, .int .i64 0]) ∧ Below w.heap.size w w'))
    (A3 : Hid (∀ w : World, Cvl.Lens w → Calls Tryd.prog 16 #[.agg #[.int .i64 j, .int .i64 b], .int .i64 0] w fun r' w' => r' = .returned (.tuple #[.agg #[.int .i64 i, .int .i64 a], .int .i64 0]) ∧ Below w.heap.size w w'))
    (C1 : Hid (∀ w : World, Cvl.Lens w → Calls Tryd.prog 22 #[.agg #[.int .i64 i, .int .i64 a], .agg #[.int .i64 j, .int .i64 b]] w fun r' w' => r' = .returned (.int .i64 0) ∧ Below w.heap.size w w'))
    (KN : Hid (∀ w : World, Cvl.Lens w → Calls Tryd.prog 15 #[] w fun r' w' => r' = .returned (.bool true) ∧ Below w.heap.size w w'))
    (w : World) (hL : Hid (∀ W : World, Below w.heap.size w W → Cvl.Lens W)) :
    Calls Tryd.prog 6 #[.agg #[.int .i64 i, .int .i64 a], .agg #[.int .i64 j, .int .i64 b], .int .i64 n] w fun r' w' => r' = .returned (.bool true) ∧ Below w.heap.size w w' := by
  have s1 : (S == 0) = false := by simpa using hS
  have K0 : Hid (BS w [(w.heap.size + 1, [.int .i64 j, .int .i64 b]), (w.heap.size, [.int .i64 i, .int .i64 a])] ((w.alloc (.cells #[.int .i64 i, .int .i64 a] 23)).alloc (.cells #[.int .i64 j, .int .i64 b] 23))) := (((BS.start w).new [.int .i64 i, .int .i64 a] 23 rfl).new [.int .i64 j, .int .i64 b] 23 (by simp))
  go_enter Tryd.func6, Tryd.ntmps6
  go_wp2_with fail
  refine (A1.out _ (hL.out _ K0.out.1)).mono ?_
  rintro e W1 ⟨rfl, hb⟩
  have K1 : Hid (BS w [(w.heap.size + 1, [.int .i64 j, .int .i64 b]), (w.heap.size, [.int .i64 i, .int .i64 a])] W1) := K0.out.below hb
  clear hb K0
  have c1_0_0 : W1.cell? ⟨w.heap.size + 1, 0, none⟩ = some (.int .i64 j) := (K1.out.at (w.heap.size + 1) [.int .i64 j, .int .i64 b] (by simp)).c 0 rfl
  have c1_0_1 : W1.cell? ⟨w.heap.size + 1, 1, none⟩ = some (.int .i64 b) := (K1.out.at (w.heap.size + 1) [.int .i64 j, .int .i64 b] (by simp)).c 1 rfl
  have c1_1_0 : W1.cell? ⟨w.heap.size, 0, none⟩ = some (.int .i64 i) := (K1.out.at (w.heap.size) [.int .i64 i, .int .i64 a] (by simp)).c 0 rfl
  have c1_1_1 : W1.cell? ⟨w.heap.size, 1, none⟩ = some (.int .i64 a) := (K1.out.at (w.heap.size) [.int .i64 i, .int .i64 a] (by simp)).c 1 rfl
  have Mz1 : Hid (BS w [(W1.heap.size, [.int .i64 s, .int .i64 t]), (w.heap.size + 1, [.int .i64 j, .int .i64 b]), (w.heap.size, [.int .i64 i, .int .i64 a])] (W1.alloc (.cells #[.int .i64 s, .int .i64 t] 23))) := K1.out.new [.int .i64 s, .int .i64 t] 23 rfl
  go_upto_region 2 with fail
  refine gen_to (BS w [(W1.heap.size, [.int .i64 s, .int .i64 t]), (w.heap.size + 1, [.int .i64 j, .int .i64 b]), (w.heap.size, [.int .i64 i, .int .i64 a])]) Mz1.out ?_
  clear c1_0_0 c1_0_1 c1_1_0 c1_1_1
  intro W2 K2'
  have K2 : Hid (BS w [(W1.heap.size, [.int .i64 s, .int .i64 t]), (w.heap.size + 1, [.int .i64 j, .int .i64 b]), (w.heap.size, [.int .i64 i, .int .i64 a])] W2) := K2'
  clear K2' Mz1 K1
  have c2_0_0 : W2.cell? ⟨W1.heap.size, 0, none⟩ = some (.int .i64 s) := (K2.out.at (W1.heap.size) [.int .i64 s, .int .i64 t] (by simp)).c 0 rfl
  have c2_0_1 : W2.cell? ⟨W1.heap.size, 1, none⟩ = some (.int .i64 t) := (K2.out.at (W1.heap.size) [.int .i64 s, .int .i64 t] (by simp)).c 1 rfl
  have c2_1_0 : W2.cell? ⟨w.heap.size + 1, 0, none⟩ = some (.int .i64 j) := (K2.out.at (w.heap.size + 1) [.int .i64 j, .int .i64 b] (by simp)).c 0 rfl
  have c2_1_1 : W2.cell? ⟨w.heap.size + 1, 1, none⟩ = some (.int .i64 b) := (K2.out.at (w.heap.size + 1) [.int .i64 j, .int .i64 b] (by simp)).c 1 rfl
  have c2_2_0 : W2.cell? ⟨w.heap.size, 0, none⟩ = some (.int .i64 i) := (K2.out.at (w.heap.size) [.int .i64 i, .int .i64 a] (by simp)).c 0 rfl
  have c2_2_1 : W2.cell? ⟨w.heap.size, 1, none⟩ = some (.int .i64 a) := (K2.out.at (w.heap.size) [.int .i64 i, .int .i64 a] (by simp)).c 1 rfl
  go_wp2_with fail
  refine (S1.out _ (hL.out _ K2.out.1)).mono ?_
  rintro e W3 ⟨rfl, hb⟩
  have K3 : Hid (BS w [(W1.heap.size, [.int .i64 s, .int .i64 t]), (w.heap.size + 1, [.int .i64 j, .int .i64 b]), (w.heap.size, [.int .i64 i, .int .i64 a])] W3) := K2.out.below hb
  clear c2_0_0 c2_0_1 c2_1_0 c2_1_1 c2_2_0 c2_2_1
  clear hb K2
  have c3_0_0 : W3.cell? ⟨W1.heap.size, 0, none⟩ = some (.int .i64 s) := (K3.out.at (W1.heap.size) [.int .i64 s, .int .i64 t] (by simp)).c 0 rfl
  have c3_0_1 : W3.cell? ⟨W1.heap.size, 1, none⟩ = some (.int .i64 t) := (K3.out.at (W1.heap.size) [.int .i64 s, .int .i64 t] (by simp)).c 1 rfl
  have c3_1_0 : W3.cell? ⟨w.heap.size + 1, 0, none⟩ = some (.int .i64 j) := (K3.out.at (w.heap.size + 1) [.int .i64 j, .int .i64 b] (by simp)).c 0 rfl
  have c3_1_1 : W3.cell? ⟨w.heap.size + 1, 1, none⟩ = some (.int .i64 b) := (K3.out.at (w.heap.size + 1) [.int .i64 j, .int .i64 b] (by simp)).c 1 rfl
  have c3_2_0 : W3.cell? ⟨w.heap.size, 0, none⟩ = some (.int .i64 i) := (K3.out.at (w.heap.size) [.int .i64 i, .int .i64 a] (by simp)).c 0 rfl
  have c3_2_1 : W3.cell? ⟨w.heap.size, 1, none⟩ = some (.int .i64 a) := (K3.out.at (w.heap.size) [.int .i64 i, .int .i64 a] (by simp)).c 1 rfl
  go_wp2_with fail
  refine (A3.out _ (hL.out _ K3.out.1)).mono ?_
  rintro e W4 ⟨rfl, hb⟩
  have K4 : Hid (BS w [(W1.heap.size, [.int .i64 s, .int .i64 t]), (w.heap.size + 1, [.int .i64 j, .int .i64 b]), (w.heap.size, [.int .i64 i, .int .i64 a])] W4) := K3.out.below hb
  clear c3_0_0 c3_0_1 c3_1_0 c3_1_1 c3_2_0 c3_2_1
  clear hb K3
  have c4_0_0 : W4.cell? ⟨W1.heap.size, 0, none⟩ = some (.int .i64 s) := (K4.out.at (W1.heap.size) [.int .i64 s, .int .i64 t] (by simp)).c 0 rfl
  have c4_0_1 : W4.cell? ⟨W1.heap.size, 1, none⟩ = some (.int .i64 t) := (K4.out.at (W1.heap.size) [.int .i64 s, .int .i64 t] (by simp)).c 1 rfl
  have c4_1_0 : W4.cell? ⟨w.heap.size + 1, 0, none⟩ = some (.int .i64 j) := (K4.out.at (w.heap.size + 1) [.int .i64 j, .int .i64 b] (by simp)).c 0 rfl
  have c4_1_1 : W4.cell? ⟨w.heap.size + 1, 1, none⟩ = some (.int .i64 b) := (K4.out.at (w.heap.size + 1) [.int .i64 j, .int .i64 b] (by simp)).c 1 rfl
  have c4_2_0 : W4.cell? ⟨w.heap.size, 0, none⟩ = some (.int .i64 i) := (K4.out.at (w.heap.size) [.int .i64 i, .int .i64 a] (by simp)).c 0 rfl
  have c4_2_1 : W4.cell? ⟨w.heap.size, 1, none⟩ = some (.int .i64 a) := (K4.out.at (w.heap.size) [.int .i64 i, .int .i64 a] (by simp)).c 1 rfl
  have Mz4 : Hid (BS w [(W4.heap.size, [.int .i64 i, .int .i64 a]), (W1.heap.size, [.int .i64 s, .int .i64 t]), (w.heap.size + 1, [.int .i64 j, .int .i64 b]), (w.heap.size, [.int .i64 i, .int .i64 a])] (W4.alloc (.cells #[.int .i64 i, .int .i64 a] 23))) := K4.out.new [.int .i64 i, .int .i64 a] 23 rfl
  go_upto_region 10 with fail
  refine gen_to (BS w [(W4.heap.size, [.int .i64 i, .int .i64 a]), (W1.heap.size, [.int .i64 s, .int .i64 t]), (w.heap.size + 1, [.int .i64 j, .int .i64 b]), (w.heap.size, [.int .i64 i, .int .i64 a])]) Mz4.out ?_
  clear c4_0_0 c4_0_1 c4_1_0 c4_1_1 c4_2_0 c4_2_1
  intro W5 K5'
  have K5 : Hid (BS w [(W4.heap.size, [.int .i64 i, .int .i64 a]), (W1.heap.size, [.int .i64 s, .int .i64 t]), (w.heap.size + 1, [.int .i64 j, .int .i64 b]), (w.heap.size, [.int .i64 i, .int .i64 a])] W5) := K5'
  clear K5' Mz4 K4
  have c5_0_0 : W5.cell? ⟨W4.heap.size, 0, none⟩ = some (.int .i64 i) := (K5.out.at (W4.heap.size) [.int .i64 i, .int .i64 a] (by simp)).c 0 rfl
  have c5_0_1 : W5.cell? ⟨W4.heap.size, 1, none⟩ = some (.int .i64 a) := (K5.out.at (W4.heap.size) [.int .i64 i, .int .i64 a] (by simp)).c 1 rfl
  have c5_1_0 : W5.cell? ⟨W1.heap.size, 0, none⟩ = some (.int .i64 s) := (K5.out.at (W1.heap.size) [.int .i64 s, .int .i64 t] (by simp)).c 0 rfl
  have c5_1_1 : W5.cell? ⟨W1.heap.size, 1, none⟩ = some (.int .i64 t) := (K5.out.at (W1.heap.size) [.int .i64 s, .int .i64 t] (by simp)).c 1 rfl
  have c5_2_0 : W5.cell? ⟨w.heap.size + 1, 0, none⟩ = some (.int .i64 j) := (K5.out.at (w.heap.size + 1) [.int .i64 j, .int .i64 b] (by simp)).c 0 rfl
  have c5_2_1 : W5.cell? ⟨w.heap.size + 1, 1, none⟩ = some (.int .i64 b) := (K5.out.at (w.heap.size + 1) [.int .i64 j, .int .i64 b] (by simp)).c 1 rfl
  have c5_3_0 : W5.cell? ⟨w.heap.size, 0, none⟩ = some (.int .i64 i) := (K5.out.at (w.heap.size) [.int .i64 i, .int .i64 a] (by simp)).c 0 rfl
  have c5_3_1 : W5.cell? ⟨w.heap.size, 1, none⟩ = some (.int .i64 a) := (K5.out.at (w.heap.size) [.int .i64 i, .int .i64 a] (by simp)).c 1 rfl
  go_wp2_with fail
  refine (C1.out _ (hL.out _ K5.out.1)).mono ?_
  rintro e W6 ⟨rfl, hb⟩
  have K6 : Hid (BS w [(W4.heap.size, [.int .i64 i, .int .i64 a]), (W1.heap.size, [.int .i64 s, .int .i64 t]), (w.heap.size + 1, [.int .i64 j, .int .i64 b]), (w.heap.size, [.int .i64 i, .int .i64 a])] W6) := K5.out.below hb
  clear c5_0_0 c5_0_1 c5_1_0 c5_1_1 c5_2_0 c5_2_1 c5_3_0 c5_3_1
  clear hb K5
  have c6_0_0 : W6.cell? ⟨W4.heap.size, 0, none⟩ = some (.int .i64 i) := (K6.out.at (W4.heap.size) [.int .i64 i, .int .i64 a] (by simp)).c 0 rfl
  have c6_0_1 : W6.cell? ⟨W4.heap.size, 1, none⟩ = some (.int .i64 a) := (K6.out.at (W4.heap.size) [.int .i64 i, .int .i64 a] (by simp)).c 1 rfl
  have c6_1_0 : W6.cell? ⟨W1.heap.size, 0, none⟩ = some (.int .i64 s) := (K6.out.at (W1.heap.size) [.int .i64 s, .int .i64 t] (by simp)).c 0 rfl
  have c6_1_1 : W6.cell? ⟨W1.heap.size, 1, none⟩ = some (.int .i64 t) := (K6.out.at (W1.heap.size) [.int .i64 s, .int .i64 t] (by simp)).c 1 rfl
  have c6_2_0 : W6.cell? ⟨w.heap.size + 1, 0, none⟩ = some (.int .i64 j) := (K6.out.at (w.heap.size + 1) [.int .i64 j, .int .i64 b] (by simp)).c 0 rfl
  have c6_2_1 : W6.cell? ⟨w.heap.size + 1, 1, none⟩ = some (.int .i64 b) := (K6.out.at (w.heap.size + 1) [.int .i64 j, .int .i64 b] (by simp)).c 1 rfl
  have c6_3_0 : W6.cell? ⟨w.heap.size, 0, none⟩ = some (.int .i64 i) := (K6.out.at (w.heap.size) [.int .i64 i, .int .i64 a] (by simp)).c 0 rfl
  have c6_3_1 : W6.cell? ⟨w.heap.size, 1, none⟩ = some (.int .i64 a) := (K6.out.at (w.heap.size) [.int .i64 i, .int .i64 a] (by simp)).c 1 rfl
  go_wp2_with fail
  refine (C1.out _ (hL.out _ K6.out.1)).mono ?_
  rintro e W7 ⟨rfl, hb⟩
  have K7 : Hid (BS w [(W4.heap.size, [.int .i64 i, .int .i64 a]), (W1.heap.size, [.int .i64 s, .int .i64 t]), (w.heap.size + 1, [.int .i64 j, .int .i64 b]), (w.heap.size, [.int .i64 i, .int .i64 a])] W7) := K6.out.below hb
  clear c6_0_0 c6_0_1 c6_1_0 c6_1_1 c6_2_0 c6_2_1 c6_3_0 c6_3_1
  clear hb K6
  have c7_0_0 : W7.cell? ⟨W4.heap.size, 0, none⟩ = some (.int .i64 i) := (K7.out.at (W4.heap.size) [.int .i64 i, .int .i64 a] (by simp)).c 0 rfl
  have c7_0_1 : W7.cell? ⟨W4.heap.size, 1, none⟩ = some (.int .i64 a) := (K7.out.at (W4.heap.size) [.int .i64 i, .int .i64 a] (by simp)).c 1 rfl
  have c7_1_0 : W7.cell? ⟨W1.heap.size, 0, none⟩ = some (.int .i64 s) := (K7.out.at (W1.heap.size) [.int .i64 s, .int .i64 t] (by simp)).c 0 rfl
  have c7_1_1 : W7.cell? ⟨W1.heap.size, 1, none⟩ = some (.int .i64 t) := (K7.out.at (W1.heap.size) [.int .i64 s, .int .i64 t] (by simp)).c 1 rfl
  have c7_2_0 : W7.cell? ⟨w.heap.size + 1, 0, none⟩ = some (.int .i64 j) := (K7.out.at (w.heap.size + 1) [.int .i64 j, .int .i64 b] (by simp)).c 0 rfl
  have c7_2_1 : W7.cell? ⟨w.heap.size + 1, 1, none⟩ = some (.int .i64 b) := (K7.out.at (w.heap.size + 1) [.int .i64 j, .int .i64 b] (by simp)).c 1 rfl
  have c7_3_0 : W7.cell? ⟨w.heap.size, 0, none⟩ = some (.int .i64 i) := (K7.out.at (w.heap.size) [.int .i64 i, .int .i64 a] (by simp)).c 0 rfl
  have c7_3_1 : W7.cell? ⟨w.heap.size, 1, none⟩ = some (.int .i64 a) := (K7.out.at (w.heap.size) [.int .i64 i, .int .i64 a] (by simp)).c 1 rfl
  go_wp2_with fail
  refine (KN.out _ (hL.out _ K7.out.1)).mono ?_
  rintro e W8 ⟨rfl, hb⟩
  have K8 : Hid (BS w [(W4.heap.size, [.int .i64 i, .int .i64 a]), (W1.heap.size, [.int .i64 s, .int .i64 t]), (w.heap.size + 1, [.int .i64 j, .int .i64 b]), (w.heap.size, [.int .i64 i, .int .i64 a])] W8) := K7.out.below hb
  clear c7_0_0 c7_0_1 c7_1_0 c7_1_1 c7_2_0 c7_2_1 c7_3_0 c7_3_1
  clear hb K7
  have c8_0_0 : W8.cell? ⟨W4.heap.size, 0, none⟩ = some (.int .i64 i) := (K8.out.at (W4.heap.size) [.int .i64 i, .int .i64 a] (by simp)).c 0 rfl
  have c8_0_1 : W8.cell? ⟨W4.heap.size, 1, none⟩ = some (.int .i64 a) := (K8.out.at (W4.heap.size) [.int .i64 i, .int .i64 a] (by simp)).c 1 rfl
  have c8_1_0 : W8.cell? ⟨W1.heap.size, 0, none⟩ = some (.int .i64 s) := (K8.out.at (W1.heap.size) [.int .i64 s, .int .i64 t] (by simp)).c 0 rfl
  have c8_1_1 : W8.cell? ⟨W1.heap.size, 1, none⟩ = some (.int .i64 t) := (K8.out.at (W1.heap.size) [.int .i64 s, .int .i64 t] (by simp)).c 1 rfl
  have c8_2_0 : W8.cell? ⟨w.heap.size + 1, 0, none⟩ = some (.int .i64 j) := (K8.out.at (w.heap.size + 1) [.int .i64 j, .int .i64 b] (by simp)).c 0 rfl
  have c8_2_1 : W8.cell? ⟨w.heap.size + 1, 1, none⟩ = some (.int .i64 b) := (K8.out.at (w.heap.size + 1) [.int .i64 j, .int .i64 b] (by simp)).c 1 rfl
  have c8_3_0 : W8.cell? ⟨w.heap.size, 0, none⟩ = some (.int .i64 i) := (K8.out.at (w.heap.size) [.int .i64 i, .int .i64 a] (by simp)).c 0 rfl
  have c8_3_1 : W8.cell? ⟨w.heap.size, 1, none⟩ = some (.int .i64 a) := (K8.out.at (w.heap.size) [.int .i64 i, .int .i64 a] (by simp)).c 1 rfl
  go_wp2
  go_ret
  exact ⟨rfl, K8.out.1⟩

set_option maxRecDepth 100000 in
set_option maxHeartbeats 4000000 in
theorem core_DayBack_bn (i a j b n s t D E : Int) (hn : n ≤ -1099511627776) (hE : E ≠ 0)
    (A1 : Hid (∀ w : World, Cvl.Lens w → Calls Tryd.prog 16 #[.agg #[.int .i64 i, .int .i64 a], .int .i64 n] w fun r' w' => r' = .returned (.tuple #[.agg #[.int .i64 s, .int .i64 t], .int .i64 0]) ∧ Below w.heap.size w w'))
    (S1 : Hid (∀ w : World, Cvl.Lens w → Calls Tryd.prog 18 #[.agg #[.int .i64 i, .int .i64 a], .agg #[.int .i64 j, .int .i64 b]] w fun r' w' => r' = .returned (.tuple #[.int .i64 D, .int .i64 E]) ∧ Below w.heap.size w w'))
    (KN : Hid (∀ w : World, Cvl.Lens w → Calls Tryd.prog 15 #[] w fun r' w' => r' = .returned (.bool true) ∧ Below w.heap.size w w'))
    (w : World) (hL : Hid (∀ W : World, Below w.heap.size w W → Cvl.Lens W)) :
    Calls Tryd.prog 6 #[.agg #[.int .i64 i, .int .i64 a], .agg #[.int .i64 j, .int .i64 b], .int .i64 n] w fun r' w' => r' = .returned (.bool true) ∧ Below w.heap.size w w' := by
  have n1 : ¬ -1099511627776 < n := by omega
  have e1 : (E != 0) = true := bne_iff_ne.2 hE
  have K0 : Hid (BS w [(w.heap.size + 1, [.int .i64 j, .int .i64 b]), (w.heap.size, [.int .i64 i, .int .i64 a])] ((w.alloc (.cells #[.int .i64 i, .int .i64 a] 23)).alloc (.cells #[.int .i64 j, .int .i64 b] 23))) := (((BS.start w).new [.int .i64 i, .int .i64 a] 23 rfl).new [.int .i64 j, .int .i64 b] 23 (by simp))
  go_enter Tryd.func6, Tryd.ntmps6
  go_wp2_with fail
  refine (A1.out _ (hL.out _ K0.out.1)).mono ?_
  rintro e W1 ⟨rfl, hb⟩
  have K1 : Hid (BS w [(w.heap.size + 1, [.int .i64 j, .int .i64 b]), (w.heap.size, [.int .i64 i, .int .i64 a])] W1) := K0.out.below hb
  clear hb K0
  have c1_0_0 : W1.cell? ⟨w.heap.size + 1, 0, none⟩ = some (.int .i64 j) := (K1.out.at (w.heap.size + 1) [.int .i64 j, .int .i64 b] (by simp)).c 0 rfl
  have c1_0_1 : W1.cell? ⟨w.heap.size + 1, 1, none⟩ = some (.int .i64 b) := (K1.out.at (w.heap.size + 1) [.int .i64 j, .int .i64 b] (by simp)).c 1 rfl
  have c1_1_0 : W1.cell? ⟨w.heap.size, 0, none⟩ = some (.int .i64 i) := (K1.out.at (w.heap.size) [.int .i64 i, .int .i64 a] (by simp)).c 0 rfl
  have c1_1_1 : W1.cell? ⟨w.heap.size, 1, none⟩ = some (.int .i64 a) := (K1.out.at (w.heap.size) [.int .i64 i, .int .i64 a] (by simp)).c 1 rfl
  have Mz1 : Hid (BS w [(W1.heap.size, [.int .i64 s, .int .i64 t]), (w.heap.size + 1, [.int .i64 j, .int .i64 b]), (w.heap.size, [.int .i64 i, .int .i64 a])] (W1.alloc (.cells #[.int .i64 s, .int .i64 t] 23))) := K1.out.new [.int .i64 s, .int .i64 t] 23 rfl
  go_upto_region 2 with fail
  refine gen_to (BS w [(W1.heap.size, [.int .i64 s, .int .i64 t]), (w.heap.size + 1, [.int .i64 j, .int .i64 b]), (w.heap.size, [.int .i64 i, .int .i64 a])]) Mz1.out ?_
  clear c1_0_0 c1_0_1 c1_1_0 c1_1_1
  intro W2 K2'
  have K2 : Hid (BS w [(W1.heap.size, [.int .i64 s, .int .i64 t]), (w.heap.size + 1, [.int .i64 j, .int .i64 b]), (w.heap.size, [.int .i64 i, .int .i64 a])] W2) := K2'
  clear K2' Mz1 K1
  have c2_0_0 : W2.cell? ⟨W1.heap.size, 0, none⟩ = some (.int .i64 s) := (K2.out.at (W1.heap.size) [.int .i64 s, .int .i64 t] (by simp)).c 0 rfl
  have c2_0_1 : W2.cell? ⟨W1.heap.size, 1, none⟩ = some (.int .i64 t) := (K2.out.at (W1.heap.size) [.int .i64 s, .int .i64 t] (by simp)).c 1 rfl
  have c2_1_0 : W2.cell? ⟨w.heap.size + 1, 0, none⟩ = some (.int .i64 j) := (K2.out.at (w.heap.size + 1) [.int .i64 j, .int .i64 b] (by simp)).c 0 rfl
  have c2_1_1 : W2.cell? ⟨w.heap.size + 1, 1, none⟩ = some (.int .i64 b) := (K2.out.at (w.heap.size + 1) [.int .i64 j, .int .i64 b] (by simp)).c 1 rfl
  have c2_2_0 : W2.cell? ⟨w.heap.size, 0, none⟩ = some (.int .i64 i) := (K2.out.at (w.heap.size) [.int .i64 i, .int .i64 a] (by simp)).c 0 rfl
  have c2_2_1 : W2.cell? ⟨w.heap.size, 1, none⟩ = some (.int .i64 a) := (K2.out.at (w.heap.size) [.int .i64 i, .int .i64 a] (by simp)).c 1 rfl
  go_wp2_with fail
  refine (S1.out _ (hL.out _ K2.out.1)).mono ?_
  rintro e W3 ⟨rfl, hb⟩
  have K3 : Hid (BS w [(W1.heap.size, [.int .i64 s, .int .i64 t]), (w.heap.size + 1, [.int .i64 j, .int .i64 b]), (w.heap.size, [.int .i64 i, .int .i64 a])] W3) := K2.out.below hb
  clear c2_0_0 c2_0_1 c2_1_0 c2_1_1 c2_2_0 c2_2_1
  clear hb K2
  have c3_0_0 : W3.cell? ⟨W1.heap.size, 0, none⟩ = some (.int .i64 s) := (K3.out.at (W1.heap.size) [.int .i64 s, .int .i64 t] (by simp)).c 0 rfl
  have c3_0_1 : W3.cell? ⟨W1.heap.size, 1, none⟩ = some (.int .i64 t) := (K3.out.at (W1.heap.size) [.int .i64 s, .int .i64 t] (by simp)).c 1 rfl
  have c3_1_0 : W3.cell? ⟨w.heap.size + 1, 0, none⟩ = some (.int .i64 j) := (K3.out.at (w.heap.size + 1) [.int .i64 j, .int .i64 b] (by simp)).c 0 rfl
  have c3_1_1 : W3.cell? ⟨w.heap.size + 1, 1, none⟩ = some (.int .i64 b) := (K3.out.at (w.heap.size + 1) [.int .i64 j, .int .i64 b] (by simp)).c 1 rfl
  have c3_2_0 : W3.cell? ⟨w.heap.size, 0, none⟩ = some (.int .i64 i) := (K3.out.at (w.heap.size) [.int .i64 i, .int .i64 a] (by simp)).c 0 rfl
  have c3_2_1 : W3.cell? ⟨w.heap.size, 1, none⟩ = some (.int .i64 a) := (K3.out.at (w.heap.size) [.int .i64 i, .int .i64 a] (by simp)).c 1 rfl
  go_wp2_with fail
  refine (KN.out _ (hL.out _ K3.out.1)).mono ?_
  rintro e W4 ⟨rfl, hb⟩
  have K4 : Hid (BS w [(W1.heap.size, [.int .i64 s, .int .i64 t]), (w.heap.size + 1, [.int .i64 j, .int .i64 b]), (w.heap.size, [.int .i64 i, .int .i64 a])] W4) := K3.out.below hb
  clear c3_0_0 c3_0_1 c3_1_0 c3_1_1 c3_2_0 c3_2_1
  clear hb K3
  have c4_0_0 : W4.cell? ⟨W1.heap.size, 0, none⟩ = some (.int .i64 s) := (K4.out.at (W1.heap.size) [.int .i64 s, .int .i64 t] (by simp)).c 0 rfl
  have c4_0_1 : W4.cell? ⟨W1.heap.size, 1, none⟩ = some (.int .i64 t) := (K4.out.at (W1.heap.size) [.int .i64 s, .int .i64 t] (by simp)).c 1 rfl
  have c4_1_0 : W4.cell? ⟨w.heap.size + 1, 0, none⟩ = some (.int .i64 j) := (K4.out.at (w.heap.size + 1) [.int .i64 j, .int .i64 b] (by simp)).c 0 rfl
  have c4_1_1 : W4.cell? ⟨w.heap.size + 1, 1, none⟩ = some (.int .i64 b) := (K4.out.at (w.heap.size + 1) [.int .i64 j, .int .i64 b] (by simp)).c 1 rfl
  have c4_2_0 : W4.cell? ⟨w.heap.size, 0, none⟩ = some (.int .i64 i) := (K4.out.at (w.heap.size) [.int .i64 i, .int .i64 a] (by simp)).c 0 rfl
  have c4_2_1 : W4.cell? ⟨w.heap.size, 1, none⟩ = some (.int .i64 a) := (K4.out.at (w.heap.size) [.int .i64 i, .int .i64 a] (by simp)).c 1 rfl
  go_wp2
  go_ret
  exact ⟨rfl, K4.out.1⟩

set_option maxRecDepth 100000 in
set_option maxHeartbeats 4000000 in
theorem core_DayBack_bp (i a j b n s t D : Int) (hn : n ≤ -1099511627776) (hD : 0 < D)
    (A1 : Hid (∀ w : World, Cvl.Lens w → Calls Tryd.prog 16 #[.agg #[.int .i64 i, .int .i64 a], .int .i64 n] w fun r' w' => r' = .returned (.tuple #[.agg #[.int .i64 s, .int .i64 t], .int .i64 0]) ∧ Below w.heap.size w w'))
    (S1 : Hid (∀ w : World, Cvl.Lens w → Calls Tryd.prog 18 #[.agg #[.int .i64 i, .int .i64 a], .agg #[.int .i64 j, .int .i64 b]] w fun r' w' => r' = .returned (.tuple #[.int .i64 D, .int .i64 0]) ∧ Below w.heap.size w w'))
    (A3 : Hid (∀ w : World, Cvl.Lens w → Calls Tryd.prog 16 #[.agg #[.int .i64 j, .int .i64 b], .int .i64 D] w fun r' w' => r' = .returned (.tuple #[.agg #[.int .i64 i, .int .i64 a], .int .i64 0]) ∧ Below w.heap.size w w'))
    (C1 : Hid (∀ w : World, Cvl.Lens w → Calls Tryd.prog 22 #[.agg #[.int .i64 i, .int .i64 a], .agg #[.int .i64 j, .int .i64 b]] w fun r' w' => r' = .returned (.int .i64 1) ∧ Below w.heap.size w w'))
    (KN : Hid (∀ w : World, Cvl.Lens w → Calls Tryd.prog 15 #[] w fun r' w' => r' = .returned (.bool true) ∧ Below w.heap.size w w'))
    (w : World) (hL : Hid (∀ W : World, Below w.heap.size w W → Cvl.Lens W)) :
    Calls Tryd.prog 6 #[.agg #[.int .i64 i, .int .i64 a], .agg #[.int .i64 j, .int .i64 b], .int .i64 n] w fun r' w' => r' = .returned (.bool true) ∧ Below w.heap.size w w' := by
  have n1 : ¬ -1099511627776 < n := by omega
  have d1 : ¬ D < 0 := by omega
  have K0 : Hid (BS w [(w.heap.size + 1, [.int .i64 j, .int .i64 b]), (w.heap.size, [.int .i64 i, .int .i64 a])] ((w.alloc (.cells #[.int .i64 i, .int .i64 a] 23)).alloc (.cells #[.int .i64 j, .int .i64 b] 23))) := (((BS.start w).new [.int .i64 i, .int .i64 a] 23 rfl).new [.int .i64 j, .int .i64 b] 23 (by simp))
  go_enter Tryd.func6, Tryd.ntmps6
  go_wp2_with fail
  refine (A1.out _ (hL.out _ K0.out.1)).mono ?_
  rintro e W1 ⟨rfl, hb⟩
  have K1 : Hid (BS w [(w.heap.size + 1, [.int .i64 j, .int .i64 b]), (w.heap.size, [.int .i64 i, .int .i64 a])] W1) := K0.out.below hb
  clear hb K0
  have c1_0_0 : W1.cell? ⟨w.heap.size + 1, 0, none⟩ = some (.int .i64 j) := (K1.out.at (w.heap.size + 1) [.int .i64 j, .int .i64 b] (by simp)).c 0 rfl
  have c1_0_1 : W1.cell? ⟨w.heap.size + 1, 1, none⟩ = some (.int .i64 b) := (K1.out.at (w.heap.size + 1) [.int .i64 j, .int .i64 b] (by simp)).c 1 rfl
  have c1_1_0 : W1.cell? ⟨w.heap.size, 0, none⟩ = some (.int .i64 i) := (K1.out.at (w.heap.size) [.int .i64 i, .int .i64 a] (by simp)).c 0 rfl
  have c1_1_1 : W1.cell? ⟨w.heap.size, 1, none⟩ = some (.int .i64 a) := (K1.out.at (w.heap.size) [.int .i64 i, .int .i64 a] (by simp)).c 1 rfl
  have Mz1 : Hid (BS w [(W1.heap.size, [.int .i64 s, .int .i64 t]), (w.heap.size + 1, [.int .i64 j, .int .i64 b]), (w.heap.size, [.int .i64 i, .int .i64 a])] (W1.alloc (.cells #[.int .i64 s, .int .i64 t] 23))) := K1.out.new [.int .i64 s, .int .i64 t] 23 rfl
  go_upto_region 2 with fail
  refine gen_to (BS w [(W1.heap.size, [.int .i64 s, .int .i64 t]), (w.heap.size + 1, [.int .i64 j, .int .i64 b]), (w.heap.size, [.int .i64 i, .int .i64 a])]) Mz1.out ?_
  clear c1_0_0 c1_0_1 c1_1_0 c1_1_1
  intro W2 K2'
  have K2 : Hid (BS w [(W1.heap.size, [.int .i64 s, .int .i64 t]), (w.heap.size + 1, [.int .i64 j, .int .i64 b]), (w.heap.size, [.int .i64 i, .int .i64 a])] W2) := K2'
  clear K2' Mz1 K1
  have c2_0_0 : W2.cell? ⟨W1.heap.size, 0, none⟩ = some (.int .i64 s) := (K2.out.at (W1.heap.size) [.int .i64 s, .int .i64 t] (by simp)).c 0 rfl
  have c2_0_1 : W2.cell? ⟨W1.heap.size, 1, none⟩ = some (.int .i64 t) := (K2.out.at (W1.heap.size) [.int .i64 s, .int .i64 t] (by simp)).c 1 rfl
  have c2_1_0 : W2.cell? ⟨w.heap.size + 1, 0, none⟩ = some (.int .i64 j) := (K2.out.at (w.heap.size + 1) [.int .i64 j, .int .i64 b] (by simp)).c 0 rfl
  have c2_1_1 : W2.cell? ⟨w.heap.size + 1, 1, none⟩ = some (.int .i64 b) := (K2.out.at (w.heap.size + 1) [.int .i64 j, .int .i64 b] (by simp)).c 1 rfl
  have c2_2_0 : W2.cell? ⟨w.heap.size, 0, none⟩ = some (.int .i64 i) := (K2.out.at (w.heap.size) [.int .i64 i, .int .i64 a] (by simp)).c 0 rfl
  have c2_2_1 : W2.cell? ⟨w.heap.size, 1, none⟩ = some (.int .i64 a) := (K2.out.at (w.heap.size) [.int .i64 i, .int .i64 a] (by simp)).c 1 rfl
  go_wp2_with fail
  refine (S1.out _ (hL.out _ K2.out.1)).mono ?_
  rintro e W3 ⟨rfl, hb⟩
  have K3 : Hid (BS w [(W1.heap.size, [.int .i64 s, .int .i64 t]), (w.heap.size + 1, [.int .i64 j, .int .i64 b]), (w.heap.size, [.int .i64 i, .int .i64 a])] W3) := K2.out.below hb
  clear c2_0_0 c2_0_1 c2_1_0 c2_1_1 c2_2_0 c2_2_1
  clear hb K2
  have c3_0_0 : W3.cell? ⟨W1.heap.size, 0, none⟩ = some (.int .i64 s) := (K3.out.at (W1.heap.size) [.int .i64 s, .int .i64 t] (by simp)).c 0 rfl
  have c3_0_1 : W3.cell? ⟨W1.heap.size, 1, none⟩ = some (.int .i64 t) := (K3.out.at (W1.heap.size) [.int .i64 s, .int .i64 t] (by simp)).c 1 rfl
  have c3_1_0 : W3.cell? ⟨w.heap.size + 1, 0, none⟩ = some (.int .i64 j) := (K3.out.at (w.heap.size + 1) [.int .i64 j, .int .i64 b] (by simp)).c 0 rfl
  have c3_1_1 : W3.cell? ⟨w.heap.size + 1, 1, none⟩ = some (.int .i64 b) := (K3.out.at (w.heap.size + 1) [.int .i64 j, .int .i64 b] (by simp)).c 1 rfl
  have c3_2_0 : W3.cell? ⟨w.heap.size, 0, none⟩ = some (.int .i64 i) := (K3.out.at (w.heap.size) [.int .i64 i, .int .i64 a] (by simp)).c 0 rfl
  have c3_2_1 : W3.cell? ⟨w.heap.size, 1, none⟩ = some (.int .i64 a) := (K3.out.at (w.heap.size) [.int .i64 i, .int .i64 a] (by simp)).c 1 rfl
  go_wp2_with fail
  refine (A3.out _ (hL.out _ K3.out.1)).mono ?_
  rintro e W4 ⟨rfl, hb⟩
  have K4 : Hid (BS w [(W1.heap.size, [.int .i64 s, .int .i64 t]), (w.heap.size + 1, [.int .i64 j, .int .i64 b]), (w.heap.size, [.int .i64 i, .int .i64 a])] W4) := K3.out.below hb
  clear c3_0_0 c3_0_1 c3_1_0 c3_1_1 c3_2_0 c3_2_1
  clear hb K3
  have c4_0_0 : W4.cell? ⟨W1.heap.size, 0, none⟩ = some (.int .i64 s) := (K4.out.at (W1.heap.size) [.int .i64 s, .int .i64 t] (by simp)).c 0 rfl
  have c4_0_1 : W4.cell? ⟨W1.heap.size, 1, none⟩ = some (.int .i64 t) := (K4.out.at (W1.heap.size) [.int .i64 s, .int .i64 t] (by simp)).c 1 rfl
  have c4_1_0 : W4.cell? ⟨w.heap.size + 1, 0, none⟩ = some (.int .i64 j) := (K4.out.at (w.heap.size + 1) [.int .i64 j, .int .i64 b] (by simp)).c 0 rfl
  have c4_1_1 : W4.cell? ⟨w.heap.size + 1, 1, none⟩ = some (.int .i64 b) := (K4.out.at (w.heap.size + 1) [.int .i64 j, .int .i64 b] (by simp)).c 1 rfl
  have c4_2_0 : W4.cell? ⟨w.heap.size, 0, none⟩ = some (.int .i64 i) := (K4.out.at (w.heap.size) [.int .i64 i, .int .i64 a] (by simp)).c 0 rfl
  have c4_2_1 : W4.cell? ⟨w.heap.size, 1, none⟩ = some (.int .i64 a) := (K4.out.at (w.heap.size) [.int .i64 i, .int .i64 a] (by simp)).c 1 rfl
  have Mz4 : Hid (BS w [(W4.heap.size, [.int .i64 i, .int .i64 a]), (W1.heap.size, [.int .i64 s, .int .i64 t]), (w.heap.size + 1, [.int .i64 j, .int .i64 b]), (w.heap.size, [.int .i64 i, .int .i64 a])] (W4.alloc (.cells #[.int .i64 i, .int .i64 a] 23))) := K4.out.new [.int .i64 i, .int .i64 a] 23 rfl
  go_upto_region 10 with fail
  refine gen_to (BS w [(W4.heap.size, [.int .i64 i, .int .i64 a]), (W1.heap.size, [.int .i64 s, .int .i64 t]), (w.heap.size + 1, [.int .i64 j, .int .i64 b]), (w.heap.size, [.int .i64 i, .int .i64 a])]) Mz4.out ?_
  clear c4_0_0 c4_0_1 c4_1_0 c4_1_1 c4_2_0 c4_2_1
  intro W5 K5'
  have K5 : Hid (BS w [(W4.heap.size, [.int .i64 i, .int .i64 a]), (W1.heap.size, [.int .i64 s, .int .i64 t]), (w.heap.size + 1, [.int .i64 j, .int .i64 b]), (w.heap.size, [.int .i64 i, .int .i64 a])] W5) := K5'
  clear K5' Mz4 K4
  have c5_0_0 : W5.cell? ⟨W4.heap.size, 0, none⟩ = some (.int .i64 i) := (K5.out.at (W4.heap.size) [.int .i64 i, .int .i64 a] (by simp)).c 0 rfl
  have c5_0_1 : W5.cell? ⟨W4.heap.size, 1, none⟩ = some (.int .i64 a) := (K5.out.at (W4.heap.size) [.int .i64 i, .int .i64 a] (by simp)).c 1 rfl
  have c5_1_0 : W5.cell? ⟨W1.heap.size, 0, none⟩ = some (.int .i64 s) := (K5.out.at (W1.heap.size) [.int .i64 s, .int .i64 t] (by simp)).c 0 rfl
  have c5_1_1 : W5.cell? ⟨W1.heap.size, 1, none⟩ = some (.int .i64 t) := (K5.out.at (W1.heap.size) [.int .i64 s, .int .i64 t] (by simp)).c 1 rfl
  have c5_2_0 : W5.cell? ⟨w.heap.size + 1, 0, none⟩ = some (.int .i64 j) := (K5.out.at (w.heap.size + 1) [.int .i64 j, .int .i64 b] (by simp)).c 0 rfl
  have c5_2_1 : W5.cell? ⟨w.heap.size + 1, 1, none⟩ = some (.int .i64 b) := (K5.out.at (w.heap.size + 1) [.int .i64 j, .int .i64 b] (by simp)).c 1 rfl
  have c5_3_0 : W5.cell? ⟨w.heap.size, 0, none⟩ = some (.int .i64 i) := (K5.out.at (w.heap.size) [.int .i64 i, .int .i64 a] (by simp)).c 0 rfl
  have c5_3_1 : W5.cell? ⟨w.heap.size, 1, none⟩ = some (.int .i64 a) := (K5.out.at (w.heap.size) [.int .i64 i, .int .i64 a] (by simp)).c 1 rfl
  go_wp2_with fail
  refine (C1.out _ (hL.out _ K5.out.1)).mono ?_
  rintro e W6 ⟨rfl, hb⟩
  have K6 : Hid (BS w [(W4.heap.size, [.int .i64 i, .int .i64 a]), (W1.heap.size, [.int .i64 s, .int .i64 t]), (w.heap.size + 1, [.int .i64 j, .int .i64 b]), (w.heap.size, [.int .i64 i, .int .i64 a])] W6) := K5.out.below hb
  clear c5_0_0 c5_0_1 c5_1_0 c5_1_1 c5_2_0 c5_2_1 c5_3_0 c5_3_1
  clear hb K5
  have c6_0_0 : W6.cell? ⟨W4.heap.size, 0, none⟩ = some (.int .i64 i) := (K6.out.at (W4.heap.size) [.int .i64 i, .int .i64 a] (by simp)).c 0 rfl
  have c6_0_1 : W6.cell? ⟨W4.heap.size, 1, none⟩ = some (.int .i64 a) := (K6.out.at (W4.heap.size) [.int .i64 i, .int .i64 a] (by simp)).c 1 rfl
  have c6_1_0 : W6.cell? ⟨W1.heap.size, 0, none⟩ = some (.int .i64 s) := (K6.out.at (W1.heap.size) [.int .i64 s, .int .i64 t] (by simp)).c 0 rfl
  have c6_1_1 : W6.cell? ⟨W1.heap.size, 1, none⟩ = some (.int .i64 t) := (K6.out.at (W1.heap.size) [.int .i64 s, .int .i64 t] (by simp)).c 1 rfl
  have c6_2_0 : W6.cell? ⟨w.heap.size + 1, 0, none⟩ = some (.int .i64 j) := (K6.out.at (w.heap.size + 1) [.int .i64 j, .int .i64 b] (by simp)).c 0 rfl
  have c6_2_1 : W6.cell? ⟨w.heap.size + 1, 1, none⟩ = some (.int .i64 b) := (K6.out.at (w.heap.size + 1) [.int .i64 j, .int .i64 b] (by simp)).c 1 rfl
  have c6_3_0 : W6.cell? ⟨w.heap.size, 0, none⟩ = some (.int .i64 i) := (K6.out.at (w.heap.size) [.int .i64 i, .int .i64 a] (by simp)).c 0 rfl
  have c6_3_1 : W6.cell? ⟨w.heap.size, 1, none⟩ = some (.int .i64 a) := (K6.out.at (w.heap.size) [.int .i64 i, .int .i64 a] (by simp)).c 1 rfl
  go_wp2_with fail
  refine (C1.out _ (hL.out _ K6.out.1)).mono ?_
  rintro e W7 ⟨rfl, hb⟩
  have K7 : Hid (BS w [(W4.heap.size, [.int .i64 i, .int .i64 a]), (W1.heap.size, [.int .i64 s, .int .i64 t]), (w.heap.size + 1, [.int .i64 j, .int .i64 b]), (w.heap.size, [.int .i64 i, .int .i64 a])] W7) := K6.out.below hb
  clear c6_0_0 c6_0_1 c6_1_0 c6_1_1 c6_2_0 c6_2_1 c6_3_0 c6_3_1
  clear hb K6
  have c7_0_0 : W7.cell? ⟨W4.heap.size, 0, none⟩ = some (.int .i64 i) := (K7.out.at (W4.heap.size) [.int .i64 i, .int .i64 a] (by simp)).c 0 rfl
  have c7_0_1 : W7.cell? ⟨W4.heap.size, 1, none⟩ = some (.int .i64 a) := (K7.out.at (W4.heap.size) [.int .i64 i, .int .i64 a] (by simp)).c 1 rfl
  have c7_1_0 : W7.cell? ⟨W1.heap.size, 0, none⟩ = some (.int .i64 s) := (K7.out.at (W1.heap.size) [.int .i64 s, .int .i64 t] (by simp)).c 0 rfl
  have c7_1_1 : W7.cell? ⟨W1.heap.size, 1, none⟩ = some (.int .i64 t) := (K7.out.at (W1.heap.size) [.int .i64 s, .int .i64 t] (by simp)).c 1 rfl
  have c7_2_0 : W7.cell? ⟨w.heap.size + 1, 0, none⟩ = some (.int .i64 j) := (K7.out.at (w.heap.size + 1) [.int .i64 j, .int .i64 b] (by simp)).c 0 rfl
  have c7_2_1 : W7.cell? ⟨w.heap.size + 1, 1, none⟩ = some (.int .i64 b) := (K7.out.at (w.heap.size + 1) [.int .i64 j, .int .i64 b] (by simp)).c 1 rfl
  have c7_3_0 : W7.cell? ⟨w.heap.size, 0, none⟩ = some (.int .i64 i) := (K7.out.at (w.heap.size) [.int .i64 i, .int .i64 a] (by simp)).c 0 rfl
  have c7_3_1 : W7.cell? ⟨w.heap.size, 1, none⟩ = some (.int .i64 a) := (K7.out.at (w.heap.size) [.int .i64 i, .int .i64 a] (by simp)).c 1 rfl
  go_wp2_with fail
  refine (KN.out _ (hL.out _ K7.out.1)).mono ?_
  rintro e W8 ⟨rfl, hb⟩
  have K8 : Hid (BS w [(W4.heap.size, [.int .i64 i, .int .i64 a]), (W1.heap.size, [.int .i64 s, .int .i64 t]), (w.heap.size + 1, [.int .i64 j, .int .i64 b]), (w.heap.size, [.int .i64 i, .int .i64 a])] W8) := K7.out.below hb
  clear c7_0_0 c7_0_1 c7_1_0 c7_1_1 c7_2_0 c7_2_1 c7_3_0 c7_3_1
  clear hb K7
  have c8_0_0 : W8.cell? ⟨W4.heap.size, 0, none⟩ = some (.int .i64 i) := (K8.out.at (W4.heap.size) [.int .i64 i, .int .i64 a] (by simp)).c 0 rfl
  have c8_0_1 : W8.cell? ⟨W4.heap.size, 1, none⟩ = some (.int .i64 a) := (K8.out.at (W4.heap.size) [.int .i64 i, .int .i64 a] (by simp)).c 1 rfl
  have c8_1_0 : W8.cell? ⟨W1.heap.size, 0, none⟩ = some (.int .i64 s) := (K8.out.at (W1.heap.size) [.int .i64 s, .int .i64 t] (by simp)).c 0 rfl
  have c8_1_1 : W8.cell? ⟨W1.heap.size, 1, none⟩ = some (.int .i64 t) := (K8.out.at (W1.heap.size) [.int .i64 s, .int .i64 t] (by simp)).c 1 rfl
  have c8_2_0 : W8.cell? ⟨w.heap.size + 1, 0, none⟩ = some (.int .i64 j) := (K8.out.at (w.heap.size + 1) [.int .i64 j, .int .i64 b] (by simp)).c 0 rfl
  have c8_2_1 : W8.cell? ⟨w.heap.size + 1, 1, none⟩ = some (.int .i64 b) := (K8.out.at (w.heap.size + 1) [.int .i64 j, .int .i64 b] (by simp)).c 1 rfl
  have c8_3_0 : W8.cell? ⟨w.heap.size, 0, none⟩ = some (.int .i64 i) := (K8.out.at (w.heap.size) [.int .i64 i, .int .i64 a] (by simp)).c 0 rfl
  have c8_3_1 : W8.cell? ⟨w.heap.size, 1, none⟩ = some (.int .i64 a) := (K8.out.at (w.heap.size) [.int .i64 i, .int .i64 a] (by simp)).c 1 rfl
  go_wp2
  go_ret
  exact ⟨ret_bool (by simp; omega), K8.out.1⟩

set_option maxRecDepth 100000 in
set_option maxHeartbeats 4000000 in
theorem core_DayBack_bm (i a j b n s t D : Int) (hn : n ≤ -1099511627776) (hD : D < 0)
    (A1 : Hid (∀ w : World, Cvl.Lens w → Calls Tryd.prog 16 #[.agg #[.int .i64 i, .int .i64 a], .int .i64 n] w fun r' w' => r' = .returned (.tuple #[.agg #[.int .i64 s, .int .i64 t], .int .i64 0]) ∧ Below w.heap.size w w'))
    (S1 : Hid (∀ w : World, Cvl.Lens w → Calls Tryd.prog 18 #[.agg #[.int .i64 i, .int .i64 a], .agg #[.int .i64 j, .int .i64 b]] w fun r' w' => r' = .returned (.tuple #[.int .i64 D, .int .i64 0]) ∧ Below w.heap.size w w'))
    (A3 : Hid (∀ w : World, Cvl.Lens w → Calls Tryd.prog 16 #[.agg #[.int .i64 j, .int .i64 b], .int .i64 D] w fun r' w' => r' = .returned (.tuple #[.agg #[.int .i64 i, .int .i64 a], .int .i64 0]) ∧ Below w.heap.size w w'))
    (C1 : Hid (∀ w : World, Cvl.Lens w → Calls Tryd.prog 22 #[.agg #[.int .i64 i, .int .i64 a], .agg #[.int .i64 j, .int .i64 b]] w fun r' w' => r' = .returned (.int .i64 (-1)) ∧ Below w.heap.size w w'))
    (KN : Hid (∀ w : World, Cvl.Lens w → Calls Tryd.prog 15 #[] w fun r' w' => r' = .returned (.bool true) ∧ Below w.heap.size w w'))
    (w : World) (hL : Hid (∀ W : World, Below w.heap.size w W → Cvl.Lens W)) :
    Calls Tryd.prog 6 #[.agg #[.int .i64 i, .int .i64 a], .agg #[.int .i64 j, .int .i64 b], .int .i64 n] w fun r' w' => r' = .returned (.bool true) ∧ Below w.heap.size w w' := by
  have n1 : ¬ -1099511627776 < n := by omega
  have d1 : ¬ 0 < D := by omega
  have K0 : Hid (BS w [(w.heap.size + 1, [.int .i64 j, .int .i64 b]), (w.heap.size, [.int .i64 i, .int .i64 a])] ((w.alloc (.cells #[.int .i64 i, .int .i64 a] 23)).alloc (.cells #[.int .i64 j, .int .i64 b] 23))) := (((BS.start w).new [.int .i64 i, .int .i64 a] 23 rfl).new [.int .i64 j, .int .i64 b] 23 (by simp))
  go_enter Tryd.func6, Tryd.ntmps6
  go_wp2_with fail
  refine (A1.out _ (hL.out _ K0.out.1)).mono ?_
  rintro e W1 ⟨rfl, hb⟩
  have K1 : Hid (BS w [(w.heap.size + 1, [.int .i64 j, .int .i64 b]), (w.heap.size, [.int .i64 i, .int .i64 a])] W1) := K0.out.below hb
  clear hb K0
  have c1_0_0 : W1.cell? ⟨w.heap.size + 1, 0, none⟩ = some (.int .i64 j) := (K1.out.at (w.heap.size + 1) [.int .i64 j, .int .i64 b] (by simp)).c 0 rfl
  have c1_0_1 : W1.cell? ⟨w.heap.size + 1, 1, none⟩ = some (.int .i64 b) := (K1.out.at (w.heap.size + 1) [.int .i64 j, .int .i64 b] (by simp)).c 1 rfl
  have c1_1_0 : W1.cell? ⟨w.heap.size, 0, none⟩ = some (.int .i64 i) := (K1.out.at (w.heap.size) [.int .i64 i, .int .i64 a] (by simp)).c 0 rfl
  have c1_1_1 : W1.cell? ⟨w.heap.size, 1, none⟩ = some (.int .i64 a) := (K1.out.at (w.heap.size) [.int .i64 i, .int .i64 a] (by simp)).c 1 rfl
  have Mz1 : Hid (BS w [(W1.heap.size, [.int .i64 s, .int .i64 t]), (w.heap.size + 1, [.int .i64 j, .int .i64 b]), (w.heap.size, [.int .i64 i, .int .i64 a])] (W1.alloc (.cells #[.int .i64 s, .int .i64 t] 23))) := K1.out.new [.int .i64 s, .int .i64 t] 23 rfl
  go_upto_region 2 with fail
  refine gen_to (BS w [(W1.heap.size, [.int .i64 s, .int .i64 t]), (w.heap.size + 1, [.int .i64 j, .int .i64 b]), (w.heap.size, [.int .i64 i, .int .i64 a])]) Mz1.out ?_
  clear c1_0_0 c1_0_1 c1_1_0 c1_1_1
  intro W2 K2'
  have K2 : Hid (BS w [(W1.heap.size, [.int .i64 s, .int .i64 t]), (w.heap.size + 1, [.int .i64 j, .int .i64 b]), (w.heap.size, [.int .i64 i, .int .i64 a])] W2) := K2'
  clear K2' Mz1 K1
  have c2_0_0 : W2.cell? ⟨W1.heap.size, 0, none⟩ = some (.int .i64 s) := (K2.out.at (W1.heap.size) [.int .i64 s, .int .i64 t] (by simp)).c 0 rfl
  have c2_0_1 : W2.cell? ⟨W1.heap.size, 1, none⟩ = some (.int .i64 t) := (K2.out.at (W1.heap.size) [.int .i64 s, .int .i64 t] (by simp)).c 1 rfl
  have c2_1_0 : W2.cell? ⟨w.heap.size + 1, 0, none⟩ = some (.int .i64 j) := (K2.out.at (w.heap.size + 1) [.int .i64 j, .int .i64 b] (by simp)).c 0 rfl
  have c2_1_1 : W2.cell? ⟨w.heap.size + 1, 1, none⟩ = some (.int .i64 b) := (K2.out.at (w.heap.size + 1) [.int .i64 j, .int .i64 b] (by simp)).c 1 rfl
  have c2_2_0 : W2.cell? ⟨w.heap.size, 0, none⟩ = some (.int .i64 i) := (K2.out.at (w.heap.size) [.int .i64 i, .int .i64 a] (by simp)).c 0 rfl
  have c2_2_1 : W2.cell? ⟨w.heap.size, 1, none⟩ = some (.int .i64 a) := (K2.out.at (w.heap.size) [.int .i64 i, .int .i64 a] (by simp)).c 1 rfl
  go_wp2_with fail
  refine (S1.out _ (hL.out _ K2.out.1)).mono ?_
  rintro e W3 ⟨rfl, hb⟩
  have K3 : Hid (BS w [(W1.heap.size, [.int .i64 s, .int .i64 t]), (w.heap.size + 1, [.int .i64 j, .int .i64 b]), (w.heap.size, [.int .i64 i, .int .i64 a])] W3) := K2.out.below hb
  clear c2_0_0 c2_0_1 c2_1_0 c2_1_1 c2_2_0 c2_2_1
  clear hb K2
  have c3_0_0 : W3.cell? ⟨W1.heap.size, 0, none⟩ = some (.int .i64 s) := (K3.out.at (W1.heap.size) [.int .i64 s, .int .i64 t] (by simp)).c 0 rfl
  have c3_0_1 : W3.cell? ⟨W1.heap.size, 1, none⟩ = some (.int .i64 t) := (K3.out.at (W1.heap.size) [.int .i64 s, .int .i64 t] (by simp)).c 1 rfl
  have c3_1_0 : W3.cell? ⟨w.heap.size + 1, 0, none⟩ = some (.int .i64 j) := (K3.out.at (w.heap.size + 1) [.int .i64 j, .int .i64 b] (by simp)).c 0 rfl
  have c3_1_1 : W3.cell? ⟨w.heap.size + 1, 1, none⟩ = some (.int .i64 b) := (K3.out.at (w.heap.size + 1) [.int .i64 j, .int .i64 b] (by simp)).c 1 rfl
  have c3_2_0 : W3.cell? ⟨w.heap.size, 0, none⟩ = some (.int .i64 i) := (K3.out.at (w.heap.size) [.int .i64 i, .int .i64 a] (by simp)).c 0 rfl
  have c3_2_1 : W3.cell? ⟨w.heap.size, 1, none⟩ = some (.int .i64 a) := (K3.out.at (w.heap.size) [.int .i64 i, .int .i64 a] (by simp)).c 1 rfl
  go_wp2_with fail
  refine (A3.out _ (hL.out _ K3.out.1)).mono ?_
  rintro e W4 ⟨rfl, hb⟩
  have K4 : Hid (BS w [(W1.heap.size, [.int .i64 s, .int .i64 t]), (w.heap.size + 1, [.int .i64 j, .int .i64 b]), (w.heap.size, [.int .i64 i, .int .i64 a])] W4) := K3.out.below hb
  clear c3_0_0 c3_0_1 c3_1_0 c3_1_1 c3_2_0 c3_2_1
  clear hb K3
  have c4_0_0 : W4.cell? ⟨W1.heap.size, 0, none⟩ = some (.int .i64 s) := (K4.out.at (W1.heap.size) [.int .i64 s, .int .i64 t] (by simp)).c 0 rfl
  have c4_0_1 : W4.cell? ⟨W1.heap.size, 1, none⟩ = some (.int .i64 t) := (K4.out.at (W1.heap.size) [.int .i64 s, .int .i64 t] (by simp)).c 1 rfl
  have c4_1_0 : W4.cell? ⟨w.heap.size + 1, 0, none⟩ = some (.int .i64 j) := (K4.out.at (w.heap.size + 1) [.int .i64 j, .int .i64 b] (by simp)).c 0 rfl
  have c4_1_1 : W4.cell? ⟨w.heap.size + 1, 1, none⟩ = some (.int .i64 b) := (K4.out.at (w.heap.size + 1) [.int .i64 j, .int .i64 b] (by simp)).c 1 rfl
  have c4_2_0 : W4.cell? ⟨w.heap.size, 0, none⟩ = some (.int .i64 i) := (K4.out.at (w.heap.size) [.int .i64 i, .int .i64 a] (by simp)).c 0 rfl
  have c4_2_1 : W4.cell? ⟨w.heap.size, 1, none⟩ = some (.int .i64 a) := (K4.out.at (w.heap.size) [.int .i64 i, .int .i64 a] (by simp)).c 1 rfl
  have Mz4 : Hid (BS w [(W4.heap.size, [.int .i64 i, .int .i64 a]), (W1.heap.size, [.int .i64 s, .int .i64 t]), (w.heap.size + 1, [.int .i64 j, .int .i64 b]), (w.heap.size, [.int .i64 i, .int .i64 a])] (W4.alloc (.cells #[.int .i64 i, .int .i64 a] 23))) := K4.out.new [.int .i64 i, .int .i64 a] 23 rfl
  go_upto_region 10 with fail
  refine gen_to (BS w [(W4.heap.size, [.int .i64 i, .int .i64 a]), (W1.heap.size, [.int .i64 s, .int .i64 t]), (w.heap.size + 1, [.int .i64 j, .int .i64 b]), (w.heap.size, [.int .i64 i, .int .i64 a])]) Mz4.out ?_
  clear c4_0_0 c4_0_1 c4_1_0 c4_1_1 c4_2_0 c4_2_1
  intro W5 K5'
  have K5 : Hid (BS w [(W4.heap.size, [.int .i64 i, .int .i64 a]), (W1.heap.size, [.int .i64 s, .int .i64 t]), (w.heap.size + 1, [.int .i64 j, .int .i64 b]), (w.heap.size, [.int .i64 i, .int .i64 a])] W5) := K5'
  clear K5' Mz4 K4
  have c5_0_0 : W5.cell? ⟨W4.heap.size, 0, none⟩ = some (.int .i64 i) := (K5.out.at (W4.heap.size) [.int .i64 i, .int .i64 a] (by simp)).c 0 rfl
  have c5_0_1 : W5.cell? ⟨W4.heap.size, 1, none⟩ = some (.int .i64 a) := (K5.out.at (W4.heap.size) [.int .i64 i, .int .i64 a] (by simp)).c 1 rfl
  have c5_1_0 : W5.cell? ⟨W1.heap.size, 0, none⟩ = some (.int .i64 s) := (K5.out.at (W1.heap.size) [.int .i64 s, .int .i64 t] (by simp)).c 0 rfl
  have c5_1_1 : W5.cell? ⟨W1.heap.size, 1, none⟩ = some (.int .i64 t) := (K5.out.at (W1.heap.size) [.int .i64 s, .int .i64 t] (by simp)).c 1 rfl
  have c5_2_0 : W5.cell? ⟨w.heap.size + 1, 0, none⟩ = some (.int .i64 j) := (K5.out.at (w.heap.size + 1) [.int .i64 j, .int .i64 b] (by simp)).c 0 rfl
  have c5_2_1 : W5.cell? ⟨w.heap.size + 1, 1, none⟩ = some (.int .i64 b) := (K5.out.at (w.heap.size + 1) [.int .i64 j, .int .i64 b] (by simp)).c 1 rfl
  have c5_3_0 : W5.cell? ⟨w.heap.size, 0, none⟩ = some (.int .i64 i) := (K5.out.at (w.heap.size) [.int .i64 i, .int .i64 a] (by simp)).c 0 rfl
  have c5_3_1 : W5.cell? ⟨w.heap.size, 1, none⟩ = some (.int .i64 a) := (K5.out.at (w.heap.size) [.int .i64 i, .int .i64 a] (by simp)).c 1 rfl
  go_wp2_with fail
  refine (C1.out _ (hL.out _ K5.out.1)).mono ?_
  rintro e W6 ⟨rfl, hb⟩
  have K6 : Hid (BS w [(W4.heap.size, [.int .i64 i, .int .i64 a]), (W1.heap.size, [.int .i64 s, .int .i64 t]), (w.heap.size + 1, [.int .i64 j, .int .i64 b]), (w.heap.size, [.int .i64 i, .int .i64 a])] W6) := K5.out.below hb
  clear c5_0_0 c5_0_1 c5_1_0 c5_1_1 c5_2_0 c5_2_1 c5_3_0 c5_3_1
  clear hb K5
  have c6_0_0 : W6.cell? ⟨W4.heap.size, 0, none⟩ = some (.int .i64 i) := (K6.out.at (W4.heap.size) [.int .i64 i, .int .i64 a] (by simp)).c 0 rfl
  have c6_0_1 : W6.cell? ⟨W4.heap.size, 1, none⟩ = some (.int .i64 a) := (K6.out.at (W4.heap.size) [.int .i64 i, .int .i64 a] (by simp)).c 1 rfl
  have c6_1_0 : W6.cell? ⟨W1.heap.size, 0, none⟩ = some (.int .i64 s) := (K6.out.at (W1.heap.size) [.int .i64 s, .int .i64 t] (by simp)).c 0 rfl
  have c6_1_1 : W6.cell? ⟨W1.heap.size, 1, none⟩ = some (.int .i64 t) := (K6.out.at (W1.heap.size) [.int .i64 s, .int .i64 t] (by simp)).c 1 rfl
  have c6_2_0 : W6.cell? ⟨w.heap.size + 1, 0, none⟩ = some (.int .i64 j) := (K6.out.at (w.heap.size + 1) [.int .i64 j, .int .i64 b] (by simp)).c 0 rfl
  have c6_2_1 : W6.cell? ⟨w.heap.size + 1, 1, none⟩ = some (.int .i64 b) := (K6.out.at (w.heap.size + 1) [.int .i64 j, .int .i64 b] (by simp)).c 1 rfl
  have c6_3_0 : W6.cell? ⟨w.heap.size, 0, none⟩ = some (.int .i64 i) := (K6.out.at (w.heap.size) [.int .i64 i, .int .i64 a] (by simp)).c 0 rfl
  have c6_3_1 : W6.cell? ⟨w.heap.size, 1, none⟩ = some (.int .i64 a) := (K6.out.at (w.heap.size) [.int .i64 i, .int .i64 a] (by simp)).c 1 rfl
  go_wp2_with fail
  refine (C1.out _ (hL.out _ K6.out.1)).mono ?_
  rintro e W7 ⟨rfl, hb⟩
  have K7 : Hid (BS w [(W4.heap.size, [.int .i64 i, .int .i64 a]), (W1.heap.size, [.int .i64 s, .int .i64 t]), (w.heap.size + 1, [.int .i64 j, .int .i64 b]), (w.heap.size, [.int .i64 i, .int .i64 a])] W7) := K6.out.below hb
  clear c6_0_0 c6_0_1 c6_1_0 c6_1_1 c6_2_0 c6_2_1 c6_3_0 c6_3_1
  clear hb K6
  have c7_0_0 : W7.cell? ⟨W4.heap.size, 0, none⟩ = some (.int .i64 i) := (K7.out.at (W4.heap.size) [.int .i64 i, .int .i64 a] (by simp)).c 0 rfl
  have c7_0_1 : W7.cell? ⟨W4.heap.size, 1, none⟩ = some (.int .i64 a) := (K7.out.at (W4.heap.size) [.int .i64 i, .int .i64 a] (by simp)).c 1 rfl
  have c7_1_0 : W7.cell? ⟨W1.heap.size, 0, none⟩ = some (.int .i64 s) := (K7.out.at (W1.heap.size) [.int .i64 s, .int .i64 t] (by simp)).c 0 rfl
  have c7_1_1 : W7.cell? ⟨W1.heap.size, 1, none⟩ = some (.int .i64 t) := (K7.out.at (W1.heap.size) [.int .i64 s, .int .i64 t] (by simp)).c 1 rfl
  have c7_2_0 : W7.cell? ⟨w.heap.size + 1, 0, none⟩ = some (.int .i64 j) := (K7.out.at (w.heap.size + 1) [.int .i64 j, .int .i64 b] (by simp)).c 0 rfl
  have c7_2_1 : W7.cell? ⟨w.heap.size + 1, 1, none⟩ = some (.int .i64 b) := (K7.out.at (w.heap.size + 1) [.int .i64 j, .int .i64 b] (by simp)).c 1 rfl
  have c7_3_0 : W7.cell? ⟨w.heap.size, 0, none⟩ = some (.int .i64 i) := (K7.out.at (w.heap.size) [.int .i64 i, .int .i64 a] (by simp)).c 0 rfl
  have c7_3_1 : W7.cell? ⟨w.heap.size, 1, none⟩ = some (.int .i64 a) := (K7.out.at (w.heap.size) [.int .i64 i, .int .i64 a] (by simp)).c 1 rfl
  go_wp2_with fail
  refine (KN.out _ (hL.out _ K7.out.1)).mono ?_
  rintro e W8 ⟨rfl, hb⟩
  have K8 : Hid (BS w [(W4.heap.size, [.int .i64 i, .int .i64 a]), (W1.heap.size, [.int .i64 s, .int .i64 t]), (w.heap.size + 1, [.int .i64 j, .int .i64 b]), (w.heap.size, [.int .i64 i, .int .i64 a])] W8) := K7.out.below hb
  clear c7_0_0 c7_0_1 c7_1_0 c7_1_1 c7_2_0 c7_2_1 c7_3_0 c7_3_1
  clear hb K7
  have c8_0_0 : W8.cell? ⟨W4.heap.size, 0, none⟩ = some (.int .i64 i) := (K8.out.at (W4.heap.size) [.int .i64 i, .int .i64 a] (by simp)).c 0 rfl
  have c8_0_1 : W8.cell? ⟨W4.heap.size, 1, none⟩ = some (.int .i64 a) := (K8.out.at (W4.heap.size) [.int .i64 i, .int .i64 a] (by simp)).c 1 rfl
  have c8_1_0 : W8.cell? ⟨W1.heap.size, 0, none⟩ = some (.int .i64 s) := (K8.out.at (W1.heap.size) [.int .i64 s, .int .i64 t] (by simp)).c 0 rfl
  have c8_1_1 : W8.cell? ⟨W1.heap.size, 1, none⟩ = some (.int .i64 t) := (K8.out.at (W1.heap.size) [.int .i64 s, .int .i64 t] (by simp)).c 1 rfl
  have c8_2_0 : W8.cell? ⟨w.heap.size + 1, 0, none⟩ = some (.int .i64 j) := (K8.out.at (w.heap.size + 1) [.int .i64 j, .int .i64 b] (by simp)).c 0 rfl
  have c8_2_1 : W8.cell? ⟨w.heap.size + 1, 1, none⟩ = some (.int .i64 b) := (K8.out.at (w.heap.size + 1) [.int .i64 j, .int .i64 b] (by simp)).c 1 rfl
  have c8_3_0 : W8.cell? ⟨w.heap.size, 0, none⟩ = some (.int .i64 i) := (K8.out.at (w.heap.size) [.int .i64 i, .int .i64 a] (by simp)).c 0 rfl
  have c8_3_1 : W8.cell? ⟨w.heap.size, 1, none⟩ = some (.int .i64 a) := (K8.out.at (w.heap.size) [.int .i64 i, .int .i64 a] (by simp)).c 1 rfl
  go_wp2
  go_ret
  exact ⟨ret_bool (by simp; omega), K8.out.1⟩

set_option maxRecDepth 100000 in
set_option maxHeartbeats 4000000 in
theorem core_DayBack_bz (i a j b n s t : Int) (hn : n ≤ -1099511627776)
    (A1 : Hid (∀ w : World, Cvl.Lens w → Calls Tryd.prog 16 #[.agg #[.int .i64 i, .int .i64 a], .int .i64 n] w fun r' w' => r' = .returned (.tuple #[.agg #[.int .i64 s, .int .i64 t], .int .i64 0]) ∧ Below w.heap.size w w'))
    (S1 : Hid (∀ w : World, Cvl.Lens w → Calls Tryd.prog 18 #[.agg #[.int .i64 i, .int .i64 a], .agg #[.int .i64 j, .int .i64 b]] w fun r' w' => r' = .returned (.tuple #[.int .i64 0, .int .i64 0]) ∧ Below w.heap.size w w'))
    (A3 : Hid (∀ w : World, Cvl.Lens w → Calls Tryd.prog 16 #[.agg #[.int .i64 j, .int .i64 b], .int .i64 0] w fun r' w' => r' = .returned (.tuple #[.agg #[.int .i64 i, .int .i64 a], .int .i64 0]) ∧ Below w.heap.size w w'))
    (C1 : Hid (∀ w : World, Cvl.Lens w → Calls Tryd.prog 22 #[.agg #[.int .i64 i, .int .i64 a], .agg #[.int .i64 j, .int .i64 b]] w fun r' w' => r' = .returned (.int .i64 0) ∧ Below w.heap.size w w'))
    (KN : Hid (∀ w : World, Cvl.Lens w → Calls Tryd.prog 15 #[] w fun r' w' => r' = .returned (.bool true) ∧ Below w.heap.size w w'))
    (w : World) (hL : Hid (∀ W : World, Below w.heap.size w W → Cvl.Lens W)) :
    Calls Tryd.prog 6 #[.agg #[.int .i64 i, .int .i64 a], .agg #[.int .i64 j, .int .i64 b], .int .i64 n] w fun r' w' => r' = .returned (.bool true) ∧ Below w.heap.size w w' := by
  have n1 : ¬ -1099511627776 < n := by omega
  have K0 : Hid (BS w [(w.heap.size + 1, [.int .i64 j, .int .i64 b]), (w.heap.size, [.int .i64 i, .int .i64 a])] ((w.alloc (.cells #[.int .i64 i, .int .i64 a] 23)).alloc (.cells #[.int .i64 j, .int .i64 b] 23))) := (((BS.start w).new [.int .i64 i, .int .i64 a] 23 rfl).new [.int .i64 j, .int .i64 b] 23 (by simp))
  go_enter Tryd.func6, Tryd.ntmps6
  go_wp2_with fail
  refine (A1.out _ (hL.out _ K0.out.1)).mono ?_
  rintro e W1 ⟨rfl, hb⟩
  have K1 : Hid (BS w [(w.heap.size + 1, [.int .i64 j, .int .i64 b]), (w.heap.size, [.int .i64 i, .int .i64 a])] W1) := K0.out.below hb
  clear hb K0
  have c1_0_0 : W1.cell? ⟨w.heap.size + 1, 0, none⟩ = some (.int .i64 j) := (K1.out.at (w.heap.size + 1) [.int .i64 j, .int .i64 b] (by simp)).c 0 rfl
  have c1_0_1 : W1.cell? ⟨w.heap.size + 1, 1, none⟩ = some (.int .i64 b) := (K1.out.at (w.heap.size + 1) [.int .i64 j, .int .i64 b] (by simp)).c 1 rfl
  have c1_1_0 : W1.cell? ⟨w.heap.size, 0, none⟩ = some (.int .i64 i) := (K1.out.at (w.heap.size) [.int .i64 i, .int .i64 a] (by simp)).c 0 rfl
  have c1_1_1 : W1.cell? ⟨w.heap.size, 1, none⟩ = some (.int .i64 a) := (K1.out.at (w.heap.size) [.int .i64 i, .int .i64 a] (by simp)).c 1 rfl
  have Mz1 : Hid (BS w [(W1.heap.size, [.int .i64 s, .int .i64 t]), (w.heap.size + 1, [.int .i64 j, .int .i64 b]), (w.heap.size, [.int .i64 i, .int .i64 a])] (W1.alloc (.cells #[.int .i64 s, .int .i64 t] 23))) := K1.out.new [.int .i64 s, .int .i64 t] 23 rfl
  go_upto_region 2 with fail
  refine gen_to (BS w [(W1.heap.size, [.int .i64 s, .int .i64 t]), (w.heap.size + 1, [.int .i64 j, .int .i64 b]), (w.heap.size, [.int .i64 i, .int .i64 a])]) Mz1.out ?_
  clear c1_0_0 c1_0_1 c1_1_0 c1_1_1
  intro W2 K2'
  have K2 : Hid (BS w [(W1.heap.size, [.int .i64 s, .int .i64 t]), (w.heap.size + 1, [.int .i64 j, .int .i64 b]), (w.heap.size, [.int .i64 i, .int .i64 a])] W2) := K2'
  clear K2' Mz1 K1
  have c2_0_0 : W2.cell? ⟨W1.heap.size, 0, none⟩ = some (.int .i64 s) := (K2.out.at (W1.heap.size) [.int .i64 s, .int .i64 t] (by simp)).c 0 rfl
  have c2_0_1 : W2.cell? ⟨W1.heap.size, 1, none⟩ = some (.int .i64 t) := (K2.out.at (W1.heap.size) [.int .i64 s, .int .i64 t] (by simp)).c 1 rfl
  have c2_1_0 : W2.cell? ⟨w.heap.size + 1, 0, none⟩ = some (.int .i64 j) := (K2.out.at (w.heap.size + 1) [.int .i64 j, .int .i64 b] (by simp)).c 0 rfl
  have c2_1_1 : W2.cell? ⟨w.heap.size + 1, 1, none⟩ = some (.int .i64 b) := (K2.out.at (w.heap.size + 1) [.int .i64 j, .int .i64 b] (by simp)).c 1 rfl
  have c2_2_0 : W2.cell? ⟨w.heap.size, 0, none⟩ = some (.int .i64 i) := (K2.out.at (w.heap.size) [.int .i64 i, .int .i64 a] (by simp)).c 0 rfl
  have c2_2_1 : W2.cell? ⟨w.heap.size, 1, none⟩ = some (.int .i64 a) := (K2.out.at (w.heap.size) [.int .i64 i, .int .i64 a] (by simp)).c 1 rfl
  go_wp2_with fail
  refine (S1.out _ (hL.out _ K2.out.1)).mono ?_
  rintro e W3 ⟨rfl, hb⟩
  have K3 : Hid (BS w [(W1.heap.size, [.int .i64 s, .int .i64 t]), (w.heap.size + 1, [.int .i64 j, .int .i64 b]), (w.heap.size, [.int .i64 i, .int .i64 a])] W3) := K2.out.below hb
  clear c2_0_0 c2_0_1 c2_1_0 c2_1_1 c2_2_0 c2_2_1
  clear hb K2
  have c3_0_0 : W3.cell? ⟨W1.heap.size, 0, none⟩ = some (.int .i64 s) := (K3.out.at (W1.heap.size) [.int .i64 s, .int .i64 t] (by simp)).c 0 rfl
  have c3_0_1 : W3.cell? ⟨W1.heap.size, 1, none⟩ = some (.int .i64 t) := (K3.out.at (W1.heap.size) [.int .i64 s, .int .i64 t] (by simp)).c 1 rfl
  have c3_1_0 : W3.cell? ⟨w.heap.size + 1, 0, none⟩ = some (.int .i64 j) := (K3.out.at (w.heap.size + 1) [.int .i64 j, .int .i64 b] (by simp)).c 0 rfl
  have c3_1_1 : W3.cell? ⟨w.heap.size + 1, 1, none⟩ = some (.int .i64 b) := (K3.out.at (w.heap.size + 1) [.int .i64 j, .int .i64 b] (by simp)).c 1 rfl
  have c3_2_0 : W3.cell? ⟨w.heap.size, 0, none⟩ = some (.int .i64 i) := (K3.out.at (w.heap.size) [.int .i64 i, .int .i64 a] (by simp)).c 0 rfl
  have c3_2_1 : W3.cell? ⟨w.heap.size, 1, none⟩ = some (.int .i64 a) := (K3.out.at (w.heap.size) [.int .i64 i, .int .i64 a] (by simp)).c 1 rfl
  go_wp2_with fail
  refine (A3.out _ (hL.out _ K3.out.1)).mono ?_
  rintro e W4 ⟨rfl, hb⟩
  have K4 : Hid (BS w [(W1.heap.size, [.int .i64 s, .int .i64 t]), (w.heap.size + 1, [.int .i64 j, .int .i64 b]), (w.heap.size, [.int .i64 i, .int .i64 a])] W4) := K3.out.below hb
  clear c3_0_0 c3_0_1 c3_1_0 c3_1_1 c3_2_0 c3_2_1
  clear hb K3
  have c4_0_0 : W4.cell? ⟨W1.heap.size, 0, none⟩ = some (.int .i64 s) := (K4.out.at (W1.heap.size) [.int .i64 s, .int .i64 t] (by simp)).c 0 rfl
  have c4_0_1 : W4.cell? ⟨W1.heap.size, 1, none⟩ = some (.int .i64 t) := (K4.out.at (W1.heap.size) [.int .i64 s, .int .i64 t] (by simp)).c 1 rfl
  have c4_1_0 : W4.cell? ⟨w.heap.size + 1, 0, none⟩ = some (.int .i64 j) := (K4.out.at (w.heap.size + 1) [.int .i64 j, .int .i64 b] (by simp)).c 0 rfl
  have c4_1_1 : W4.cell? ⟨w.heap.size + 1, 1, none⟩ = some (.int .i64 b) := (K4.out.at (w.heap.size + 1) [.int .i64 j, .int .i64 b] (by simp)).c 1 rfl
  have c4_2_0 : W4.cell? ⟨w.heap.size, 0, none⟩ = some (.int .i64 i) := (K4.out.at (w.heap.size) [.int .i64 i, .int .i64 a] (by simp)).c 0 rfl
  have c4_2_1 : W4.cell? ⟨w.heap.size, 1, none⟩ = some (.int .i64 a) := (K4.out.at (w.heap.size) [.int .i64 i, .int .i64 a] (by simp)).c 1 rfl
  have Mz4 : Hid (BS w [(W4.heap.size, [.int .i64 i, .int .i64 a]), (W1.heap.size, [.int .i64 s, .int .i64 t]), (w.heap.size + 1, [.int .i64 j, .int .i64 b]), (w.heap.size, [.int .i64 i, .int .i64 a])] (W4.alloc (.cells #[.int .i64 i, .int .i64 a] 23))) := K4.out.new [.int .i64 i, .int .i64 a] 23 rfl
  go_upto_region 10 with fail
  refine gen_to (BS w [(W4.heap.size, [.int .i64 i, .int .i64 a]), (W1.heap.size, [.int .i64 s, .int .i64 t]), (w.heap.size + 1, [.int .i64 j, .int .i64 b]), (w.heap.size, [.int .i64 i, .int .i64 a])]) Mz4.out ?_
  clear c4_0_0 c4_0_1 c4_1_0 c4_1_1 c4_2_0 c4_2_1
  intro W5 K5'
  have K5 : Hid (BS w [(W4.heap.size, [.int .i64 i, .int .i64 a]), (W1.heap.size, [.int .i64 s, .int .i64 t]), (w.heap.size + 1, [.int .i64 j, .int .i64 b]), (w.heap.size, [.int .i64 i, .int .i64 a])] W5) := K5'
  clear K5' Mz4 K4
  have c5_0_0 : W5.cell? ⟨W4.heap.size, 0, none⟩ = some (.int .i64 i) := (K5.out.at (W4.heap.size) [.int .i64 i, .int .i64 a] (by simp)).c 0 rfl
  have c5_0_1 : W5.cell? ⟨W4.heap.size, 1, none⟩ = some (.int .i64 a) := (K5.out.at (W4.heap.size) [.int .i64 i, .int .i64 a] (by simp)).c 1 rfl
  have c5_1_0 : W5.cell? ⟨W1.heap.size, 0, none⟩ = some (.int .i64 s) := (K5.out.at (W1.heap.size) [.int .i64 s, .int .i64 t] (by simp)).c 0 rfl
  have c5_1_1 : W5.cell? ⟨W1.heap.size, 1, none⟩ = some (.int .i64 t) := (K5.out.at (W1.heap.size) [.int .i64 s, .int .i64 t] (by simp)).c 1 rfl
  have c5_2_0 : W5.cell? ⟨w.heap.size + 1, 0, none⟩ = some (.int .i64 j) := (K5.out.at (w.heap.size + 1) [.int .i64 j, .int .i64 b] (by simp)).c 0 rfl
  have c5_2_1 : W5.cell? ⟨w.heap.size + 1, 1, none⟩ = some (.int .i64 b) := (K5.out.at (w.heap.size + 1) [.int .i64 j, .int .i64 b] (by simp)).c 1 rfl
  have c5_3_0 : W5.cell? ⟨w.heap.size, 0, none⟩ = some (.int .i64 i) := (K5.out.at (w.heap.size) [.int .i64 i, .int .i64 a] (by simp)).c 0 rfl
  have c5_3_1 : W5.cell? ⟨w.heap.size, 1, none⟩ = some (.int .i64 a) := (K5.out.at (w.heap.size) [.int .i64 i, .int .i64 a] (by simp)).c 1 rfl
  go_wp2_with fail
  refine (C1.out _ (hL.out _ K5.out.1)).mono ?_
  rintro e W6 ⟨rfl, hb⟩
  have K6 : Hid (BS w [(W4.heap.size, [.int .i64 i, .int .i64 a]), (W1.heap.size, [.int .i64 s, .int .i64 t]), (w.heap.size + 1, [.int .i64 j, .int .i64 b]), (w.heap.size, [.int .i64 i, .int .i64 a])] W6) := K5.out.below hb
  clear c5_0_0 c5_0_1 c5_1_0 c5_1_1 c5_2_0 c5_2_1 c5_3_0 c5_3_1
  clear hb K5
  have c6_0_0 : W6.cell? ⟨W4.heap.size, 0, none⟩ = some (.int .i64 i) := (K6.out.at (W4.heap.size) [.int .i64 i, .int .i64 a] (by simp)).c 0 rfl
  have c6_0_1 : W6.cell? ⟨W4.heap.size, 1, none⟩ = some (.int .i64 a) := (K6.out.at (W4.heap.size) [.int .i64 i, .int .i64 a] (by simp)).c 1 rfl
  have c6_1_0 : W6.cell? ⟨W1.heap.size, 0, none⟩ = some (.int .i64 s) := (K6.out.at (W1.heap.size) [.int .i64 s, .int .i64 t] (by simp)).c 0 rfl
  have c6_1_1 : W6.cell? ⟨W1.heap.size, 1, none⟩ = some (.int .i64 t) := (K6.out.at (W1.heap.size) [.int .i64 s, .int .i64 t] (by simp)).c 1 rfl
  have c6_2_0 : W6.cell? ⟨w.heap.size + 1, 0, none⟩ = some (.int .i64 j) := (K6.out.at (w.heap.size + 1) [.int .i64 j, .int .i64 b] (by simp)).c 0 rfl
  have c6_2_1 : W6.cell? ⟨w.heap.size + 1, 1, none⟩ = some (.int .i64 b) := (K6.out.at (w.heap.size + 1) [.int .i64 j, .int .i64 b] (by simp)).c 1 rfl
  have c6_3_0 : W6.cell? ⟨w.heap.size, 0, none⟩ = some (.int .i64 i) := (K6.out.at (w.heap.size) [.int .i64 i, .int .i64 a] (by simp)).c 0 rfl
  have c6_3_1 : W6.cell? ⟨w.heap.size, 1, none⟩ = some (.int .i64 a) := (K6.out.at (w.heap.size) [.int .i64 i, .int .i64 a] (by simp)).c 1 rfl
  go_wp2_with fail
  refine (C1.out _ (hL.out _ K6.out.1)).mono ?_
  rintro e W7 ⟨rfl, hb⟩
  have K7 : Hid (BS w [(W4.heap.size, [.int .i64 i, .int .i64 a]), (W1.heap.size, [.int .i64 s, .int .i64 t]), (w.heap.size + 1, [.int .i64 j, .int .i64 b]), (w.heap.size, [.int .i64 i, .int .i64 a])] W7) := K6.out.below hb
  clear c6_0_0 c6_0_1 c6_1_0 c6_1_1 c6_2_0 c6_2_1 c6_3_0 c6_3_1
  clear hb K6
  have c7_0_0 : W7.cell? ⟨W4.heap.size, 0, none⟩ = some (.int .i64 i) := (K7.out.at (W4.heap.size) [.int .i64 i, .int .i64 a] (by simp)).c 0 rfl
  have c7_0_1 : W7.cell? ⟨W4.heap.size, 1, none⟩ = some (.int .i64 a) := (K7.out.at (W4.heap.size) [.int .i64 i, .int .i64 a] (by simp)).c 1 rfl
  have c7_1_0 : W7.cell? ⟨W1.heap.size, 0, none⟩ = some (.int .i64 s) := (K7.out.at (W1.heap.size) [.int .i64 s, .int .i64 t] (by simp)).c 0 rfl
  have c7_1_1 : W7.cell? ⟨W1.heap.size, 1, none⟩ = some (.int .i64 t) := (K7.out.at (W1.heap.size) [.int .i64 s, .int .i64 t] (by simp)).c 1 rfl
  have c7_2_0 : W7.cell? ⟨w.heap.size + 1, 0, none⟩ = some (.int .i64 j) := (K7.out.at (w.heap.size + 1) [.int .i64 j, .int .i64 b] (by simp)).c 0 rfl
  have c7_2_1 : W7.cell? ⟨w.heap.size + 1, 1, none⟩ = some (.int .i64 b) := (K7.out.at (w.heap.size + 1) [.int .i64 j, .int .i64 b] (by simp)).c 1 rfl
  have c7_3_0 : W7.cell? ⟨w.heap.size, 0, none⟩ = some (.int .i64 i) := (K7.out.at (w.heap.size) [.int .i64 i, .int .i64 a] (by simp)).c 0 rfl
  have c7_3_1 : W7.cell? ⟨w.heap.size, 1, none⟩ = some (.int .i64 a) := (K7.out.at (w.heap.size) [.int .i64 i, .int .i64 a] (by simp)).c 1 rfl
  go_wp2_with fail
  refine (KN.out _ (hL.out _ K7.out.1)).mono ?_
  rintro e W8 ⟨rfl, hb⟩
  have K8 : Hid (BS w [(W4.heap.size, [.int .i64 i, .int .i64 a]), (W1.heap.size, [.int .i64 s, .int .i64 t]), (w.heap.size + 1, [.int .i64 j, .int .i64 b]), (w.heap.size, [.int .i64 i, .int .i64 a])] W8) := K7.out.below hb
  clear c7_0_0 c7_0_1 c7_1_0 c7_1_1 c7_2_0 c7_2_1 c7_3_0 c7_3_1
  clear hb K7
  have c8_0_0 : W8.cell? ⟨W4.heap.size, 0, none⟩ = some (.int .i64 i) := (K8.out.at (W4.heap.size) [.int .i64 i, .int .i64 a] (by simp)).c 0 rfl
  have c8_0_1 : W8.cell? ⟨W4.heap.size, 1, none⟩ = some (.int .i64 a) := (K8.out.at (W4.heap.size) [.int .i64 i, .int .i64 a] (by simp)).c 1 rfl
  have c8_1_0 : W8.cell? ⟨W1.heap.size, 0, none⟩ = some (.int .i64 s) := (K8.out.at (W1.heap.size) [.int .i64 s, .int .i64 t] (by simp)).c 0 rfl
  have c8_1_1 : W8.cell? ⟨W1.heap.size, 1, none⟩ = some (.int .i64 t) := (K8.out.at (W1.heap.size) [.int .i64 s, .int .i64 t] (by simp)).c 1 rfl
  have c8_2_0 : W8.cell? ⟨w.heap.size + 1, 0, none⟩ = some (.int .i64 j) := (K8.out.at (w.heap.size + 1) [.int .i64 j, .int .i64 b] (by simp)).c 0 rfl
  have c8_2_1 : W8.cell? ⟨w.heap.size + 1, 1, none⟩ = some (.int .i64 b) := (K8.out.at (w.heap.size + 1) [.int .i64 j, .int .i64 b] (by simp)).c 1 rfl
  have c8_3_0 : W8.cell? ⟨w.heap.size, 0, none⟩ = some (.int .i64 i) := (K8.out.at (w.heap.size) [.int .i64 i, .int .i64 a] (by simp)).c 0 rfl
  have c8_3_1 : W8.cell? ⟨w.heap.size, 1, none⟩ = some (.int .i64 a) := (K8.out.at (w.heap.size) [.int .i64 i, .int .i64 a] (by simp)).c 1 rfl
  go_wp2
  go_ret
  exact ⟨rfl, K8.out.1⟩

set_option maxRecDepth 100000 in
set_option maxHeartbeats 4000000 in
theorem core_DayBack_cn (i a j b n s t D E : Int) (hn : -1099511627776 < n) (hn2 : n ≤ 9223372036854775807) (hE : E ≠ 0)
    (A1 : Hid (∀ w : World, Cvl.Lens w → Calls Tryd.prog 16 #[.agg #[.int .i64 i, .int .i64 a], .int .i64 n] w fun r' w' => r' = .returned (.tuple #[.agg #[.int .i64 s, .int .i64 t], .int .i64 0]) ∧ Below w.heap.size w w'))
    (A2 : Hid (∀ w : World, Cvl.Lens w → Calls Tryd.prog 16 #[.agg #[.int .i64 s, .int .i64 t], .int .i64 (-n)] w fun r' w' => r' = .returned (.tuple #[.agg #[.int .i64 i, .int .i64 a], .int .i64 0]) ∧ Below w.heap.size w w'))
    (S1 : Hid (∀ w : World, Cvl.Lens w → Calls Tryd.prog 18 #[.agg #[.int .i64 i, .int .i64 a], .agg #[.int .i64 j, .int .i64 b]] w fun r' w' => r' = .returned (.tuple #[.int .i64 D, .int .i64 E]) ∧ Below w.heap.size w w'))
    (KN : Hid (∀ w : World, Cvl.Lens w → Calls Tryd.prog 15 #[] w fun r' w' => r' = .returned (.bool true) ∧ Below w.heap.size w w'))
    (w : World) (hL : Hid (∀ W : World, Below w.heap.size w W → Cvl.Lens W)) :
    Calls Tryd.prog 6 #[.agg #[.int .i64 i, .int .i64 a], .agg #[.int .i64 j, .int .i64 b], .int .i64 n] w fun r' w' => r' = .returned (.bool true) ∧ Below w.heap.size w w' := by
  have e1 : (E != 0) = true := bne_iff_ne.2 hE
  have K0 : Hid (BS w [(w.heap.size + 1, [.int .i64 j, .int .i64 b]), (w.heap.size, [.int .i64 i, .int .i64 a])] ((w.alloc (.cells #[.int .i64 i, .int .i64 a] 23)).alloc (.cells #[.int .i64 j, .int .i64 b] 23))) := (((BS.start w).new [.int .i64 i, .int .i64 a] 23 rfl).new [.int .i64 j, .int .i64 b] 23 (by simp))
  go_enter Tryd.func6, Tryd.ntmps6
  go_wp2_with fail
  refine (A1.out _ (hL.out _ K0.out.1)).mono ?_
  rintro e W1 ⟨rfl, hb⟩
  have K1 : Hid (BS w [(w.heap.size + 1, [.int .i64 j, .int .i64 b]), (w.heap.size, [.int .i64 i, .int .i64 a])] W1) := K0.out.below hb
  clear hb K0
  have c1_0_0 : W1.cell? ⟨w.heap.size + 1, 0, none⟩ = some (.int .i64 j) := (K1.out.at (w.heap.size + 1) [.int .i64 j, .int .i64 b] (by simp)).c 0 rfl
  have c1_0_1 : W1.cell? ⟨w.heap.size + 1, 1, none⟩ = some (.int .i64 b) := (K1.out.at (w.heap.size + 1) [.int .i64 j, .int .i64 b] (by simp)).c 1 rfl
  have c1_1_0 : W1.cell? ⟨w.heap.size, 0, none⟩ = some (.int .i64 i) := (K1.out.at (w.heap.size) [.int .i64 i, .int .i64 a] (by simp)).c 0 rfl
  have c1_1_1 : W1.cell? ⟨w.heap.size, 1, none⟩ = some (.int .i64 a) := (K1.out.at (w.heap.size) [.int .i64 i, .int .i64 a] (by simp)).c 1 rfl
  have Mz1 : Hid (BS w [(W1.heap.size, [.int .i64 s, .int .i64 t]), (w.heap.size + 1, [.int .i64 j, .int .i64 b]), (w.heap.size, [.int .i64 i, .int .i64 a])] (W1.alloc (.cells #[.int .i64 s, .int .i64 t] 23))) := K1.out.new [.int .i64 s, .int .i64 t] 23 rfl
  go_upto_region 2 with fail
  refine gen_to (BS w [(W1.heap.size, [.int .i64 s, .int .i64 t]), (w.heap.size + 1, [.int .i64 j, .int .i64 b]), (w.heap.size, [.int .i64 i, .int .i64 a])]) Mz1.out ?_
  clear c1_0_0 c1_0_1 c1_1_0 c1_1_1
  intro W2 K2'
  have K2 : Hid (BS w [(W1.heap.size, [.int .i64 s, .int .i64 t]), (w.heap.size + 1, [.int .i64 j, .int .i64 b]), (w.heap.size, [.int .i64 i, .int .i64 a])] W2) := K2'
  clear K2' Mz1 K1
  have c2_0_0 : W2.cell? ⟨W1.heap.size, 0, none⟩ = some (.int .i64 s) := (K2.out.at (W1.heap.size) [.int .i64 s, .int .i64 t] (by simp)).c 0 rfl
  have c2_0_1 : W2.cell? ⟨W1.heap.size, 1, none⟩ = some (.int .i64 t) := (K2.out.at (W1.heap.size) [.int .i64 s, .int .i64 t] (by simp)).c 1 rfl
  have c2_1_0 : W2.cell? ⟨w.heap.size + 1, 0, none⟩ = some (.int .i64 j) := (K2.out.at (w.heap.size + 1) [.int .i64 j, .int .i64 b] (by simp)).c 0 rfl
  have c2_1_1 : W2.cell? ⟨w.heap.size + 1, 1, none⟩ = some (.int .i64 b) := (K2.out.at (w.heap.size + 1) [.int .i64 j, .int .i64 b] (by simp)).c 1 rfl
  have c2_2_0 : W2.cell? ⟨w.heap.size, 0, none⟩ = some (.int .i64 i) := (K2.out.at (w.heap.size) [.int .i64 i, .int .i64 a] (by simp)).c 0 rfl
  have c2_2_1 : W2.cell? ⟨w.heap.size, 1, none⟩ = some (.int .i64 a) := (K2.out.at (w.heap.size) [.int .i64 i, .int .i64 a] (by simp)).c 1 rfl
  go_wp2_with fail
  refine (A2.out _ (hL.out _ K2.out.1)).mono ?_
  rintro e W3 ⟨rfl, hb⟩
  have K3 : Hid (BS w [(W1.heap.size, [.int .i64 s, .int .i64 t]), (w.heap.size + 1, [.int .i64 j, .int .i64 b]), (w.heap.size, [.int .i64 i, .int .i64 a])] W3) := K2.out.below hb
  clear c2_0_0 c2_0_1 c2_1_0 c2_1_1 c2_2_0 c2_2_1
  clear hb K2
  have c3_0_0 : W3.cell? ⟨W1.heap.size, 0, none⟩ = some (.int .i64 s) := (K3.out.at (W1.heap.size) [.int .i64 s, .int .i64 t] (by simp)).c 0 rfl
  have c3_0_1 : W3.cell? ⟨W1.heap.size, 1, none⟩ = some (.int .i64 t) := (K3.out.at (W1.heap.size) [.int .i64 s, .int .i64 t] (by simp)).c 1 rfl
  have c3_1_0 : W3.cell? ⟨w.heap.size + 1, 0, none⟩ = some (.int .i64 j) := (K3.out.at (w.heap.size + 1) [.int .i64 j, .int .i64 b] (by simp)).c 0 rfl
  have c3_1_1 : W3.cell? ⟨w.heap.size + 1, 1, none⟩ = some (.int .i64 b) := (K3.out.at (w.heap.size + 1) [.int .i64 j, .int .i64 b] (by simp)).c 1 rfl
  have c3_2_0 : W3.cell? ⟨w.heap.size, 0, none⟩ = some (.int .i64 i) := (K3.out.at (w.heap.size) [.int .i64 i, .int .i64 a] (by simp)).c 0 rfl
  have c3_2_1 : W3.cell? ⟨w.heap.size, 1, none⟩ = some (.int .i64 a) := (K3.out.at (w.heap.size) [.int .i64 i, .int .i64 a] (by simp)).c 1 rfl
  have Mz3 : Hid (BS w [(W3.heap.size, [.int .i64 i, .int .i64 a]), (W1.heap.size, [.int .i64 s, .int .i64 t]), (w.heap.size + 1, [.int .i64 j, .int .i64 b]), (w.heap.size, [.int .i64 i, .int .i64 a])] (W3.alloc (.cells #[.int .i64 i, .int .i64 a] 23))) := K3.out.new [.int .i64 i, .int .i64 a] 23 rfl
  go_upto_region 4 with fail
  refine gen_to (BS w [(W3.heap.size, [.int .i64 i, .int .i64 a]), (W1.heap.size, [.int .i64 s, .int .i64 t]), (w.heap.size + 1, [.int .i64 j, .int .i64 b]), (w.heap.size, [.int .i64 i, .int .i64 a])]) Mz3.out ?_
  clear c3_0_0 c3_0_1 c3_1_0 c3_1_1 c3_2_0 c3_2_1
  intro W4 K4'
  have K4 : Hid (BS w [(W3.heap.size, [.int .i64 i, .int .i64 a]), (W1.heap.size, [.int .i64 s, .int .i64 t]), (w.heap.size + 1, [.int .i64 j, .int .i64 b]), (w.heap.size, [.int .i64 i, .int .i64 a])] W4) := K4'
  clear K4' Mz3 K3
  have c4_0_0 : W4.cell? ⟨W3.heap.size, 0, none⟩ = some (.int .i64 i) := (K4.out.at (W3.heap.size) [.int .i64 i, .int .i64 a] (by simp)).c 0 rfl
  have c4_0_1 : W4.cell? ⟨W3.heap.size, 1, none⟩ = some (.int .i64 a) := (K4.out.at (W3.heap.size) [.int .i64 i, .int .i64 a] (by simp)).c 1 rfl
  have c4_1_0 : W4.cell? ⟨W1.heap.size, 0, none⟩ = some (.int .i64 s) := (K4.out.at (W1.heap.size) [.int .i64 s, .int .i64 t] (by simp)).c 0 rfl
  have c4_1_1 : W4.cell? ⟨W1.heap.size, 1, none⟩ = some (.int .i64 t) := (K4.out.at (W1.heap.size) [.int .i64 s, .int .i64 t] (by simp)).c 1 rfl
  have c4_2_0 : W4.cell? ⟨w.heap.size + 1, 0, none⟩ = some (.int .i64 j) := (K4.out.at (w.heap.size + 1) [.int .i64 j, .int .i64 b] (by simp)).c 0 rfl
  have c4_2_1 : W4.cell? ⟨w.heap.size + 1, 1, none⟩ = some (.int .i64 b) := (K4.out.at (w.heap.size + 1) [.int .i64 j, .int .i64 b] (by simp)).c 1 rfl
  have c4_3_0 : W4.cell? ⟨w.heap.size, 0, none⟩ = some (.int .i64 i) := (K4.out.at (w.heap.size) [.int .i64 i, .int .i64 a] (by simp)).c 0 rfl
  have c4_3_1 : W4.cell? ⟨w.heap.size, 1, none⟩ = some (.int .i64 a) := (K4.out.at (w.heap.size) [.int .i64 i, .int .i64 a] (by simp)).c 1 rfl
  go_wp2_with fail
  refine (S1.out _ (hL.out _ K4.out.1)).mono ?_
  rintro e W5 ⟨rfl, hb⟩
  have K5 : Hid (BS w [(W3.heap.size, [.int .i64 i, .int .i64 a]), (W1.heap.size, [.int .i64 s, .int .i64 t]), (w.heap.size + 1, [.int .i64 j, .int .i64 b]), (w.heap.size, [.int .i64 i, .int .i64 a])] W5) := K4.out.below hb
  clear c4_0_0 c4_0_1 c4_1_0 c4_1_1 c4_2_0 c4_2_1 c4_3_0 c4_3_1
  clear hb K4
  have c5_0_0 : W5.cell? ⟨W3.heap.size, 0, none⟩ = some (.int .i64 i) := (K5.out.at (W3.heap.size) [.int .i64 i, .int .i64 a] (by simp)).c 0 rfl
  have c5_0_1 : W5.cell? ⟨W3.heap.size, 1, none⟩ = some (.int .i64 a) := (K5.out.at (W3.heap.size) [.int .i64 i, .int .i64 a] (by simp)).c 1 rfl
  have c5_1_0 : W5.cell? ⟨W1.heap.size, 0, none⟩ = some (.int .i64 s) := (K5.out.at (W1.heap.size) [.int .i64 s, .int .i64 t] (by simp)).c 0 rfl
  have c5_1_1 : W5.cell? ⟨W1.heap.size, 1, none⟩ = some (.int .i64 t) := (K5.out.at (W1.heap.size) [.int .i64 s, .int .i64 t] (by simp)).c 1 rfl
  have c5_2_0 : W5.cell? ⟨w.heap.size + 1, 0, none⟩ = some (.int .i64 j) := (K5.out.at (w.heap.size + 1) [.int .i64 j, .int .i64 b] (by simp)).c 0 rfl
  have c5_2_1 : W5.cell? ⟨w.heap.size + 1, 1, none⟩ = some (.int .i64 b) := (K5.out.at (w.heap.size + 1) [.int .i64 j, .int .i64 b] (by simp)).c 1 rfl
  have c5_3_0 : W5.cell? ⟨w.heap.size, 0, none⟩ = some (.int .i64 i) := (K5.out.at (w.heap.size) [.int .i64 i, .int .i64 a] (by simp)).c 0 rfl
  have c5_3_1 : W5.cell? ⟨w.heap.size, 1, none⟩ = some (.int .i64 a) := (K5.out.at (w.heap.size) [.int .i64 i, .int .i64 a] (by simp)).c 1 rfl
  go_wp2_with fail
  refine (KN.out _ (hL.out _ K5.out.1)).mono ?_
  rintro e W6 ⟨rfl, hb⟩
  have K6 : Hid (BS w [(W3.heap.size, [.int .i64 i, .int .i64 a]), (W1.heap.size, [.int .i64 s, .int .i64 t]), (w.heap.size + 1, [.int .i64 j, .int .i64 b]), (w.heap.size, [.int .i64 i, .int .i64 a])] W6) := K5.out.below hb
  clear c5_0_0 c5_0_1 c5_1_0 c5_1_1 c5_2_0 c5_2_1 c5_3_0 c5_3_1
  clear hb K5
  have c6_0_0 : W6.cell? ⟨W3.heap.size, 0, none⟩ = some (.int .i64 i) := (K6.out.at (W3.heap.size) [.int .i64 i, .int .i64 a] (by simp)).c 0 rfl
  have c6_0_1 : W6.cell? ⟨W3.heap.size, 1, none⟩ = some (.int .i64 a) := (K6.out.at (W3.heap.size) [.int .i64 i, .int .i64 a] (by simp)).c 1 rfl
  have c6_1_0 : W6.cell? ⟨W1.heap.size, 0, none⟩ = some (.int .i64 s) := (K6.out.at (W1.heap.size) [.int .i64 s, .int .i64 t] (by simp)).c 0 rfl
  have c6_1_1 : W6.cell? ⟨W1.heap.size, 1, none⟩ = some (.int .i64 t) := (K6.out.at (W1.heap.size) [.int .i64 s, .int .i64 t] (by simp)).c 1 rfl
  have c6_2_0 : W6.cell? ⟨w.heap.size + 1, 0, none⟩ = some (.int .i64 j) := (K6.out.at (w.heap.size + 1) [.int .i64 j, .int .i64 b] (by simp)).c 0 rfl
  have c6_2_1 : W6.cell? ⟨w.heap.size + 1, 1, none⟩ = some (.int .i64 b) := (K6.out.at (w.heap.size + 1) [.int .i64 j, .int .i64 b] (by simp)).c 1 rfl
  have c6_3_0 : W6.cell? ⟨w.heap.size, 0, none⟩ = some (.int .i64 i) := (K6.out.at (w.heap.size) [.int .i64 i, .int .i64 a] (by simp)).c 0 rfl
  have c6_3_1 : W6.cell? ⟨w.heap.size, 1, none⟩ = some (.int .i64 a) := (K6.out.at (w.heap.size) [.int .i64 i, .int .i64 a] (by simp)).c 1 rfl
  go_wp2
  go_ret
  exact ⟨rfl, K6.out.1⟩

set_option maxRecDepth 100000 in
set_option maxHeartbeats 4000000 in
theorem core_DayBack_cp (i a j b n s t D : Int) (hn : -1099511627776 < n) (hn2 : n ≤ 9223372036854775807) (hD : 0 < D)
    (A1 : Hid (∀ w : World, Cvl.Lens w → Calls Tryd.prog 16 #[.agg #[.int .i64 i, .int .i64 a], .int .i64 n] w fun r' w' => r' = .returned (.tuple #[.agg #[.int .i64 s, .int .i64 t], .int .i64 0]) ∧ Below w.heap.size w w'))
    (A2 : Hid (∀ w : World, Cvl.Lens w → Calls Tryd.prog 16 #[.agg #[.int .i64 s, .int .i64 t], .int .i64 (-n)] w fun r' w' => r' = .returned (.tuple #[.agg #[.int .i64 i, .int .i64 a], .int .i64 0]) ∧ Below w.heap.size w w'))
    (S1 : Hid (∀ w : World, Cvl.Lens w → Calls Tryd.prog 18 #[.agg #[.int .i64 i, .int .i64 a], .agg #[.int .i64 j, .int .i64 b]] w fun r' w' => r' = .returned (.tuple #[.int .i64 D, .int .i64 0]) ∧ Below w.heap.size w w'))
    (A3 : Hid (∀ w : World, Cvl.Lens w → Calls Tryd.prog 16 #[.agg #[.int .i64 j, .int .i64 b], .int .i64 D] w fun r' w' => r' = .returned (.tuple #[.agg #[.int .i64 i, .int .i64 a], .int .i64 0]) ∧ Below w.heap.size w w'))
    (C1 : Hid (∀ w : World, Cvl.Lens w → Calls Tryd.prog 22 #[.agg #[.int .i64 i, .int .i64 a], .agg #[.int .i64 j, .int .i64 b]] w fun r' w' => r' = .returned (.int .i64 1) ∧ Below w.heap.size w w'))
    (KN : Hid (∀ w : World, Cvl.Lens w → Calls Tryd.prog 15 #[] w fun r' w' => r' = .returned (.bool true) ∧ Below w.heap.size w w'))
    (w : World) (hL : Hid (∀ W : World, Below w.heap.size w W → Cvl.Lens W)) :
    Calls Tryd.prog 6 #[.agg #[.int .i64 i, .int .i64 a], .agg #[.int .i64 j, .int .i64 b], .int .i64 n] w fun r' w' => r' = .returned (.bool true) ∧ Below w.heap.size w w' := by
  have d1 : ¬ D < 0 := by omega
  have K0 : Hid (BS w [(w.heap.size + 1, [.int .i64 j, .int .i64 b]), (w.heap.size, [.int .i64 i, .int .i64 a])] ((w.alloc (.cells #[.int .i64 i, .int .i64 a] 23)).alloc (.cells #[.int .i64 j, .int .i64 b] 23))) := (((BS.start w).new [.int .i64 i, .int .i64 a] 23 rfl).new [.int .i64 j, .int .i64 b] 23 (by simp))
  go_enter Tryd.func6, Tryd.ntmps6
  go_wp2_with fail
  refine (A1.out _ (hL.out _ K0.out.1)).mono ?_
  rintro e W1 ⟨rfl, hb⟩
  have K1 : Hid (BS w [(w.heap.size + 1, [.int .i64 j, .int .i64 b]), (w.heap.size, [.int .i64 i, .int .i64 a])] W1) := K0.out.below hb
  clear hb K0
  have c1_0_0 : W1.cell? ⟨w.heap.size + 1, 0, none⟩ = some (.int .i64 j) := (K1.out.at (w.heap.size + 1) [.int .i64 j, .int .i64 b] (by simp)).c 0 rfl
  have c1_0_1 : W1.cell? ⟨w.heap.size + 1, 1, none⟩ = some (.int .i64 b) := (K1.out.at (w.heap.size + 1) [.int .i64 j, .int .i64 b] (by simp)).c 1 rfl
  have c1_1_0 : W1.cell? ⟨w.heap.size, 0, none⟩ = some (.int .i64 i) := (K1.out.at (w.heap.size) [.int .i64 i, .int .i64 a] (by simp)).c 0 rfl
  have c1_1_1 : W1.cell? ⟨w.heap.size, 1, none⟩ = some (.int .i64 a) := (K1.out.at (w.heap.size) [.int .i64 i, .int .i64 a] (by simp)).c 1 rfl
  have Mz1 : Hid (BS w [(W1.heap.size, [.int .i64 s, .int .i64 t]), (w.heap.size + 1, [.int .i64 j, .int .i64 b]), (w.heap.size, [.int .i64 i, .int .i64 a])] (W1.alloc (.cells #[.int .i64 s, .int .i64 t] 23))) := K1.out.new [.int .i64 s, .int .i64 t] 23 rfl
  go_upto_region 2 with fail
  refine gen_to (BS w [(W1.heap.size, [.int .i64 s, .int .i64 t]), (w.heap.size + 1, [.int .i64 j, .int .i64 b]), (w.heap.size, [.int .i64 i, .int .i64 a])]) Mz1.out ?_
  clear c1_0_0 c1_0_1 c1_1_0 c1_1_1
  intro W2 K2'
  have K2 : Hid (BS w [(W1.heap.size, [.int .i64 s, .int .i64 t]), (w.heap.size + 1, [.int .i64 j, .int .i64 b]), (w.heap.size, [.int .i64 i, .int .i64 a])] W2) := K2'
  clear K2' Mz1 K1
  have c2_0_0 : W2.cell? ⟨W1.heap.size, 0, none⟩ = some (.int .i64 s) := (K2.out.at (W1.heap.size) [.int .i64 s, .int .i64 t] (by simp)).c 0 rfl
  have c2_0_1 : W2.cell? ⟨W1.heap.size, 1, none⟩ = some (.int .i64 t) := (K2.out.at (W1.heap.size) [.int .i64 s, .int .i64 t] (by simp)).c 1 rfl
  have c2_1_0 : W2.cell? ⟨w.heap.size + 1, 0, none⟩ = some (.int .i64 j) := (K2.out.at (w.heap.size + 1) [.int .i64 j, .int .i64 b] (by simp)).c 0 rfl
  have c2_1_1 : W2.cell? ⟨w.heap.size + 1, 1, none⟩ = some (.int .i64 b) := (K2.out.at (w.heap.size + 1) [.int .i64 j, .int .i64 b] (by simp)).c 1 rfl
  have c2_2_0 : W2.cell? ⟨w.heap.size, 0, none⟩ = some (.int .i64 i) := (K2.out.at (w.heap.size) [.int .i64 i, .int .i64 a] (by simp)).c 0 rfl
  have c2_2_1 : W2.cell? ⟨w.heap.size, 1, none⟩ = some (.int .i64 a) := (K2.out.at (w.heap.size) [.int .i64 i, .int .i64 a] (by simp)).c 1 rfl
  go_wp2_with fail
  refine (A2.out _ (hL.out _ K2.out.1)).mono ?_
  rintro e W3 ⟨rfl, hb⟩
  have K3 : Hid (BS w [(W1.heap.size, [.int .i64 s, .int .i64 t]), (w.heap.size + 1, [.int .i64 j, .int .i64 b]), (w.heap.size, [.int .i64 i, .int .i64 a])] W3) := K2.out.below hb
  clear c2_0_0 c2_0_1 c2_1_0 c2_1_1 c2_2_0 c2_2_1
  clear hb K2
  have c3_0_0 : W3.cell? ⟨W1.heap.size, 0, none⟩ = some (.int .i64 s) := (K3.out.at (W1.heap.size) [.int .i64 s, .int .i64 t] (by simp)).c 0 rfl
  have c3_0_1 : W3.cell? ⟨W1.heap.size, 1, none⟩ = some (.int .i64 t) := (K3.out.at (W1.heap.size) [.int .i64 s, .int .i64 t] (by simp)).c 1 rfl
  have c3_1_0 : W3.cell? ⟨w.heap.size + 1, 0, none⟩ = some (.int .i64 j) := (K3.out.at (w.heap.size + 1) [.int .i64 j, .int .i64 b] (by simp)).c 0 rfl
  have c3_1_1 : W3.cell? ⟨w.heap.size + 1, 1, none⟩ = some (.int .i64 b) := (K3.out.at (w.heap.size + 1) [.int .i64 j, .int .i64 b] (by simp)).c 1 rfl
  have c3_2_0 : W3.cell? ⟨w.heap.size, 0, none⟩ = some (.int .i64 i) := (K3.out.at (w.heap.size) [.int .i64 i, .int .i64 a] (by simp)).c 0 rfl
  have c3_2_1 : W3.cell? ⟨w.heap.size, 1, none⟩ = some (.int .i64 a) := (K3.out.at (w.heap.size) [.int .i64 i, .int .i64 a] (by simp)).c 1 rfl
  have Mz3 : Hid (BS w [(W3.heap.size, [.int .i64 i, .int .i64 a]), (W1.heap.size, [.int .i64 s, .int .i64 t]), (w.heap.size + 1, [.int .i64 j, .int .i64 b]), (w.heap.size, [.int .i64 i, .int .i64 a])] (W3.alloc (.cells #[.int .i64 i, .int .i64 a] 23))) := K3.out.new [.int .i64 i, .int .i64 a] 23 rfl
  go_upto_region 4 with fail
  refine gen_to (BS w [(W3.heap.size, [.int .i64 i, .int .i64 a]), (W1.heap.size, [.int .i64 s, .int .i64 t]), (w.heap.size + 1, [.int .i64 j, .int .i64 b]), (w.heap.size, [.int .i64 i, .int .i64 a])]) Mz3.out ?_
  clear c3_0_0 c3_0_1 c3_1_0 c3_1_1 c3_2_0 c3_2_1
  intro W4 K4'
  have K4 : Hid (BS w [(W3.heap.size, [.int .i64 i, .int .i64 a]), (W1.heap.size, [.int .i64 s, .int .i64 t]), (w.heap.size + 1, [.int .i64 j, .int .i64 b]), (w.heap.size, [.int .i64 i, .int .i64 a])] W4) := K4'
  clear K4' Mz3 K3
  have c4_0_0 : W4.cell? ⟨W3.heap.size, 0, none⟩ = some (.int .i64 i) := (K4.out.at (W3.heap.size) [.int .i64 i, .int .i64 a] (by simp)).c 0 rfl
  have c4_0_1 : W4.cell? ⟨W3.heap.size, 1, none⟩ = some (.int .i64 a) := (K4.out.at (W3.heap.size) [.int .i64 i, .int .i64 a] (by simp)).c 1 rfl
  have c4_1_0 : W4.cell? ⟨W1.heap.size, 0, none⟩ = some (.int .i64 s) := (K4.out.at (W1.heap.size) [.int .i64 s, .int .i64 t] (by simp)).c 0 rfl
  have c4_1_1 : W4.cell? ⟨W1.heap.size, 1, none⟩ = some (.int .i64 t) := (K4.out.at (W1.heap.size) [.int .i64 s, .int .i64 t] (by simp)).c 1 rfl
  have c4_2_0 : W4.cell? ⟨w.heap.size + 1, 0, none⟩ = some (.int .i64 j) := (K4.out.at (w.heap.size + 1) [.int .i64 j, .int .i64 b] (by simp)).c 0 rfl
  have c4_2_1 : W4.cell? ⟨w.heap.size + 1, 1, none⟩ = some (.int .i64 b) := (K4.out.at (w.heap.size + 1) [.int .i64 j, .int .i64 b] (by simp)).c 1 rfl
  have c4_3_0 : W4.cell? ⟨w.heap.size, 0, none⟩ = some (.int .i64 i) := (K4.out.at (w.heap.size) [.int .i64 i, .int .i64 a] (by simp)).c 0 rfl
  have c4_3_1 : W4.cell? ⟨w.heap.size, 1, none⟩ = some (.int .i64 a) := (K4.out.at (w.heap.size) [.int .i64 i, .int .i64 a] (by simp)).c 1 rfl
  go_wp2_with fail
  refine (S1.out _ (hL.out _ K4.out.1)).mono ?_
  rintro e W5 ⟨rfl, hb⟩
  have K5 : Hid (BS w [(W3.heap.size, [.int .i64 i, .int .i64 a]), (W1.heap.size, [.int .i64 s, .int .i64 t]), (w.heap.size + 1, [.int .i64 j, .int .i64 b]), (w.heap.size, [.int .i64 i, .int .i64 a])] W5) := K4.out.below hb
  clear c4_0_0 c4_0_1 c4_1_0 c4_1_1 c4_2_0 c4_2_1 c4_3_0 c4_3_1
  clear hb K4
  have c5_0_0 : W5.cell? ⟨W3.heap.size, 0, none⟩ = some (.int .i64 i) := (K5.out.at (W3.heap.size) [.int .i64 i, .int .i64 a] (by simp)).c 0 rfl
  have c5_0_1 : W5.cell? ⟨W3.heap.size, 1, none⟩ = some (.int .i64 a) := (K5.out.at (W3.heap.size) [.int .i64 i, .int .i64 a] (by simp)).c 1 rfl
  have c5_1_0 : W5.cell? ⟨W1.heap.size, 0, none⟩ = some (.int .i64 s) := (K5.out.at (W1.heap.size) [.int .i64 s, .int .i64 t] (by simp)).c 0 rfl
  have c5_1_1 : W5.cell? ⟨W1.heap.size, 1, none⟩ = some (.int .i64 t) := (K5.out.at (W1.heap.size) [.int .i64 s, .int .i64 t] (by simp)).c 1 rfl
  have c5_2_0 : W5.cell? ⟨w.heap.size + 1, 0, none⟩ = some (.int .i64 j) := (K5.out.at (w.heap.size + 1) [.int .i64 j, .int .i64 b] (by simp)).c 0 rfl
  have c5_2_1 : W5.cell? ⟨w.heap.size + 1, 1, none⟩ = some (.int .i64 b) := (K5.out.at (w.heap.size + 1) [.int .i64 j, .int .i64 b] (by simp)).c 1 rfl
  have c5_3_0 : W5.cell? ⟨w.heap.size, 0, none⟩ = some (.int .i64 i) := (K5.out.at (w.heap.size) [.int .i64 i, .int .i64 a] (by simp)).c 0 rfl
  have c5_3_1 : W5.cell? ⟨w.heap.size, 1, none⟩ = some (.int .i64 a) := (K5.out.at (w.heap.size) [.int .i64 i, .int .i64 a] (by simp)).c 1 rfl
  go_wp2_with fail
  refine (A3.out _ (hL.out _ K5.out.1)).mono ?_
  rintro e W6 ⟨rfl, hb⟩
  have K6 : Hid (BS w [(W3.heap.size, [.int .i64 i, .int .i64 a]), (W1.heap.size, [.int .i64 s, .int .i64 t]), (w.heap.size + 1, [.int .i64 j, .int .i64 b]), (w.heap.size, [.int .i64 i, .int .i64 a])] W6) := K5.out.below hb
  clear c5_0_0 c5_0_1 c5_1_0 c5_1_1 c5_2_0 c5_2_1 c5_3_0 c5_3_1
  clear hb K5
  have c6_0_0 : W6.cell? ⟨W3.heap.size, 0, none⟩ = some (.int .i64 i) := (K6.out.at (W3.heap.size) [.int .i64 i, .int .i64 a] (by simp)).c 0 rfl
  have c6_0_1 : W6.cell? ⟨W3.heap.size, 1, none⟩ = some (.int .i64 a) := (K6.out.at (W3.heap.size) [.int .i64 i, .int .i64 a] (by simp)).c 1 rfl
  have c6_1_0 : W6.cell? ⟨W1.heap.size, 0, none⟩ = some (.int .i64 s) := (K6.out.at (W1.heap.size) [.int .i64 s, .int .i64 t] (by simp)).c 0 rfl
  have c6_1_1 : W6.cell? ⟨W1.heap.size, 1, none⟩ = some (.int .i64 t) := (K6.out.at (W1.heap.size) [.int .i64 s, .int .i64 t] (by simp)).c 1 rfl
  have c6_2_0 : W6.cell? ⟨w.heap.size + 1, 0, none⟩ = some (.int .i64 j) := (K6.out.at (w.heap.size + 1) [.int .i64 j, .int .i64 b] (by simp)).c 0 rfl
  have c6_2_1 : W6.cell? ⟨w.heap.size + 1, 1, none⟩ = some (.int .i64 b) := (K6.out.at (w.heap.size + 1) [.int .i64 j, .int .i64 b] (by simp)).c 1 rfl
  have c6_3_0 : W6.cell? ⟨w.heap.size, 0, none⟩ = some (.int .i64 i) := (K6.out.at (w.heap.size) [.int .i64 i, .int .i64 a] (by simp)).c 0 rfl
  have c6_3_1 : W6.cell? ⟨w.heap.size, 1, none⟩ = some (.int .i64 a) := (K6.out.at (w.heap.size) [.int .i64 i, .int .i64 a] (by simp)).c 1 rfl
  have Mz6 : Hid (BS w [(W6.heap.size, [.int .i64 i, .int .i64 a]), (W3.heap.size, [.int .i64 i, .int .i64 a]), (W1.heap.size, [.int .i64 s, .int .i64 t]), (w.heap.size + 1, [.int .i64 j, .int .i64 b]), (w.heap.size, [.int .i64 i, .int .i64 a])] (W6.alloc (.cells #[.int .i64 i, .int .i64 a] 23))) := K6.out.new [.int .i64 i, .int .i64 a] 23 rfl
  go_upto_region 10 with fail
  refine gen_to (BS w [(W6.heap.size, [.int .i64 i, .int .i64 a]), (W3.heap.size, [.int .i64 i, .int .i64 a]), (W1.heap.size, [.int .i64 s, .int .i64 t]), (w.heap.size + 1, [.int .i64 j, .int .i64 b]), (w.heap.size, [.int .i64 i, .int .i64 a])]) Mz6.out ?_
  clear c6_0_0 c6_0_1 c6_1_0 c6_1_1 c6_2_0 c6_2_1 c6_3_0 c6_3_1
  intro W7 K7'
  have K7 : Hid (BS w [(W6.heap.size, [.int .i64 i, .int .i64 a]), (W3.heap.size, [.int .i64 i, .int .i64 a]), (W1.heap.size, [.int .i64 s, .int .i64 t]), (w.heap.size + 1, [.int .i64 j, .int .i64 b]), (w.heap.size, [.int .i64 i, .int .i64 a])] W7) := K7'
  clear K7' Mz6 K6
  have c7_0_0 : W7.cell? ⟨W6.heap.size, 0, none⟩ = some (.int .i64 i) := (K7.out.at (W6.heap.size) [.int .i64 i, .int .i64 a] (by simp)).c 0 rfl
  have c7_0_1 : W7.cell? ⟨W6.heap.size, 1, none⟩ = some (.int .i64 a) := (K7.out.at (W6.heap.size) [.int .i64 i, .int .i64 a] (by simp)).c 1 rfl
  have c7_1_0 : W7.cell? ⟨W3.heap.size, 0, none⟩ = some (.int .i64 i) := (K7.out.at (W3.heap.size) [.int .i64 i, .int .i64 a] (by simp)).c 0 rfl
  have c7_1_1 : W7.cell? ⟨W3.heap.size, 1, none⟩ = some (.int .i64 a) := (K7.out.at (W3.heap.size) [.int .i64 i, .int .i64 a] (by simp)).c 1 rfl
  have c7_2_0 : W7.cell? ⟨W1.heap.size, 0, none⟩ = some (.int .i64 s) := (K7.out.at (W1.heap.size) [.int .i64 s, .int .i64 t] (by simp)).c 0 rfl
  have c7_2_1 : W7.cell? ⟨W1.heap.size, 1, none⟩ = some (.int .i64 t) := (K7.out.at (W1.heap.size) [.int .i64 s, .int .i64 t] (by simp)).c 1 rfl
  have c7_3_0 : W7.cell? ⟨w.heap.size + 1, 0, none⟩ = some (.int .i64 j) := (K7.out.at (w.heap.size + 1) [.int .i64 j, .int .i64 b] (by simp)).c 0 rfl
  have c7_3_1 : W7.cell? ⟨w.heap.size + 1, 1, none⟩ = some (.int .i64 b) := (K7.out.at (w.heap.size + 1) [.int .i64 j, .int .i64 b] (by simp)).c 1 rfl
  have c7_4_0 : W7.cell? ⟨w.heap.size, 0, none⟩ = some (.int .i64 i) := (K7.out.at (w.heap.size) [.int .i64 i, .int .i64 a] (by simp)).c 0 rfl
  have c7_4_1 : W7.cell? ⟨w.heap.size, 1, none⟩ = some (.int .i64 a) := (K7.out.at (w.heap.size) [.int .i64 i, .int .i64 a] (by simp)).c 1 rfl
  go_wp2_with fail
  refine (C1.out _ (hL.out _ K7.out.1)).mono ?_
  rintro e W8 ⟨rfl, hb⟩
  have K8 : Hid (BS w [(W6.heap.size, [.int .i64 i, .int .i64 a]), (W3.heap.size, [.int .i64 i, .int .i64 a]), (W1.heap.size, [.int .i64 s, .int .i64 t]), (w.heap.size + 1, [.int .i64 j, .int .i64 b]), (w.heap.size, [.int .i64 i, .int .i64 a])] W8) := K7.out.below hb
  clear c7_0_0 c7_0_1 c7_1_0 c7_1_1 c7_2_0 c7_2_1 c7_3_0 c7_3_1 c7_4_0 c7_4_1
  clear hb K7
  have c8_0_0 : W8.cell? ⟨W6.heap.size, 0, none⟩ = some (.int .i64 i) := (K8.out.at (W6.heap.size) [.int .i64 i, .int .i64 a] (by simp)).c 0 rfl
  have c8_0_1 : W8.cell? ⟨W6.heap.size, 1, none⟩ = some (.int .i64 a) := (K8.out.at (W6.heap.size) [.int .i64 i, .int .i64 a] (by simp)).c 1 rfl
  have c8_1_0 : W8.cell? ⟨W3.heap.size, 0, none⟩ = some (.int .i64 i) := (K8.out.at (W3.heap.size) [.int .i64 i, .int .i64 a] (by simp)).c 0 rfl
  have c8_1_1 : W8.cell? ⟨W3.heap.size, 1, none⟩ = some (.int .i64 a) := (K8.out.at (W3.heap.size) [.int .i64 i, .int .i64 a] (by simp)).c 1 rfl
  have c8_2_0 : W8.cell? ⟨W1.heap.size, 0, none⟩ = some (.int .i64 s) := (K8.out.at (W1.heap.size) [.int .i64 s, .int .i64 t] (by simp)).c 0 rfl
  have c8_2_1 : W8.cell? ⟨W1.heap.size, 1, none⟩ = some (.int .i64 t) := (K8.out.at (W1.heap.size) [.int .i64 s, .int .i64 t] (by simp)).c 1 rfl
  have c8_3_0 : W8.cell? ⟨w.heap.size + 1, 0, none⟩ = some (.int .i64 j) := (K8.out.at (w.heap.size + 1) [.int .i64 j, .int .i64 b] (by simp)).c 0 rfl
  have c8_3_1 : W8.cell? ⟨w.heap.size + 1, 1, none⟩ = some (.int .i64 b) := (K8.out.at (w.heap.size + 1) [.int .i64 j, .int .i64 b] (by simp)).c 1 rfl
  have c8_4_0 : W8.cell? ⟨w.heap.size, 0, none⟩ = some (.int .i64 i) := (K8.out.at (w.heap.size) [.int .i64 i, .int .i64 a] (by simp)).c 0 rfl
  have c8_4_1 : W8.cell? ⟨w.heap.size, 1, none⟩ = some (.int .i64 a) := (K8.out.at (w.heap.size) [.int .i64 i, .int .i64 a] (by simp)).c 1 rfl
  go_wp2_with fail
  refine (C1.out _ (hL.out _ K8.out.1)).mono ?_
  rintro e W9 ⟨rfl, hb⟩
  have K9 : Hid (BS w [(W6.heap.size, [.int .i64 i, .int .i64 a]), (W3.heap.size, [.int .i64 i, .int .i64 a]), (W1.heap.size, [.int .i64 s, .int .i64 t]), (w.heap.size + 1, [.int .i64 j, .int .i64 b]), (w.heap.size, [.int .i64 i, .int .i64 a])] W9) := K8.out.below hb
  clear c8_0_0 c8_0_1 c8_1_0 c8_1_1 c8_2_0 c8_2_1 c8_3_0 c8_3_1 c8_4_0 c8_4_1
  clear hb K8
  have c9_0_0 : W9.cell? ⟨W6.heap.size, 0, none⟩ = some (.int .i64 i) := (K9.out.at (W6.heap.size) [.int .i64 i, .int .i64 a] (by simp)).c 0 rfl
  have c9_0_1 : W9.cell? ⟨W6.heap.size, 1, none⟩ = some (.int .i64 a) := (K9.out.at (W6.heap.size) [.int .i64 i, .int .i64 a] (by simp)).c 1 rfl
  have c9_1_0 : W9.cell? ⟨W3.heap.size, 0, none⟩ = some (.int .i64 i) := (K9.out.at (W3.heap.size) [.int .i64 i, .int .i64 a] (by simp)).c 0 rfl
  have c9_1_1 : W9.cell? ⟨W3.heap.size, 1, none⟩ = some (.int .i64 a) := (K9.out.at (W3.heap.size) [.int .i64 i, .int .i64 a] (by simp)).c 1 rfl
  have c9_2_0 : W9.cell? ⟨W1.heap.size, 0, none⟩ = some (.int .i64 s) := (K9.out.at (W1.heap.size) [.int .i64 s, .int .i64 t] (by simp)).c 0 rfl
  have c9_2_1 : W9.cell? ⟨W1.heap.size, 1, none⟩ = some (.int .i64 t) := (K9.out.at (W1.heap.size) [.int .i64 s, .int .i64 t] (by simp)).c 1 rfl
  have c9_3_0 : W9.cell? ⟨w.heap.size + 1, 0, none⟩ = some (.int .i64 j) := (K9.out.at (w.heap.size + 1) [.int .i64 j, .int .i64 b] (by simp)).c 0 rfl
  have c9_3_1 : W9.cell? ⟨w.heap.size + 1, 1, none⟩ = some (.int .i64 b) := (K9.out.at (w.heap.size + 1) [.int .i64 j, .int .i64 b] (by simp)).c 1 rfl
  have c9_4_0 : W9.cell? ⟨w.heap.size, 0, none⟩ = some (.int .i64 i) := (K9.out.at (w.heap.size) [.int .i64 i, .int .i64 a] (by simp)).c 0 rfl
  have c9_4_1 : W9.cell? ⟨w.heap.size, 1, none⟩ = some (.int .i64 a) := (K9.out.at (w.heap.size) [.int .i64 i, .int .i64 a] (by simp)).c 1 rfl
  go_wp2_with fail
  refine (KN.out _ (hL.out _ K9.out.1)).mono ?_
  rintro e W10 ⟨rfl, hb⟩
  have K10 : Hid (BS w [(W6.heap.size, [.int .i64 i, .int .i64 a]), (W3.heap.size, [.int .i64 i, .int .i64 a]), (W1.heap.size, [.int .i64 s, .int .i64 t]), (w.heap.size + 1, [.int .i64 j, .int .i64 b]), (w.heap.size, [.int .i64 i, .int .i64 a])] W10) := K9.out.below hb
  clear c9_0_0 c9_0_1 c9_1_0 c9_1_1 c9_2_0 c9_2_1 c9_3_0 c9_3_1 c9_4_0 c9_4_1
  clear hb K9
  have c10_0_0 : W10.cell? ⟨W6.heap.size, 0, none⟩ = some (.int .i64 i) := (K10.out.at (W6.heap.size) [.int .i64 i, .int .i64 a] (by simp)).c 0 rfl
  have c10_0_1 : W10.cell? ⟨W6.heap.size, 1, none⟩ = some (.int .i64 a) := (K10.out.at (W6.heap.size) [.int .i64 i, .int .i64 a] (by simp)).c 1 rfl
  have c10_1_0 : W10.cell? ⟨W3.heap.size, 0, none⟩ = some (.int .i64 i) := (K10.out.at (W3.heap.size) [.int .i64 i, .int .i64 a] (by simp)).c 0 rfl
  have c10_1_1 : W10.cell? ⟨W3.heap.size, 1, none⟩ = some (.int .i64 a) := (K10.out.at (W3.heap.size) [.int .i64 i, .int .i64 a] (by simp)).c 1 rfl
  have c10_2_0 : W10.cell? ⟨W1.heap.size, 0, none⟩ = some (.int .i64 s) := (K10.out.at (W1.heap.size) [.int .i64 s, .int .i64 t] (by simp)).c 0 rfl
  have c10_2_1 : W10.cell? ⟨W1.heap.size, 1, none⟩ = some (.int .i64 t) := (K10.out.at (W1.heap.size) [.int .i64 s, .int .i64 t] (by simp)).c 1 rfl
  have c10_3_0 : W10.cell? ⟨w.heap.size + 1, 0, none⟩ = some (.int .i64 j) := (K10.out.at (w.heap.size + 1) [.int .i64 j, .int .i64 b] (by simp)).c 0 rfl
  have c10_3_1 : W10.cell? ⟨w.heap.size + 1, 1, none⟩ = some (.int .i64 b) := (K10.out.at (w.heap.size + 1) [.int .i64 j, .int .i64 b] (by simp)).c 1 rfl
  have c10_4_0 : W10.cell? ⟨w.heap.size, 0, none⟩ = some (.int .i64 i) := (K10.out.at (w.heap.size) [.int .i64 i, .int .i64 a] (by simp)).c 0 rfl
  have c10_4_1 : W10.cell? ⟨w.heap.size, 1, none⟩ = some (.int .i64 a) := (K10.out.at (w.heap.size) [.int .i64 i, .int .i64 a] (by simp)).c 1 rfl
  go_wp2
  go_ret
  exact ⟨ret_bool (by simp; omega), K10.out.1⟩

set_option maxRecDepth 100000 in
set_option maxHeartbeats 4000000 in
theorem core_DayBack_cm (i a j b n s t D : Int) (hn : -1099511627776 < n) (hn2 : n ≤ 9223372036854775807) (hD : D < 0)
    (A1 : Hid (∀ w : World, Cvl.Lens w → Calls Tryd.prog 16 #[.agg #[.int .i64 i, .int .i64 a], .int .i64 n] w fun r' w' => r' = .returned (.tuple #[.agg #[.int .i64 s, .int .i64 t], .int .i64 0]) ∧ Below w.heap.size w w'))
    (A2 : Hid (∀ w : World, Cvl.Lens w → Calls Tryd.prog 16 #[.agg #[.int .i64 s, .int .i64 t], .int .i64 (-n)] w fun r' w' => r' = .returned (.tuple #[.agg #[.int .i64 i, .int .i64 a], .int .i64 0]) ∧ Below w.heap.size w w'))
    (S1 : Hid (∀ w : World, Cvl.Lens w → Calls Tryd.prog 18 #[.agg #[.int .i64 i, .int .i64 a], .agg #[.int .i64 j, .int .i64 b]] w fun r' w' => r' = .returned (.tuple #[.int .i64 D, .int .i64 0]) ∧ Below w.heap.size w w'))
    (A3 : Hid (∀ w : World, Cvl.Lens w → Calls Tryd.prog 16 #[.agg #[.int .i64 j, .int .i64 b], .int .i64 D] w fun r' w' => r' = .returned (.tuple #[.agg #[.int .i64 i, .int .i64 a], .int .i64 0]) ∧ Below w.heap.size w w'))
    (C1 : Hid (∀ w : World, Cvl.Lens w → Calls Tryd.prog 22 #[.agg #[.int .i64 i, .int .i64 a], .agg #[.int .i64 j, .int .i64 b]] w fun r' w' => r' = .returned (.int .i64 (-1)) ∧ Below w.heap.size w w'))
    (KN : Hid (∀ w : World, Cvl.Lens w → Calls Tryd.prog 15 #[] w fun r' w' => r' = .returned (.bool true) ∧ Below w.heap.size w w'))
    (w : World) (hL : Hid (∀ W : World, Below w.heap.size w W → Cvl.Lens W)) :
    Calls Tryd.prog 6 #[.agg #[.int .i64 i, .int .i64 a], .agg #[.int .i64 j, .int .i64 b], .int .i64 n] w fun r' w' => r' = .returned (.bool true) ∧ Below w.heap.size w w' := by
  have d1 : ¬ 0 < D := by omega
  have K0 : Hid (BS w [(w.heap.size + 1, [.int .i64 j, .int .i64 b]), (w.heap.size, [.int .i64 i, .int .i64 a])] ((w.alloc (.cells #[.int .i64 i, .int .i64 a] 23)).alloc (.cells #[.int .i64 j, .int .i64 b] 23))) := (((BS.start w).new [.int .i64 i, .int .i64 a] 23 rfl).new [.int .i64 j, .int .i64 b] 23 (by simp))
  go_enter Tryd.func6, Tryd.ntmps6
  go_wp2_with fail
  refine (A1.out _ (hL.out _ K0.out.1)).mono ?_
  rintro e W1 ⟨rfl, hb⟩
  have K1 : Hid (BS w [(w.heap.size + 1, [.int .i64 j, .int .i64 b]), (w.heap.size, [.int .i64 i, .int .i64 a])] W1) := K0.out.below hb
  clear hb K0
  have c1_0_0 : W1.cell? ⟨w.heap.size + 1, 0, none⟩ = some (.int .i64 j) := (K1.out.at (w.heap.size + 1) [.int .i64 j, .int .i64 b] (by simp)).c 0 rfl
  have c1_0_1 : W1.cell? ⟨w.heap.size + 1, 1, none⟩ = some (.int .i64 b) := (K1.out.at (w.heap.size + 1) [.int .i64 j, .int .i64 b] (by simp)).c 1 rfl
  have c1_1_0 : W1.cell? ⟨w.heap.size, 0, none⟩ = some (.int .i64 i) := (K1.out.at (w.heap.size) [.int .i64 i, .int .i64 a] (by simp)).c 0 rfl
  have c1_1_1 : W1.cell? ⟨w.heap.size, 1, none⟩ = some (.int .i64 a) := (K1.out.at (w.heap.size) [.int .i64 i, .int .i64 a] (by simp)).c 1 rfl
  have Mz1 : Hid (BS w [(W1.heap.size, [.int .i64 s, .int .i64 t]), (w.heap.size + 1, [.int .i64 j, .int .i64 b]), (w.heap.size, [.int .i64 i, .int .i64 a])] (W1.alloc (.cells #[.int .i64 s, .int .i64 t] 23))) := K1.out.new [.int .i64 s, .int .i64 t] 23 rfl
  go_upto_region 2 with fail
  refine gen_to (BS w [(W1.heap.size, [.int .i64 s, .int .i64 t]), (w.heap.size + 1, [.int .i64 j, .int .i64 b]), (w.heap.size, [.int .i64 i, .int .i64 a])]) Mz1.out ?_
  clear c1_0_0 c1_0_1 c1_1_0 c1_1_1
  intro W2 K2'
  have K2 : Hid (BS w [(W1.heap.size, [.int .i64 s, .int .i64 t]), (w.heap.size + 1, [.int .i64 j, .int .i64 b]), (w.heap.size, [.int .i64 i, .int .i64 a])] W2) := K2'
  clear K2' Mz1 K1
  have c2_0_0 : W2.cell? ⟨W1.heap.size, 0, none⟩ = some (.int .i64 s) := (K2.out.at (W1.heap.size) [.int .i64 s, .int .i64 t] (by simp)).c 0 rfl
  have c2_0_1 : W2.cell? ⟨W1.heap.size, 1, none⟩ = some (.int .i64 t) := (K2.out.at (W1.heap.size) [.int .i64 s, .int .i64 t] (by simp)).c 1 rfl
  have c2_1_0 : W2.cell? ⟨w.heap.size + 1, 0, none⟩ = some (.int .i64 j) := (K2.out.at (w.heap.size + 1) [.int .i64 j, .int .i64 b] (by simp)).c 0 rfl
  have c2_1_1 : W2.cell? ⟨w.heap.size + 1, 1, none⟩ = some (.int .i64 b) := (K2.out.at (w.heap.size + 1) [.int .i64 j, .int .i64 b] (by simp)).c 1 rfl
  have c2_2_0 : W2.cell? ⟨w.heap.size, 0, none⟩ = some (.int .i64 i) := (K2.out.at (w.heap.size) [.int .i64 i, .int .i64 a] (by simp)).c 0 rfl
  have c2_2_1 : W2.cell? ⟨w.heap.size, 1, none⟩ = some (.int .i64 a) := (K2.out.at (w.heap.size) [.int .i64 i, .int .i64 a] (by simp)).c 1 rfl
  go_wp2_with fail
  refine (A2.out _ (hL.out _ K2.out.1)).mono ?_
  rintro e W3 ⟨rfl, hb⟩
  have K3 : Hid (BS w [(W1.heap.size, [.int .i64 s, .int .i64 t]), (w.heap.size + 1, [.int .i64 j, .int .i64 b]), (w.heap.size, [.int .i64 i, .int .i64 a])] W3) := K2.out.below hb
  clear c2_0_0 c2_0_1 c2_1_0 c2_1_1 c2_2_0 c2_2_1
  clear hb K2
  have c3_0_0 : W3.cell? ⟨W1.heap.size, 0, none⟩ = some (.int .i64 s) := (K3.out.at (W1.heap.size) [.int .i64 s, .int .i64 t] (by simp)).c 0 rfl
  have c3_0_1 : W3.cell? ⟨W1.heap.size, 1, none⟩ = some (.int .i64 t) := (K3.out.at (W1.heap.size) [.int .i64 s, .int .i64 t] (by simp)).c 1 rfl
  have c3_1_0 : W3.cell? ⟨w.heap.size + 1, 0, none⟩ = some (.int .i64 j) := (K3.out.at (w.heap.size + 1) [.int .i64 j, .int .i64 b] (by simp)).c 0 rfl
  have c3_1_1 : W3.cell? ⟨w.heap.size + 1, 1, none⟩ = some (.int .i64 b) := (K3.out.at (w.heap.size + 1) [.int .i64 j, .int .i64 b] (by simp)).c 1 rfl
  have c3_2_0 : W3.cell? ⟨w.heap.size, 0, none⟩ = some (.int .i64 i) := (K3.out.at (w.heap.size) [.int .i64 i, .int .i64 a] (by simp)).c 0 rfl
  have c3_2_1 : W3.cell? ⟨w.heap.size, 1, none⟩ = some (.int .i64 a) := (K3.out.at (w.heap.size) [.int .i64 i, .int .i64 a] (by simp)).c 1 rfl
  have Mz3 : Hid (BS w [(W3.heap.size, [.int .i64 i, .int .i64 a]), (W1.heap.size, [.int .i64 s, .int .i64 t]), (w.heap.size + 1, [.int .i64 j, .int .i64 b]), (w.heap.size, [.int .i64 i, .int .i64 a])] (W3.alloc (.cells #[.int .i64 i, .int .i64 a] 23))) := K3.out.new [.int .i64 i, .int .i64 a] 23 rfl
  go_upto_region 4 with fail
  refine gen_to (BS w [(W3.heap.size, [.int .i64 i, .int .i64 a]), (W1.heap.size, [.int .i64 s, .int .i64 t]), (w.heap.size + 1, [.int .i64 j, .int .i64 b]), (w.heap.size, [.int .i64 i, .int .i64 a])]) Mz3.out ?_
  clear c3_0_0 c3_0_1 c3_1_0 c3_1_1 c3_2_0 c3_2_1
  intro W4 K4'
  have K4 : Hid (BS w [(W3.heap.size, [.int .i64 i, .int .i64 a]), (W1.heap.size, [.int .i64 s, .int .i64 t]), (w.heap.size + 1, [.int .i64 j, .int .i64 b]), (w.heap.size, [.int .i64 i, .int .i64 a])] W4) := K4'
  clear K4' Mz3 K3
  have c4_0_0 : W4.cell? ⟨W3.heap.size, 0, none⟩ = some (.int .i64 i) := (K4.out.at (W3.heap.size) [.int .i64 i, .int .i64 a] (by simp)).c 0 rfl
  have c4_0_1 : W4.cell? ⟨W3.heap.size, 1, none⟩ = some (.int .i64 a) := (K4.out.at (W3.heap.size) [.int .i64 i, .int .i64 a] (by simp)).c 1 rfl
  have c4_1_0 : W4.cell? ⟨W1.heap.size, 0, none⟩ = some (.int .i64 s) := (K4.out.at (W1.heap.size) [.int .i64 s, .int .i64 t] (by simp)).c 0 rfl
  have c4_1_1 : W4.cell? ⟨W1.heap.size, 1, none⟩ = some (.int .i64 t) := (K4.out.at (W1.heap.size) [.int .i64 s, .int .i64 t] (by simp)).c 1 rfl
  have c4_2_0 : W4.cell? ⟨w.heap.size + 1, 0, none⟩ = some (.int .i64 j) := (K4.out.at (w.heap.size + 1) [.int .i64 j, .int .i64 b] (by simp)).c 0 rfl
  have c4_2_1 : W4.cell? ⟨w.heap.size + 1, 1, none⟩ = some (.int .i64 b) := (K4.out.at (w.heap.size + 1) [.int .i64 j, .int .i64 b] (by simp)).c 1 rfl
  have c4_3_0 : W4.cell? ⟨w.heap.size, 0, none⟩ = some (.int .i64 i) := (K4.out.at (w.heap.size) [.int .i64 i, .int .i64 a] (by simp)).c 0 rfl
  have c4_3_1 : W4.cell? ⟨w.heap.size, 1, none⟩ = some (.int .i64 a) := (K4.out.at (w.heap.size) [.int .i64 i, .int .i64 a] (by simp)).c 1 rfl
  go_wp2_with fail
  refine (S1.out _ (hL.out _ K4.out.1)).mono ?_
  rintro e W5 ⟨rfl, hb⟩
  have K5 : Hid (BS w [(W3.heap.size, [.int .i64 i, .int .i64 a]), (W1.heap.size, [.int .i64 s, .int .i64 t]), (w.heap.size + 1, [.int .i64 j, .int .i64 b]), (w.heap.size, [.int .i64 i, .int .i64 a])] W5) := K4.out.below hb
  clear c4_0_0 c4_0_1 c4_1_0 c4_1_1 c4_2_0 c4_2_1 c4_3_0 c4_3_1
  clear hb K4
  have c5_0_0 : W5.cell? ⟨W3.heap.size, 0, none⟩ = some (.int .i64 i) := (K5.out.at (W3.heap.size) [.int .i64 i, .int .i64 a] (by simp)).c 0 rfl
  have c5_0_1 : W5.cell? ⟨W3.heap.size, 1, none⟩ = some (.int .i64 a) := (K5.out.at (W3.heap.size) [.int .i64 i, .int .i64 a] (by simp)).c 1 rfl
  have c5_1_0 : W5.cell? ⟨W1.heap.size, 0, none⟩ = some (.int .i64 s) := (K5.out.at (W1.heap.size) [.int .i64 s, .int .i64 t] (by simp)).c 0 rfl
  have c5_1_1 : W5.cell? ⟨W1.heap.size, 1, none⟩ = some (.int .i64 t) := (K5.out.at (W1.heap.size) [.int .i64 s, .int .i64 t] (by simp)).c 1 rfl
  have c5_2_0 : W5.cell? ⟨w.heap.size + 1, 0, none⟩ = some (.int .i64 j) := (K5.out.at (w.heap.size + 1) [.int .i64 j, .int .i64 b] (by simp)).c 0 rfl
  have c5_2_1 : W5.cell? ⟨w.heap.size + 1, 1, none⟩ = some (.int .i64 b) := (K5.out.at (w.heap.size + 1) [.int .i64 j, .int .i64 b] (by simp)).c 1 rfl
  have c5_3_0 : W5.cell? ⟨w.heap.size, 0, none⟩ = some (.int .i64 i) := (K5.out.at (w.heap.size) [.int .i64 i, .int .i64 a] (by simp)).c 0 rfl
  have c5_3_1 : W5.cell? ⟨w.heap.size, 1, none⟩ = some (.int .i64 a) := (K5.out.at (w.heap.size) [.int .i64 i, .int .i64 a] (by simp)).c 1 rfl
  go_wp2_with fail
  refine (A3.out _ (hL.out _ K5.out.1)).mono ?_
  rintro e W6 ⟨rfl, hb⟩
  have K6 : Hid (BS w [(W3.heap.size, [.int .i64 i, .int .i64 a]), (W1.heap.size, [.int .i64 s, .int .i64 t]), (w.heap.size + 1, [.int .i64 j, .int .i64 b]), (w.heap.size, [.int .i64 i, .int .i64 a])] W6) := K5.out.below hb
  clear c5_0_0 c5_0_1 c5_1_0 c5_1_1 c5_2_0 c5_2_1 c5_3_0 c5_3_1
  clear hb K5
  have c6_0_0 : W6.cell? ⟨W3.heap.size, 0, none⟩ = some (.int .i64 i) := (K6.out.at (W3.heap.size) [.int .i64 i, .int .i64 a] (by simp)).c 0 rfl
  have c6_0_1 : W6.cell? ⟨W3.heap.size, 1, none⟩ = some (.int .i64 a) := (K6.out.at (W3.heap.size) [.int .i64 i, .int .i64 a] (by simp)).c 1 rfl
  have c6_1_0 : W6.cell? ⟨W1.heap.size, 0, none⟩ = some (.int .i64 s) := (K6.out.at (W1.heap.size) [.int .i64 s, .int .i64 t] (by simp)).c 0 rfl
  have c6_1_1 : W6.cell? ⟨W1.heap.size, 1, none⟩ = some (.int .i64 t) := (K6.out.at (W1.heap.size) [.int .i64 s, .int .i64 t] (by simp)).c 1 rfl
  have c6_2_0 : W6.cell? ⟨w.heap.size + 1, 0, none⟩ = some (.int .i64 j) := (K6.out.at (w.heap.size + 1) [.int .i64 j, .int .i64 b] (by simp)).c 0 rfl
  have c6_2_1 : W6.cell? ⟨w.heap.size + 1, 1, none⟩ = some (.int .i64 b) := (K6.out.at (w.heap.size + 1) [.int .i64 j, .int .i64 b] (by simp)).c 1 rfl
  have c6_3_0 : W6.cell? ⟨w.heap.size, 0, none⟩ = some (.int .i64 i) := (K6.out.at (w.heap.size) [.int .i64 i, .int .i64 a] (by simp)).c 0 rfl
  have c6_3_1 : W6.cell? ⟨w.heap.size, 1, none⟩ = some (.int .i64 a) := (K6.out.at (w.heap.size) [.int .i64 i, .int .i64 a] (by simp)).c 1 rfl
  have Mz6 : Hid (BS w [(W6.heap.size, [.int .i64 i, .int .i64 a]), (W3.heap.size, [.int .i64 i, .int .i64 a]), (W1.heap.size, [.int .i64 s, .int .i64 t]), (w.heap.size + 1, [.int .i64 j, .int .i64 b]), (w.heap.size, [.int .i64 i, .int .i64 a])] (W6.alloc (.cells #[.int .i64 i, .int .i64 a] 23))) := K6.out.new [.int .i64 i, .int .i64 a] 23 rfl
  go_upto_region 10 with fail
  refine gen_to (BS w [(W6.heap.size, [.int .i64 i, .int .i64 a]), (W3.heap.size, [.int .i64 i, .int .i64 a]), (W1.heap.size, [.int .i64 s, .int .i64 t]), (w.heap.size + 1, [.int .i64 j, .int .i64 b]), (w.heap.size, [.int .i64 i, .int .i64 a])]) Mz6.out ?_
  clear c6_0_0 c6_0_1 c6_1_0 c6_1_1 c6_2_0 c6_2_1 c6_3_0 c6_3_1
  intro W7 K7'
  have K7 : Hid (BS w [(W6.heap.size, [.int .i64 i, .int .i64 a]), (W3.heap.size, [.int .i64 i, .int .i64 a]), (W1.heap.size, [.int .i64 s, .int .i64 t]), (w.heap.size + 1, [.int .i64 j, .int .i64 b]), (w.heap.size, [.int .i64 i, .int .i64 a])] W7) := K7'
  clear K7' Mz6 K6
  have c7_0_0 : W7.cell? ⟨W6.heap.size, 0, none⟩ = some (.int .i64 i) := (K7.out.at (W6.heap.size) [.int .i64 i, .int .i64 a] (by simp)).c 0 rfl
  have c7_0_1 : W7.cell? ⟨W6.heap.size, 1, none⟩ = some (.int .i64 a) := (K7.out.at (W6.heap.size) [.int .i64 i, .int .i64 a] (by simp)).c 1 rfl
  have c7_1_0 : W7.cell? ⟨W3.heap.size, 0, none⟩ = some (.int .i64 i) := (K7.out.at (W3.heap.size) [.int .i64 i, .int .i64 a] (by simp)).c 0 rfl
  have c7_1_1 : W7.cell? ⟨W3.heap.size, 1, none⟩ = some (.int .i64 a) := (K7.out.at (W3.heap.size) [.int .i64 i, .int .i64 a] (by simp)).c 1 rfl
  have c7_2_0 : W7.cell? ⟨W1.heap.size, 0, none⟩ = some (.int .i64 s) := (K7.out.at (W1.heap.size) [.int .i64 s, .int .i64 t] (by simp)).c 0 rfl
  have c7_2_1 : W7.cell? ⟨W1.heap.size, 1, none⟩ = some (.int .i64 t) := (K7.out.at (W1.heap.size) [.int .i64 s, .int .i64 t] (by simp)).c 1 rfl
  have c7_3_0 : W7.cell? ⟨w.heap.size + 1, 0, none⟩ = some (.int .i64 j) := (K7.out.at (w.heap.size + 1) [.int .i64 j, .int .i64 b] (by simp)).c 0 rfl
  have c7_3_1 : W7.cell? ⟨w.heap.size + 1, 1, none⟩ = some (.int .i64 b) := (K7.out.at (w.heap.size + 1) [.int .i64 j, .int .i64 b] (by simp)).c 1 rfl
  have c7_4_0 : W7.cell? ⟨w.heap.size, 0, none⟩ = some (.int .i64 i) := (K7.out.at (w.heap.size) [.int .i64 i, .int .i64 a] (by simp)).c 0 rfl
  have c7_4_1 : W7.cell? ⟨w.heap.size, 1, none⟩ = some (.int .i64 a) := (K7.out.at (w.heap.size) [.int .i64 i, .int .i64 a] (by simp)).c 1 rfl
  go_wp2_with fail
  refine (C1.out _ (hL.out _ K7.out.1)).mono ?_
  rintro e W8 ⟨rfl, hb⟩
  have K8 : Hid (BS w [(W6.heap.size, [.int .i64 i, .int .i64 a]), (W3.heap.size, [.int .i64 i, .int .i64 a]), (W1.heap.size, [.int .i64 s, .int .i64 t]), (w.heap.size + 1, [.int .i64 j, .int .i64 b]), (w.heap.size, [.int .i64 i, .int .i64 a])] W8) := K7.out.below hb
  clear c7_0_0 c7_0_1 c7_1_0 c7_1_1 c7_2_0 c7_2_1 c7_3_0 c7_3_1 c7_4_0 c7_4_1
  clear hb K7
  have c8_0_0 : W8.cell? ⟨W6.heap.size, 0, none⟩ = some (.int .i64 i) := (K8.out.at (W6.heap.size) [.int .i64 i, .int .i64 a] (by simp)).c 0 rfl
  have c8_0_1 : W8.cell? ⟨W6.heap.size, 1, none⟩ = some (.int .i64 a) := (K8.out.at (W6.heap.size) [.int .i64 i, .int .i64 a] (by simp)).c 1 rfl
  have c8_1_0 : W8.cell? ⟨W3.heap.size, 0, none⟩ = some (.int .i64 i) := (K8.out.at (W3.heap.size) [.int .i64 i, .int .i64 a] (by simp)).c 0 rfl
  have c8_1_1 : W8.cell? ⟨W3.heap.size, 1, none⟩ = some (.int .i64 a) := (K8.out.at (W3.heap.size) [.int .i64 i, .int .i64 a] (by simp)).c 1 rfl
  have c8_2_0 : W8.cell? ⟨W1.heap.size, 0, none⟩ = some (.int .i64 s) := (K8.out.at (W1.heap.size) [.int .i64 s, .int .i64 t] (by simp)).c 0 rfl
  have c8_2_1 : W8.cell? ⟨W1.heap.size, 1, none⟩ = some (.int .i64 t) := (K8.out.at (W1.heap.size) [.int .i64 s, .int .i64 t] (by simp)).c 1 rfl
  have c8_3_0 : W8.cell? ⟨w.heap.size + 1, 0, none⟩ = some (.int .i64 j) := (K8.out.at (w.heap.size + 1) [.int .i64 j, .int .i64 b] (by simp)).c 0 rfl
  have c8_3_1 : W8.cell? ⟨w.heap.size + 1, 1, none⟩ = some (.int .i64 b) := (K8.out.at (w.heap.size + 1) [.int .i64 j, .int .i64 b] (by simp)).c 1 rfl
  have c8_4_0 : W8.cell? ⟨w.heap.size, 0, none⟩ = some (.int .i64 i) := (K8.out.at (w.heap.size) [.int .i64 i, .int .i64 a] (by simp)).c 0 rfl
  have c8_4_1 : W8.cell? ⟨w.heap.size, 1, none⟩ = some (.int .i64 a) := (K8.out.at (w.heap.size) [.int .i64 i, .int .i64 a] (by simp)).c 1 rfl
  go_wp2_with fail
  refine (C1.out _ (hL.out _ K8.out.1)).mono ?_
  rintro e W9 ⟨rfl, hb⟩
  have K9 : Hid (BS w [(W6.heap.size, [.int .i64 i, .int .i64 a]), (W3.heap.size, [.int .i64 i, .int .i64 a]), (W1.heap.size, [.int .i64 s, .int .i64 t]), (w.heap.size + 1, [.int .i64 j, .int .i64 b]), (w.heap.size, [.int .i64 i, .int .i64 a])] W9) := K8.out.below hb
  clear c8_0_0 c8_0_1 c8_1_0 c8_1_1 c8_2_0 c8_2_1 c8_3_0 c8_3_1 c8_4_0 c8_4_1
  clear hb K8
  have c9_0_0 : W9.cell? ⟨W6.heap.size, 0, none⟩ = some (.int .i64 i) := (K9.out.at (W6.heap.size) [.int .i64 i, .int .i64 a] (by simp)).c 0 rfl
  have c9_0_1 : W9.cell? ⟨W6.heap.size, 1, none⟩ = some (.int .i64 a) := (K9.out.at (W6.heap.size) [.int .i64 i, .int .i64 a] (by simp)).c 1 rfl
  have c9_1_0 : W9.cell? ⟨W3.heap.size, 0, none⟩ = some (.int .i64 i) := (K9.out.at (W3.heap.size) [.int .i64 i, .int .i64 a] (by simp)).c 0 rfl
  have c9_1_1 : W9.cell? ⟨W3.heap.size, 1, none⟩ = some (.int .i64 a) := (K9.out.at (W3.heap.size) [.int .i64 i, .int .i64 a] (by simp)).c 1 rfl
  have c9_2_0 : W9.cell? ⟨W1.heap.size, 0, none⟩ = some (.int .i64 s) := (K9.out.at (W1.heap.size) [.int .i64 s, .int .i64 t] (by simp)).c 0 rfl
  have c9_2_1 : W9.cell? ⟨W1.heap.size, 1, none⟩ = some (.int .i64 t) := (K9.out.at (W1.heap.size) [.int .i64 s, .int .i64 t] (by simp)).c 1 rfl
  have c9_3_0 : W9.cell? ⟨w.heap.size + 1, 0, none⟩ = some (.int .i64 j) := (K9.out.at (w.heap.size + 1) [.int .i64 j, .int .i64 b] (by simp)).c 0 rfl
  have c9_3_1 : W9.cell? ⟨w.heap.size + 1, 1, none⟩ = some (.int .i64 b) := (K9.out.at (w.heap.size + 1) [.int .i64 j, .int .i64 b] (by simp)).c 1 rfl
  have c9_4_0 : W9.cell? ⟨w.heap.size, 0, none⟩ = some (.int .i64 i) := (K9.out.at (w.heap.size) [.int .i64 i, .int .i64 a] (by simp)).c 0 rfl
  have c9_4_1 : W9.cell? ⟨w.heap.size, 1, none⟩ = some (.int .i64 a) := (K9.out.at (w.heap.size) [.int .i64 i, .int .i64 a] (by simp)).c 1 rfl
  go_wp2_with fail
  refine (KN.out _ (hL.out _ K9.out.1)).mono ?_
  rintro e W10 ⟨rfl, hb⟩
  have K10 : Hid (BS w [(W6.heap.size, [.int .i64 i, .int .i64 a]), (W3.heap.size, [.int .i64 i, .int .i64 a]), (W1.heap.size, [.int .i64 s, .int .i64 t]), (w.heap.size + 1, [.int .i64 j, .int .i64 b]), (w.heap.size, [.int .i64 i, .int .i64 a])] W10) := K9.out.below hb
  clear c9_0_0 c9_0_1 c9_1_0 c9_1_1 c9_2_0 c9_2_1 c9_3_0 c9_3_1 c9_4_0 c9_4_1
  clear hb K9
  have c10_0_0 : W10.cell? ⟨W6.heap.size, 0, none⟩ = some (.int .i64 i) := (K10.out.at (W6.heap.size) [.int .i64 i, .int .i64 a] (by simp)).c 0 rfl
  have c10_0_1 : W10.cell? ⟨W6.heap.size, 1, none⟩ = some (.int .i64 a) := (K10.out.at (W6.heap.size) [.int .i64 i, .int .i64 a] (by simp)).c 1 rfl
  have c10_1_0 : W10.cell? ⟨W3.heap.size, 0, none⟩ = some (.int .i64 i) := (K10.out.at (W3.heap.size) [.int .i64 i, .int .i64 a] (by simp)).c 0 rfl
  have c10_1_1 : W10.cell? ⟨W3.heap.size, 1, none⟩ = some (.int .i64 a) := (K10.out.at (W3.heap.size) [.int .i64 i, .int .i64 a] (by simp)).c 1 rfl
  have c10_2_0 : W10.cell? ⟨W1.heap.size, 0, none⟩ = some (.int .i64 s) := (K10.out.at (W1.heap.size) [.int .i64 s, .int .i64 t] (by simp)).c 0 rfl
  have c10_2_1 : W10.cell? ⟨W1.heap.size, 1, none⟩ = some (.int .i64 t) := (K10.out.at (W1.heap.size) [.int .i64 s, .int .i64 t] (by simp)).c 1 rfl
  have c10_3_0 : W10.cell? ⟨w.heap.size + 1, 0, none⟩ = some (.int .i64 j) := (K10.out.at (w.heap.size + 1) [.int .i64 j, .int .i64 b] (by simp)).c 0 rfl
  have c10_3_1 : W10.cell? ⟨w.heap.size + 1, 1, none⟩ = some (.int .i64 b) := (K10.out.at (w.heap.size + 1) [.int .i64 j, .int .i64 b] (by simp)).c 1 rfl
  have c10_4_0 : W10.cell? ⟨w.heap.size, 0, none⟩ = some (.int .i64 i) := (K10.out.at (w.heap.size) [.int .i64 i, .int .i64 a] (by simp)).c 0 rfl
  have c10_4_1 : W10.cell? ⟨w.heap.size, 1, none⟩ = some (.int .i64 a) := (K10.out.at (w.heap.size) [.int .i64 i, .int .i64 a] (by simp)).c 1 rfl
  go_wp2
  go_ret
  exact ⟨ret_bool (by simp; omega), K10.out.1⟩

set_option maxRecDepth 100000 in
set_option maxHeartbeats 4000000 in
theorem core_DayBack_cz (i a j b n s t : Int) (hn : -1099511627776 < n) (hn2 : n ≤ 9223372036854775807)
    (A1 : Hid (∀ w : World, Cvl.Lens w → Calls Tryd.prog 16 #[.agg #[.int .i64 i, .int .i64 a], .int .i64 n] w fun r' w' => r' = .returned (.tuple #[.agg #[.int .i64 s, .int .i64 t], .int .i64 0]) ∧ Below w.heap.size w w'))
    (A2 : Hid (∀ w : World, Cvl.Lens w → Calls Tryd.prog 16 #[.agg #[.int .i64 s, .int .i64 t], .int .i64 (-n)] w fun r' w' => r' = .returned (.tuple #[.agg #[.int .i64 i, .int .i64 a], .int .i64 0]) ∧ Below w.heap.size w w'))
    (S1 : Hid (∀ w : World, Cvl.Lens w → Calls Tryd.prog 18 #[.agg #[.int .i64 i, .int .i64 a], .agg #[.int .i64 j, .int .i64 b]] w fun r' w' => r' = .returned (.tuple #[.int .i64 0, .int .i64 0]) ∧ Below w.heap.size w w'))
    (A3 : Hid (∀ w : World, Cvl.Lens w → Calls Tryd.prog 16 #[.agg #[.int .i64 j, .int .i64 b], .int .i64 0] w fun r' w' => r' = .returned (.tuple #[.agg #[.int .i64 i, .int .i64 a], .int .i64 0]) ∧ Below w.heap.size w w'))
    (C1 : Hid (∀ w : World, Cvl.Lens w → Calls Tryd.prog 22 #[.agg #[.int .i64 i, .int .i64 a], .agg #[.int .i64 j, .int .i64 b]] w fun r' w' => r' = .returned (.int .i64 0) ∧ Below w.heap.size w w'))
    (KN : Hid (∀ w : World, Cvl.Lens w → Calls Tryd.prog 15 #[] w fun r' w' => r' = .returned (.bool true) ∧ Below w.heap.size w w'))
    (w : World) (hL : Hid (∀ W : World, Below w.heap.size w W → Cvl.Lens W)) :
    Calls Tryd.prog 6 #[.agg #[.int .i64 i, .int .i64 a], .agg #[.int .i64 j, .int .i64 b], .int .i64 n] w fun r' w' => r' = .returned (.bool true) ∧ Below w.heap.size w w' := by
  have K0 : Hid (BS w [(w.heap.size + 1, [.int .i64 j, .int .i64 b]), (w.heap.size, [.int .i64 i, .int .i64 a])] ((w.alloc (.cells #[.int .i64 i, .int .i64 a] 23)).alloc (.cells #[.int .i64 j, .int .i64 b] 23))) := (((BS.start w).new [.int .i64 i, .int .i64 a] 23 rfl).new [.int .i64 j, .int .i64 b] 23 (by simp))
  go_enter Tryd.func6, Tryd.ntmps6
  go_wp2_with fail
  refine (A1.out _ (hL.out _ K0.out.1)).mono ?_
  rintro e W1 ⟨rfl, hb⟩
  have K1 : Hid (BS w [(w.heap.size + 1, [.int .i64 j, .int .i64 b]), (w.heap.size, [.int .i64 i, .int .i64 a])] W1) := K0.out.below hb
  clear hb K0
  have c1_0_0 : W1.cell? ⟨w.heap.size + 1, 0, none⟩ = some (.int .i64 j) := (K1.out.at (w.heap.size + 1) [.int .i64 j, .int .i64 b] (by simp)).c 0 rfl
  have c1_0_1 : W1.cell? ⟨w.heap.size + 1, 1, none⟩ = some (.int .i64 b) := (K1.out.at (w.heap.size + 1) [.int .i64 j, .int .i64 b] (by simp)).c 1 rfl
  have c1_1_0 : W1.cell? ⟨w.heap.size, 0, none⟩ = some (.int .i64 i) := (K1.out.at (w.heap.size) [.int .i64 i, .int .i64 a] (by simp)).c 0 rfl
  have c1_1_1 : W1.cell? ⟨w.heap.size, 1, none⟩ = some (.int .i64 a) := (K1.out.at (w.heap.size) [.int .i64 i, .int .i64 a] (by simp)).c 1 rfl
  have Mz1 : Hid (BS w [(W1.heap.size, [.int .i64 s, .int .i64 t]), (w.heap.size + 1, [.int .i64 j, .int .i64 b]), (w.heap.size, [.int .i64 i, .int .i64 a])] (W1.alloc (.cells #[.int .i64 s, .int .i64 t] 23))) := K1.out.new [.int .i64 s, .int .i64 t] 23 rfl
  go_upto_region 2 with fail
  refine gen_to (BS w [(W1.heap.size, [.int .i64 s, .int .i64 t]), (w.heap.size + 1, [.int .i64 j, .int .i64 b]), (w.heap.size, [.int .i64 i, .int .i64 a])]) Mz1.out ?_
  clear c1_0_0 c1_0_1 c1_1_0 c1_1_1
  intro W2 K2'
  have K2 : Hid (BS w [(W1.heap.size, [.int .i64 s, .int .i64 t]), (w.heap.size + 1, [.int .i64 j, .int .i64 b]), (w.heap.size, [.int .i64 i, .int .i64 a])] W2) := K2'
  clear K2' Mz1 K1
  have c2_0_0 : W2.cell? ⟨W1.heap.size, 0, none⟩ = some (.int .i64 s) := (K2.out.at (W1.heap.size) [.int .i64 s, .int .i64 t] (by simp)).c 0 rfl
  have c2_0_1 : W2.cell? ⟨W1.heap.size, 1, none⟩ = some (.int .i64 t) := (K2.out.at (W1.heap.size) [.int .i64 s, .int .i64 t] (by simp)).c 1 rfl
  have c2_1_0 : W2.cell? ⟨w.heap.size + 1, 0, none⟩ = some (.int .i64 j) := (K2.out.at (w.heap.size + 1) [.int .i64 j, .int .i64 b] (by simp)).c 0 rfl
  have c2_1_1 : W2.cell? ⟨w.heap.size + 1, 1, none⟩ = some (.int .i64 b) := (K2.out.at (w.heap.size + 1) [.int .i64 j, .int .i64 b] (by simp)).c 1 rfl
  have c2_2_0 : W2.cell? ⟨w.heap.size, 0, none⟩ = some (.int .i64 i) := (K2.out.at (w.heap.size) [.int .i64 i, .int .i64 a] (by simp)).c 0 rfl
  have c2_2_1 : W2.cell? ⟨w.heap.size, 1, none⟩ = some (.int .i64 a) := (K2.out.at (w.heap.size) [.int .i64 i, .int .i64 a] (by simp)).c 1 rfl
  go_wp2_with fail
  refine (A2.out _ (hL.out _ K2.out.1)).mono ?_
  rintro e W3 ⟨rfl, hb⟩
  have K3 : Hid (BS w [(W1.heap.size, [.int .i64 s, .int .i64 t]), (w.heap.size + 1, [.int .i64 j, .int .i64 b]), (w.heap.size, [.int .i64 i, .int .i64 a])] W3) := K2.out.below hb
  clear c2_0_0 c2_0_1 c2_1_0 c2_1_1 c2_2_0 c2_2_1
  clear hb K2
  have c3_0_0 : W3.cell? ⟨W1.heap.size, 0, none⟩ = some (.int .i64 s) := (K3.out.at (W1.heap.size) [.int .i64 s, .int .i64 t] (by simp)).c 0 rfl
  have c3_0_1 : W3.cell? ⟨W1.heap.size, 1, none⟩ = some (.int .i64 t) := (K3.out.at (W1.heap.size) [.int .i64 s, .int .i64 t] (by simp)).c 1 rfl
  have c3_1_0 : W3.cell? ⟨w.heap.size + 1, 0, none⟩ = some (.int .i64 j) := (K3.out.at (w.heap.size + 1) [.int .i64 j, .int .i64 b] (by simp)).c 0 rfl
  have c3_1_1 : W3.cell? ⟨w.heap.size + 1, 1, none⟩ = some (.int .i64 b) := (K3.out.at (w.heap.size + 1) [.int .i64 j, .int .i64 b] (by simp)).c 1 rfl
  have c3_2_0 : W3.cell? ⟨w.heap.size, 0, none⟩ = some (.int .i64 i) := (K3.out.at (w.heap.size) [.int .i64 i, .int .i64 a] (by simp)).c 0 rfl
  have c3_2_1 : W3.cell? ⟨w.heap.size, 1, none⟩ = some (.int .i64 a) := (K3.out.at (w.heap.size) [.int .i64 i, .int .i64 a] (by simp)).c 1 rfl
  have Mz3 : Hid (BS w [(W3.heap.size, [.int .i64 i, .int .i64 a]), (W1.heap.size, [.int .i64 s, .int .i64 t]), (w.heap.size + 1, [.int .i64 j, .int .i64 b]), (w.heap.size, [.int .i64 i, .int .i64 a])] (W3.alloc (.cells #[.int .i64 i, .int .i64 a] 23))) := K3.out.new [.int .i64 i, .int .i64 a] 23 rfl
  go_upto_region 4 with fail
  refine gen_to (BS w [(W3.heap.size, [.int .i64 i, .int .i64 a]), (W1.heap.size, [.int .i64 s, .int .i64 t]), (w.heap.size + 1, [.int .i64 j, .int .i64 b]), (w.heap.size, [.int .i64 i, .int .i64 a])]) Mz3.out ?_
  clear c3_0_0 c3_0_1 c3_1_0 c3_1_1 c3_2_0 c3_2_1
  intro W4 K4'
  have K4 : Hid (BS w [(W3.heap.size, [.int .i64 i, .int .i64 a]), (W1.heap.size, [.int .i64 s, .int .i64 t]), (w.heap.size + 1, [.int .i64 j, .int .i64 b]), (w.heap.size, [.int .i64 i, .int .i64 a])] W4) := K4'
  clear K4' Mz3 K3
  have c4_0_0 : W4.cell? ⟨W3.heap.size, 0, none⟩ = some (.int .i64 i) := (K4.out.at (W3.heap.size) [.int .i64 i, .int .i64 a] (by simp)).c 0 rfl
  have c4_0_1 : W4.cell? ⟨W3.heap.size, 1, none⟩ = some (.int .i64 a) := (K4.out.at (W3.heap.size) [.int .i64 i, .int .i64 a] (by simp)).c 1 rfl
  have c4_1_0 : W4.cell? ⟨W1.heap.size, 0, none⟩ = some (.int .i64 s) := (K4.out.at (W1.heap.size) [.int .i64 s, .int .i64 t] (by simp)).c 0 rfl
  have c4_1_1 : W4.cell? ⟨W1.heap.size, 1, none⟩ = some (.int .i64 t) := (K4.out.at (W1.heap.size) [.int .i64 s, .int .i64 t] (by simp)).c 1 rfl
  have c4_2_0 : W4.cell? ⟨w.heap.size + 1, 0, none⟩ = some (.int .i64 j) := (K4.out.at (w.heap.size + 1) [.int .i64 j, .int .i64 b] (by simp)).c 0 rfl
  have c4_2_1 : W4.cell? ⟨w.heap.size + 1, 1, none⟩ = some (.int .i64 b) := (K4.out.at (w.heap.size + 1) [.int .i64 j, .int .i64 b] (by simp)).c 1 rfl
  have c4_3_0 : W4.cell? ⟨w.heap.size, 0, none⟩ = some (.int .i64 i) := (K4.out.at (w.heap.size) [.int .i64 i, .int .i64 a] (by simp)).c 0 rfl
  have c4_3_1 : W4.cell? ⟨w.heap.size, 1, none⟩ = some (.int .i64 a) := (K4.out.at (w.heap.size) [.int .i64 i, .int .i64 a] (by simp)).c 1 rfl
  go_wp2_with fail
  refine (S1.out _ (hL.out _ K4.out.1)).mono ?_
  rintro e W5 ⟨rfl, hb⟩
  have K5 : Hid (BS w [(W3.heap.size, [.int .i64 i, .int .i64 a]), (W1.heap.size, [.int .i64 s, .int .i64 t]), (w.heap.size + 1, [.int .i64 j, .int .i64 b]), (w.heap.size, [.int .i64 i, .int .i64 a])] W5) := K4.out.below hb
  clear c4_0_0 c4_0_1 c4_1_0 c4_1_1 c4_2_0 c4_2_1 c4_3_0 c4_3_1
  clear hb K4
  have c5_0_0 : W5.cell? ⟨W3.heap.size, 0, none⟩ = some (.int .i64 i) := (K5.out.at (W3.heap.size) [.int .i64 i, .int .i64 a] (by simp)).c 0 rfl
  have c5_0_1 : W5.cell? ⟨W3.heap.size, 1, none⟩ = some (.int .i64 a) := (K5.out.at (W3.heap.size) [.int .i64 i, .int .i64 a] (by simp)).c 1 rfl
  have c5_1_0 : W5.cell? ⟨W1.heap.size, 0, none⟩ = some (.int .i64 s) := (K5.out.at (W1.heap.size) [.int .i64 s, .int .i64 t] (by simp)).c 0 rfl
  have c5_1_1 : W5.cell? ⟨W1.heap.size, 1, none⟩ = some (.int .i64 t) := (K5.out.at (W1.heap.size) [.int .i64 s, .int .i64 t] (by simp)).c 1 rfl
  have c5_2_0 : W5.cell? ⟨w.heap.size + 1, 0, none⟩ = some (.int .i64 j) := (K5.out.at (w.heap.size + 1) [.int .i64 j, .int .i64 b] (by simp)).c 0 rfl
  have c5_2_1 : W5.cell? ⟨w.heap.size + 1, 1, none⟩ = some (.int .i64 b) := (K5.out.at (w.heap.size + 1) [.int .i64 j, .int .i64 b] (by simp)).c 1 rfl
  have c5_3_0 : W5.cell? ⟨w.heap.size, 0, none⟩ = some (.int .i64 i) := (K5.out.at (w.heap.size) [.int .i64 i, .int .i64 a] (by simp)).c 0 rfl
  have c5_3_1 : W5.cell? ⟨w.heap.size, 1, none⟩ = some (.int .i64 a) := (K5.out.at (w.heap.size) [.int .i64 i, .int .i64 a] (by simp)).c 1 rfl
  go_wp2_with fail
  refine (A3.out _ (hL.out _ K5.out.1)).mono ?_
  rintro e W6 ⟨rfl, hb⟩
  have K6 : Hid (BS w [(W3.heap.size, [.int .i64 i, .int .i64 a]), (W1.heap.size, [.int .i64 s, .int .i64 t]), (w.heap.size + 1, [.int .i64 j, .int .i64 b]), (w.heap.size, [.int .i64 i, .int .i64 a])] W6) := K5.out.below hb
  clear c5_0_0 c5_0_1 c5_1_0 c5_1_1 c5_2_0 c5_2_1 c5_3_0 c5_3_1
  clear hb K5
  have c6_0_0 : W6.cell? ⟨W3.heap.size, 0, none⟩ = some (.int .i64 i) := (K6.out.at (W3.heap.size) [.int .i64 i, .int .i64 a] (by simp)).c 0 rfl
  have c6_0_1 : W6.cell? ⟨W3.heap.size, 1, none⟩ = some (.int .i64 a) := (K6.out.at (W3.heap.size) [.int .i64 i, .int .i64 a] (by simp)).c 1 rfl
  have c6_1_0 : W6.cell? ⟨W1.heap.size, 0, none⟩ = some (.int .i64 s) := (K6.out.at (W1.heap.size) [.int .i64 s, .int .i64 t] (by simp)).c 0 rfl
  have c6_1_1 : W6.cell? ⟨W1.heap.size, 1, none⟩ = some (.int .i64 t) := (K6.out.at (W1.heap.size) [.int .i64 s, .int .i64 t] (by simp)).c 1 rfl
  have c6_2_0 : W6.cell? ⟨w.heap.size + 1, 0, none⟩ = some (.int .i64 j) := (K6.out.at (w.heap.size + 1) [.int .i64 j, .int .i64 b] (by simp)).c 0 rfl
  have c6_2_1 : W6.cell? ⟨w.heap.size + 1, 1, none⟩ = some (.int .i64 b) := (K6.out.at (w.heap.size + 1) [.int .i64 j, .int .i64 b] (by simp)).c 1 rfl
  have c6_3_0 : W6.cell? ⟨w.heap.size, 0, none⟩ = some (.int .i64 i) := (K6.out.at (w.heap.size) [.int .i64 i, .int .i64 a] (by simp)).c 0 rfl
  have c6_3_1 : W6.cell? ⟨w.heap.size, 1, none⟩ = some (.int .i64 a) := (K6.out.at (w.heap.size) [.int .i64 i, .int .i64 a] (by simp)).c 1 rfl
  have Mz6 : Hid (BS w [(W6.heap.size, [.int .i64 i, .int .i64 a]), (W3.heap.size, [.int .i64 i, .int .i64 a]), (W1.heap.size, [.int .i64 s, .int .i64 t]), (w.heap.size + 1, [.int .i64 j, .int .i64 b]), (w.heap.size, [.int .i64 i, .int .i64 a])] (W6.alloc (.cells #[.int .i64 i, .int .i64 a] 23))) := K6.out.new [.int .i64 i, .int .i64 a] 23 rfl
  go_upto_region 10 with fail
  refine gen_to (BS w [(W6.heap.size, [.int .i64 i, .int .i64 a]), (W3.heap.size, [.int .i64 i, .int .i64 a]), (W1.heap.size, [.int .i64 s, .int .i64 t]), (w.heap.size + 1, [.int .i64 j, .int .i64 b]), (w.heap.size, [.int .i64 i, .int .i64 a])]) Mz6.out ?_
  clear c6_0_0 c6_0_1 c6_1_0 c6_1_1 c6_2_0 c6_2_1 c6_3_0 c6_3_1
  intro W7 K7'
  have K7 : Hid (BS w [(W6.heap.size, [.int .i64 i, .int .i64 a]), (W3.heap.size, [.int .i64 i, .int .i64 a]), (W1.heap.size, [.int .i64 s, .int .i64 t]), (w.heap.size + 1, [.int .i64 j, .int .i64 b]), (w.heap.size, [.int .i64 i, .int .i64 a])] W7) := K7'
  clear K7' Mz6 K6
  have c7_0_0 : W7.cell? ⟨W6.heap.size, 0, none⟩ = some (.int .i64 i) := (K7.out.at (W6.heap.size) [.int .i64 i, .int .i64 a] (by simp)).c 0 rfl
  have c7_0_1 : W7.cell? ⟨W6.heap.size, 1, none⟩ = some (.int .i64 a) := (K7.out.at (W6.heap.size) [.int .i64 i, .int .i64 a] (by simp)).c 1 rfl
  have c7_1_0 : W7.cell? ⟨W3.heap.size, 0, none⟩ = some (.int .i64 i) := (K7.out.at (W3.heap.size) [.int .i64 i, .int .i64 a] (by simp)).c 0 rfl
  have c7_1_1 : W7.cell? ⟨W3.heap.size, 1, none⟩ = some (.int .i64 a) := (K7.out.at (W3.heap.size) [.int .i64 i, .int .i64 a] (by simp)).c 1 rfl
  have c7_2_0 : W7.cell? ⟨W1.heap.size, 0, none⟩ = some (.int .i64 s) := (K7.out.at (W1.heap.size) [.int .i64 s, .int .i64 t] (by simp)).c 0 rfl
  have c7_2_1 : W7.cell? ⟨W1.heap.size, 1, none⟩ = some (.int .i64 t) := (K7.out.at (W1.heap.size) [.int .i64 s, .int .i64 t] (by simp)).c 1 rfl
  have c7_3_0 : W7.cell? ⟨w.heap.size + 1, 0, none⟩ = some (.int .i64 j) := (K7.out.at (w.heap.size + 1) [.int .i64 j, .int .i64 b] (by simp)).c 0 rfl
  have c7_3_1 : W7.cell? ⟨w.heap.size + 1, 1, none⟩ = some (.int .i64 b) := (K7.out.at (w.heap.size + 1) [.int .i64 j, .int .i64 b] (by simp)).c 1 rfl
  have c7_4_0 : W7.cell? ⟨w.heap.size, 0, none⟩ = some (.int .i64 i) := (K7.out.at (w.heap.size) [.int .i64 i, .int .i64 a] (by simp)).c 0 rfl
  have c7_4_1 : W7.cell? ⟨w.heap.size, 1, none⟩ = some (.int .i64 a) := (K7.out.at (w.heap.size) [.int .i64 i, .int .i64 a] (by simp)).c 1 rfl
  go_wp2_with fail
  refine (C1.out _ (hL.out _ K7.out.1)).mono ?_
  rintro e W8 ⟨rfl, hb⟩
  have K8 : Hid (BS w [(W6.heap.size, [.int .i64 i, .int .i64 a]), (W3.heap.size, [.int .i64 i, .int .i64 a]), (W1.heap.size, [.int .i64 s, .int .i64 t]), (w.heap.size + 1, [.int .i64 j, .int .i64 b]), (w.heap.size, [.int .i64 i, .int .i64 a])] W8) := K7.out.below hb
  clear c7_0_0 c7_0_1 c7_1_0 c7_1_1 c7_2_0 c7_2_1 c7_3_0 c7_3_1 c7_4_0 c7_4_1
  clear hb K7
  have c8_0_0 : W8.cell? ⟨W6.heap.size, 0, none⟩ = some (.int .i64 i) := (K8.out.at (W6.heap.size) [.int .i64 i, .int .i64 a] (by simp)).c 0 rfl
  have c8_0_1 : W8.cell? ⟨W6.heap.size, 1, none⟩ = some (.int .i64 a) := (K8.out.at (W6.heap.size) [.int .i64 i, .int .i64 a] (by simp)).c 1 rfl
  have c8_1_0 : W8.cell? ⟨W3.heap.size, 0, none⟩ = some (.int .i64 i) := (K8.out.at (W3.heap.size) [.int .i64 i, .int .i64 a] (by simp)).c 0 rfl
  have c8_1_1 : W8.cell? ⟨W3.heap.size, 1, none⟩ = some (.int .i64 a) := (K8.out.at (W3.heap.size) [.int .i64 i, .int .i64 a] (by simp)).c 1 rfl
  have c8_2_0 : W8.cell? ⟨W1.heap.size, 0, none⟩ = some (.int .i64 s) := (K8.out.at (W1.heap.size) [.int .i64 s, .int .i64 t] (by simp)).c 0 rfl
  have c8_2_1 : W8.cell? ⟨W1.heap.size, 1, none⟩ = some (.int .i64 t) := (K8.out.at (W1.heap.size) [.int .i64 s, .int .i64 t] (by simp)).c 1 rfl
  have c8_3_0 : W8.cell? ⟨w.heap.size + 1, 0, none⟩ = some (.int .i64 j) := (K8.out.at (w.heap.size + 1) [.int .i64 j, .int .i64 b] (by simp)).c 0 rfl
  have c8_3_1 : W8.cell? ⟨w.heap.size + 1, 1, none⟩ = some (.int .i64 b) := (K8.out.at (w.heap.size + 1) [.int .i64 j, .int .i64 b] (by simp)).c 1 rfl
  have c8_4_0 : W8.cell? ⟨w.heap.size, 0, none⟩ = some (.int .i64 i) := (K8.out.at (w.heap.size) [.int .i64 i, .int .i64 a] (by simp)).c 0 rfl
  have c8_4_1 : W8.cell? ⟨w.heap.size, 1, none⟩ = some (.int .i64 a) := (K8.out.at (w.heap.size) [.int .i64 i, .int .i64 a] (by simp)).c 1 rfl
  go_wp2_with fail
  refine (C1.out _ (hL.out _ K8.out.1)).mono ?_
  rintro e W9 ⟨rfl, hb⟩
  have K9 : Hid (BS w [(W6.heap.size, [.int .i64 i, .int .i64 a]), (W3.heap.size, [.int .i64 i, .int .i64 a]), (W1.heap.size, [.int .i64 s, .int .i64 t]), (w.heap.size + 1, [.int .i64 j, .int .i64 b]), (w.heap.size, [.int .i64 i, .int .i64 a])] W9) := K8.out.below hb
  clear c8_0_0 c8_0_1 c8_1_0 c8_1_1 c8_2_0 c8_2_1 c8_3_0 c8_3_1 c8_4_0 c8_4_1
  clear hb K8
  have c9_0_0 : W9.cell? ⟨W6.heap.size, 0, none⟩ = some (.int .i64 i) := (K9.out.at (W6.heap.size) [.int .i64 i, .int .i64 a] (by simp)).c 0 rfl
  have c9_0_1 : W9.cell? ⟨W6.heap.size, 1, none⟩ = some (.int .i64 a) := (K9.out.at (W6.heap.size) [.int .i64 i, .int .i64 a] (by simp)).c 1 rfl
  have c9_1_0 : W9.cell? ⟨W3.heap.size, 0, none⟩ = some (.int .i64 i) := (K9.out.at (W3.heap.size) [.int .i64 i, .int .i64 a] (by simp)).c 0 rfl
  have c9_1_1 : W9.cell? ⟨W3.heap.size, 1, none⟩ = some (.int .i64 a) := (K9.out.at (W3.heap.size) [.int .i64 i, .int .i64 a] (by simp)).c 1 rfl
  have c9_2_0 : W9.cell? ⟨W1.heap.size, 0, none⟩ = some (.int .i64 s) := (K9.out.at (W1.heap.size) [.int .i64 s, .int .i64 t] (by simp)).c 0 rfl
  have c9_2_1 : W9.cell? ⟨W1.heap.size, 1, none⟩ = some (.int .i64 t) := (K9.out.at (W1.heap.size) [.int .i64 s, .int .i64 t] (by simp)).c 1 rfl
  have c9_3_0 : W9.cell? ⟨w.heap.size + 1, 0, none⟩ = some (.int .i64 j) := (K9.out.at (w.heap.size + 1) [.int .i64 j, .int .i64 b] (by simp)).c 0 rfl
  have c9_3_1 : W9.cell? ⟨w.heap.size + 1, 1, none⟩ = some (.int .i64 b) := (K9.out.at (w.heap.size + 1) [.int .i64 j, .int .i64 b] (by simp)).c 1 rfl
  have c9_4_0 : W9.cell? ⟨w.heap.size, 0, none⟩ = some (.int .i64 i) := (K9.out.at (w.heap.size) [.int .i64 i, .int .i64 a] (by simp)).c 0 rfl
  have c9_4_1 : W9.cell? ⟨w.heap.size, 1, none⟩ = some (.int .i64 a) := (K9.out.at (w.heap.size) [.int .i64 i, .int .i64 a] (by simp)).c 1 rfl
  go_wp2_with fail
  refine (KN.out _ (hL.out _ K9.out.1)).mono ?_
  rintro e W10 ⟨rfl, hb⟩
  have K10 : Hid (BS w [(W6.heap.size, [.int .i64 i, .int .i64 a]), (W3.heap.size, [.int .i64 i, .int .i64 a]), (W1.heap.size, [.int .i64 s, .int .i64 t]), (w.heap.size + 1, [.int .i64 j, .int .i64 b]), (w.heap.size, [.int .i64 i, .int .i64 a])] W10) := K9.out.below hb
  clear c9_0_0 c9_0_1 c9_1_0 c9_1_1 c9_2_0 c9_2_1 c9_3_0 c9_3_1 c9_4_0 c9_4_1
  clear hb K9
  have c10_0_0 : W10.cell? ⟨W6.heap.size, 0, none⟩ = some (.int .i64 i) := (K10.out.at (W6.heap.size) [.int .i64 i, .int .i64 a] (by simp)).c 0 rfl
  have c10_0_1 : W10.cell? ⟨W6.heap.size, 1, none⟩ = some (.int .i64 a) := (K10.out.at (W6.heap.size) [.int .i64 i, .int .i64 a] (by simp)).c 1 rfl
  have c10_1_0 : W10.cell? ⟨W3.heap.size, 0, none⟩ = some (.int .i64 i) := (K10.out.at (W3.heap.size) [.int .i64 i, .int .i64 a] (by simp)).c 0 rfl
  have c10_1_1 : W10.cell? ⟨W3.heap.size, 1, none⟩ = some (.int .i64 a) := (K10.out.at (W3.heap.size) [.int .i64 i, .int .i64 a] (by simp)).c 1 rfl
  have c10_2_0 : W10.cell? ⟨W1.heap.size, 0, none⟩ = some (.int .i64 s) := (K10.out.at (W1.heap.size) [.int .i64 s, .int .i64 t] (by simp)).c 0 rfl
  have c10_2_1 : W10.cell? ⟨W1.heap.size, 1, none⟩ = some (.int .i64 t) := (K10.out.at (W1.heap.size) [.int .i64 s, .int .i64 t] (by simp)).c 1 rfl
  have c10_3_0 : W10.cell? ⟨w.heap.size + 1, 0, none⟩ = some (.int .i64 j) := (K10.out.at (w.heap.size + 1) [.int .i64 j, .int .i64 b] (by simp)).c 0 rfl
  have c10_3_1 : W10.cell? ⟨w.heap.size + 1, 1, none⟩ = some (.int .i64 b) := (K10.out.at (w.heap.size + 1) [.int .i64 j, .int .i64 b] (by simp)).c 1 rfl
  have c10_4_0 : W10.cell? ⟨w.heap.size, 0, none⟩ = some (.int .i64 i) := (K10.out.at (w.heap.size) [.int .i64 i, .int .i64 a] (by simp)).c 0 rfl
  have c10_4_1 : W10.cell? ⟨w.heap.size, 1, none⟩ = some (.int .i64 a) := (K10.out.at (w.heap.size) [.int .i64 i, .int .i64 a] (by simp)).c 1 rfl
  go_wp2
  go_ret
  exact ⟨rfl, K10.out.1⟩


end Go.Proofs.YtghfgabajdghiaaDoor
