/- What the span laws' fixed calls come to. -/
import Derived.Test.YtghfgabajdghiacSpJ
import Derived.Deep.Cut
namespace Go.Proofs.Ytghfgabajdghiac
open Go.RowKit
set_option linter.unusedVariables false

set_option maxRecDepth 100000 in
set_option maxHeartbeats 4000000 in
theorem known_run 
    (J : Hid (∀ w : World, Calls Try.prog 10 #[.agg #[.int .i64 0, .int .i64 0, .int .i64 35, .int .i64 90000000000]] w fun r' w' => r' = .returned (.tuple #[.agg #[.int .i64 0, .int .i64 1, .int .i64 6, .int .i64 3600000000], .int .i64 0]) ∧ Below w.heap.size w w'))
    (NG : Hid (∀ w : World, Calls Try.prog 11 #[.agg #[.int .i64 0, .int .i64 1, .int .i64 (-2), .int .i64 3]] w fun r' w' => r' = .returned (.tuple #[.agg #[.int .i64 0, .int .i64 (-1), .int .i64 2, .int .i64 (-3)], .int .i64 0]) ∧ Below w.heap.size w w'))
    (C : Hid (∀ w : World, Calls Try.prog 12 #[.agg #[.int .i64 0, .int .i64 1, .int .i64 0, .int .i64 0], .agg #[.int .i64 0, .int .i64 0, .int .i64 30, .int .i64 0]] w fun r' w' => r' = .returned (.int .i64 0) ∧ Below w.heap.size w w'))
    (w : World) :
    Calls Try.prog 5 #[] w fun r' w' => r' = .returned (.bool true) ∧ Below w.heap.size w w' := by
  have K0 : Hid (BS w [] w) := (BS.start w)
  go_enter Try.func5, Try.ntmps5
  go_wp2_with fail
  refine (J.out _).mono ?_
  rintro e W1 ⟨rfl, hb⟩
  have K1 : Hid (BS w [] W1) := K0.out.below hb
  clear hb K0
  have Mz1 : Hid (BS w [(W1.heap.size, [.int .i64 0, .int .i64 1, .int .i64 6, .int .i64 3600000000])] (W1.alloc (.cells #[.int .i64 0, .int .i64 1, .int .i64 6, .int .i64 3600000000] 23))) := K1.out.new [.int .i64 0, .int .i64 1, .int .i64 6, .int .i64 3600000000] 23 rfl
  go_upto_region 2 with fail
  refine gen_to (BS w [(W1.heap.size, [.int .i64 0, .int .i64 1, .int .i64 6, .int .i64 3600000000])]) Mz1.out ?_
  intro W2 K2'
  have K2 : Hid (BS w [(W1.heap.size, [.int .i64 0, .int .i64 1, .int .i64 6, .int .i64 3600000000])] W2) := K2'
  clear K2' Mz1 K1
  have c2_0_0 : W2.cell? ⟨W1.heap.size, 0, none⟩ = some (.int .i64 0) := (K2.out.at (W1.heap.size) [.int .i64 0, .int .i64 1, .int .i64 6, .int .i64 3600000000] (by simp)).c 0 rfl
  have c2_0_1 : W2.cell? ⟨W1.heap.size, 1, none⟩ = some (.int .i64 1) := (K2.out.at (W1.heap.size) [.int .i64 0, .int .i64 1, .int .i64 6, .int .i64 3600000000] (by simp)).c 1 rfl
  have c2_0_2 : W2.cell? ⟨W1.heap.size, 2, none⟩ = some (.int .i64 6) := (K2.out.at (W1.heap.size) [.int .i64 0, .int .i64 1, .int .i64 6, .int .i64 3600000000] (by simp)).c 2 rfl
  have c2_0_3 : W2.cell? ⟨W1.heap.size, 3, none⟩ = some (.int .i64 3600000000) := (K2.out.at (W1.heap.size) [.int .i64 0, .int .i64 1, .int .i64 6, .int .i64 3600000000] (by simp)).c 3 rfl
  have Mz2 : Hid (BS w [(W2.heap.size, [.int .i64 0, .int .i64 1, .int .i64 6, .int .i64 3600000000]), (W1.heap.size, [.int .i64 0, .int .i64 1, .int .i64 6, .int .i64 3600000000])] (W2.alloc (.cells #[.int .i64 0, .int .i64 1, .int .i64 6, .int .i64 3600000000] 23))) := K2.out.new [.int .i64 0, .int .i64 1, .int .i64 6, .int .i64 3600000000] 23 rfl
  go_upto_region 3 with fail
  refine gen_to (BS w [(W2.heap.size, [.int .i64 0, .int .i64 1, .int .i64 6, .int .i64 3600000000]), (W1.heap.size, [.int .i64 0, .int .i64 1, .int .i64 6, .int .i64 3600000000])]) Mz2.out ?_
  clear c2_0_0 c2_0_1 c2_0_2 c2_0_3
  intro W3 K3'
  have K3 : Hid (BS w [(W2.heap.size, [.int .i64 0, .int .i64 1, .int .i64 6, .int .i64 3600000000]), (W1.heap.size, [.int .i64 0, .int .i64 1, .int .i64 6, .int .i64 3600000000])] W3) := K3'
  clear K3' Mz2 K2
  have c3_0_0 : W3.cell? ⟨W2.heap.size, 0, none⟩ = some (.int .i64 0) := (K3.out.at (W2.heap.size) [.int .i64 0, .int .i64 1, .int .i64 6, .int .i64 3600000000] (by simp)).c 0 rfl
  have c3_0_1 : W3.cell? ⟨W2.heap.size, 1, none⟩ = some (.int .i64 1) := (K3.out.at (W2.heap.size) [.int .i64 0, .int .i64 1, .int .i64 6, .int .i64 3600000000] (by simp)).c 1 rfl
  have c3_0_2 : W3.cell? ⟨W2.heap.size, 2, none⟩ = some (.int .i64 6) := (K3.out.at (W2.heap.size) [.int .i64 0, .int .i64 1, .int .i64 6, .int .i64 3600000000] (by simp)).c 2 rfl
  have c3_0_3 : W3.cell? ⟨W2.heap.size, 3, none⟩ = some (.int .i64 3600000000) := (K3.out.at (W2.heap.size) [.int .i64 0, .int .i64 1, .int .i64 6, .int .i64 3600000000] (by simp)).c 3 rfl
  have c3_1_0 : W3.cell? ⟨W1.heap.size, 0, none⟩ = some (.int .i64 0) := (K3.out.at (W1.heap.size) [.int .i64 0, .int .i64 1, .int .i64 6, .int .i64 3600000000] (by simp)).c 0 rfl
  have c3_1_1 : W3.cell? ⟨W1.heap.size, 1, none⟩ = some (.int .i64 1) := (K3.out.at (W1.heap.size) [.int .i64 0, .int .i64 1, .int .i64 6, .int .i64 3600000000] (by simp)).c 1 rfl
  have c3_1_2 : W3.cell? ⟨W1.heap.size, 2, none⟩ = some (.int .i64 6) := (K3.out.at (W1.heap.size) [.int .i64 0, .int .i64 1, .int .i64 6, .int .i64 3600000000] (by simp)).c 2 rfl
  have c3_1_3 : W3.cell? ⟨W1.heap.size, 3, none⟩ = some (.int .i64 3600000000) := (K3.out.at (W1.heap.size) [.int .i64 0, .int .i64 1, .int .i64 6, .int .i64 3600000000] (by simp)).c 3 rfl
  go_wp2_with fail
  refine (NG.out _).mono ?_
  rintro e W4 ⟨rfl, hb⟩
  have K4 : Hid (BS w [(W2.heap.size, [.int .i64 0, .int .i64 1, .int .i64 6, .int .i64 3600000000]), (W1.heap.size, [.int .i64 0, .int .i64 1, .int .i64 6, .int .i64 3600000000])] W4) := K3.out.below hb
  clear c3_0_0 c3_0_1 c3_0_2 c3_0_3 c3_1_0 c3_1_1 c3_1_2 c3_1_3
  clear hb K3
  have c4_0_0 : W4.cell? ⟨W2.heap.size, 0, none⟩ = some (.int .i64 0) := (K4.out.at (W2.heap.size) [.int .i64 0, .int .i64 1, .int .i64 6, .int .i64 3600000000] (by simp)).c 0 rfl
  have c4_0_1 : W4.cell? ⟨W2.heap.size, 1, none⟩ = some (.int .i64 1) := (K4.out.at (W2.heap.size) [.int .i64 0, .int .i64 1, .int .i64 6, .int .i64 3600000000] (by simp)).c 1 rfl
  have c4_0_2 : W4.cell? ⟨W2.heap.size, 2, none⟩ = some (.int .i64 6) := (K4.out.at (W2.heap.size) [.int .i64 0, .int .i64 1, .int .i64 6, .int .i64 3600000000] (by simp)).c 2 rfl
  have c4_0_3 : W4.cell? ⟨W2.heap.size, 3, none⟩ = some (.int .i64 3600000000) := (K4.out.at (W2.heap.size) [.int .i64 0, .int .i64 1, .int .i64 6, .int .i64 3600000000] (by simp)).c 3 rfl
  have c4_1_0 : W4.cell? ⟨W1.heap.size, 0, none⟩ = some (.int .i64 0) := (K4.out.at (W1.heap.size) [.int .i64 0, .int .i64 1, .int .i64 6, .int .i64 3600000000] (by simp)).c 0 rfl
  have c4_1_1 : W4.cell? ⟨W1.heap.size, 1, none⟩ = some (.int .i64 1) := (K4.out.at (W1.heap.size) [.int .i64 0, .int .i64 1, .int .i64 6, .int .i64 3600000000] (by simp)).c 1 rfl
  have c4_1_2 : W4.cell? ⟨W1.heap.size, 2, none⟩ = some (.int .i64 6) := (K4.out.at (W1.heap.size) [.int .i64 0, .int .i64 1, .int .i64 6, .int .i64 3600000000] (by simp)).c 2 rfl
  have c4_1_3 : W4.cell? ⟨W1.heap.size, 3, none⟩ = some (.int .i64 3600000000) := (K4.out.at (W1.heap.size) [.int .i64 0, .int .i64 1, .int .i64 6, .int .i64 3600000000] (by simp)).c 3 rfl
  have Mz4 : Hid (BS w [(W4.heap.size, [.int .i64 0, .int .i64 (-1), .int .i64 2, .int .i64 (-3)]), (W2.heap.size, [.int .i64 0, .int .i64 1, .int .i64 6, .int .i64 3600000000]), (W1.heap.size, [.int .i64 0, .int .i64 1, .int .i64 6, .int .i64 3600000000])] (W4.alloc (.cells #[.int .i64 0, .int .i64 (-1), .int .i64 2, .int .i64 (-3)] 23))) := K4.out.new [.int .i64 0, .int .i64 (-1), .int .i64 2, .int .i64 (-3)] 23 rfl
  go_upto_region 4 with fail
  refine gen_to (BS w [(W4.heap.size, [.int .i64 0, .int .i64 (-1), .int .i64 2, .int .i64 (-3)]), (W2.heap.size, [.int .i64 0, .int .i64 1, .int .i64 6, .int .i64 3600000000]), (W1.heap.size, [.int .i64 0, .int .i64 1, .int .i64 6, .int .i64 3600000000])]) Mz4.out ?_
  clear c4_0_0 c4_0_1 c4_0_2 c4_0_3 c4_1_0 c4_1_1 c4_1_2 c4_1_3
  intro W5 K5'
  have K5 : Hid (BS w [(W4.heap.size, [.int .i64 0, .int .i64 (-1), .int .i64 2, .int .i64 (-3)]), (W2.heap.size, [.int .i64 0, .int .i64 1, .int .i64 6, .int .i64 3600000000]), (W1.heap.size, [.int .i64 0, .int .i64 1, .int .i64 6, .int .i64 3600000000])] W5) := K5'
  clear K5' Mz4 K4
  have c5_0_0 : W5.cell? ⟨W4.heap.size, 0, none⟩ = some (.int .i64 0) := (K5.out.at (W4.heap.size) [.int .i64 0, .int .i64 (-1), .int .i64 2, .int .i64 (-3)] (by simp)).c 0 rfl
  have c5_0_1 : W5.cell? ⟨W4.heap.size, 1, none⟩ = some (.int .i64 (-1)) := (K5.out.at (W4.heap.size) [.int .i64 0, .int .i64 (-1), .int .i64 2, .int .i64 (-3)] (by simp)).c 1 rfl
  have c5_0_2 : W5.cell? ⟨W4.heap.size, 2, none⟩ = some (.int .i64 2) := (K5.out.at (W4.heap.size) [.int .i64 0, .int .i64 (-1), .int .i64 2, .int .i64 (-3)] (by simp)).c 2 rfl
  have c5_0_3 : W5.cell? ⟨W4.heap.size, 3, none⟩ = some (.int .i64 (-3)) := (K5.out.at (W4.heap.size) [.int .i64 0, .int .i64 (-1), .int .i64 2, .int .i64 (-3)] (by simp)).c 3 rfl
  have c5_1_0 : W5.cell? ⟨W2.heap.size, 0, none⟩ = some (.int .i64 0) := (K5.out.at (W2.heap.size) [.int .i64 0, .int .i64 1, .int .i64 6, .int .i64 3600000000] (by simp)).c 0 rfl
  have c5_1_1 : W5.cell? ⟨W2.heap.size, 1, none⟩ = some (.int .i64 1) := (K5.out.at (W2.heap.size) [.int .i64 0, .int .i64 1, .int .i64 6, .int .i64 3600000000] (by simp)).c 1 rfl
  have c5_1_2 : W5.cell? ⟨W2.heap.size, 2, none⟩ = some (.int .i64 6) := (K5.out.at (W2.heap.size) [.int .i64 0, .int .i64 1, .int .i64 6, .int .i64 3600000000] (by simp)).c 2 rfl
  have c5_1_3 : W5.cell? ⟨W2.heap.size, 3, none⟩ = some (.int .i64 3600000000) := (K5.out.at (W2.heap.size) [.int .i64 0, .int .i64 1, .int .i64 6, .int .i64 3600000000] (by simp)).c 3 rfl
  have c5_2_0 : W5.cell? ⟨W1.heap.size, 0, none⟩ = some (.int .i64 0) := (K5.out.at (W1.heap.size) [.int .i64 0, .int .i64 1, .int .i64 6, .int .i64 3600000000] (by simp)).c 0 rfl
  have c5_2_1 : W5.cell? ⟨W1.heap.size, 1, none⟩ = some (.int .i64 1) := (K5.out.at (W1.heap.size) [.int .i64 0, .int .i64 1, .int .i64 6, .int .i64 3600000000] (by simp)).c 1 rfl
  have c5_2_2 : W5.cell? ⟨W1.heap.size, 2, none⟩ = some (.int .i64 6) := (K5.out.at (W1.heap.size) [.int .i64 0, .int .i64 1, .int .i64 6, .int .i64 3600000000] (by simp)).c 2 rfl
  have c5_2_3 : W5.cell? ⟨W1.heap.size, 3, none⟩ = some (.int .i64 3600000000) := (K5.out.at (W1.heap.size) [.int .i64 0, .int .i64 1, .int .i64 6, .int .i64 3600000000] (by simp)).c 3 rfl
  have Mz5 : Hid (BS w [(W5.heap.size, [.int .i64 0, .int .i64 (-1), .int .i64 2, .int .i64 (-3)]), (W4.heap.size, [.int .i64 0, .int .i64 (-1), .int .i64 2, .int .i64 (-3)]), (W2.heap.size, [.int .i64 0, .int .i64 1, .int .i64 6, .int .i64 3600000000]), (W1.heap.size, [.int .i64 0, .int .i64 1, .int .i64 6, .int .i64 3600000000])] (W5.alloc (.cells #[.int .i64 0, .int .i64 (-1), .int .i64 2, .int .i64 (-3)] 23))) := K5.out.new [.int .i64 0, .int .i64 (-1), .int .i64 2, .int .i64 (-3)] 23 rfl
  go_upto_region 5 with fail
  refine gen_to (BS w [(W5.heap.size, [.int .i64 0, .int .i64 (-1), .int .i64 2, .int .i64 (-3)]), (W4.heap.size, [.int .i64 0, .int .i64 (-1), .int .i64 2, .int .i64 (-3)]), (W2.heap.size, [.int .i64 0, .int .i64 1, .int .i64 6, .int .i64 3600000000]), (W1.heap.size, [.int .i64 0, .int .i64 1, .int .i64 6, .int .i64 3600000000])]) Mz5.out ?_
  clear c5_0_0 c5_0_1 c5_0_2 c5_0_3 c5_1_0 c5_1_1 c5_1_2 c5_1_3 c5_2_0 c5_2_1 c5_2_2 c5_2_3
  intro W6 K6'
  have K6 : Hid (BS w [(W5.heap.size, [.int .i64 0, .int .i64 (-1), .int .i64 2, .int .i64 (-3)]), (W4.heap.size, [.int .i64 0, .int .i64 (-1), .int .i64 2, .int .i64 (-3)]), (W2.heap.size, [.int .i64 0, .int .i64 1, .int .i64 6, .int .i64 3600000000]), (W1.heap.size, [.int .i64 0, .int .i64 1, .int .i64 6, .int .i64 3600000000])] W6) := K6'
  clear K6' Mz5 K5
  have c6_0_0 : W6.cell? ⟨W5.heap.size, 0, none⟩ = some (.int .i64 0) := (K6.out.at (W5.heap.size) [.int .i64 0, .int .i64 (-1), .int .i64 2, .int .i64 (-3)] (by simp)).c 0 rfl
  have c6_0_1 : W6.cell? ⟨W5.heap.size, 1, none⟩ = some (.int .i64 (-1)) := (K6.out.at (W5.heap.size) [.int .i64 0, .int .i64 (-1), .int .i64 2, .int .i64 (-3)] (by simp)).c 1 rfl
  have c6_0_2 : W6.cell? ⟨W5.heap.size, 2, none⟩ = some (.int .i64 2) := (K6.out.at (W5.heap.size) [.int .i64 0, .int .i64 (-1), .int .i64 2, .int .i64 (-3)] (by simp)).c 2 rfl
  have c6_0_3 : W6.cell? ⟨W5.heap.size, 3, none⟩ = some (.int .i64 (-3)) := (K6.out.at (W5.heap.size) [.int .i64 0, .int .i64 (-1), .int .i64 2, .int .i64 (-3)] (by simp)).c 3 rfl
  have c6_1_0 : W6.cell? ⟨W4.heap.size, 0, none⟩ = some (.int .i64 0) := (K6.out.at (W4.heap.size) [.int .i64 0, .int .i64 (-1), .int .i64 2, .int .i64 (-3)] (by simp)).c 0 rfl
  have c6_1_1 : W6.cell? ⟨W4.heap.size, 1, none⟩ = some (.int .i64 (-1)) := (K6.out.at (W4.heap.size) [.int .i64 0, .int .i64 (-1), .int .i64 2, .int .i64 (-3)] (by simp)).c 1 rfl
  have c6_1_2 : W6.cell? ⟨W4.heap.size, 2, none⟩ = some (.int .i64 2) := (K6.out.at (W4.heap.size) [.int .i64 0, .int .i64 (-1), .int .i64 2, .int .i64 (-3)] (by simp)).c 2 rfl
  have c6_1_3 : W6.cell? ⟨W4.heap.size, 3, none⟩ = some (.int .i64 (-3)) := (K6.out.at (W4.heap.size) [.int .i64 0, .int .i64 (-1), .int .i64 2, .int .i64 (-3)] (by simp)).c 3 rfl
  have c6_2_0 : W6.cell? ⟨W2.heap.size, 0, none⟩ = some (.int .i64 0) := (K6.out.at (W2.heap.size) [.int .i64 0, .int .i64 1, .int .i64 6, .int .i64 3600000000] (by simp)).c 0 rfl
  have c6_2_1 : W6.cell? ⟨W2.heap.size, 1, none⟩ = some (.int .i64 1) := (K6.out.at (W2.heap.size) [.int .i64 0, .int .i64 1, .int .i64 6, .int .i64 3600000000] (by simp)).c 1 rfl
  have c6_2_2 : W6.cell? ⟨W2.heap.size, 2, none⟩ = some (.int .i64 6) := (K6.out.at (W2.heap.size) [.int .i64 0, .int .i64 1, .int .i64 6, .int .i64 3600000000] (by simp)).c 2 rfl
  have c6_2_3 : W6.cell? ⟨W2.heap.size, 3, none⟩ = some (.int .i64 3600000000) := (K6.out.at (W2.heap.size) [.int .i64 0, .int .i64 1, .int .i64 6, .int .i64 3600000000] (by simp)).c 3 rfl
  have c6_3_0 : W6.cell? ⟨W1.heap.size, 0, none⟩ = some (.int .i64 0) := (K6.out.at (W1.heap.size) [.int .i64 0, .int .i64 1, .int .i64 6, .int .i64 3600000000] (by simp)).c 0 rfl
  have c6_3_1 : W6.cell? ⟨W1.heap.size, 1, none⟩ = some (.int .i64 1) := (K6.out.at (W1.heap.size) [.int .i64 0, .int .i64 1, .int .i64 6, .int .i64 3600000000] (by simp)).c 1 rfl
  have c6_3_2 : W6.cell? ⟨W1.heap.size, 2, none⟩ = some (.int .i64 6) := (K6.out.at (W1.heap.size) [.int .i64 0, .int .i64 1, .int .i64 6, .int .i64 3600000000] (by simp)).c 2 rfl
  have c6_3_3 : W6.cell? ⟨W1.heap.size, 3, none⟩ = some (.int .i64 3600000000) := (K6.out.at (W1.heap.size) [.int .i64 0, .int .i64 1, .int .i64 6, .int .i64 3600000000] (by simp)).c 3 rfl
  go_wp2_with fail
  refine (C.out _).mono ?_
  rintro e W7 ⟨rfl, hb⟩
  have K7 : Hid (BS w [(W5.heap.size, [.int .i64 0, .int .i64 (-1), .int .i64 2, .int .i64 (-3)]), (W4.heap.size, [.int .i64 0, .int .i64 (-1), .int .i64 2, .int .i64 (-3)]), (W2.heap.size, [.int .i64 0, .int .i64 1, .int .i64 6, .int .i64 3600000000]), (W1.heap.size, [.int .i64 0, .int .i64 1, .int .i64 6, .int .i64 3600000000])] W7) := K6.out.below hb
  clear c6_0_0 c6_0_1 c6_0_2 c6_0_3 c6_1_0 c6_1_1 c6_1_2 c6_1_3 c6_2_0 c6_2_1 c6_2_2 c6_2_3 c6_3_0 c6_3_1 c6_3_2 c6_3_3
  clear hb K6
  have c7_0_0 : W7.cell? ⟨W5.heap.size, 0, none⟩ = some (.int .i64 0) := (K7.out.at (W5.heap.size) [.int .i64 0, .int .i64 (-1), .int .i64 2, .int .i64 (-3)] (by simp)).c 0 rfl
  have c7_0_1 : W7.cell? ⟨W5.heap.size, 1, none⟩ = some (.int .i64 (-1)) := (K7.out.at (W5.heap.size) [.int .i64 0, .int .i64 (-1), .int .i64 2, .int .i64 (-3)] (by simp)).c 1 rfl
  have c7_0_2 : W7.cell? ⟨W5.heap.size, 2, none⟩ = some (.int .i64 2) := (K7.out.at (W5.heap.size) [.int .i64 0, .int .i64 (-1), .int .i64 2, .int .i64 (-3)] (by simp)).c 2 rfl
  have c7_0_3 : W7.cell? ⟨W5.heap.size, 3, none⟩ = some (.int .i64 (-3)) := (K7.out.at (W5.heap.size) [.int .i64 0, .int .i64 (-1), .int .i64 2, .int .i64 (-3)] (by simp)).c 3 rfl
  have c7_1_0 : W7.cell? ⟨W4.heap.size, 0, none⟩ = some (.int .i64 0) := (K7.out.at (W4.heap.size) [.int .i64 0, .int .i64 (-1), .int .i64 2, .int .i64 (-3)] (by simp)).c 0 rfl
  have c7_1_1 : W7.cell? ⟨W4.heap.size, 1, none⟩ = some (.int .i64 (-1)) := (K7.out.at (W4.heap.size) [.int .i64 0, .int .i64 (-1), .int .i64 2, .int .i64 (-3)] (by simp)).c 1 rfl
  have c7_1_2 : W7.cell? ⟨W4.heap.size, 2, none⟩ = some (.int .i64 2) := (K7.out.at (W4.heap.size) [.int .i64 0, .int .i64 (-1), .int .i64 2, .int .i64 (-3)] (by simp)).c 2 rfl
  have c7_1_3 : W7.cell? ⟨W4.heap.size, 3, none⟩ = some (.int .i64 (-3)) := (K7.out.at (W4.heap.size) [.int .i64 0, .int .i64 (-1), .int .i64 2, .int .i64 (-3)] (by simp)).c 3 rfl
  have c7_2_0 : W7.cell? ⟨W2.heap.size, 0, none⟩ = some (.int .i64 0) := (K7.out.at (W2.heap.size) [.int .i64 0, .int .i64 1, .int .i64 6, .int .i64 3600000000] (by simp)).c 0 rfl
  have c7_2_1 : W7.cell? ⟨W2.heap.size, 1, none⟩ = some (.int .i64 1) := (K7.out.at (W2.heap.size) [.int .i64 0, .int .i64 1, .int .i64 6, .int .i64 3600000000] (by simp)).c 1 rfl
  have c7_2_2 : W7.cell? ⟨W2.heap.size, 2, none⟩ = some (.int .i64 6) := (K7.out.at (W2.heap.size) [.int .i64 0, .int .i64 1, .int .i64 6, .int .i64 3600000000] (by simp)).c 2 rfl
  have c7_2_3 : W7.cell? ⟨W2.heap.size, 3, none⟩ = some (.int .i64 3600000000) := (K7.out.at (W2.heap.size) [.int .i64 0, .int .i64 1, .int .i64 6, .int .i64 3600000000] (by simp)).c 3 rfl
  have c7_3_0 : W7.cell? ⟨W1.heap.size, 0, none⟩ = some (.int .i64 0) := (K7.out.at (W1.heap.size) [.int .i64 0, .int .i64 1, .int .i64 6, .int .i64 3600000000] (by simp)).c 0 rfl
  have c7_3_1 : W7.cell? ⟨W1.heap.size, 1, none⟩ = some (.int .i64 1) := (K7.out.at (W1.heap.size) [.int .i64 0, .int .i64 1, .int .i64 6, .int .i64 3600000000] (by simp)).c 1 rfl
  have c7_3_2 : W7.cell? ⟨W1.heap.size, 2, none⟩ = some (.int .i64 6) := (K7.out.at (W1.heap.size) [.int .i64 0, .int .i64 1, .int .i64 6, .int .i64 3600000000] (by simp)).c 2 rfl
  have c7_3_3 : W7.cell? ⟨W1.heap.size, 3, none⟩ = some (.int .i64 3600000000) := (K7.out.at (W1.heap.size) [.int .i64 0, .int .i64 1, .int .i64 6, .int .i64 3600000000] (by simp)).c 3 rfl
  go_wp2
  go_ret
  exact ⟨rfl, K7.out.1⟩

theorem known_any (w : World) : Calls Try.prog 5 #[] w fun r w' => r = .returned (.bool true) ∧ Below w.heap.size w w' := by
  refine known_run (fun w => ?_) (fun w => ?_) (fun w => ?_) w
  · have R := pjus_any 0 0 35 90000000000 (by decide) (by decide) w
    rw [show jus5 0 0 35 90000000000 = ⟨0, 1, 6, 3600000000, 0⟩ by kernel_rfl] at R
    exact R
  · have R := pneg_any 0 1 (-2) 3 (by decide) (by decide) (by decide) (by decide) (by decide) (by decide) w
    rw [show neg5 0 1 (-2) 3 = ⟨0, -1, 2, -3, 0⟩ by kernel_rfl] at R
    exact R
  · have R := pcmp_any 0 1 0 0 0 0 30 0 (by decide) (by decide) (by decide) (by decide) w
    rw [show cmA 0 1 0 0 0 0 30 0 = 0 by decide] at R
    exact R


end Go.Proofs.Ytghfgabajdghiac
