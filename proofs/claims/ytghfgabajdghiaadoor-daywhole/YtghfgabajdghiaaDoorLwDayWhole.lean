/- The walk of DayWhole. -/
import Derived.Test.YtghfgabajdghiaaDoorDyK
import Derived.Deep.Cut
namespace Go.Proofs.YtghfgabajdghiaaDoor
open Go.RowKit
set_option linter.unusedVariables false

set_option maxRecDepth 100000 in
set_option maxHeartbeats 4000000 in
theorem core_DayWholeNo (i u f g h e : Int) (he : e ≠ 0)
    (O1 : Hid (∀ w : World, Cvl.Lens w → Calls Tryd.prog 28 #[.agg #[.int .i64 i, .int .i64 u]] w fun r' w' => r' = .returned (.tuple #[.agg #[.int .i64 f, .int .i64 g], .int .i64 h, .int .i64 e]) ∧ Below w.heap.size w w'))
    (Q1 : Hid (∀ w : World, Calls Tryd.prog 31 #[.agg #[.int .i64 i, .int .i64 u]] w fun r' w' => r' = .returned (.bool false) ∧ Below w.heap.size w w'))
    (KN : Hid (∀ w : World, Cvl.Lens w → Calls Tryd.prog 15 #[] w fun r' w' => r' = .returned (.bool true) ∧ Below w.heap.size w w'))
    (w : World) (hL : Hid (∀ W : World, Below w.heap.size w W → Cvl.Lens W)) :
    Calls Tryd.prog 7 #[.agg #[.int .i64 i, .int .i64 u]] w fun r' w' => r' = .returned (.bool true) ∧ Below w.heap.size w w' := by
  have e1 : (e != 0) = true := bne_iff_ne.2 he
  have K0 : Hid (BS w [(w.heap.size, [.int .i64 i, .int .i64 u])] (w.alloc (.cells #[.int .i64 i, .int .i64 u] 38))) := ((BS.start w).new [.int .i64 i, .int .i64 u] 38 rfl)
  go_enter Tryd.func7, Tryd.ntmps7
  go_wp2_with fail
  refine (O1.out _ (hL.out _ K0.out.1)).mono ?_
  rintro e W1 ⟨rfl, hb⟩
  have K1 : Hid (BS w [(w.heap.size, [.int .i64 i, .int .i64 u])] W1) := K0.out.below hb
  clear hb K0
  have c1_0_0 : W1.cell? ⟨w.heap.size, 0, none⟩ = some (.int .i64 i) := (K1.out.at (w.heap.size) [.int .i64 i, .int .i64 u] (by simp)).c 0 rfl
  have c1_0_1 : W1.cell? ⟨w.heap.size, 1, none⟩ = some (.int .i64 u) := (K1.out.at (w.heap.size) [.int .i64 i, .int .i64 u] (by simp)).c 1 rfl
  have Mz1 : Hid (BS w [(W1.heap.size, [.int .i64 f, .int .i64 g]), (w.heap.size, [.int .i64 i, .int .i64 u])] (W1.alloc (.cells #[.int .i64 f, .int .i64 g] 23))) := K1.out.new [.int .i64 f, .int .i64 g] 23 rfl
  go_upto_region 2 with fail
  refine gen_to (BS w [(W1.heap.size, [.int .i64 f, .int .i64 g]), (w.heap.size, [.int .i64 i, .int .i64 u])]) Mz1.out ?_
  clear c1_0_0 c1_0_1
  intro W2 K2'
  have K2 : Hid (BS w [(W1.heap.size, [.int .i64 f, .int .i64 g]), (w.heap.size, [.int .i64 i, .int .i64 u])] W2) := K2'
  clear K2' Mz1 K1
  have c2_0_0 : W2.cell? ⟨W1.heap.size, 0, none⟩ = some (.int .i64 f) := (K2.out.at (W1.heap.size) [.int .i64 f, .int .i64 g] (by simp)).c 0 rfl
  have c2_0_1 : W2.cell? ⟨W1.heap.size, 1, none⟩ = some (.int .i64 g) := (K2.out.at (W1.heap.size) [.int .i64 f, .int .i64 g] (by simp)).c 1 rfl
  have c2_1_0 : W2.cell? ⟨w.heap.size, 0, none⟩ = some (.int .i64 i) := (K2.out.at (w.heap.size) [.int .i64 i, .int .i64 u] (by simp)).c 0 rfl
  have c2_1_1 : W2.cell? ⟨w.heap.size, 1, none⟩ = some (.int .i64 u) := (K2.out.at (w.heap.size) [.int .i64 i, .int .i64 u] (by simp)).c 1 rfl
  go_wp2_with fail
  refine (Q1.out _).mono ?_
  rintro e W3 ⟨rfl, hb⟩
  have K3 : Hid (BS w [(W1.heap.size, [.int .i64 f, .int .i64 g]), (w.heap.size, [.int .i64 i, .int .i64 u])] W3) := K2.out.below hb
  clear c2_0_0 c2_0_1 c2_1_0 c2_1_1
  clear hb K2
  have c3_0_0 : W3.cell? ⟨W1.heap.size, 0, none⟩ = some (.int .i64 f) := (K3.out.at (W1.heap.size) [.int .i64 f, .int .i64 g] (by simp)).c 0 rfl
  have c3_0_1 : W3.cell? ⟨W1.heap.size, 1, none⟩ = some (.int .i64 g) := (K3.out.at (W1.heap.size) [.int .i64 f, .int .i64 g] (by simp)).c 1 rfl
  have c3_1_0 : W3.cell? ⟨w.heap.size, 0, none⟩ = some (.int .i64 i) := (K3.out.at (w.heap.size) [.int .i64 i, .int .i64 u] (by simp)).c 0 rfl
  have c3_1_1 : W3.cell? ⟨w.heap.size, 1, none⟩ = some (.int .i64 u) := (K3.out.at (w.heap.size) [.int .i64 i, .int .i64 u] (by simp)).c 1 rfl
  go_wp2_with fail
  refine (KN.out _ (hL.out _ K3.out.1)).mono ?_
  rintro e W4 ⟨rfl, hb⟩
  have K4 : Hid (BS w [(W1.heap.size, [.int .i64 f, .int .i64 g]), (w.heap.size, [.int .i64 i, .int .i64 u])] W4) := K3.out.below hb
  clear c3_0_0 c3_0_1 c3_1_0 c3_1_1
  clear hb K3
  have c4_0_0 : W4.cell? ⟨W1.heap.size, 0, none⟩ = some (.int .i64 f) := (K4.out.at (W1.heap.size) [.int .i64 f, .int .i64 g] (by simp)).c 0 rfl
  have c4_0_1 : W4.cell? ⟨W1.heap.size, 1, none⟩ = some (.int .i64 g) := (K4.out.at (W1.heap.size) [.int .i64 f, .int .i64 g] (by simp)).c 1 rfl
  have c4_1_0 : W4.cell? ⟨w.heap.size, 0, none⟩ = some (.int .i64 i) := (K4.out.at (w.heap.size) [.int .i64 i, .int .i64 u] (by simp)).c 0 rfl
  have c4_1_1 : W4.cell? ⟨w.heap.size, 1, none⟩ = some (.int .i64 u) := (K4.out.at (w.heap.size) [.int .i64 i, .int .i64 u] (by simp)).c 1 rfl
  go_wp2
  go_ret
  exact ⟨rfl, K4.out.1⟩

set_option maxRecDepth 100000 in
set_option maxHeartbeats 4000000 in
theorem core_DayWhole (i u f g h z : Int) (hz : z ≤ 0) (h0 : 0 ≤ h) (h1 : h < 86400000000) (u1 : -9223372036854775808 ≤ u - h) (u2 : u - h ≤ 9223372036854775807)
    (O1 : Hid (∀ w : World, Cvl.Lens w → Calls Tryd.prog 28 #[.agg #[.int .i64 i, .int .i64 u]] w fun r' w' => r' = .returned (.tuple #[.agg #[.int .i64 f, .int .i64 g], .int .i64 h, .int .i64 0]) ∧ Below w.heap.size w w'))
    (S1 : Hid (∀ w : World, Cvl.Lens w → Calls Tryd.prog 24 #[.agg #[.int .i64 f, .int .i64 g], .int .i64 h] w fun r' w' => r' = .returned (.tuple #[.agg #[.int .i64 i, .int .i64 u], .int .i64 0]) ∧ Below w.heap.size w w'))
    (S2 : Hid (∀ w : World, Cvl.Lens w → Calls Tryd.prog 26 #[.agg #[.int .i64 f, .int .i64 g]] w fun r' w' => r' = .returned (.tuple #[.agg #[.int .i64 i, .int .i64 (u - h)], .int .i64 0]) ∧ Below w.heap.size w w'))
    (C1 : Hid (∀ w : World, Cvl.Lens w → Calls Tryd.prog 32 #[.agg #[.int .i64 i, .int .i64 (u - h)], .agg #[.int .i64 i, .int .i64 u]] w fun r' w' => r' = .returned (.int .i64 z) ∧ Below w.heap.size w w'))
    (KN : Hid (∀ w : World, Cvl.Lens w → Calls Tryd.prog 15 #[] w fun r' w' => r' = .returned (.bool true) ∧ Below w.heap.size w w'))
    (w : World) (hL : Hid (∀ W : World, Below w.heap.size w W → Cvl.Lens W)) :
    Calls Tryd.prog 7 #[.agg #[.int .i64 i, .int .i64 u]] w fun r' w' => r' = .returned (.bool true) ∧ Below w.heap.size w w' := by
  have K0 : Hid (BS w [(w.heap.size, [.int .i64 i, .int .i64 u])] (w.alloc (.cells #[.int .i64 i, .int .i64 u] 38))) := ((BS.start w).new [.int .i64 i, .int .i64 u] 38 rfl)
  go_enter Tryd.func7, Tryd.ntmps7
  go_wp2_with fail
  refine (O1.out _ (hL.out _ K0.out.1)).mono ?_
  rintro e W1 ⟨rfl, hb⟩
  have K1 : Hid (BS w [(w.heap.size, [.int .i64 i, .int .i64 u])] W1) := K0.out.below hb
  clear hb K0
  have c1_0_0 : W1.cell? ⟨w.heap.size, 0, none⟩ = some (.int .i64 i) := (K1.out.at (w.heap.size) [.int .i64 i, .int .i64 u] (by simp)).c 0 rfl
  have c1_0_1 : W1.cell? ⟨w.heap.size, 1, none⟩ = some (.int .i64 u) := (K1.out.at (w.heap.size) [.int .i64 i, .int .i64 u] (by simp)).c 1 rfl
  have Mz1 : Hid (BS w [(W1.heap.size, [.int .i64 f, .int .i64 g]), (w.heap.size, [.int .i64 i, .int .i64 u])] (W1.alloc (.cells #[.int .i64 f, .int .i64 g] 23))) := K1.out.new [.int .i64 f, .int .i64 g] 23 rfl
  go_upto_region 2 with fail
  refine gen_to (BS w [(W1.heap.size, [.int .i64 f, .int .i64 g]), (w.heap.size, [.int .i64 i, .int .i64 u])]) Mz1.out ?_
  clear c1_0_0 c1_0_1
  intro W2 K2'
  have K2 : Hid (BS w [(W1.heap.size, [.int .i64 f, .int .i64 g]), (w.heap.size, [.int .i64 i, .int .i64 u])] W2) := K2'
  clear K2' Mz1 K1
  have c2_0_0 : W2.cell? ⟨W1.heap.size, 0, none⟩ = some (.int .i64 f) := (K2.out.at (W1.heap.size) [.int .i64 f, .int .i64 g] (by simp)).c 0 rfl
  have c2_0_1 : W2.cell? ⟨W1.heap.size, 1, none⟩ = some (.int .i64 g) := (K2.out.at (W1.heap.size) [.int .i64 f, .int .i64 g] (by simp)).c 1 rfl
  have c2_1_0 : W2.cell? ⟨w.heap.size, 0, none⟩ = some (.int .i64 i) := (K2.out.at (w.heap.size) [.int .i64 i, .int .i64 u] (by simp)).c 0 rfl
  have c2_1_1 : W2.cell? ⟨w.heap.size, 1, none⟩ = some (.int .i64 u) := (K2.out.at (w.heap.size) [.int .i64 i, .int .i64 u] (by simp)).c 1 rfl
  go_wp2_with fail
  refine (S1.out _ (hL.out _ K2.out.1)).mono ?_
  rintro e W3 ⟨rfl, hb⟩
  have K3 : Hid (BS w [(W1.heap.size, [.int .i64 f, .int .i64 g]), (w.heap.size, [.int .i64 i, .int .i64 u])] W3) := K2.out.below hb
  clear c2_0_0 c2_0_1 c2_1_0 c2_1_1
  clear hb K2
  have c3_0_0 : W3.cell? ⟨W1.heap.size, 0, none⟩ = some (.int .i64 f) := (K3.out.at (W1.heap.size) [.int .i64 f, .int .i64 g] (by simp)).c 0 rfl
  have c3_0_1 : W3.cell? ⟨W1.heap.size, 1, none⟩ = some (.int .i64 g) := (K3.out.at (W1.heap.size) [.int .i64 f, .int .i64 g] (by simp)).c 1 rfl
  have c3_1_0 : W3.cell? ⟨w.heap.size, 0, none⟩ = some (.int .i64 i) := (K3.out.at (w.heap.size) [.int .i64 i, .int .i64 u] (by simp)).c 0 rfl
  have c3_1_1 : W3.cell? ⟨w.heap.size, 1, none⟩ = some (.int .i64 u) := (K3.out.at (w.heap.size) [.int .i64 i, .int .i64 u] (by simp)).c 1 rfl
  have Mz3 : Hid (BS w [(W3.heap.size, [.int .i64 i, .int .i64 u]), (W1.heap.size, [.int .i64 f, .int .i64 g]), (w.heap.size, [.int .i64 i, .int .i64 u])] (W3.alloc (.cells #[.int .i64 i, .int .i64 u] 38))) := K3.out.new [.int .i64 i, .int .i64 u] 38 rfl
  go_upto_region 5 with fail
  refine gen_to (BS w [(W3.heap.size, [.int .i64 i, .int .i64 u]), (W1.heap.size, [.int .i64 f, .int .i64 g]), (w.heap.size, [.int .i64 i, .int .i64 u])]) Mz3.out ?_
  clear c3_0_0 c3_0_1 c3_1_0 c3_1_1
  intro W4 K4'
  have K4 : Hid (BS w [(W3.heap.size, [.int .i64 i, .int .i64 u]), (W1.heap.size, [.int .i64 f, .int .i64 g]), (w.heap.size, [.int .i64 i, .int .i64 u])] W4) := K4'
  clear K4' Mz3 K3
  have c4_0_0 : W4.cell? ⟨W3.heap.size, 0, none⟩ = some (.int .i64 i) := (K4.out.at (W3.heap.size) [.int .i64 i, .int .i64 u] (by simp)).c 0 rfl
  have c4_0_1 : W4.cell? ⟨W3.heap.size, 1, none⟩ = some (.int .i64 u) := (K4.out.at (W3.heap.size) [.int .i64 i, .int .i64 u] (by simp)).c 1 rfl
  have c4_1_0 : W4.cell? ⟨W1.heap.size, 0, none⟩ = some (.int .i64 f) := (K4.out.at (W1.heap.size) [.int .i64 f, .int .i64 g] (by simp)).c 0 rfl
  have c4_1_1 : W4.cell? ⟨W1.heap.size, 1, none⟩ = some (.int .i64 g) := (K4.out.at (W1.heap.size) [.int .i64 f, .int .i64 g] (by simp)).c 1 rfl
  have c4_2_0 : W4.cell? ⟨w.heap.size, 0, none⟩ = some (.int .i64 i) := (K4.out.at (w.heap.size) [.int .i64 i, .int .i64 u] (by simp)).c 0 rfl
  have c4_2_1 : W4.cell? ⟨w.heap.size, 1, none⟩ = some (.int .i64 u) := (K4.out.at (w.heap.size) [.int .i64 i, .int .i64 u] (by simp)).c 1 rfl
  go_wp2_with fail
  refine (S2.out _ (hL.out _ K4.out.1)).mono ?_
  rintro e W5 ⟨rfl, hb⟩
  have K5 : Hid (BS w [(W3.heap.size, [.int .i64 i, .int .i64 u]), (W1.heap.size, [.int .i64 f, .int .i64 g]), (w.heap.size, [.int .i64 i, .int .i64 u])] W5) := K4.out.below hb
  clear c4_0_0 c4_0_1 c4_1_0 c4_1_1 c4_2_0 c4_2_1
  clear hb K4
  have c5_0_0 : W5.cell? ⟨W3.heap.size, 0, none⟩ = some (.int .i64 i) := (K5.out.at (W3.heap.size) [.int .i64 i, .int .i64 u] (by simp)).c 0 rfl
  have c5_0_1 : W5.cell? ⟨W3.heap.size, 1, none⟩ = some (.int .i64 u) := (K5.out.at (W3.heap.size) [.int .i64 i, .int .i64 u] (by simp)).c 1 rfl
  have c5_1_0 : W5.cell? ⟨W1.heap.size, 0, none⟩ = some (.int .i64 f) := (K5.out.at (W1.heap.size) [.int .i64 f, .int .i64 g] (by simp)).c 0 rfl
  have c5_1_1 : W5.cell? ⟨W1.heap.size, 1, none⟩ = some (.int .i64 g) := (K5.out.at (W1.heap.size) [.int .i64 f, .int .i64 g] (by simp)).c 1 rfl
  have c5_2_0 : W5.cell? ⟨w.heap.size, 0, none⟩ = some (.int .i64 i) := (K5.out.at (w.heap.size) [.int .i64 i, .int .i64 u] (by simp)).c 0 rfl
  have c5_2_1 : W5.cell? ⟨w.heap.size, 1, none⟩ = some (.int .i64 u) := (K5.out.at (w.heap.size) [.int .i64 i, .int .i64 u] (by simp)).c 1 rfl
  have Mz5 : Hid (BS w [(W5.heap.size, [.int .i64 i, .int .i64 (u - h)]), (W3.heap.size, [.int .i64 i, .int .i64 u]), (W1.heap.size, [.int .i64 f, .int .i64 g]), (w.heap.size, [.int .i64 i, .int .i64 u])] (W5.alloc (.cells #[.int .i64 i, .int .i64 (u - h)] 38))) := K5.out.new [.int .i64 i, .int .i64 (u - h)] 38 rfl
  go_upto_region 6 with fail
  refine gen_to (BS w [(W5.heap.size, [.int .i64 i, .int .i64 (u - h)]), (W3.heap.size, [.int .i64 i, .int .i64 u]), (W1.heap.size, [.int .i64 f, .int .i64 g]), (w.heap.size, [.int .i64 i, .int .i64 u])]) Mz5.out ?_
  clear c5_0_0 c5_0_1 c5_1_0 c5_1_1 c5_2_0 c5_2_1
  intro W6 K6'
  have K6 : Hid (BS w [(W5.heap.size, [.int .i64 i, .int .i64 (u - h)]), (W3.heap.size, [.int .i64 i, .int .i64 u]), (W1.heap.size, [.int .i64 f, .int .i64 g]), (w.heap.size, [.int .i64 i, .int .i64 u])] W6) := K6'
  clear K6' Mz5 K5
  have c6_0_0 : W6.cell? ⟨W5.heap.size, 0, none⟩ = some (.int .i64 i) := (K6.out.at (W5.heap.size) [.int .i64 i, .int .i64 (u - h)] (by simp)).c 0 rfl
  have c6_0_1 : W6.cell? ⟨W5.heap.size, 1, none⟩ = some (.int .i64 (u - h)) := (K6.out.at (W5.heap.size) [.int .i64 i, .int .i64 (u - h)] (by simp)).c 1 rfl
  have c6_1_0 : W6.cell? ⟨W3.heap.size, 0, none⟩ = some (.int .i64 i) := (K6.out.at (W3.heap.size) [.int .i64 i, .int .i64 u] (by simp)).c 0 rfl
  have c6_1_1 : W6.cell? ⟨W3.heap.size, 1, none⟩ = some (.int .i64 u) := (K6.out.at (W3.heap.size) [.int .i64 i, .int .i64 u] (by simp)).c 1 rfl
  have c6_2_0 : W6.cell? ⟨W1.heap.size, 0, none⟩ = some (.int .i64 f) := (K6.out.at (W1.heap.size) [.int .i64 f, .int .i64 g] (by simp)).c 0 rfl
  have c6_2_1 : W6.cell? ⟨W1.heap.size, 1, none⟩ = some (.int .i64 g) := (K6.out.at (W1.heap.size) [.int .i64 f, .int .i64 g] (by simp)).c 1 rfl
  have c6_3_0 : W6.cell? ⟨w.heap.size, 0, none⟩ = some (.int .i64 i) := (K6.out.at (w.heap.size) [.int .i64 i, .int .i64 u] (by simp)).c 0 rfl
  have c6_3_1 : W6.cell? ⟨w.heap.size, 1, none⟩ = some (.int .i64 u) := (K6.out.at (w.heap.size) [.int .i64 i, .int .i64 u] (by simp)).c 1 rfl
  go_wp2_with fail
  refine (C1.out _ (hL.out _ K6.out.1)).mono ?_
  rintro e W7 ⟨rfl, hb⟩
  have K7 : Hid (BS w [(W5.heap.size, [.int .i64 i, .int .i64 (u - h)]), (W3.heap.size, [.int .i64 i, .int .i64 u]), (W1.heap.size, [.int .i64 f, .int .i64 g]), (w.heap.size, [.int .i64 i, .int .i64 u])] W7) := K6.out.below hb
  clear c6_0_0 c6_0_1 c6_1_0 c6_1_1 c6_2_0 c6_2_1 c6_3_0 c6_3_1
  clear hb K6
  have c7_0_0 : W7.cell? ⟨W5.heap.size, 0, none⟩ = some (.int .i64 i) := (K7.out.at (W5.heap.size) [.int .i64 i, .int .i64 (u - h)] (by simp)).c 0 rfl
  have c7_0_1 : W7.cell? ⟨W5.heap.size, 1, none⟩ = some (.int .i64 (u - h)) := (K7.out.at (W5.heap.size) [.int .i64 i, .int .i64 (u - h)] (by simp)).c 1 rfl
  have c7_1_0 : W7.cell? ⟨W3.heap.size, 0, none⟩ = some (.int .i64 i) := (K7.out.at (W3.heap.size) [.int .i64 i, .int .i64 u] (by simp)).c 0 rfl
  have c7_1_1 : W7.cell? ⟨W3.heap.size, 1, none⟩ = some (.int .i64 u) := (K7.out.at (W3.heap.size) [.int .i64 i, .int .i64 u] (by simp)).c 1 rfl
  have c7_2_0 : W7.cell? ⟨W1.heap.size, 0, none⟩ = some (.int .i64 f) := (K7.out.at (W1.heap.size) [.int .i64 f, .int .i64 g] (by simp)).c 0 rfl
  have c7_2_1 : W7.cell? ⟨W1.heap.size, 1, none⟩ = some (.int .i64 g) := (K7.out.at (W1.heap.size) [.int .i64 f, .int .i64 g] (by simp)).c 1 rfl
  have c7_3_0 : W7.cell? ⟨w.heap.size, 0, none⟩ = some (.int .i64 i) := (K7.out.at (w.heap.size) [.int .i64 i, .int .i64 u] (by simp)).c 0 rfl
  have c7_3_1 : W7.cell? ⟨w.heap.size, 1, none⟩ = some (.int .i64 u) := (K7.out.at (w.heap.size) [.int .i64 i, .int .i64 u] (by simp)).c 1 rfl
  go_wp2_with fail
  refine (KN.out _ (hL.out _ K7.out.1)).mono ?_
  rintro e W8 ⟨rfl, hb⟩
  have K8 : Hid (BS w [(W5.heap.size, [.int .i64 i, .int .i64 (u - h)]), (W3.heap.size, [.int .i64 i, .int .i64 u]), (W1.heap.size, [.int .i64 f, .int .i64 g]), (w.heap.size, [.int .i64 i, .int .i64 u])] W8) := K7.out.below hb
  clear c7_0_0 c7_0_1 c7_1_0 c7_1_1 c7_2_0 c7_2_1 c7_3_0 c7_3_1
  clear hb K7
  have c8_0_0 : W8.cell? ⟨W5.heap.size, 0, none⟩ = some (.int .i64 i) := (K8.out.at (W5.heap.size) [.int .i64 i, .int .i64 (u - h)] (by simp)).c 0 rfl
  have c8_0_1 : W8.cell? ⟨W5.heap.size, 1, none⟩ = some (.int .i64 (u - h)) := (K8.out.at (W5.heap.size) [.int .i64 i, .int .i64 (u - h)] (by simp)).c 1 rfl
  have c8_1_0 : W8.cell? ⟨W3.heap.size, 0, none⟩ = some (.int .i64 i) := (K8.out.at (W3.heap.size) [.int .i64 i, .int .i64 u] (by simp)).c 0 rfl
  have c8_1_1 : W8.cell? ⟨W3.heap.size, 1, none⟩ = some (.int .i64 u) := (K8.out.at (W3.heap.size) [.int .i64 i, .int .i64 u] (by simp)).c 1 rfl
  have c8_2_0 : W8.cell? ⟨W1.heap.size, 0, none⟩ = some (.int .i64 f) := (K8.out.at (W1.heap.size) [.int .i64 f, .int .i64 g] (by simp)).c 0 rfl
  have c8_2_1 : W8.cell? ⟨W1.heap.size, 1, none⟩ = some (.int .i64 g) := (K8.out.at (W1.heap.size) [.int .i64 f, .int .i64 g] (by simp)).c 1 rfl
  have c8_3_0 : W8.cell? ⟨w.heap.size, 0, none⟩ = some (.int .i64 i) := (K8.out.at (w.heap.size) [.int .i64 i, .int .i64 u] (by simp)).c 0 rfl
  have c8_3_1 : W8.cell? ⟨w.heap.size, 1, none⟩ = some (.int .i64 u) := (K8.out.at (w.heap.size) [.int .i64 i, .int .i64 u] (by simp)).c 1 rfl
  go_wp2
  go_ret
  exact ⟨rfl, K8.out.1⟩


end Go.Proofs.YtghfgabajdghiaaDoor
