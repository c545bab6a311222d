/- The walk of DayParts. -/
import Derived.Test.YtghfgabajdghiaaDoorDyK
import Derived.Deep.Cut
namespace Go.Proofs.YtghfgabajdghiaaDoor
open Go.RowKit
set_option linter.unusedVariables false

set_option maxRecDepth 100000 in
set_option maxHeartbeats 4000000 in
theorem core_DayParts (y m d i x V E p q r e : Int) (c : Bool)
    (M1 : Hid (∀ w : World, Cvl.Lens w → Calls Tryd.prog 9 #[.int .i64 y, .int .i64 m, .int .i64 d] w fun r' w' => r' = .returned (.tuple #[.agg #[.int .i64 0, .int .i64 V], .int .i64 E]) ∧ Below w.heap.size w w'))
    (M2 : Hid (∀ w : World, Calls Tryd.prog 10 #[.int .i64 y, .int .i64 m, .int .i64 d] w fun r' w' => r' = .returned (.tuple #[.agg #[.int .i64 0, .int .i64 V], .int .i64 E]) ∧ Below w.heap.size w w'))
    (P1 : Hid (∀ w : World, Cvl.Lens w → Calls Tryd.prog 11 #[.agg #[.int .i64 i, .int .i64 x]] w fun r' w' => r' = .returned (.tuple #[.int .i64 p, .int .i64 q, .int .i64 r, .int .i64 e]) ∧ Below w.heap.size w w'))
    (P2 : Hid (∀ w : World, Calls Tryd.prog 12 #[.agg #[.int .i64 i, .int .i64 x]] w fun r' w' => r' = .returned (.tuple #[.int .i64 p, .int .i64 q, .int .i64 r, .int .i64 e]) ∧ Below w.heap.size w w'))
    (C1 : Hid (∀ w : World, Cvl.Lens w → Calls Tryd.prog 13 #[.agg #[.int .i64 i, .int .i64 x]] w fun r' w' => r' = .returned (.bool c) ∧ Below w.heap.size w w'))
    (C2 : Hid (∀ w : World, Calls Tryd.prog 14 #[.agg #[.int .i64 i, .int .i64 x]] w fun r' w' => r' = .returned (.bool c) ∧ Below w.heap.size w w'))
    (KN : Hid (∀ w : World, Cvl.Lens w → Calls Tryd.prog 15 #[] w fun r' w' => r' = .returned (.bool true) ∧ Below w.heap.size w w'))
    (w : World) (hL : Hid (∀ W : World, Below w.heap.size w W → Cvl.Lens W)) :
    Calls Tryd.prog 3 #[.int .i64 y, .int .i64 m, .int .i64 d, .agg #[.int .i64 i, .int .i64 x]] w fun r' w' => r' = .returned (.bool true) ∧ Below w.heap.size w w' := by
  have K0 : Hid (BS w [(w.heap.size, [.int .i64 i, .int .i64 x])] (w.alloc (.cells #[.int .i64 i, .int .i64 x] 23))) := ((BS.start w).new [.int .i64 i, .int .i64 x] 23 rfl)
  go_enter Tryd.func3, Tryd.ntmps3
  go_wp2_with fail
  refine (M1.out _ (hL.out _ K0.out.1)).mono ?_
  rintro e W1 ⟨rfl, hb⟩
  have K1 : Hid (BS w [(w.heap.size, [.int .i64 i, .int .i64 x])] W1) := K0.out.below hb
  clear hb K0
  have c1_0_0 : W1.cell? ⟨w.heap.size, 0, none⟩ = some (.int .i64 i) := (K1.out.at (w.heap.size) [.int .i64 i, .int .i64 x] (by simp)).c 0 rfl
  have c1_0_1 : W1.cell? ⟨w.heap.size, 1, none⟩ = some (.int .i64 x) := (K1.out.at (w.heap.size) [.int .i64 i, .int .i64 x] (by simp)).c 1 rfl
  have Mz1 : Hid (BS w [(W1.heap.size, [.int .i64 0, .int .i64 V]), (w.heap.size, [.int .i64 i, .int .i64 x])] (W1.alloc (.cells #[.int .i64 0, .int .i64 V] 23))) := K1.out.new [.int .i64 0, .int .i64 V] 23 rfl
  go_upto_region 2 with fail
  refine gen_to (BS w [(W1.heap.size, [.int .i64 0, .int .i64 V]), (w.heap.size, [.int .i64 i, .int .i64 x])]) Mz1.out ?_
  clear c1_0_0 c1_0_1
  intro W2 K2'
  have K2 : Hid (BS w [(W1.heap.size, [.int .i64 0, .int .i64 V]), (w.heap.size, [.int .i64 i, .int .i64 x])] W2) := K2'
  clear K2' Mz1 K1
  have c2_0_0 : W2.cell? ⟨W1.heap.size, 0, none⟩ = some (.int .i64 0) := (K2.out.at (W1.heap.size) [.int .i64 0, .int .i64 V] (by simp)).c 0 rfl
  have c2_0_1 : W2.cell? ⟨W1.heap.size, 1, none⟩ = some (.int .i64 V) := (K2.out.at (W1.heap.size) [.int .i64 0, .int .i64 V] (by simp)).c 1 rfl
  have c2_1_0 : W2.cell? ⟨w.heap.size, 0, none⟩ = some (.int .i64 i) := (K2.out.at (w.heap.size) [.int .i64 i, .int .i64 x] (by simp)).c 0 rfl
  have c2_1_1 : W2.cell? ⟨w.heap.size, 1, none⟩ = some (.int .i64 x) := (K2.out.at (w.heap.size) [.int .i64 i, .int .i64 x] (by simp)).c 1 rfl
  go_wp2_with fail
  refine (M2.out _).mono ?_
  rintro e W3 ⟨rfl, hb⟩
  have K3 : Hid (BS w [(W1.heap.size, [.int .i64 0, .int .i64 V]), (w.heap.size, [.int .i64 i, .int .i64 x])] W3) := K2.out.below hb
  clear c2_0_0 c2_0_1 c2_1_0 c2_1_1
  clear hb K2
  have c3_0_0 : W3.cell? ⟨W1.heap.size, 0, none⟩ = some (.int .i64 0) := (K3.out.at (W1.heap.size) [.int .i64 0, .int .i64 V] (by simp)).c 0 rfl
  have c3_0_1 : W3.cell? ⟨W1.heap.size, 1, none⟩ = some (.int .i64 V) := (K3.out.at (W1.heap.size) [.int .i64 0, .int .i64 V] (by simp)).c 1 rfl
  have c3_1_0 : W3.cell? ⟨w.heap.size, 0, none⟩ = some (.int .i64 i) := (K3.out.at (w.heap.size) [.int .i64 i, .int .i64 x] (by simp)).c 0 rfl
  have c3_1_1 : W3.cell? ⟨w.heap.size, 1, none⟩ = some (.int .i64 x) := (K3.out.at (w.heap.size) [.int .i64 i, .int .i64 x] (by simp)).c 1 rfl
  have Mz3 : Hid (BS w [(W3.heap.size, [.int .i64 0, .int .i64 V]), (W1.heap.size, [.int .i64 0, .int .i64 V]), (w.heap.size, [.int .i64 i, .int .i64 x])] (W3.alloc (.cells #[.int .i64 0, .int .i64 V] 23))) := K3.out.new [.int .i64 0, .int .i64 V] 23 rfl
  go_upto_region 3 with fail
  refine gen_to (BS w [(W3.heap.size, [.int .i64 0, .int .i64 V]), (W1.heap.size, [.int .i64 0, .int .i64 V]), (w.heap.size, [.int .i64 i, .int .i64 x])]) Mz3.out ?_
  clear c3_0_0 c3_0_1 c3_1_0 c3_1_1
  intro W4 K4'
  have K4 : Hid (BS w [(W3.heap.size, [.int .i64 0, .int .i64 V]), (W1.heap.size, [.int .i64 0, .int .i64 V]), (w.heap.size, [.int .i64 i, .int .i64 x])] W4) := K4'
  clear K4' Mz3 K3
  have c4_0_0 : W4.cell? ⟨W3.heap.size, 0, none⟩ = some (.int .i64 0) := (K4.out.at (W3.heap.size) [.int .i64 0, .int .i64 V] (by simp)).c 0 rfl
  have c4_0_1 : W4.cell? ⟨W3.heap.size, 1, none⟩ = some (.int .i64 V) := (K4.out.at (W3.heap.size) [.int .i64 0, .int .i64 V] (by simp)).c 1 rfl
  have c4_1_0 : W4.cell? ⟨W1.heap.size, 0, none⟩ = some (.int .i64 0) := (K4.out.at (W1.heap.size) [.int .i64 0, .int .i64 V] (by simp)).c 0 rfl
  have c4_1_1 : W4.cell? ⟨W1.heap.size, 1, none⟩ = some (.int .i64 V) := (K4.out.at (W1.heap.size) [.int .i64 0, .int .i64 V] (by simp)).c 1 rfl
  have c4_2_0 : W4.cell? ⟨w.heap.size, 0, none⟩ = some (.int .i64 i) := (K4.out.at (w.heap.size) [.int .i64 i, .int .i64 x] (by simp)).c 0 rfl
  have c4_2_1 : W4.cell? ⟨w.heap.size, 1, none⟩ = some (.int .i64 x) := (K4.out.at (w.heap.size) [.int .i64 i, .int .i64 x] (by simp)).c 1 rfl
  go_wp2_with fail
  refine (P1.out _ (hL.out _ K4.out.1)).mono ?_
  rintro e W5 ⟨rfl, hb⟩
  have K5 : Hid (BS w [(W3.heap.size, [.int .i64 0, .int .i64 V]), (W1.heap.size, [.int .i64 0, .int .i64 V]), (w.heap.size, [.int .i64 i, .int .i64 x])] W5) := K4.out.below hb
  clear c4_0_0 c4_0_1 c4_1_0 c4_1_1 c4_2_0 c4_2_1
  clear hb K4
  have c5_0_0 : W5.cell? ⟨W3.heap.size, 0, none⟩ = some (.int .i64 0) := (K5.out.at (W3.heap.size) [.int .i64 0, .int .i64 V] (by simp)).c 0 rfl
  have c5_0_1 : W5.cell? ⟨W3.heap.size, 1, none⟩ = some (.int .i64 V) := (K5.out.at (W3.heap.size) [.int .i64 0, .int .i64 V] (by simp)).c 1 rfl
  have c5_1_0 : W5.cell? ⟨W1.heap.size, 0, none⟩ = some (.int .i64 0) := (K5.out.at (W1.heap.size) [.int .i64 0, .int .i64 V] (by simp)).c 0 rfl
  have c5_1_1 : W5.cell? ⟨W1.heap.size, 1, none⟩ = some (.int .i64 V) := (K5.out.at (W1.heap.size) [.int .i64 0, .int .i64 V] (by simp)).c 1 rfl
  have c5_2_0 : W5.cell? ⟨w.heap.size, 0, none⟩ = some (.int .i64 i) := (K5.out.at (w.heap.size) [.int .i64 i, .int .i64 x] (by simp)).c 0 rfl
  have c5_2_1 : W5.cell? ⟨w.heap.size, 1, none⟩ = some (.int .i64 x) := (K5.out.at (w.heap.size) [.int .i64 i, .int .i64 x] (by simp)).c 1 rfl
  go_wp2_with fail
  refine (P2.out _).mono ?_
  rintro e W6 ⟨rfl, hb⟩
  have K6 : Hid (BS w [(W3.heap.size, [.int .i64 0, .int .i64 V]), (W1.heap.size, [.int .i64 0, .int .i64 V]), (w.heap.size, [.int .i64 i, .int .i64 x])] W6) := K5.out.below hb
  clear c5_0_0 c5_0_1 c5_1_0 c5_1_1 c5_2_0 c5_2_1
  clear hb K5
  have c6_0_0 : W6.cell? ⟨W3.heap.size, 0, none⟩ = some (.int .i64 0) := (K6.out.at (W3.heap.size) [.int .i64 0, .int .i64 V] (by simp)).c 0 rfl
  have c6_0_1 : W6.cell? ⟨W3.heap.size, 1, none⟩ = some (.int .i64 V) := (K6.out.at (W3.heap.size) [.int .i64 0, .int .i64 V] (by simp)).c 1 rfl
  have c6_1_0 : W6.cell? ⟨W1.heap.size, 0, none⟩ = some (.int .i64 0) := (K6.out.at (W1.heap.size) [.int .i64 0, .int .i64 V] (by simp)).c 0 rfl
  have c6_1_1 : W6.cell? ⟨W1.heap.size, 1, none⟩ = some (.int .i64 V) := (K6.out.at (W1.heap.size) [.int .i64 0, .int .i64 V] (by simp)).c 1 rfl
  have c6_2_0 : W6.cell? ⟨w.heap.size, 0, none⟩ = some (.int .i64 i) := (K6.out.at (w.heap.size) [.int .i64 i, .int .i64 x] (by simp)).c 0 rfl
  have c6_2_1 : W6.cell? ⟨w.heap.size, 1, none⟩ = some (.int .i64 x) := (K6.out.at (w.heap.size) [.int .i64 i, .int .i64 x] (by simp)).c 1 rfl
  go_wp2_with fail
  clear c6_0_0 c6_0_1 c6_1_0 c6_1_1 c6_2_0 c6_2_1
  refine wp_region_held_drew (S := BS w [(W3.heap.size, [.int .i64 0, .int .i64 V]), (W1.heap.size, [.int .i64 0, .int .i64 V]), (w.heap.size, [.int .i64 i, .int .i64 x])]) (by kernel_rfl) K6.out.drew (fun hHeld => ?_)
  refine wpAnyH_take (i := 0) (v := ?_) (oi := { dst := some 49, op := _, type := _, pos := _, after := _, guard := none }) rfl (by kernel_rfl) (by kernel_rfl) (by kernel_rfl) (fun _ _ _ h => h) (Or.inl ⟨by kernel_rfl, ?_⟩) (by assumption) ?_
  case refine_2 => (intro w9 hSw; have l0_0 := (hSw.at (W3.heap.size) [.int .i64 0, .int .i64 V] (by simp)).c 0 rfl; have l0_1 := (hSw.at (W3.heap.size) [.int .i64 0, .int .i64 V] (by simp)).c 1 rfl; have l1_0 := (hSw.at (W1.heap.size) [.int .i64 0, .int .i64 V] (by simp)).c 0 rfl; have l1_1 := (hSw.at (W1.heap.size) [.int .i64 0, .int .i64 V] (by simp)).c 1 rfl; have l2_0 := (hSw.at (w.heap.size) [.int .i64 i, .int .i64 x] (by simp)).c 0 rfl; have l2_1 := (hSw.at (w.heap.size) [.int .i64 i, .int .i64 x] (by simp)).c 1 rfl; clear hSw; go_simp; try with_reducible rfl)
  simp only [Act.put, List.setIfInBounds_toArray, List.set_cons_zero, List.set_cons_succ]
  refine wpAnyH_take (i := 1) (v := ?_) (oi := { dst := some 50, op := _, type := _, pos := _, after := _, guard := none }) rfl (by kernel_rfl) (by kernel_rfl) (by kernel_rfl) (fun _ _ _ h => h) (Or.inl ⟨by kernel_rfl, ?_⟩) (by assumption) ?_
  case refine_2 => (intro w9 hSw; have l0_0 := (hSw.at (W3.heap.size) [.int .i64 0, .int .i64 V] (by simp)).c 0 rfl; have l0_1 := (hSw.at (W3.heap.size) [.int .i64 0, .int .i64 V] (by simp)).c 1 rfl; have l1_0 := (hSw.at (W1.heap.size) [.int .i64 0, .int .i64 V] (by simp)).c 0 rfl; have l1_1 := (hSw.at (W1.heap.size) [.int .i64 0, .int .i64 V] (by simp)).c 1 rfl; have l2_0 := (hSw.at (w.heap.size) [.int .i64 i, .int .i64 x] (by simp)).c 0 rfl; have l2_1 := (hSw.at (w.heap.size) [.int .i64 i, .int .i64 x] (by simp)).c 1 rfl; clear hSw; go_simp; try with_reducible rfl)
  simp only [Act.put, List.setIfInBounds_toArray, List.set_cons_zero, List.set_cons_succ]
  refine wpAnyH_take (i := 2) (v := ?_) (oi := { dst := some 51, op := _, type := _, pos := _, after := _, guard := none }) rfl (by kernel_rfl) (by kernel_rfl) (by kernel_rfl) (fun _ _ _ h => h) (Or.inl ⟨by kernel_rfl, ?_⟩) (by assumption) ?_
  case refine_2 => (intro w9 hSw; clear hSw; go_simp; try with_reducible rfl)
  simp only [Act.put, List.setIfInBounds_toArray, List.set_cons_zero, List.set_cons_succ]
  refine wpAnyH_take (i := 3) (v := ?_) (oi := { dst := some 52, op := _, type := _, pos := _, after := _, guard := none }) rfl (by kernel_rfl) (by kernel_rfl) (by kernel_rfl) (fun _ _ _ h => h) (Or.inl ⟨by kernel_rfl, ?_⟩) (by assumption) ?_
  case refine_2 => (intro w9 hSw; clear hSw; go_simp; try with_reducible rfl)
  simp only [Act.put, List.setIfInBounds_toArray, List.set_cons_zero, List.set_cons_succ]
  refine wpAnyH_take (i := 4) (v := ?_) (oi := { dst := some 53, op := _, type := _, pos := _, after := _, guard := some (3, true) }) rfl (by kernel_rfl) (by kernel_rfl) (by kernel_rfl) (fun _ _ _ h => h) (Or.inl ⟨by kernel_rfl, ?_⟩) (by assumption) ?_
  case refine_2 => (intro w9 hSw; clear hSw; go_simp; try with_reducible rfl)
  simp only [Act.put, List.setIfInBounds_toArray, List.set_cons_zero, List.set_cons_succ]
  refine wpAnyH_take (i := 5) (v := ?_) (oi := { dst := some 54, op := _, type := _, pos := _, after := _, guard := some (3, true) }) rfl (by kernel_rfl) (by kernel_rfl) (by kernel_rfl) (fun _ _ _ h => h) (Or.inl ⟨by kernel_rfl, ?_⟩) (by assumption) ?_
  case refine_2 => (intro w9 hSw; clear hSw; go_simp; try with_reducible rfl)
  simp only [Act.put, List.setIfInBounds_toArray, List.set_cons_zero, List.set_cons_succ]
  refine wpAnyH_take (i := 6) (v := ?_) (oi := { dst := some 55, op := _, type := _, pos := _, after := _, guard := some (3, true) }) rfl (by kernel_rfl) (by kernel_rfl) (by kernel_rfl) (fun _ _ _ h => h) (Or.inl ⟨by kernel_rfl, ?_⟩) (by assumption) ?_
  case refine_2 => (intro w9 hSw; clear hSw; go_simp; try with_reducible rfl)
  simp only [Act.put, List.setIfInBounds_toArray, List.set_cons_zero, List.set_cons_succ]
  refine wpAnyH_take (i := 7) (v := ?_) (oi := { dst := some 56, op := _, type := _, pos := _, after := _, guard := none }) rfl (by kernel_rfl) (by kernel_rfl) (by kernel_rfl) (fun _ _ _ h => h) (Or.inl ⟨by kernel_rfl, ?_⟩) (by assumption) ?_
  case refine_2 => (intro w9 hSw; clear hSw; go_simp; try with_reducible rfl)
  simp only [Act.put, List.setIfInBounds_toArray, List.set_cons_zero, List.set_cons_succ]
  refine wpAnyH_take (i := 8) (v := ?_) (oi := { dst := some 57, op := _, type := _, pos := _, after := _, guard := none }) rfl (by kernel_rfl) (by kernel_rfl) (by kernel_rfl) (fun _ _ _ h => h) (Or.inl ⟨by kernel_rfl, ?_⟩) (by assumption) ?_
  case refine_2 => (intro w9 hSw; clear hSw; go_simp; try with_reducible rfl)
  simp only [Act.put, List.setIfInBounds_toArray, List.set_cons_zero, List.set_cons_succ]
  refine wpAnyH_take (i := 9) (v := ?_) (oi := { dst := some 58, op := _, type := _, pos := _, after := _, guard := some (8, true) }) rfl (by kernel_rfl) (by kernel_rfl) (by kernel_rfl) (fun _ _ _ h => h) (Or.inl ⟨by kernel_rfl, ?_⟩) (by assumption) ?_
  case refine_2 => (intro w9 hSw; clear hSw; go_simp; try with_reducible rfl)
  simp only [Act.put, List.setIfInBounds_toArray, List.set_cons_zero, List.set_cons_succ]
  refine wpAnyH_take (i := 10) (v := ?_) (oi := { dst := some 59, op := _, type := _, pos := _, after := _, guard := some (8, true) }) rfl (by kernel_rfl) (by kernel_rfl) (by kernel_rfl) (fun _ _ _ h => h) (Or.inl ⟨by kernel_rfl, ?_⟩) (by assumption) ?_
  case refine_2 => (intro w9 hSw; clear hSw; go_simp; try with_reducible rfl)
  simp only [Act.put, List.setIfInBounds_toArray, List.set_cons_zero, List.set_cons_succ]
  refine wpAnyH_take (i := 11) (v := ?_) (oi := { dst := some 60, op := _, type := _, pos := _, after := _, guard := some (8, true) }) rfl (by kernel_rfl) (by kernel_rfl) (by kernel_rfl) (fun _ _ _ h => h) (Or.inl ⟨by kernel_rfl, ?_⟩) (by assumption) ?_
  case refine_2 => (intro w9 hSw; clear hSw; go_simp; try with_reducible rfl)
  simp only [Act.put, List.setIfInBounds_toArray, List.set_cons_zero, List.set_cons_succ]
  refine wpAnyH_take (i := 12) (v := ?_) (oi := { dst := some 61, op := _, type := _, pos := _, after := _, guard := none }) rfl (by kernel_rfl) (by kernel_rfl) (by kernel_rfl) (fun _ _ _ h => h) (Or.inl ⟨by kernel_rfl, ?_⟩) (by assumption) ?_
  case refine_2 => (intro w9 hSw; clear hSw; go_simp; try with_reducible rfl)
  simp only [Act.put, List.setIfInBounds_toArray, List.set_cons_zero, List.set_cons_succ]
  refine wpAnyH_take (i := 13) (v := ?_) (oi := { dst := some 62, op := _, type := _, pos := _, after := _, guard := none }) rfl (by kernel_rfl) (by kernel_rfl) (by kernel_rfl) (fun _ _ _ h => h) (Or.inl ⟨by kernel_rfl, ?_⟩) (by assumption) ?_
  case refine_2 => (intro w9 hSw; clear hSw; go_simp; try with_reducible rfl)
  simp only [Act.put, List.setIfInBounds_toArray, List.set_cons_zero, List.set_cons_succ]
  refine wpAnyH_take (i := 14) (v := ?_) (oi := { dst := some 63, op := _, type := _, pos := _, after := _, guard := some (13, true) }) rfl (by kernel_rfl) (by kernel_rfl) (by kernel_rfl) (fun _ _ _ h => h) (Or.inl ⟨by kernel_rfl, ?_⟩) (by assumption) ?_
  case refine_2 => (intro w9 hSw; clear hSw; go_simp; try with_reducible rfl)
  simp only [Act.put, List.setIfInBounds_toArray, List.set_cons_zero, List.set_cons_succ]
  refine wpAnyH_take (i := 15) (v := ?_) (oi := { dst := some 64, op := _, type := _, pos := _, after := _, guard := some (13, true) }) rfl (by kernel_rfl) (by kernel_rfl) (by kernel_rfl) (fun _ _ _ h => h) (Or.inl ⟨by kernel_rfl, ?_⟩) (by assumption) ?_
  case refine_2 => (intro w9 hSw; clear hSw; go_simp; try with_reducible rfl)
  simp only [Act.put, List.setIfInBounds_toArray, List.set_cons_zero, List.set_cons_succ]
  refine wpAnyH_take (i := 16) (v := ?_) (oi := { dst := some 65, op := _, type := _, pos := _, after := _, guard := some (13, true) }) rfl (by kernel_rfl) (by kernel_rfl) (by kernel_rfl) (fun _ _ _ h => h) (Or.inl ⟨by kernel_rfl, ?_⟩) (by assumption) ?_
  case refine_2 => (intro w9 hSw; clear hSw; go_simp; try with_reducible rfl)
  simp only [Act.put, List.setIfInBounds_toArray, List.set_cons_zero, List.set_cons_succ]
  refine wpAnyH_take (i := 17) (v := ?_) (oi := { dst := some 66, op := _, type := _, pos := _, after := _, guard := none }) rfl (by kernel_rfl) (by kernel_rfl) (by kernel_rfl) (fun _ _ _ h => h) (Or.inl ⟨by kernel_rfl, ?_⟩) (by assumption) ?_
  case refine_2 => (intro w9 hSw; clear hSw; go_simp; try with_reducible rfl)
  simp only [Act.put, List.setIfInBounds_toArray, List.set_cons_zero, List.set_cons_succ]
  refine wpAnyH_take (i := 18) (v := ?_) (oi := { dst := some 67, op := _, type := _, pos := _, after := _, guard := none }) rfl (by kernel_rfl) (by kernel_rfl) (by kernel_rfl) (fun _ _ _ h => h) (Or.inl ⟨by kernel_rfl, ?_⟩) (by assumption) ?_
  case refine_2 => (intro w9 hSw; clear hSw; go_simp; try with_reducible rfl)
  simp only [Act.put, List.setIfInBounds_toArray, List.set_cons_zero, List.set_cons_succ]
  refine wpAnyH_take (i := 19) (v := ?_) (oi := { dst := some 68, op := _, type := _, pos := _, after := _, guard := some (18, true) }) rfl (by kernel_rfl) (by kernel_rfl) (by kernel_rfl) (fun _ _ _ h => h) (Or.inl ⟨by kernel_rfl, ?_⟩) (by assumption) ?_
  case refine_2 => (intro w9 hSw; clear hSw; go_simp; try with_reducible rfl)
  simp only [Act.put, List.setIfInBounds_toArray, List.set_cons_zero, List.set_cons_succ]
  refine wpAnyH_take (i := 20) (v := ?_) (oi := { dst := some 69, op := _, type := _, pos := _, after := _, guard := some (18, true) }) rfl (by kernel_rfl) (by kernel_rfl) (by kernel_rfl) (fun _ _ _ h => h) (Or.inl ⟨by kernel_rfl, ?_⟩) (by assumption) ?_
  case refine_2 => (intro w9 hSw; clear hSw; go_simp; try with_reducible rfl)
  simp only [Act.put, List.setIfInBounds_toArray, List.set_cons_zero, List.set_cons_succ]
  refine wpAnyH_take (i := 21) (v := ?_) (oi := { dst := some 70, op := _, type := _, pos := _, after := _, guard := some (18, true) }) rfl (by kernel_rfl) (by kernel_rfl) (by kernel_rfl) (fun _ _ _ h => h) (Or.inl ⟨by kernel_rfl, ?_⟩) (by assumption) ?_
  case refine_2 => (intro w9 hSw; clear hSw; go_simp; try with_reducible rfl)
  simp only [Act.put, List.setIfInBounds_toArray, List.set_cons_zero, List.set_cons_succ]
  refine wpAnyH_take (i := 22) (v := ?_) (oi := { dst := some 71, op := _, type := _, pos := _, after := _, guard := none }) rfl (by kernel_rfl) (by kernel_rfl) (by kernel_rfl) (fun _ _ _ h => h) (Or.inl ⟨by kernel_rfl, ?_⟩) (by assumption) ?_
  case refine_2 => (intro w9 hSw; clear hSw; go_simp; try with_reducible rfl)
  simp only [Act.put, List.setIfInBounds_toArray, List.set_cons_zero, List.set_cons_succ]
  refine wpAnyH_take (i := 23) (v := ?_) (oi := { dst := some 72, op := _, type := _, pos := _, after := _, guard := none }) rfl (by kernel_rfl) (by kernel_rfl) (by kernel_rfl) (fun _ _ _ h => h) (Or.inl ⟨by kernel_rfl, ?_⟩) (by assumption) ?_
  case refine_2 => (intro w9 hSw; clear hSw; go_simp; try with_reducible rfl)
  simp only [Act.put, List.setIfInBounds_toArray, List.set_cons_zero, List.set_cons_succ]
  refine wpAnyH_take (i := 24) (v := ?_) (oi := { dst := some 73, op := _, type := _, pos := _, after := _, guard := some (23, true) }) rfl (by kernel_rfl) (by kernel_rfl) (by kernel_rfl) (fun _ _ _ h => h) (Or.inl ⟨by kernel_rfl, ?_⟩) (by assumption) ?_
  case refine_2 => (intro w9 hSw; clear hSw; go_simp; try with_reducible rfl)
  simp only [Act.put, List.setIfInBounds_toArray, List.set_cons_zero, List.set_cons_succ]
  refine wpAnyH_take (i := 25) (v := ?_) (oi := { dst := some 74, op := _, type := _, pos := _, after := _, guard := some (23, true) }) rfl (by kernel_rfl) (by kernel_rfl) (by kernel_rfl) (fun _ _ _ h => h) (Or.inl ⟨by kernel_rfl, ?_⟩) (by assumption) ?_
  case refine_2 => (intro w9 hSw; clear hSw; go_simp; try with_reducible rfl)
  simp only [Act.put, List.setIfInBounds_toArray, List.set_cons_zero, List.set_cons_succ]
  refine wpAnyH_take (i := 26) (v := ?_) (oi := { dst := some 75, op := _, type := _, pos := _, after := _, guard := some (23, true) }) rfl (by kernel_rfl) (by kernel_rfl) (by kernel_rfl) (fun _ _ _ h => h) (Or.inl ⟨by kernel_rfl, ?_⟩) (by assumption) ?_
  case refine_2 => (intro w9 hSw; clear hSw; go_simp; try with_reducible rfl)
  simp only [Act.put, List.setIfInBounds_toArray, List.set_cons_zero, List.set_cons_succ]
  refine wpAnyH_take (i := 27) (v := ?_) (oi := { dst := some 76, op := _, type := _, pos := _, after := _, guard := none }) rfl (by kernel_rfl) (by kernel_rfl) (by kernel_rfl) (fun _ _ _ h => h) (Or.inl ⟨by kernel_rfl, ?_⟩) (by assumption) ?_
  case refine_2 => (intro w9 hSw; clear hSw; go_simp; try with_reducible rfl)
  simp only [Act.put, List.setIfInBounds_toArray, List.set_cons_zero, List.set_cons_succ]
  refine wpAnyH_take (i := 28) (v := ?_) (oi := { dst := some 77, op := _, type := _, pos := _, after := _, guard := none }) rfl (by kernel_rfl) (by kernel_rfl) (by kernel_rfl) (fun _ _ _ h => h) (Or.inl ⟨by kernel_rfl, ?_⟩) (by assumption) ?_
  case refine_2 => (intro w9 hSw; clear hSw; go_simp; try with_reducible rfl)
  simp only [Act.put, List.setIfInBounds_toArray, List.set_cons_zero, List.set_cons_succ]
  refine wpAnyH_take (i := 29) (v := ?_) (oi := { dst := some 78, op := _, type := _, pos := _, after := _, guard := some (28, true) }) rfl (by kernel_rfl) (by kernel_rfl) (by kernel_rfl) (fun _ _ _ h => h) (Or.inl ⟨by kernel_rfl, ?_⟩) (by assumption) ?_
  case refine_2 => (intro w9 hSw; have l0_0 := (hSw.at (W3.heap.size) [.int .i64 0, .int .i64 V] (by simp)).c 0 rfl; have l0_1 := (hSw.at (W3.heap.size) [.int .i64 0, .int .i64 V] (by simp)).c 1 rfl; have l1_0 := (hSw.at (W1.heap.size) [.int .i64 0, .int .i64 V] (by simp)).c 0 rfl; have l1_1 := (hSw.at (W1.heap.size) [.int .i64 0, .int .i64 V] (by simp)).c 1 rfl; have l2_0 := (hSw.at (w.heap.size) [.int .i64 i, .int .i64 x] (by simp)).c 0 rfl; have l2_1 := (hSw.at (w.heap.size) [.int .i64 i, .int .i64 x] (by simp)).c 1 rfl; clear hSw; go_simp; try with_reducible rfl)
  simp only [Act.put, List.setIfInBounds_toArray, List.set_cons_zero, List.set_cons_succ]
  refine wpAnyH_take (i := 31) (v := ?_) (oi := { dst := some 80, op := _, type := _, pos := _, after := _, guard := some (28, true) }) rfl (by kernel_rfl) (by kernel_rfl) (by kernel_rfl) (fun _ _ _ h => h) (Or.inl ⟨by kernel_rfl, ?_⟩) (by assumption) ?_
  case refine_2 => (intro w9 hSw; have l0_0 := (hSw.at (W3.heap.size) [.int .i64 0, .int .i64 V] (by simp)).c 0 rfl; have l0_1 := (hSw.at (W3.heap.size) [.int .i64 0, .int .i64 V] (by simp)).c 1 rfl; have l1_0 := (hSw.at (W1.heap.size) [.int .i64 0, .int .i64 V] (by simp)).c 0 rfl; have l1_1 := (hSw.at (W1.heap.size) [.int .i64 0, .int .i64 V] (by simp)).c 1 rfl; have l2_0 := (hSw.at (w.heap.size) [.int .i64 i, .int .i64 x] (by simp)).c 0 rfl; have l2_1 := (hSw.at (w.heap.size) [.int .i64 i, .int .i64 x] (by simp)).c 1 rfl; clear hSw; go_simp; try with_reducible rfl)
  simp only [Act.put, List.setIfInBounds_toArray, List.set_cons_zero, List.set_cons_succ]
  refine wpAnyH_ready (rs := [30]) (by kernel_rfl) (by simp) (AllReadyH.cons (o := { dst := some 79, op := _, type := _, pos := _, after := _, guard := some (28, true) }) rfl (fun K hK => ?_) AllReadyH.nil)
  go_simp
  refine (C1.out _ (hL.out _ hHeld.1)).mono ?_
  rintro e v1 ⟨rfl, hb1⟩
  refine hK.out _ _ (hHeld.below hb1) (fun hHeld => ?_)
  clear hK K hb1
  refine wpAnyH_ready (rs := [32]) (by kernel_rfl) (by simp) (AllReadyH.cons (o := { dst := some 81, op := _, type := _, pos := _, after := _, guard := some (28, true) }) rfl (fun K hK => ?_) AllReadyH.nil)
  go_simp
  refine (C2.out _).mono ?_
  rintro e v2 ⟨rfl, hb2⟩
  refine hK.out _ _ (hHeld.below hb2) (fun hHeld => ?_)
  clear hK K hb2
  refine wpAnyH_take (i := 33) (v := ?_) (oi := { dst := some 82, op := _, type := _, pos := _, after := _, guard := some (28, true) }) rfl (by kernel_rfl) (by kernel_rfl) (by kernel_rfl) (fun _ _ _ h => h) (Or.inl ⟨by kernel_rfl, ?_⟩) (by assumption) ?_
  case refine_2 => (intro w9 hSw; clear hSw; go_simp; try with_reducible rfl)
  simp only [Act.put, List.setIfInBounds_toArray, List.set_cons_zero, List.set_cons_succ]
  refine wpAnyH_take (i := 34) (v := ?_) (oi := { dst := some 83, op := _, type := _, pos := _, after := _, guard := none }) rfl (by kernel_rfl) (by kernel_rfl) (by kernel_rfl) (fun _ _ _ h => h) (Or.inl ⟨by kernel_rfl, ?_⟩) (by assumption) ?_
  case refine_2 => (intro w9 hSw; clear hSw; go_simp; try with_reducible rfl)
  simp only [Act.put, List.setIfInBounds_toArray, List.set_cons_zero, List.set_cons_succ]
  refine wpAnyH_take (i := 35) (v := ?_) (oi := { dst := some 84, op := _, type := _, pos := _, after := _, guard := none }) rfl (by kernel_rfl) (by kernel_rfl) (by kernel_rfl) (fun _ _ _ h => h) (Or.inl ⟨by kernel_rfl, ?_⟩) (by assumption) ?_
  case refine_2 => (intro w9 hSw; clear hSw; go_simp; try with_reducible rfl)
  simp only [Act.put, List.setIfInBounds_toArray, List.set_cons_zero, List.set_cons_succ]
  refine wpAnyH_ready (rs := [36]) (by kernel_rfl) (by simp) (AllReadyH.cons (o := { dst := some 85, op := _, type := _, pos := _, after := _, guard := some (35, true) }) rfl (fun K hK => ?_) AllReadyH.nil)
  go_simp
  refine (KN.out _ (hL.out _ hHeld.1)).mono ?_
  rintro e v3 ⟨rfl, hb3⟩
  refine hK.out _ _ (hHeld.below hb3) (fun hHeld => ?_)
  clear hK K hb3
  refine wpAnyH_take (i := 37) (v := ?_) (oi := { dst := some 86, op := _, type := _, pos := _, after := _, guard := none }) rfl (by kernel_rfl) (by kernel_rfl) (by kernel_rfl) (fun _ _ _ h => h) (Or.inl ⟨by kernel_rfl, ?_⟩) (by assumption) ?_
  case refine_2 => (intro w9 hSw; clear hSw; go_simp; try with_reducible rfl)
  simp only [Act.put, List.setIfInBounds_toArray, List.set_cons_zero, List.set_cons_succ]
  refine wpAnyH_take (i := 38) (v := ?_) (oi := { dst := some 8, op := _, type := _, pos := _, after := _, guard := none }) rfl (by kernel_rfl) (by kernel_rfl) (by kernel_rfl) (fun _ _ _ h => h) (Or.inl ⟨by kernel_rfl, ?_⟩) (by assumption) ?_
  case refine_2 => (intro w9 hSw; clear hSw; go_simp; try with_reducible rfl)
  simp only [Act.put, List.setIfInBounds_toArray, List.set_cons_zero, List.set_cons_succ]
  refine wpAnyH_done (by kernel_rfl) ?_ _
  have HB : Hid (Below w.heap.size w _) := hHeld.1
  clear hHeld
  go_wp2
  go_ret
  exact ⟨rfl, HB.out⟩


end Go.Proofs.YtghfgabajdghiaaDoor
