/- The walk of SpanOrder. -/
import Derived.Test.YtghfgabajdghiabSpA
import Derived.Deep.Cut
namespace Go.Proofs.Ytghfgabajdghiab
open Go.RowKit
set_option linter.unusedVariables false

set_option maxRecDepth 100000 in
set_option maxHeartbeats 4000000 in
theorem core_SpanOrder1 (i m d u j n e v r s a1 a2 a3 a4 b1 b2 b3 b4 f g : Int) (hf : f ≠ 0)
    (C1 : Hid (∀ w : World, Calls Try.prog 22 #[.agg #[.int .i64 i, .int .i64 m, .int .i64 d, .int .i64 u], .agg #[.int .i64 j, .int .i64 n, .int .i64 e, .int .i64 v]] w fun r' w' => r' = .returned (.int .i64 r) ∧ Below w.heap.size w w'))
    (C2 : Hid (∀ w : World, Calls Try.prog 23 #[.agg #[.int .i64 i, .int .i64 m, .int .i64 d, .int .i64 u], .agg #[.int .i64 j, .int .i64 n, .int .i64 e, .int .i64 v]] w fun r' w' => r' = .returned (.int .i64 r) ∧ Below w.heap.size w w'))
    (G1 : Hid (∀ w : World, Calls Try.prog 24 #[.agg #[.int .i64 i, .int .i64 m, .int .i64 d, .int .i64 u]] w fun r' w' => r' = .returned (.int .i64 s) ∧ Below w.heap.size w w'))
    (G2 : Hid (∀ w : World, Calls Try.prog 25 #[.agg #[.int .i64 i, .int .i64 m, .int .i64 d, .int .i64 u]] w fun r' w' => r' = .returned (.int .i64 s) ∧ Below w.heap.size w w'))
    (N1 : Hid (∀ w : World, Calls Try.prog 9 #[.agg #[.int .i64 i, .int .i64 m, .int .i64 d, .int .i64 u]] w fun r' w' => r' = .returned (.tuple #[.agg #[.int .i64 a1, .int .i64 a2, .int .i64 a3, .int .i64 a4], .int .i64 f]) ∧ Below w.heap.size w w'))
    (N2 : Hid (∀ w : World, Calls Try.prog 9 #[.agg #[.int .i64 j, .int .i64 n, .int .i64 e, .int .i64 v]] w fun r' w' => r' = .returned (.tuple #[.agg #[.int .i64 b1, .int .i64 b2, .int .i64 b3, .int .i64 b4], .int .i64 g]) ∧ Below w.heap.size w w'))
    (KN : Hid (∀ w : World, Calls Try.prog 17 #[] w fun r' w' => r' = .returned (.bool true) ∧ Below w.heap.size w w'))
    (w : World) :
    Calls Try.prog 5 #[.agg #[.int .i64 i, .int .i64 m, .int .i64 d, .int .i64 u], .agg #[.int .i64 j, .int .i64 n, .int .i64 e, .int .i64 v]] w fun r' w' => r' = .returned (.bool true) ∧ Below w.heap.size w w' := by
  have f1 : (f != 0) = true := bne_iff_ne.2 hf
  have K0 : Hid (BS w [(w.heap.size + 1, [.int .i64 j, .int .i64 n, .int .i64 e, .int .i64 v]), (w.heap.size, [.int .i64 i, .int .i64 m, .int .i64 d, .int .i64 u])] ((w.alloc (.cells #[.int .i64 i, .int .i64 m, .int .i64 d, .int .i64 u] 23)).alloc (.cells #[.int .i64 j, .int .i64 n, .int .i64 e, .int .i64 v] 23))) := (((BS.start w).new [.int .i64 i, .int .i64 m, .int .i64 d, .int .i64 u] 23 rfl).new [.int .i64 j, .int .i64 n, .int .i64 e, .int .i64 v] 23 (by simp))
  go_enter Try.func5, Try.ntmps5
  go_wp2_with fail
  refine wp_region_held_drew (S := BS w [(w.heap.size + 1, [.int .i64 j, .int .i64 n, .int .i64 e, .int .i64 v]), (w.heap.size, [.int .i64 i, .int .i64 m, .int .i64 d, .int .i64 u])]) (by kernel_rfl) K0.out.drew (fun hHeld => ?_)
  refine wpAnyH_take (i := 0) (v := ?_) (oi := { dst := some 9, op := _, type := _, pos := _, after := _, guard := none }) rfl (by kernel_rfl) (by kernel_rfl) (by kernel_rfl) (fun _ _ _ h => h) (Or.inl ⟨by kernel_rfl, ?_⟩) (by assumption) ?_
  case refine_2 => (intro w9 hSw; have l0_0 := (hSw.at (w.heap.size + 1) [.int .i64 j, .int .i64 n, .int .i64 e, .int .i64 v] (by simp)).c 0 rfl; have l0_1 := (hSw.at (w.heap.size + 1) [.int .i64 j, .int .i64 n, .int .i64 e, .int .i64 v] (by simp)).c 1 rfl; have l0_2 := (hSw.at (w.heap.size + 1) [.int .i64 j, .int .i64 n, .int .i64 e, .int .i64 v] (by simp)).c 2 rfl; have l0_3 := (hSw.at (w.heap.size + 1) [.int .i64 j, .int .i64 n, .int .i64 e, .int .i64 v] (by simp)).c 3 rfl; have l1_0 := (hSw.at (w.heap.size) [.int .i64 i, .int .i64 m, .int .i64 d, .int .i64 u] (by simp)).c 0 rfl; have l1_1 := (hSw.at (w.heap.size) [.int .i64 i, .int .i64 m, .int .i64 d, .int .i64 u] (by simp)).c 1 rfl; have l1_2 := (hSw.at (w.heap.size) [.int .i64 i, .int .i64 m, .int .i64 d, .int .i64 u] (by simp)).c 2 rfl; have l1_3 := (hSw.at (w.heap.size) [.int .i64 i, .int .i64 m, .int .i64 d, .int .i64 u] (by simp)).c 3 rfl; clear hSw; go_simp; try with_reducible rfl)
  simp only [Act.put, List.setIfInBounds_toArray, List.set_cons_zero, List.set_cons_succ]
  refine wpAnyH_take (i := 1) (v := ?_) (oi := { dst := some 10, op := _, type := _, pos := _, after := _, guard := none }) rfl (by kernel_rfl) (by kernel_rfl) (by kernel_rfl) (fun _ _ _ h => h) (Or.inl ⟨by kernel_rfl, ?_⟩) (by assumption) ?_
  case refine_2 => (intro w9 hSw; have l0_0 := (hSw.at (w.heap.size + 1) [.int .i64 j, .int .i64 n, .int .i64 e, .int .i64 v] (by simp)).c 0 rfl; have l0_1 := (hSw.at (w.heap.size + 1) [.int .i64 j, .int .i64 n, .int .i64 e, .int .i64 v] (by simp)).c 1 rfl; have l0_2 := (hSw.at (w.heap.size + 1) [.int .i64 j, .int .i64 n, .int .i64 e, .int .i64 v] (by simp)).c 2 rfl; have l0_3 := (hSw.at (w.heap.size + 1) [.int .i64 j, .int .i64 n, .int .i64 e, .int .i64 v] (by simp)).c 3 rfl; have l1_0 := (hSw.at (w.heap.size) [.int .i64 i, .int .i64 m, .int .i64 d, .int .i64 u] (by simp)).c 0 rfl; have l1_1 := (hSw.at (w.heap.size) [.int .i64 i, .int .i64 m, .int .i64 d, .int .i64 u] (by simp)).c 1 rfl; have l1_2 := (hSw.at (w.heap.size) [.int .i64 i, .int .i64 m, .int .i64 d, .int .i64 u] (by simp)).c 2 rfl; have l1_3 := (hSw.at (w.heap.size) [.int .i64 i, .int .i64 m, .int .i64 d, .int .i64 u] (by simp)).c 3 rfl; clear hSw; go_simp; try with_reducible rfl)
  simp only [Act.put, List.setIfInBounds_toArray, List.set_cons_zero, List.set_cons_succ]
  refine wpAnyH_take (i := 3) (v := ?_) (oi := { dst := some 12, op := _, type := _, pos := _, after := _, guard := none }) rfl (by kernel_rfl) (by kernel_rfl) (by kernel_rfl) (fun _ _ _ h => h) (Or.inl ⟨by kernel_rfl, ?_⟩) (by assumption) ?_
  case refine_2 => (intro w9 hSw; have l0_0 := (hSw.at (w.heap.size + 1) [.int .i64 j, .int .i64 n, .int .i64 e, .int .i64 v] (by simp)).c 0 rfl; have l0_1 := (hSw.at (w.heap.size + 1) [.int .i64 j, .int .i64 n, .int .i64 e, .int .i64 v] (by simp)).c 1 rfl; have l0_2 := (hSw.at (w.heap.size + 1) [.int .i64 j, .int .i64 n, .int .i64 e, .int .i64 v] (by simp)).c 2 rfl; have l0_3 := (hSw.at (w.heap.size + 1) [.int .i64 j, .int .i64 n, .int .i64 e, .int .i64 v] (by simp)).c 3 rfl; have l1_0 := (hSw.at (w.heap.size) [.int .i64 i, .int .i64 m, .int .i64 d, .int .i64 u] (by simp)).c 0 rfl; have l1_1 := (hSw.at (w.heap.size) [.int .i64 i, .int .i64 m, .int .i64 d, .int .i64 u] (by simp)).c 1 rfl; have l1_2 := (hSw.at (w.heap.size) [.int .i64 i, .int .i64 m, .int .i64 d, .int .i64 u] (by simp)).c 2 rfl; have l1_3 := (hSw.at (w.heap.size) [.int .i64 i, .int .i64 m, .int .i64 d, .int .i64 u] (by simp)).c 3 rfl; clear hSw; go_simp; try with_reducible rfl)
  simp only [Act.put, List.setIfInBounds_toArray, List.set_cons_zero, List.set_cons_succ]
  refine wpAnyH_take (i := 4) (v := ?_) (oi := { dst := some 13, op := _, type := _, pos := _, after := _, guard := none }) rfl (by kernel_rfl) (by kernel_rfl) (by kernel_rfl) (fun _ _ _ h => h) (Or.inl ⟨by kernel_rfl, ?_⟩) (by assumption) ?_
  case refine_2 => (intro w9 hSw; have l0_0 := (hSw.at (w.heap.size + 1) [.int .i64 j, .int .i64 n, .int .i64 e, .int .i64 v] (by simp)).c 0 rfl; have l0_1 := (hSw.at (w.heap.size + 1) [.int .i64 j, .int .i64 n, .int .i64 e, .int .i64 v] (by simp)).c 1 rfl; have l0_2 := (hSw.at (w.heap.size + 1) [.int .i64 j, .int .i64 n, .int .i64 e, .int .i64 v] (by simp)).c 2 rfl; have l0_3 := (hSw.at (w.heap.size + 1) [.int .i64 j, .int .i64 n, .int .i64 e, .int .i64 v] (by simp)).c 3 rfl; have l1_0 := (hSw.at (w.heap.size) [.int .i64 i, .int .i64 m, .int .i64 d, .int .i64 u] (by simp)).c 0 rfl; have l1_1 := (hSw.at (w.heap.size) [.int .i64 i, .int .i64 m, .int .i64 d, .int .i64 u] (by simp)).c 1 rfl; have l1_2 := (hSw.at (w.heap.size) [.int .i64 i, .int .i64 m, .int .i64 d, .int .i64 u] (by simp)).c 2 rfl; have l1_3 := (hSw.at (w.heap.size) [.int .i64 i, .int .i64 m, .int .i64 d, .int .i64 u] (by simp)).c 3 rfl; clear hSw; go_simp; try with_reducible rfl)
  simp only [Act.put, List.setIfInBounds_toArray, List.set_cons_zero, List.set_cons_succ]
  refine wpAnyH_ready (rs := [2]) (by kernel_rfl) (by simp) (AllReadyH.cons (o := { dst := some 11, op := _, type := _, pos := _, after := _, guard := none }) rfl (fun K hK => ?_) AllReadyH.nil)
  go_simp
  refine (C1.out _).mono ?_
  rintro e v1 ⟨rfl, hb1⟩
  refine hK.out _ _ (hHeld.below hb1) (fun hHeld => ?_)
  clear hK K hb1
  refine wpAnyH_ready (rs := [5]) (by kernel_rfl) (by simp) (AllReadyH.cons (o := { dst := some 14, op := _, type := _, pos := _, after := _, guard := none }) rfl (fun K hK => ?_) AllReadyH.nil)
  go_simp
  refine (C2.out _).mono ?_
  rintro e v2 ⟨rfl, hb2⟩
  refine hK.out _ _ (hHeld.below hb2) (fun hHeld => ?_)
  clear hK K hb2
  refine wpAnyH_take (i := 6) (v := ?_) (oi := { dst := some 15, op := _, type := _, pos := _, after := _, guard := none }) rfl (by kernel_rfl) (by kernel_rfl) (by kernel_rfl) (fun _ _ _ h => h) (Or.inl ⟨by kernel_rfl, ?_⟩) (by assumption) ?_
  case refine_2 => (intro w9 hSw; clear hSw; go_simp; try with_reducible rfl)
  simp only [Act.put, List.setIfInBounds_toArray, List.set_cons_zero, List.set_cons_succ]
  refine wpAnyH_take (i := 7) (v := ?_) (oi := { dst := some 16, op := _, type := _, pos := _, after := _, guard := none }) rfl (by kernel_rfl) (by kernel_rfl) (by kernel_rfl) (fun _ _ _ h => h) (Or.inl ⟨by kernel_rfl, ?_⟩) (by assumption) ?_
  case refine_2 => (intro w9 hSw; clear hSw; go_simp; try with_reducible rfl)
  simp only [Act.put, List.setIfInBounds_toArray, List.set_cons_zero, List.set_cons_succ]
  refine wpAnyH_take (i := 8) (v := ?_) (oi := { dst := some 17, op := _, type := _, pos := _, after := _, guard := some (7, false) }) rfl (by kernel_rfl) (by kernel_rfl) (by kernel_rfl) (fun _ _ _ h => h) (Or.inl ⟨by kernel_rfl, ?_⟩) (by assumption) ?_
  case refine_2 => (intro w9 hSw; have l0_0 := (hSw.at (w.heap.size + 1) [.int .i64 j, .int .i64 n, .int .i64 e, .int .i64 v] (by simp)).c 0 rfl; have l0_1 := (hSw.at (w.heap.size + 1) [.int .i64 j, .int .i64 n, .int .i64 e, .int .i64 v] (by simp)).c 1 rfl; have l0_2 := (hSw.at (w.heap.size + 1) [.int .i64 j, .int .i64 n, .int .i64 e, .int .i64 v] (by simp)).c 2 rfl; have l0_3 := (hSw.at (w.heap.size + 1) [.int .i64 j, .int .i64 n, .int .i64 e, .int .i64 v] (by simp)).c 3 rfl; have l1_0 := (hSw.at (w.heap.size) [.int .i64 i, .int .i64 m, .int .i64 d, .int .i64 u] (by simp)).c 0 rfl; have l1_1 := (hSw.at (w.heap.size) [.int .i64 i, .int .i64 m, .int .i64 d, .int .i64 u] (by simp)).c 1 rfl; have l1_2 := (hSw.at (w.heap.size) [.int .i64 i, .int .i64 m, .int .i64 d, .int .i64 u] (by simp)).c 2 rfl; have l1_3 := (hSw.at (w.heap.size) [.int .i64 i, .int .i64 m, .int .i64 d, .int .i64 u] (by simp)).c 3 rfl; clear hSw; go_simp; try with_reducible rfl)
  simp only [Act.put, List.setIfInBounds_toArray, List.set_cons_zero, List.set_cons_succ]
  refine wpAnyH_take (i := 10) (v := ?_) (oi := { dst := some 19, op := _, type := _, pos := _, after := _, guard := some (7, false) }) rfl (by kernel_rfl) (by kernel_rfl) (by kernel_rfl) (fun _ _ _ h => h) (Or.inl ⟨by kernel_rfl, ?_⟩) (by assumption) ?_
  case refine_2 => (intro w9 hSw; have l0_0 := (hSw.at (w.heap.size + 1) [.int .i64 j, .int .i64 n, .int .i64 e, .int .i64 v] (by simp)).c 0 rfl; have l0_1 := (hSw.at (w.heap.size + 1) [.int .i64 j, .int .i64 n, .int .i64 e, .int .i64 v] (by simp)).c 1 rfl; have l0_2 := (hSw.at (w.heap.size + 1) [.int .i64 j, .int .i64 n, .int .i64 e, .int .i64 v] (by simp)).c 2 rfl; have l0_3 := (hSw.at (w.heap.size + 1) [.int .i64 j, .int .i64 n, .int .i64 e, .int .i64 v] (by simp)).c 3 rfl; have l1_0 := (hSw.at (w.heap.size) [.int .i64 i, .int .i64 m, .int .i64 d, .int .i64 u] (by simp)).c 0 rfl; have l1_1 := (hSw.at (w.heap.size) [.int .i64 i, .int .i64 m, .int .i64 d, .int .i64 u] (by simp)).c 1 rfl; have l1_2 := (hSw.at (w.heap.size) [.int .i64 i, .int .i64 m, .int .i64 d, .int .i64 u] (by simp)).c 2 rfl; have l1_3 := (hSw.at (w.heap.size) [.int .i64 i, .int .i64 m, .int .i64 d, .int .i64 u] (by simp)).c 3 rfl; clear hSw; go_simp; try with_reducible rfl)
  simp only [Act.put, List.setIfInBounds_toArray, List.set_cons_zero, List.set_cons_succ]
  refine wpAnyH_ready (rs := [9]) (by kernel_rfl) (by simp) (AllReadyH.cons (o := { dst := some 18, op := _, type := _, pos := _, after := _, guard := some (7, false) }) rfl (fun K hK => ?_) AllReadyH.nil)
  go_simp
  refine (G1.out _).mono ?_
  rintro e v3 ⟨rfl, hb3⟩
  refine hK.out _ _ (hHeld.below hb3) (fun hHeld => ?_)
  clear hK K hb3
  refine wpAnyH_ready (rs := [11]) (by kernel_rfl) (by simp) (AllReadyH.cons (o := { dst := some 20, op := _, type := _, pos := _, after := _, guard := some (7, false) }) rfl (fun K hK => ?_) AllReadyH.nil)
  go_simp
  refine (G2.out _).mono ?_
  rintro e v4 ⟨rfl, hb4⟩
  refine hK.out _ _ (hHeld.below hb4) (fun hHeld => ?_)
  clear hK K hb4
  refine wpAnyH_take (i := 12) (v := ?_) (oi := { dst := some 21, op := _, type := _, pos := _, after := _, guard := some (7, false) }) rfl (by kernel_rfl) (by kernel_rfl) (by kernel_rfl) (fun _ _ _ h => h) (Or.inl ⟨by kernel_rfl, ?_⟩) (by assumption) ?_
  case refine_2 => (intro w9 hSw; clear hSw; go_simp; try with_reducible rfl)
  simp only [Act.put, List.setIfInBounds_toArray, List.set_cons_zero, List.set_cons_succ]
  refine wpAnyH_take (i := 13) (v := ?_) (oi := { dst := some 22, op := _, type := _, pos := _, after := _, guard := none }) rfl (by kernel_rfl) (by kernel_rfl) (by kernel_rfl) (fun _ _ _ h => h) (Or.inl ⟨by kernel_rfl, ?_⟩) (by assumption) ?_
  case refine_2 => (intro w9 hSw; clear hSw; go_simp; try with_reducible rfl)
  simp only [Act.put, List.setIfInBounds_toArray, List.set_cons_zero, List.set_cons_succ]
  refine wpAnyH_done (by kernel_rfl) ?_ _
  have KA : Hid (BS w [(w.heap.size + 1, [.int .i64 j, .int .i64 n, .int .i64 e, .int .i64 v]), (w.heap.size, [.int .i64 i, .int .i64 m, .int .i64 d, .int .i64 u])] v4) := hHeld
  clear hHeld K0
  have c10_0_0 : v4.cell? ⟨w.heap.size + 1, 0, none⟩ = some (.int .i64 j) := (KA.out.at (w.heap.size + 1) [.int .i64 j, .int .i64 n, .int .i64 e, .int .i64 v] (by simp)).c 0 rfl
  have c10_0_1 : v4.cell? ⟨w.heap.size + 1, 1, none⟩ = some (.int .i64 n) := (KA.out.at (w.heap.size + 1) [.int .i64 j, .int .i64 n, .int .i64 e, .int .i64 v] (by simp)).c 1 rfl
  have c10_0_2 : v4.cell? ⟨w.heap.size + 1, 2, none⟩ = some (.int .i64 e) := (KA.out.at (w.heap.size + 1) [.int .i64 j, .int .i64 n, .int .i64 e, .int .i64 v] (by simp)).c 2 rfl
  have c10_0_3 : v4.cell? ⟨w.heap.size + 1, 3, none⟩ = some (.int .i64 v) := (KA.out.at (w.heap.size + 1) [.int .i64 j, .int .i64 n, .int .i64 e, .int .i64 v] (by simp)).c 3 rfl
  have c10_1_0 : v4.cell? ⟨w.heap.size, 0, none⟩ = some (.int .i64 i) := (KA.out.at (w.heap.size) [.int .i64 i, .int .i64 m, .int .i64 d, .int .i64 u] (by simp)).c 0 rfl
  have c10_1_1 : v4.cell? ⟨w.heap.size, 1, none⟩ = some (.int .i64 m) := (KA.out.at (w.heap.size) [.int .i64 i, .int .i64 m, .int .i64 d, .int .i64 u] (by simp)).c 1 rfl
  have c10_1_2 : v4.cell? ⟨w.heap.size, 2, none⟩ = some (.int .i64 d) := (KA.out.at (w.heap.size) [.int .i64 i, .int .i64 m, .int .i64 d, .int .i64 u] (by simp)).c 2 rfl
  have c10_1_3 : v4.cell? ⟨w.heap.size, 3, none⟩ = some (.int .i64 u) := (KA.out.at (w.heap.size) [.int .i64 i, .int .i64 m, .int .i64 d, .int .i64 u] (by simp)).c 3 rfl
  go_wp2_with fail
  refine (N1.out _).mono ?_
  rintro e W11 ⟨rfl, hb⟩
  have K11 : Hid (BS w [(w.heap.size + 1, [.int .i64 j, .int .i64 n, .int .i64 e, .int .i64 v]), (w.heap.size, [.int .i64 i, .int .i64 m, .int .i64 d, .int .i64 u])] W11) := KA.out.below hb
  clear c10_0_0 c10_0_1 c10_0_2 c10_0_3 c10_1_0 c10_1_1 c10_1_2 c10_1_3
  clear hb KA
  have c11_0_0 : W11.cell? ⟨w.heap.size + 1, 0, none⟩ = some (.int .i64 j) := (K11.out.at (w.heap.size + 1) [.int .i64 j, .int .i64 n, .int .i64 e, .int .i64 v] (by simp)).c 0 rfl
  have c11_0_1 : W11.cell? ⟨w.heap.size + 1, 1, none⟩ = some (.int .i64 n) := (K11.out.at (w.heap.size + 1) [.int .i64 j, .int .i64 n, .int .i64 e, .int .i64 v] (by simp)).c 1 rfl
  have c11_0_2 : W11.cell? ⟨w.heap.size + 1, 2, none⟩ = some (.int .i64 e) := (K11.out.at (w.heap.size + 1) [.int .i64 j, .int .i64 n, .int .i64 e, .int .i64 v] (by simp)).c 2 rfl
  have c11_0_3 : W11.cell? ⟨w.heap.size + 1, 3, none⟩ = some (.int .i64 v) := (K11.out.at (w.heap.size + 1) [.int .i64 j, .int .i64 n, .int .i64 e, .int .i64 v] (by simp)).c 3 rfl
  have c11_1_0 : W11.cell? ⟨w.heap.size, 0, none⟩ = some (.int .i64 i) := (K11.out.at (w.heap.size) [.int .i64 i, .int .i64 m, .int .i64 d, .int .i64 u] (by simp)).c 0 rfl
  have c11_1_1 : W11.cell? ⟨w.heap.size, 1, none⟩ = some (.int .i64 m) := (K11.out.at (w.heap.size) [.int .i64 i, .int .i64 m, .int .i64 d, .int .i64 u] (by simp)).c 1 rfl
  have c11_1_2 : W11.cell? ⟨w.heap.size, 2, none⟩ = some (.int .i64 d) := (K11.out.at (w.heap.size) [.int .i64 i, .int .i64 m, .int .i64 d, .int .i64 u] (by simp)).c 2 rfl
  have c11_1_3 : W11.cell? ⟨w.heap.size, 3, none⟩ = some (.int .i64 u) := (K11.out.at (w.heap.size) [.int .i64 i, .int .i64 m, .int .i64 d, .int .i64 u] (by simp)).c 3 rfl
  have Mz11 : Hid (BS w [(W11.heap.size, [.int .i64 a1, .int .i64 a2, .int .i64 a3, .int .i64 a4]), (w.heap.size + 1, [.int .i64 j, .int .i64 n, .int .i64 e, .int .i64 v]), (w.heap.size, [.int .i64 i, .int .i64 m, .int .i64 d, .int .i64 u])] (W11.alloc (.cells #[.int .i64 a1, .int .i64 a2, .int .i64 a3, .int .i64 a4] 23))) := K11.out.new [.int .i64 a1, .int .i64 a2, .int .i64 a3, .int .i64 a4] 23 rfl
  go_upto_region 4 with fail
  refine gen_to (BS w [(W11.heap.size, [.int .i64 a1, .int .i64 a2, .int .i64 a3, .int .i64 a4]), (w.heap.size + 1, [.int .i64 j, .int .i64 n, .int .i64 e, .int .i64 v]), (w.heap.size, [.int .i64 i, .int .i64 m, .int .i64 d, .int .i64 u])]) Mz11.out ?_
  clear c11_0_0 c11_0_1 c11_0_2 c11_0_3 c11_1_0 c11_1_1 c11_1_2 c11_1_3
  intro W12 K12'
  have K12 : Hid (BS w [(W11.heap.size, [.int .i64 a1, .int .i64 a2, .int .i64 a3, .int .i64 a4]), (w.heap.size + 1, [.int .i64 j, .int .i64 n, .int .i64 e, .int .i64 v]), (w.heap.size, [.int .i64 i, .int .i64 m, .int .i64 d, .int .i64 u])] W12) := K12'
  clear K12' Mz11 K11
  have c12_0_0 : W12.cell? ⟨W11.heap.size, 0, none⟩ = some (.int .i64 a1) := (K12.out.at (W11.heap.size) [.int .i64 a1, .int .i64 a2, .int .i64 a3, .int .i64 a4] (by simp)).c 0 rfl
  have c12_0_1 : W12.cell? ⟨W11.heap.size, 1, none⟩ = some (.int .i64 a2) := (K12.out.at (W11.heap.size) [.int .i64 a1, .int .i64 a2, .int .i64 a3, .int .i64 a4] (by simp)).c 1 rfl
  have c12_0_2 : W12.cell? ⟨W11.heap.size, 2, none⟩ = some (.int .i64 a3) := (K12.out.at (W11.heap.size) [.int .i64 a1, .int .i64 a2, .int .i64 a3, .int .i64 a4] (by simp)).c 2 rfl
  have c12_0_3 : W12.cell? ⟨W11.heap.size, 3, none⟩ = some (.int .i64 a4) := (K12.out.at (W11.heap.size) [.int .i64 a1, .int .i64 a2, .int .i64 a3, .int .i64 a4] (by simp)).c 3 rfl
  have c12_1_0 : W12.cell? ⟨w.heap.size + 1, 0, none⟩ = some (.int .i64 j) := (K12.out.at (w.heap.size + 1) [.int .i64 j, .int .i64 n, .int .i64 e, .int .i64 v] (by simp)).c 0 rfl
  have c12_1_1 : W12.cell? ⟨w.heap.size + 1, 1, none⟩ = some (.int .i64 n) := (K12.out.at (w.heap.size + 1) [.int .i64 j, .int .i64 n, .int .i64 e, .int .i64 v] (by simp)).c 1 rfl
  have c12_1_2 : W12.cell? ⟨w.heap.size + 1, 2, none⟩ = some (.int .i64 e) := (K12.out.at (w.heap.size + 1) [.int .i64 j, .int .i64 n, .int .i64 e, .int .i64 v] (by simp)).c 2 rfl
  have c12_1_3 : W12.cell? ⟨w.heap.size + 1, 3, none⟩ = some (.int .i64 v) := (K12.out.at (w.heap.size + 1) [.int .i64 j, .int .i64 n, .int .i64 e, .int .i64 v] (by simp)).c 3 rfl
  have c12_2_0 : W12.cell? ⟨w.heap.size, 0, none⟩ = some (.int .i64 i) := (K12.out.at (w.heap.size) [.int .i64 i, .int .i64 m, .int .i64 d, .int .i64 u] (by simp)).c 0 rfl
  have c12_2_1 : W12.cell? ⟨w.heap.size, 1, none⟩ = some (.int .i64 m) := (K12.out.at (w.heap.size) [.int .i64 i, .int .i64 m, .int .i64 d, .int .i64 u] (by simp)).c 1 rfl
  have c12_2_2 : W12.cell? ⟨w.heap.size, 2, none⟩ = some (.int .i64 d) := (K12.out.at (w.heap.size) [.int .i64 i, .int .i64 m, .int .i64 d, .int .i64 u] (by simp)).c 2 rfl
  have c12_2_3 : W12.cell? ⟨w.heap.size, 3, none⟩ = some (.int .i64 u) := (K12.out.at (w.heap.size) [.int .i64 i, .int .i64 m, .int .i64 d, .int .i64 u] (by simp)).c 3 rfl
  go_wp2_with fail
  refine (N2.out _).mono ?_
  rintro e W13 ⟨rfl, hb⟩
  have K13 : Hid (BS w [(W11.heap.size, [.int .i64 a1, .int .i64 a2, .int .i64 a3, .int .i64 a4]), (w.heap.size + 1, [.int .i64 j, .int .i64 n, .int .i64 e, .int .i64 v]), (w.heap.size, [.int .i64 i, .int .i64 m, .int .i64 d, .int .i64 u])] W13) := K12.out.below hb
  clear c12_0_0 c12_0_1 c12_0_2 c12_0_3 c12_1_0 c12_1_1 c12_1_2 c12_1_3 c12_2_0 c12_2_1 c12_2_2 c12_2_3
  clear hb K12
  have c13_0_0 : W13.cell? ⟨W11.heap.size, 0, none⟩ = some (.int .i64 a1) := (K13.out.at (W11.heap.size) [.int .i64 a1, .int .i64 a2, .int .i64 a3, .int .i64 a4] (by simp)).c 0 rfl
  have c13_0_1 : W13.cell? ⟨W11.heap.size, 1, none⟩ = some (.int .i64 a2) := (K13.out.at (W11.heap.size) [.int .i64 a1, .int .i64 a2, .int .i64 a3, .int .i64 a4] (by simp)).c 1 rfl
  have c13_0_2 : W13.cell? ⟨W11.heap.size, 2, none⟩ = some (.int .i64 a3) := (K13.out.at (W11.heap.size) [.int .i64 a1, .int .i64 a2, .int .i64 a3, .int .i64 a4] (by simp)).c 2 rfl
  have c13_0_3 : W13.cell? ⟨W11.heap.size, 3, none⟩ = some (.int .i64 a4) := (K13.out.at (W11.heap.size) [.int .i64 a1, .int .i64 a2, .int .i64 a3, .int .i64 a4] (by simp)).c 3 rfl
  have c13_1_0 : W13.cell? ⟨w.heap.size + 1, 0, none⟩ = some (.int .i64 j) := (K13.out.at (w.heap.size + 1) [.int .i64 j, .int .i64 n, .int .i64 e, .int .i64 v] (by simp)).c 0 rfl
  have c13_1_1 : W13.cell? ⟨w.heap.size + 1, 1, none⟩ = some (.int .i64 n) := (K13.out.at (w.heap.size + 1) [.int .i64 j, .int .i64 n, .int .i64 e, .int .i64 v] (by simp)).c 1 rfl
  have c13_1_2 : W13.cell? ⟨w.heap.size + 1, 2, none⟩ = some (.int .i64 e) := (K13.out.at (w.heap.size + 1) [.int .i64 j, .int .i64 n, .int .i64 e, .int .i64 v] (by simp)).c 2 rfl
  have c13_1_3 : W13.cell? ⟨w.heap.size + 1, 3, none⟩ = some (.int .i64 v) := (K13.out.at (w.heap.size + 1) [.int .i64 j, .int .i64 n, .int .i64 e, .int .i64 v] (by simp)).c 3 rfl
  have c13_2_0 : W13.cell? ⟨w.heap.size, 0, none⟩ = some (.int .i64 i) := (K13.out.at (w.heap.size) [.int .i64 i, .int .i64 m, .int .i64 d, .int .i64 u] (by simp)).c 0 rfl
  have c13_2_1 : W13.cell? ⟨w.heap.size, 1, none⟩ = some (.int .i64 m) := (K13.out.at (w.heap.size) [.int .i64 i, .int .i64 m, .int .i64 d, .int .i64 u] (by simp)).c 1 rfl
  have c13_2_2 : W13.cell? ⟨w.heap.size, 2, none⟩ = some (.int .i64 d) := (K13.out.at (w.heap.size) [.int .i64 i, .int .i64 m, .int .i64 d, .int .i64 u] (by simp)).c 2 rfl
  have c13_2_3 : W13.cell? ⟨w.heap.size, 3, none⟩ = some (.int .i64 u) := (K13.out.at (w.heap.size) [.int .i64 i, .int .i64 m, .int .i64 d, .int .i64 u] (by simp)).c 3 rfl
  have Mz13 : Hid (BS w [(W13.heap.size, [.int .i64 b1, .int .i64 b2, .int .i64 b3, .int .i64 b4]), (W11.heap.size, [.int .i64 a1, .int .i64 a2, .int .i64 a3, .int .i64 a4]), (w.heap.size + 1, [.int .i64 j, .int .i64 n, .int .i64 e, .int .i64 v]), (w.heap.size, [.int .i64 i, .int .i64 m, .int .i64 d, .int .i64 u])] (W13.alloc (.cells #[.int .i64 b1, .int .i64 b2, .int .i64 b3, .int .i64 b4] 23))) := K13.out.new [.int .i64 b1, .int .i64 b2, .int .i64 b3, .int .i64 b4] 23 rfl
  go_upto_region 5 with fail
  refine gen_to (BS w [(W13.heap.size, [.int .i64 b1, .int .i64 b2, .int .i64 b3, .int .i64 b4]), (W11.heap.size, [.int .i64 a1, .int .i64 a2, .int .i64 a3, .int .i64 a4]), (w.heap.size + 1, [.int .i64 j, .int .i64 n, .int .i64 e, .int .i64 v]), (w.heap.size, [.int .i64 i, .int .i64 m, .int .i64 d, .int .i64 u])]) Mz13.out ?_
  clear c13_0_0 c13_0_1 c13_0_2 c13_0_3 c13_1_0 c13_1_1 c13_1_2 c13_1_3 c13_2_0 c13_2_1 c13_2_2 c13_2_3
  intro W14 K14'
  have K14 : Hid (BS w [(W13.heap.size, [.int .i64 b1, .int .i64 b2, .int .i64 b3, .int .i64 b4]), (W11.heap.size, [.int .i64 a1, .int .i64 a2, .int .i64 a3, .int .i64 a4]), (w.heap.size + 1, [.int .i64 j, .int .i64 n, .int .i64 e, .int .i64 v]), (w.heap.size, [.int .i64 i, .int .i64 m, .int .i64 d, .int .i64 u])] W14) := K14'
  clear K14' Mz13 K13
  have c14_0_0 : W14.cell? ⟨W13.heap.size, 0, none⟩ = some (.int .i64 b1) := (K14.out.at (W13.heap.size) [.int .i64 b1, .int .i64 b2, .int .i64 b3, .int .i64 b4] (by simp)).c 0 rfl
  have c14_0_1 : W14.cell? ⟨W13.heap.size, 1, none⟩ = some (.int .i64 b2) := (K14.out.at (W13.heap.size) [.int .i64 b1, .int .i64 b2, .int .i64 b3, .int .i64 b4] (by simp)).c 1 rfl
  have c14_0_2 : W14.cell? ⟨W13.heap.size, 2, none⟩ = some (.int .i64 b3) := (K14.out.at (W13.heap.size) [.int .i64 b1, .int .i64 b2, .int .i64 b3, .int .i64 b4] (by simp)).c 2 rfl
  have c14_0_3 : W14.cell? ⟨W13.heap.size, 3, none⟩ = some (.int .i64 b4) := (K14.out.at (W13.heap.size) [.int .i64 b1, .int .i64 b2, .int .i64 b3, .int .i64 b4] (by simp)).c 3 rfl
  have c14_1_0 : W14.cell? ⟨W11.heap.size, 0, none⟩ = some (.int .i64 a1) := (K14.out.at (W11.heap.size) [.int .i64 a1, .int .i64 a2, .int .i64 a3, .int .i64 a4] (by simp)).c 0 rfl
  have c14_1_1 : W14.cell? ⟨W11.heap.size, 1, none⟩ = some (.int .i64 a2) := (K14.out.at (W11.heap.size) [.int .i64 a1, .int .i64 a2, .int .i64 a3, .int .i64 a4] (by simp)).c 1 rfl
  have c14_1_2 : W14.cell? ⟨W11.heap.size, 2, none⟩ = some (.int .i64 a3) := (K14.out.at (W11.heap.size) [.int .i64 a1, .int .i64 a2, .int .i64 a3, .int .i64 a4] (by simp)).c 2 rfl
  have c14_1_3 : W14.cell? ⟨W11.heap.size, 3, none⟩ = some (.int .i64 a4) := (K14.out.at (W11.heap.size) [.int .i64 a1, .int .i64 a2, .int .i64 a3, .int .i64 a4] (by simp)).c 3 rfl
  have c14_2_0 : W14.cell? ⟨w.heap.size + 1, 0, none⟩ = some (.int .i64 j) := (K14.out.at (w.heap.size + 1) [.int .i64 j, .int .i64 n, .int .i64 e, .int .i64 v] (by simp)).c 0 rfl
  have c14_2_1 : W14.cell? ⟨w.heap.size + 1, 1, none⟩ = some (.int .i64 n) := (K14.out.at (w.heap.size + 1) [.int .i64 j, .int .i64 n, .int .i64 e, .int .i64 v] (by simp)).c 1 rfl
  have c14_2_2 : W14.cell? ⟨w.heap.size + 1, 2, none⟩ = some (.int .i64 e) := (K14.out.at (w.heap.size + 1) [.int .i64 j, .int .i64 n, .int .i64 e, .int .i64 v] (by simp)).c 2 rfl
  have c14_2_3 : W14.cell? ⟨w.heap.size + 1, 3, none⟩ = some (.int .i64 v) := (K14.out.at (w.heap.size + 1) [.int .i64 j, .int .i64 n, .int .i64 e, .int .i64 v] (by simp)).c 3 rfl
  have c14_3_0 : W14.cell? ⟨w.heap.size, 0, none⟩ = some (.int .i64 i) := (K14.out.at (w.heap.size) [.int .i64 i, .int .i64 m, .int .i64 d, .int .i64 u] (by simp)).c 0 rfl
  have c14_3_1 : W14.cell? ⟨w.heap.size, 1, none⟩ = some (.int .i64 m) := (K14.out.at (w.heap.size) [.int .i64 i, .int .i64 m, .int .i64 d, .int .i64 u] (by simp)).c 1 rfl
  have c14_3_2 : W14.cell? ⟨w.heap.size, 2, none⟩ = some (.int .i64 d) := (K14.out.at (w.heap.size) [.int .i64 i, .int .i64 m, .int .i64 d, .int .i64 u] (by simp)).c 2 rfl
  have c14_3_3 : W14.cell? ⟨w.heap.size, 3, none⟩ = some (.int .i64 u) := (K14.out.at (w.heap.size) [.int .i64 i, .int .i64 m, .int .i64 d, .int .i64 u] (by simp)).c 3 rfl
  go_wp2_with fail
  refine (KN.out _).mono ?_
  rintro e W15 ⟨rfl, hb⟩
  have K15 : Hid (BS w [(W13.heap.size, [.int .i64 b1, .int .i64 b2, .int .i64 b3, .int .i64 b4]), (W11.heap.size, [.int .i64 a1, .int .i64 a2, .int .i64 a3, .int .i64 a4]), (w.heap.size + 1, [.int .i64 j, .int .i64 n, .int .i64 e, .int .i64 v]), (w.heap.size, [.int .i64 i, .int .i64 m, .int .i64 d, .int .i64 u])] W15) := K14.out.below hb
  clear c14_0_0 c14_0_1 c14_0_2 c14_0_3 c14_1_0 c14_1_1 c14_1_2 c14_1_3 c14_2_0 c14_2_1 c14_2_2 c14_2_3 c14_3_0 c14_3_1 c14_3_2 c14_3_3
  clear hb K14
  have c15_0_0 : W15.cell? ⟨W13.heap.size, 0, none⟩ = some (.int .i64 b1) := (K15.out.at (W13.heap.size) [.int .i64 b1, .int .i64 b2, .int .i64 b3, .int .i64 b4] (by simp)).c 0 rfl
  have c15_0_1 : W15.cell? ⟨W13.heap.size, 1, none⟩ = some (.int .i64 b2) := (K15.out.at (W13.heap.size) [.int .i64 b1, .int .i64 b2, .int .i64 b3, .int .i64 b4] (by simp)).c 1 rfl
  have c15_0_2 : W15.cell? ⟨W13.heap.size, 2, none⟩ = some (.int .i64 b3) := (K15.out.at (W13.heap.size) [.int .i64 b1, .int .i64 b2, .int .i64 b3, .int .i64 b4] (by simp)).c 2 rfl
  have c15_0_3 : W15.cell? ⟨W13.heap.size, 3, none⟩ = some (.int .i64 b4) := (K15.out.at (W13.heap.size) [.int .i64 b1, .int .i64 b2, .int .i64 b3, .int .i64 b4] (by simp)).c 3 rfl
  have c15_1_0 : W15.cell? ⟨W11.heap.size, 0, none⟩ = some (.int .i64 a1) := (K15.out.at (W11.heap.size) [.int .i64 a1, .int .i64 a2, .int .i64 a3, .int .i64 a4] (by simp)).c 0 rfl
  have c15_1_1 : W15.cell? ⟨W11.heap.size, 1, none⟩ = some (.int .i64 a2) := (K15.out.at (W11.heap.size) [.int .i64 a1, .int .i64 a2, .int .i64 a3, .int .i64 a4] (by simp)).c 1 rfl
  have c15_1_2 : W15.cell? ⟨W11.heap.size, 2, none⟩ = some (.int .i64 a3) := (K15.out.at (W11.heap.size) [.int .i64 a1, .int .i64 a2, .int .i64 a3, .int .i64 a4] (by simp)).c 2 rfl
  have c15_1_3 : W15.cell? ⟨W11.heap.size, 3, none⟩ = some (.int .i64 a4) := (K15.out.at (W11.heap.size) [.int .i64 a1, .int .i64 a2, .int .i64 a3, .int .i64 a4] (by simp)).c 3 rfl
  have c15_2_0 : W15.cell? ⟨w.heap.size + 1, 0, none⟩ = some (.int .i64 j) := (K15.out.at (w.heap.size + 1) [.int .i64 j, .int .i64 n, .int .i64 e, .int .i64 v] (by simp)).c 0 rfl
  have c15_2_1 : W15.cell? ⟨w.heap.size + 1, 1, none⟩ = some (.int .i64 n) := (K15.out.at (w.heap.size + 1) [.int .i64 j, .int .i64 n, .int .i64 e, .int .i64 v] (by simp)).c 1 rfl
  have c15_2_2 : W15.cell? ⟨w.heap.size + 1, 2, none⟩ = some (.int .i64 e) := (K15.out.at (w.heap.size + 1) [.int .i64 j, .int .i64 n, .int .i64 e, .int .i64 v] (by simp)).c 2 rfl
  have c15_2_3 : W15.cell? ⟨w.heap.size + 1, 3, none⟩ = some (.int .i64 v) := (K15.out.at (w.heap.size + 1) [.int .i64 j, .int .i64 n, .int .i64 e, .int .i64 v] (by simp)).c 3 rfl
  have c15_3_0 : W15.cell? ⟨w.heap.size, 0, none⟩ = some (.int .i64 i) := (K15.out.at (w.heap.size) [.int .i64 i, .int .i64 m, .int .i64 d, .int .i64 u] (by simp)).c 0 rfl
  have c15_3_1 : W15.cell? ⟨w.heap.size, 1, none⟩ = some (.int .i64 m) := (K15.out.at (w.heap.size) [.int .i64 i, .int .i64 m, .int .i64 d, .int .i64 u] (by simp)).c 1 rfl
  have c15_3_2 : W15.cell? ⟨w.heap.size, 2, none⟩ = some (.int .i64 d) := (K15.out.at (w.heap.size) [.int .i64 i, .int .i64 m, .int .i64 d, .int .i64 u] (by simp)).c 2 rfl
  have c15_3_3 : W15.cell? ⟨w.heap.size, 3, none⟩ = some (.int .i64 u) := (K15.out.at (w.heap.size) [.int .i64 i, .int .i64 m, .int .i64 d, .int .i64 u] (by simp)).c 3 rfl
  go_wp2
  go_ret
  exact ⟨rfl, K15.out.1⟩

set_option maxRecDepth 100000 in
set_option maxHeartbeats 4000000 in
theorem core_SpanOrder2 (i m d u j n e v r s a1 a2 a3 a4 b1 b2 b3 b4 g : Int) (hf : g ≠ 0)
    (C1 : Hid (∀ w : World, Calls Try.prog 22 #[.agg #[.int .i64 i, .int .i64 m, .int .i64 d, .int .i64 u], .agg #[.int .i64 j, .int .i64 n, .int .i64 e, .int .i64 v]] w fun r' w' => r' = .returned (.int .i64 r) ∧ Below w.heap.size w w'))
    (C2 : Hid (∀ w : World, Calls Try.prog 23 #[.agg #[.int .i64 i, .int .i64 m, .int .i64 d, .int .i64 u], .agg #[.int .i64 j, .int .i64 n, .int .i64 e, .int .i64 v]] w fun r' w' => r' = .returned (.int .i64 r) ∧ Below w.heap.size w w'))
    (G1 : Hid (∀ w : World, Calls Try.prog 24 #[.agg #[.int .i64 i, .int .i64 m, .int .i64 d, .int .i64 u]] w fun r' w' => r' = .returned (.int .i64 s) ∧ Below w.heap.size w w'))
    (G2 : Hid (∀ w : World, Calls Try.prog 25 #[.agg #[.int .i64 i, .int .i64 m, .int .i64 d, .int .i64 u]] w fun r' w' => r' = .returned (.int .i64 s) ∧ Below w.heap.size w w'))
    (N1 : Hid (∀ w : World, Calls Try.prog 9 #[.agg #[.int .i64 i, .int .i64 m, .int .i64 d, .int .i64 u]] w fun r' w' => r' = .returned (.tuple #[.agg #[.int .i64 a1, .int .i64 a2, .int .i64 a3, .int .i64 a4], .int .i64 0]) ∧ Below w.heap.size w w'))
    (N2 : Hid (∀ w : World, Calls Try.prog 9 #[.agg #[.int .i64 j, .int .i64 n, .int .i64 e, .int .i64 v]] w fun r' w' => r' = .returned (.tuple #[.agg #[.int .i64 b1, .int .i64 b2, .int .i64 b3, .int .i64 b4], .int .i64 g]) ∧ Below w.heap.size w w'))
    (KN : Hid (∀ w : World, Calls Try.prog 17 #[] w fun r' w' => r' = .returned (.bool true) ∧ Below w.heap.size w w'))
    (w : World) :
    Calls Try.prog 5 #[.agg #[.int .i64 i, .int .i64 m, .int .i64 d, .int .i64 u], .agg #[.int .i64 j, .int .i64 n, .int .i64 e, .int .i64 v]] w fun r' w' => r' = .returned (.bool true) ∧ Below w.heap.size w w' := by
  have f1 : (g != 0) = true := bne_iff_ne.2 hf
  have K0 : Hid (BS w [(w.heap.size + 1, [.int .i64 j, .int .i64 n, .int .i64 e, .int .i64 v]), (w.heap.size, [.int .i64 i, .int .i64 m, .int .i64 d, .int .i64 u])] ((w.alloc (.cells #[.int .i64 i, .int .i64 m, .int .i64 d, .int .i64 u] 23)).alloc (.cells #[.int .i64 j, .int .i64 n, .int .i64 e, .int .i64 v] 23))) := (((BS.start w).new [.int .i64 i, .int .i64 m, .int .i64 d, .int .i64 u] 23 rfl).new [.int .i64 j, .int .i64 n, .int .i64 e, .int .i64 v] 23 (by simp))
  go_enter Try.func5, Try.ntmps5
  go_wp2_with fail
  refine wp_region_held_drew (S := BS w [(w.heap.size + 1, [.int .i64 j, .int .i64 n, .int .i64 e, .int .i64 v]), (w.heap.size, [.int .i64 i, .int .i64 m, .int .i64 d, .int .i64 u])]) (by kernel_rfl) K0.out.drew (fun hHeld => ?_)
  refine wpAnyH_take (i := 0) (v := ?_) (oi := { dst := some 9, op := _, type := _, pos := _, after := _, guard := none }) rfl (by kernel_rfl) (by kernel_rfl) (by kernel_rfl) (fun _ _ _ h => h) (Or.inl ⟨by kernel_rfl, ?_⟩) (by assumption) ?_
  case refine_2 => (intro w9 hSw; have l0_0 := (hSw.at (w.heap.size + 1) [.int .i64 j, .int .i64 n, .int .i64 e, .int .i64 v] (by simp)).c 0 rfl; have l0_1 := (hSw.at (w.heap.size + 1) [.int .i64 j, .int .i64 n, .int .i64 e, .int .i64 v] (by simp)).c 1 rfl; have l0_2 := (hSw.at (w.heap.size + 1) [.int .i64 j, .int .i64 n, .int .i64 e, .int .i64 v] (by simp)).c 2 rfl; have l0_3 := (hSw.at (w.heap.size + 1) [.int .i64 j, .int .i64 n, .int .i64 e, .int .i64 v] (by simp)).c 3 rfl; have l1_0 := (hSw.at (w.heap.size) [.int .i64 i, .int .i64 m, .int .i64 d, .int .i64 u] (by simp)).c 0 rfl; have l1_1 := (hSw.at (w.heap.size) [.int .i64 i, .int .i64 m, .int .i64 d, .int .i64 u] (by simp)).c 1 rfl; have l1_2 := (hSw.at (w.heap.size) [.int .i64 i, .int .i64 m, .int .i64 d, .int .i64 u] (by simp)).c 2 rfl; have l1_3 := (hSw.at (w.heap.size) [.int .i64 i, .int .i64 m, .int .i64 d, .int .i64 u] (by simp)).c 3 rfl; clear hSw; go_simp; try with_reducible rfl)
  simp only [Act.put, List.setIfInBounds_toArray, List.set_cons_zero, List.set_cons_succ]
  refine wpAnyH_take (i := 1) (v := ?_) (oi := { dst := some 10, op := _, type := _, pos := _, after := _, guard := none }) rfl (by kernel_rfl) (by kernel_rfl) (by kernel_rfl) (fun _ _ _ h => h) (Or.inl ⟨by kernel_rfl, ?_⟩) (by assumption) ?_
  case refine_2 => (intro w9 hSw; have l0_0 := (hSw.at (w.heap.size + 1) [.int .i64 j, .int .i64 n, .int .i64 e, .int .i64 v] (by simp)).c 0 rfl; have l0_1 := (hSw.at (w.heap.size + 1) [.int .i64 j, .int .i64 n, .int .i64 e, .int .i64 v] (by simp)).c 1 rfl; have l0_2 := (hSw.at (w.heap.size + 1) [.int .i64 j, .int .i64 n, .int .i64 e, .int .i64 v] (by simp)).c 2 rfl; have l0_3 := (hSw.at (w.heap.size + 1) [.int .i64 j, .int .i64 n, .int .i64 e, .int .i64 v] (by simp)).c 3 rfl; have l1_0 := (hSw.at (w.heap.size) [.int .i64 i, .int .i64 m, .int .i64 d, .int .i64 u] (by simp)).c 0 rfl; have l1_1 := (hSw.at (w.heap.size) [.int .i64 i, .int .i64 m, .int .i64 d, .int .i64 u] (by simp)).c 1 rfl; have l1_2 := (hSw.at (w.heap.size) [.int .i64 i, .int .i64 m, .int .i64 d, .int .i64 u] (by simp)).c 2 rfl; have l1_3 := (hSw.at (w.heap.size) [.int .i64 i, .int .i64 m, .int .i64 d, .int .i64 u] (by simp)).c 3 rfl; clear hSw; go_simp; try with_reducible rfl)
  simp only [Act.put, List.setIfInBounds_toArray, List.set_cons_zero, List.set_cons_succ]
  refine wpAnyH_take (i := 3) (v := ?_) (oi := { dst := some 12, op := _, type := _, pos := _, after := _, guard := none }) rfl (by kernel_rfl) (by kernel_rfl) (by kernel_rfl) (fun _ _ _ h => h) (Or.inl ⟨by kernel_rfl, ?_⟩) (by assumption) ?_
  case refine_2 => (intro w9 hSw; have l0_0 := (hSw.at (w.heap.size + 1) [.int .i64 j, .int .i64 n, .int .i64 e, .int .i64 v] (by simp)).c 0 rfl; have l0_1 := (hSw.at (w.heap.size + 1) [.int .i64 j, .int .i64 n, .int .i64 e, .int .i64 v] (by simp)).c 1 rfl; have l0_2 := (hSw.at (w.heap.size + 1) [.int .i64 j, .int .i64 n, .int .i64 e, .int .i64 v] (by simp)).c 2 rfl; have l0_3 := (hSw.at (w.heap.size + 1) [.int .i64 j, .int .i64 n, .int .i64 e, .int .i64 v] (by simp)).c 3 rfl; have l1_0 := (hSw.at (w.heap.size) [.int .i64 i, .int .i64 m, .int .i64 d, .int .i64 u] (by simp)).c 0 rfl; have l1_1 := (hSw.at (w.heap.size) [.int .i64 i, .int .i64 m, .int .i64 d, .int .i64 u] (by simp)).c 1 rfl; have l1_2 := (hSw.at (w.heap.size) [.int .i64 i, .int .i64 m, .int .i64 d, .int .i64 u] (by simp)).c 2 rfl; have l1_3 := (hSw.at (w.heap.size) [.int .i64 i, .int .i64 m, .int .i64 d, .int .i64 u] (by simp)).c 3 rfl; clear hSw; go_simp; try with_reducible rfl)
  simp only [Act.put, List.setIfInBounds_toArray, List.set_cons_zero, List.set_cons_succ]
  refine wpAnyH_take (i := 4) (v := ?_) (oi := { dst := some 13, op := _, type := _, pos := _, after := _, guard := none }) rfl (by kernel_rfl) (by kernel_rfl) (by kernel_rfl) (fun _ _ _ h => h) (Or.inl ⟨by kernel_rfl, ?_⟩) (by assumption) ?_
  case refine_2 => (intro w9 hSw; have l0_0 := (hSw.at (w.heap.size + 1) [.int .i64 j, .int .i64 n, .int .i64 e, .int .i64 v] (by simp)).c 0 rfl; have l0_1 := (hSw.at (w.heap.size + 1) [.int .i64 j, .int .i64 n, .int .i64 e, .int .i64 v] (by simp)).c 1 rfl; have l0_2 := (hSw.at (w.heap.size + 1) [.int .i64 j, .int .i64 n, .int .i64 e, .int .i64 v] (by simp)).c 2 rfl; have l0_3 := (hSw.at (w.heap.size + 1) [.int .i64 j, .int .i64 n, .int .i64 e, .int .i64 v] (by simp)).c 3 rfl; have l1_0 := (hSw.at (w.heap.size) [.int .i64 i, .int .i64 m, .int .i64 d, .int .i64 u] (by simp)).c 0 rfl; have l1_1 := (hSw.at (w.heap.size) [.int .i64 i, .int .i64 m, .int .i64 d, .int .i64 u] (by simp)).c 1 rfl; have l1_2 := (hSw.at (w.heap.size) [.int .i64 i, .int .i64 m, .int .i64 d, .int .i64 u] (by simp)).c 2 rfl; have l1_3 := (hSw.at (w.heap.size) [.int .i64 i, .int .i64 m, .int .i64 d, .int .i64 u] (by simp)).c 3 rfl; clear hSw; go_simp; try with_reducible rfl)
  simp only [Act.put, List.setIfInBounds_toArray, List.set_cons_zero, List.set_cons_succ]
  refine wpAnyH_ready (rs := [2]) (by kernel_rfl) (by simp) (AllReadyH.cons (o := { dst := some 11, op := _, type := _, pos := _, after := _, guard := none }) rfl (fun K hK => ?_) AllReadyH.nil)
  go_simp
  refine (C1.out _).mono ?_
  rintro e v1 ⟨rfl, hb1⟩
  refine hK.out _ _ (hHeld.below hb1) (fun hHeld => ?_)
  clear hK K hb1
  refine wpAnyH_ready (rs := [5]) (by kernel_rfl) (by simp) (AllReadyH.cons (o := { dst := some 14, op := _, type := _, pos := _, after := _, guard := none }) rfl (fun K hK => ?_) AllReadyH.nil)
  go_simp
  refine (C2.out _).mono ?_
  rintro e v2 ⟨rfl, hb2⟩
  refine hK.out _ _ (hHeld.below hb2) (fun hHeld => ?_)
  clear hK K hb2
  refine wpAnyH_take (i := 6) (v := ?_) (oi := { dst := some 15, op := _, type := _, pos := _, after := _, guard := none }) rfl (by kernel_rfl) (by kernel_rfl) (by kernel_rfl) (fun _ _ _ h => h) (Or.inl ⟨by kernel_rfl, ?_⟩) (by assumption) ?_
  case refine_2 => (intro w9 hSw; clear hSw; go_simp; try with_reducible rfl)
  simp only [Act.put, List.setIfInBounds_toArray, List.set_cons_zero, List.set_cons_succ]
  refine wpAnyH_take (i := 7) (v := ?_) (oi := { dst := some 16, op := _, type := _, pos := _, after := _, guard := none }) rfl (by kernel_rfl) (by kernel_rfl) (by kernel_rfl) (fun _ _ _ h => h) (Or.inl ⟨by kernel_rfl, ?_⟩) (by assumption) ?_
  case refine_2 => (intro w9 hSw; clear hSw; go_simp; try with_reducible rfl)
  simp only [Act.put, List.setIfInBounds_toArray, List.set_cons_zero, List.set_cons_succ]
  refine wpAnyH_take (i := 8) (v := ?_) (oi := { dst := some 17, op := _, type := _, pos := _, after := _, guard := some (7, false) }) rfl (by kernel_rfl) (by kernel_rfl) (by kernel_rfl) (fun _ _ _ h => h) (Or.inl ⟨by kernel_rfl, ?_⟩) (by assumption) ?_
  case refine_2 => (intro w9 hSw; have l0_0 := (hSw.at (w.heap.size + 1) [.int .i64 j, .int .i64 n, .int .i64 e, .int .i64 v] (by simp)).c 0 rfl; have l0_1 := (hSw.at (w.heap.size + 1) [.int .i64 j, .int .i64 n, .int .i64 e, .int .i64 v] (by simp)).c 1 rfl; have l0_2 := (hSw.at (w.heap.size + 1) [.int .i64 j, .int .i64 n, .int .i64 e, .int .i64 v] (by simp)).c 2 rfl; have l0_3 := (hSw.at (w.heap.size + 1) [.int .i64 j, .int .i64 n, .int .i64 e, .int .i64 v] (by simp)).c 3 rfl; have l1_0 := (hSw.at (w.heap.size) [.int .i64 i, .int .i64 m, .int .i64 d, .int .i64 u] (by simp)).c 0 rfl; have l1_1 := (hSw.at (w.heap.size) [.int .i64 i, .int .i64 m, .int .i64 d, .int .i64 u] (by simp)).c 1 rfl; have l1_2 := (hSw.at (w.heap.size) [.int .i64 i, .int .i64 m, .int .i64 d, .int .i64 u] (by simp)).c 2 rfl; have l1_3 := (hSw.at (w.heap.size) [.int .i64 i, .int .i64 m, .int .i64 d, .int .i64 u] (by simp)).c 3 rfl; clear hSw; go_simp; try with_reducible rfl)
  simp only [Act.put, List.setIfInBounds_toArray, List.set_cons_zero, List.set_cons_succ]
  refine wpAnyH_take (i := 10) (v := ?_) (oi := { dst := some 19, op := _, type := _, pos := _, after := _, guard := some (7, false) }) rfl (by kernel_rfl) (by kernel_rfl) (by kernel_rfl) (fun _ _ _ h => h) (Or.inl ⟨by kernel_rfl, ?_⟩) (by assumption) ?_
  case refine_2 => (intro w9 hSw; have l0_0 := (hSw.at (w.heap.size + 1) [.int .i64 j, .int .i64 n, .int .i64 e, .int .i64 v] (by simp)).c 0 rfl; have l0_1 := (hSw.at (w.heap.size + 1) [.int .i64 j, .int .i64 n, .int .i64 e, .int .i64 v] (by simp)).c 1 rfl; have l0_2 := (hSw.at (w.heap.size + 1) [.int .i64 j, .int .i64 n, .int .i64 e, .int .i64 v] (by simp)).c 2 rfl; have l0_3 := (hSw.at (w.heap.size + 1) [.int .i64 j, .int .i64 n, .int .i64 e, .int .i64 v] (by simp)).c 3 rfl; have l1_0 := (hSw.at (w.heap.size) [.int .i64 i, .int .i64 m, .int .i64 d, .int .i64 u] (by simp)).c 0 rfl; have l1_1 := (hSw.at (w.heap.size) [.int .i64 i, .int .i64 m, .int .i64 d, .int .i64 u] (by simp)).c 1 rfl; have l1_2 := (hSw.at (w.heap.size) [.int .i64 i, .int .i64 m, .int .i64 d, .int .i64 u] (by simp)).c 2 rfl; have l1_3 := (hSw.at (w.heap.size) [.int .i64 i, .int .i64 m, .int .i64 d, .int .i64 u] (by simp)).c 3 rfl; clear hSw; go_simp; try with_reducible rfl)
  simp only [Act.put, List.setIfInBounds_toArray, List.set_cons_zero, List.set_cons_succ]
  refine wpAnyH_ready (rs := [9]) (by kernel_rfl) (by simp) (AllReadyH.cons (o := { dst := some 18, op := _, type := _, pos := _, after := _, guard := some (7, false) }) rfl (fun K hK => ?_) AllReadyH.nil)
  go_simp
  refine (G1.out _).mono ?_
  rintro e v3 ⟨rfl, hb3⟩
  refine hK.out _ _ (hHeld.below hb3) (fun hHeld => ?_)
  clear hK K hb3
  refine wpAnyH_ready (rs := [11]) (by kernel_rfl) (by simp) (AllReadyH.cons (o := { dst := some 20, op := _, type := _, pos := _, after := _, guard := some (7, false) }) rfl (fun K hK => ?_) AllReadyH.nil)
  go_simp
  refine (G2.out _).mono ?_
  rintro e v4 ⟨rfl, hb4⟩
  refine hK.out _ _ (hHeld.below hb4) (fun hHeld => ?_)
  clear hK K hb4
  refine wpAnyH_take (i := 12) (v := ?_) (oi := { dst := some 21, op := _, type := _, pos := _, after := _, guard := some (7, false) }) rfl (by kernel_rfl) (by kernel_rfl) (by kernel_rfl) (fun _ _ _ h => h) (Or.inl ⟨by kernel_rfl, ?_⟩) (by assumption) ?_
  case refine_2 => (intro w9 hSw; clear hSw; go_simp; try with_reducible rfl)
  simp only [Act.put, List.setIfInBounds_toArray, List.set_cons_zero, List.set_cons_succ]
  refine wpAnyH_take (i := 13) (v := ?_) (oi := { dst := some 22, op := _, type := _, pos := _, after := _, guard := none }) rfl (by kernel_rfl) (by kernel_rfl) (by kernel_rfl) (fun _ _ _ h => h) (Or.inl ⟨by kernel_rfl, ?_⟩) (by assumption) ?_
  case refine_2 => (intro w9 hSw; clear hSw; go_simp; try with_reducible rfl)
  simp only [Act.put, List.setIfInBounds_toArray, List.set_cons_zero, List.set_cons_succ]
  refine wpAnyH_done (by kernel_rfl) ?_ _
  have KA : Hid (BS w [(w.heap.size + 1, [.int .i64 j, .int .i64 n, .int .i64 e, .int .i64 v]), (w.heap.size, [.int .i64 i, .int .i64 m, .int .i64 d, .int .i64 u])] v4) := hHeld
  clear hHeld K0
  have c10_0_0 : v4.cell? ⟨w.heap.size + 1, 0, none⟩ = some (.int .i64 j) := (KA.out.at (w.heap.size + 1) [.int .i64 j, .int .i64 n, .int .i64 e, .int .i64 v] (by simp)).c 0 rfl
  have c10_0_1 : v4.cell? ⟨w.heap.size + 1, 1, none⟩ = some (.int .i64 n) := (KA.out.at (w.heap.size + 1) [.int .i64 j, .int .i64 n, .int .i64 e, .int .i64 v] (by simp)).c 1 rfl
  have c10_0_2 : v4.cell? ⟨w.heap.size + 1, 2, none⟩ = some (.int .i64 e) := (KA.out.at (w.heap.size + 1) [.int .i64 j, .int .i64 n, .int .i64 e, .int .i64 v] (by simp)).c 2 rfl
  have c10_0_3 : v4.cell? ⟨w.heap.size + 1, 3, none⟩ = some (.int .i64 v) := (KA.out.at (w.heap.size + 1) [.int .i64 j, .int .i64 n, .int .i64 e, .int .i64 v] (by simp)).c 3 rfl
  have c10_1_0 : v4.cell? ⟨w.heap.size, 0, none⟩ = some (.int .i64 i) := (KA.out.at (w.heap.size) [.int .i64 i, .int .i64 m, .int .i64 d, .int .i64 u] (by simp)).c 0 rfl
  have c10_1_1 : v4.cell? ⟨w.heap.size, 1, none⟩ = some (.int .i64 m) := (KA.out.at (w.heap.size) [.int .i64 i, .int .i64 m, .int .i64 d, .int .i64 u] (by simp)).c 1 rfl
  have c10_1_2 : v4.cell? ⟨w.heap.size, 2, none⟩ = some (.int .i64 d) := (KA.out.at (w.heap.size) [.int .i64 i, .int .i64 m, .int .i64 d, .int .i64 u] (by simp)).c 2 rfl
  have c10_1_3 : v4.cell? ⟨w.heap.size, 3, none⟩ = some (.int .i64 u) := (KA.out.at (w.heap.size) [.int .i64 i, .int .i64 m, .int .i64 d, .int .i64 u] (by simp)).c 3 rfl
  go_wp2_with fail
  refine (N1.out _).mono ?_
  rintro e W11 ⟨rfl, hb⟩
  have K11 : Hid (BS w [(w.heap.size + 1, [.int .i64 j, .int .i64 n, .int .i64 e, .int .i64 v]), (w.heap.size, [.int .i64 i, .int .i64 m, .int .i64 d, .int .i64 u])] W11) := KA.out.below hb
  clear c10_0_0 c10_0_1 c10_0_2 c10_0_3 c10_1_0 c10_1_1 c10_1_2 c10_1_3
  clear hb KA
  have c11_0_0 : W11.cell? ⟨w.heap.size + 1, 0, none⟩ = some (.int .i64 j) := (K11.out.at (w.heap.size + 1) [.int .i64 j, .int .i64 n, .int .i64 e, .int .i64 v] (by simp)).c 0 rfl
  have c11_0_1 : W11.cell? ⟨w.heap.size + 1, 1, none⟩ = some (.int .i64 n) := (K11.out.at (w.heap.size + 1) [.int .i64 j, .int .i64 n, .int .i64 e, .int .i64 v] (by simp)).c 1 rfl
  have c11_0_2 : W11.cell? ⟨w.heap.size + 1, 2, none⟩ = some (.int .i64 e) := (K11.out.at (w.heap.size + 1) [.int .i64 j, .int .i64 n, .int .i64 e, .int .i64 v] (by simp)).c 2 rfl
  have c11_0_3 : W11.cell? ⟨w.heap.size + 1, 3, none⟩ = some (.int .i64 v) := (K11.out.at (w.heap.size + 1) [.int .i64 j, .int .i64 n, .int .i64 e, .int .i64 v] (by simp)).c 3 rfl
  have c11_1_0 : W11.cell? ⟨w.heap.size, 0, none⟩ = some (.int .i64 i) := (K11.out.at (w.heap.size) [.int .i64 i, .int .i64 m, .int .i64 d, .int .i64 u] (by simp)).c 0 rfl
  have c11_1_1 : W11.cell? ⟨w.heap.size, 1, none⟩ = some (.int .i64 m) := (K11.out.at (w.heap.size) [.int .i64 i, .int .i64 m, .int .i64 d, .int .i64 u] (by simp)).c 1 rfl
  have c11_1_2 : W11.cell? ⟨w.heap.size, 2, none⟩ = some (.int .i64 d) := (K11.out.at (w.heap.size) [.int .i64 i, .int .i64 m, .int .i64 d, .int .i64 u] (by simp)).c 2 rfl
  have c11_1_3 : W11.cell? ⟨w.heap.size, 3, none⟩ = some (.int .i64 u) := (K11.out.at (w.heap.size) [.int .i64 i, .int .i64 m, .int .i64 d, .int .i64 u] (by simp)).c 3 rfl
  have Mz11 : Hid (BS w [(W11.heap.size, [.int .i64 a1, .int .i64 a2, .int .i64 a3, .int .i64 a4]), (w.heap.size + 1, [.int .i64 j, .int .i64 n, .int .i64 e, .int .i64 v]), (w.heap.size, [.int .i64 i, .int .i64 m, .int .i64 d, .int .i64 u])] (W11.alloc (.cells #[.int .i64 a1, .int .i64 a2, .int .i64 a3, .int .i64 a4] 23))) := K11.out.new [.int .i64 a1, .int .i64 a2, .int .i64 a3, .int .i64 a4] 23 rfl
  go_upto_region 4 with fail
  refine gen_to (BS w [(W11.heap.size, [.int .i64 a1, .int .i64 a2, .int .i64 a3, .int .i64 a4]), (w.heap.size + 1, [.int .i64 j, .int .i64 n, .int .i64 e, .int .i64 v]), (w.heap.size, [.int .i64 i, .int .i64 m, .int .i64 d, .int .i64 u])]) Mz11.out ?_
  clear c11_0_0 c11_0_1 c11_0_2 c11_0_3 c11_1_0 c11_1_1 c11_1_2 c11_1_3
  intro W12 K12'
  have K12 : Hid (BS w [(W11.heap.size, [.int .i64 a1, .int .i64 a2, .int .i64 a3, .int .i64 a4]), (w.heap.size + 1, [.int .i64 j, .int .i64 n, .int .i64 e, .int .i64 v]), (w.heap.size, [.int .i64 i, .int .i64 m, .int .i64 d, .int .i64 u])] W12) := K12'
  clear K12' Mz11 K11
  have c12_0_0 : W12.cell? ⟨W11.heap.size, 0, none⟩ = some (.int .i64 a1) := (K12.out.at (W11.heap.size) [.int .i64 a1, .int .i64 a2, .int .i64 a3, .int .i64 a4] (by simp)).c 0 rfl
  have c12_0_1 : W12.cell? ⟨W11.heap.size, 1, none⟩ = some (.int .i64 a2) := (K12.out.at (W11.heap.size) [.int .i64 a1, .int .i64 a2, .int .i64 a3, .int .i64 a4] (by simp)).c 1 rfl
  have c12_0_2 : W12.cell? ⟨W11.heap.size, 2, none⟩ = some (.int .i64 a3) := (K12.out.at (W11.heap.size) [.int .i64 a1, .int .i64 a2, .int .i64 a3, .int .i64 a4] (by simp)).c 2 rfl
  have c12_0_3 : W12.cell? ⟨W11.heap.size, 3, none⟩ = some (.int .i64 a4) := (K12.out.at (W11.heap.size) [.int .i64 a1, .int .i64 a2, .int .i64 a3, .int .i64 a4] (by simp)).c 3 rfl
  have c12_1_0 : W12.cell? ⟨w.heap.size + 1, 0, none⟩ = some (.int .i64 j) := (K12.out.at (w.heap.size + 1) [.int .i64 j, .int .i64 n, .int .i64 e, .int .i64 v] (by simp)).c 0 rfl
  have c12_1_1 : W12.cell? ⟨w.heap.size + 1, 1, none⟩ = some (.int .i64 n) := (K12.out.at (w.heap.size + 1) [.int .i64 j, .int .i64 n, .int .i64 e, .int .i64 v] (by simp)).c 1 rfl
  have c12_1_2 : W12.cell? ⟨w.heap.size + 1, 2, none⟩ = some (.int .i64 e) := (K12.out.at (w.heap.size + 1) [.int .i64 j, .int .i64 n, .int .i64 e, .int .i64 v] (by simp)).c 2 rfl
  have c12_1_3 : W12.cell? ⟨w.heap.size + 1, 3, none⟩ = some (.int .i64 v) := (K12.out.at (w.heap.size + 1) [.int .i64 j, .int .i64 n, .int .i64 e, .int .i64 v] (by simp)).c 3 rfl
  have c12_2_0 : W12.cell? ⟨w.heap.size, 0, none⟩ = some (.int .i64 i) := (K12.out.at (w.heap.size) [.int .i64 i, .int .i64 m, .int .i64 d, .int .i64 u] (by simp)).c 0 rfl
  have c12_2_1 : W12.cell? ⟨w.heap.size, 1, none⟩ = some (.int .i64 m) := (K12.out.at (w.heap.size) [.int .i64 i, .int .i64 m, .int .i64 d, .int .i64 u] (by simp)).c 1 rfl
  have c12_2_2 : W12.cell? ⟨w.heap.size, 2, none⟩ = some (.int .i64 d) := (K12.out.at (w.heap.size) [.int .i64 i, .int .i64 m, .int .i64 d, .int .i64 u] (by simp)).c 2 rfl
  have c12_2_3 : W12.cell? ⟨w.heap.size, 3, none⟩ = some (.int .i64 u) := (K12.out.at (w.heap.size) [.int .i64 i, .int .i64 m, .int .i64 d, .int .i64 u] (by simp)).c 3 rfl
  go_wp2_with fail
  refine (N2.out _).mono ?_
  rintro e W13 ⟨rfl, hb⟩
  have K13 : Hid (BS w [(W11.heap.size, [.int .i64 a1, .int .i64 a2, .int .i64 a3, .int .i64 a4]), (w.heap.size + 1, [.int .i64 j, .int .i64 n, .int .i64 e, .int .i64 v]), (w.heap.size, [.int .i64 i, .int .i64 m, .int .i64 d, .int .i64 u])] W13) := K12.out.below hb
  clear c12_0_0 c12_0_1 c12_0_2 c12_0_3 c12_1_0 c12_1_1 c12_1_2 c12_1_3 c12_2_0 c12_2_1 c12_2_2 c12_2_3
  clear hb K12
  have c13_0_0 : W13.cell? ⟨W11.heap.size, 0, none⟩ = some (.int .i64 a1) := (K13.out.at (W11.heap.size) [.int .i64 a1, .int .i64 a2, .int .i64 a3, .int .i64 a4] (by simp)).c 0 rfl
  have c13_0_1 : W13.cell? ⟨W11.heap.size, 1, none⟩ = some (.int .i64 a2) := (K13.out.at (W11.heap.size) [.int .i64 a1, .int .i64 a2, .int .i64 a3, .int .i64 a4] (by simp)).c 1 rfl
  have c13_0_2 : W13.cell? ⟨W11.heap.size, 2, none⟩ = some (.int .i64 a3) := (K13.out.at (W11.heap.size) [.int .i64 a1, .int .i64 a2, .int .i64 a3, .int .i64 a4] (by simp)).c 2 rfl
  have c13_0_3 : W13.cell? ⟨W11.heap.size, 3, none⟩ = some (.int .i64 a4) := (K13.out.at (W11.heap.size) [.int .i64 a1, .int .i64 a2, .int .i64 a3, .int .i64 a4] (by simp)).c 3 rfl
  have c13_1_0 : W13.cell? ⟨w.heap.size + 1, 0, none⟩ = some (.int .i64 j) := (K13.out.at (w.heap.size + 1) [.int .i64 j, .int .i64 n, .int .i64 e, .int .i64 v] (by simp)).c 0 rfl
  have c13_1_1 : W13.cell? ⟨w.heap.size + 1, 1, none⟩ = some (.int .i64 n) := (K13.out.at (w.heap.size + 1) [.int .i64 j, .int .i64 n, .int .i64 e, .int .i64 v] (by simp)).c 1 rfl
  have c13_1_2 : W13.cell? ⟨w.heap.size + 1, 2, none⟩ = some (.int .i64 e) := (K13.out.at (w.heap.size + 1) [.int .i64 j, .int .i64 n, .int .i64 e, .int .i64 v] (by simp)).c 2 rfl
  have c13_1_3 : W13.cell? ⟨w.heap.size + 1, 3, none⟩ = some (.int .i64 v) := (K13.out.at (w.heap.size + 1) [.int .i64 j, .int .i64 n, .int .i64 e, .int .i64 v] (by simp)).c 3 rfl
  have c13_2_0 : W13.cell? ⟨w.heap.size, 0, none⟩ = some (.int .i64 i) := (K13.out.at (w.heap.size) [.int .i64 i, .int .i64 m, .int .i64 d, .int .i64 u] (by simp)).c 0 rfl
  have c13_2_1 : W13.cell? ⟨w.heap.size, 1, none⟩ = some (.int .i64 m) := (K13.out.at (w.heap.size) [.int .i64 i, .int .i64 m, .int .i64 d, .int .i64 u] (by simp)).c 1 rfl
  have c13_2_2 : W13.cell? ⟨w.heap.size, 2, none⟩ = some (.int .i64 d) := (K13.out.at (w.heap.size) [.int .i64 i, .int .i64 m, .int .i64 d, .int .i64 u] (by simp)).c 2 rfl
  have c13_2_3 : W13.cell? ⟨w.heap.size, 3, none⟩ = some (.int .i64 u) := (K13.out.at (w.heap.size) [.int .i64 i, .int .i64 m, .int .i64 d, .int .i64 u] (by simp)).c 3 rfl
  have Mz13 : Hid (BS w [(W13.heap.size, [.int .i64 b1, .int .i64 b2, .int .i64 b3, .int .i64 b4]), (W11.heap.size, [.int .i64 a1, .int .i64 a2, .int .i64 a3, .int .i64 a4]), (w.heap.size + 1, [.int .i64 j, .int .i64 n, .int .i64 e, .int .i64 v]), (w.heap.size, [.int .i64 i, .int .i64 m, .int .i64 d, .int .i64 u])] (W13.alloc (.cells #[.int .i64 b1, .int .i64 b2, .int .i64 b3, .int .i64 b4] 23))) := K13.out.new [.int .i64 b1, .int .i64 b2, .int .i64 b3, .int .i64 b4] 23 rfl
  go_upto_region 5 with fail
  refine gen_to (BS w [(W13.heap.size, [.int .i64 b1, .int .i64 b2, .int .i64 b3, .int .i64 b4]), (W11.heap.size, [.int .i64 a1, .int .i64 a2, .int .i64 a3, .int .i64 a4]), (w.heap.size + 1, [.int .i64 j, .int .i64 n, .int .i64 e, .int .i64 v]), (w.heap.size, [.int .i64 i, .int .i64 m, .int .i64 d, .int .i64 u])]) Mz13.out ?_
  clear c13_0_0 c13_0_1 c13_0_2 c13_0_3 c13_1_0 c13_1_1 c13_1_2 c13_1_3 c13_2_0 c13_2_1 c13_2_2 c13_2_3
  intro W14 K14'
  have K14 : Hid (BS w [(W13.heap.size, [.int .i64 b1, .int .i64 b2, .int .i64 b3, .int .i64 b4]), (W11.heap.size, [.int .i64 a1, .int .i64 a2, .int .i64 a3, .int .i64 a4]), (w.heap.size + 1, [.int .i64 j, .int .i64 n, .int .i64 e, .int .i64 v]), (w.heap.size, [.int .i64 i, .int .i64 m, .int .i64 d, .int .i64 u])] W14) := K14'
  clear K14' Mz13 K13
  have c14_0_0 : W14.cell? ⟨W13.heap.size, 0, none⟩ = some (.int .i64 b1) := (K14.out.at (W13.heap.size) [.int .i64 b1, .int .i64 b2, .int .i64 b3, .int .i64 b4] (by simp)).c 0 rfl
  have c14_0_1 : W14.cell? ⟨W13.heap.size, 1, none⟩ = some (.int .i64 b2) := (K14.out.at (W13.heap.size) [.int .i64 b1, .int .i64 b2, .int .i64 b3, .int .i64 b4] (by simp)).c 1 rfl
  have c14_0_2 : W14.cell? ⟨W13.heap.size, 2, none⟩ = some (.int .i64 b3) := (K14.out.at (W13.heap.size) [.int .i64 b1, .int .i64 b2, .int .i64 b3, .int .i64 b4] (by simp)).c 2 rfl
  have c14_0_3 : W14.cell? ⟨W13.heap.size, 3, none⟩ = some (.int .i64 b4) := (K14.out.at (W13.heap.size) [.int .i64 b1, .int .i64 b2, .int .i64 b3, .int .i64 b4] (by simp)).c 3 rfl
  have c14_1_0 : W14.cell? ⟨W11.heap.size, 0, none⟩ = some (.int .i64 a1) := (K14.out.at (W11.heap.size) [.int .i64 a1, .int .i64 a2, .int .i64 a3, .int .i64 a4] (by simp)).c 0 rfl
  have c14_1_1 : W14.cell? ⟨W11.heap.size, 1, none⟩ = some (.int .i64 a2) := (K14.out.at (W11.heap.size) [.int .i64 a1, .int .i64 a2, .int .i64 a3, .int .i64 a4] (by simp)).c 1 rfl
  have c14_1_2 : W14.cell? ⟨W11.heap.size, 2, none⟩ = some (.int .i64 a3) := (K14.out.at (W11.heap.size) [.int .i64 a1, .int .i64 a2, .int .i64 a3, .int .i64 a4] (by simp)).c 2 rfl
  have c14_1_3 : W14.cell? ⟨W11.heap.size, 3, none⟩ = some (.int .i64 a4) := (K14.out.at (W11.heap.size) [.int .i64 a1, .int .i64 a2, .int .i64 a3, .int .i64 a4] (by simp)).c 3 rfl
  have c14_2_0 : W14.cell? ⟨w.heap.size + 1, 0, none⟩ = some (.int .i64 j) := (K14.out.at (w.heap.size + 1) [.int .i64 j, .int .i64 n, .int .i64 e, .int .i64 v] (by simp)).c 0 rfl
  have c14_2_1 : W14.cell? ⟨w.heap.size + 1, 1, none⟩ = some (.int .i64 n) := (K14.out.at (w.heap.size + 1) [.int .i64 j, .int .i64 n, .int .i64 e, .int .i64 v] (by simp)).c 1 rfl
  have c14_2_2 : W14.cell? ⟨w.heap.size + 1, 2, none⟩ = some (.int .i64 e) := (K14.out.at (w.heap.size + 1) [.int .i64 j, .int .i64 n, .int .i64 e, .int .i64 v] (by simp)).c 2 rfl
  have c14_2_3 : W14.cell? ⟨w.heap.size + 1, 3, none⟩ = some (.int .i64 v) := (K14.out.at (w.heap.size + 1) [.int .i64 j, .int .i64 n, .int .i64 e, .int .i64 v] (by simp)).c 3 rfl
  have c14_3_0 : W14.cell? ⟨w.heap.size, 0, none⟩ = some (.int .i64 i) := (K14.out.at (w.heap.size) [.int .i64 i, .int .i64 m, .int .i64 d, .int .i64 u] (by simp)).c 0 rfl
  have c14_3_1 : W14.cell? ⟨w.heap.size, 1, none⟩ = some (.int .i64 m) := (K14.out.at (w.heap.size) [.int .i64 i, .int .i64 m, .int .i64 d, .int .i64 u] (by simp)).c 1 rfl
  have c14_3_2 : W14.cell? ⟨w.heap.size, 2, none⟩ = some (.int .i64 d) := (K14.out.at (w.heap.size) [.int .i64 i, .int .i64 m, .int .i64 d, .int .i64 u] (by simp)).c 2 rfl
  have c14_3_3 : W14.cell? ⟨w.heap.size, 3, none⟩ = some (.int .i64 u) := (K14.out.at (w.heap.size) [.int .i64 i, .int .i64 m, .int .i64 d, .int .i64 u] (by simp)).c 3 rfl
  go_wp2_with fail
  refine (KN.out _).mono ?_
  rintro e W15 ⟨rfl, hb⟩
  have K15 : Hid (BS w [(W13.heap.size, [.int .i64 b1, .int .i64 b2, .int .i64 b3, .int .i64 b4]), (W11.heap.size, [.int .i64 a1, .int .i64 a2, .int .i64 a3, .int .i64 a4]), (w.heap.size + 1, [.int .i64 j, .int .i64 n, .int .i64 e, .int .i64 v]), (w.heap.size, [.int .i64 i, .int .i64 m, .int .i64 d, .int .i64 u])] W15) := K14.out.below hb
  clear c14_0_0 c14_0_1 c14_0_2 c14_0_3 c14_1_0 c14_1_1 c14_1_2 c14_1_3 c14_2_0 c14_2_1 c14_2_2 c14_2_3 c14_3_0 c14_3_1 c14_3_2 c14_3_3
  clear hb K14
  have c15_0_0 : W15.cell? ⟨W13.heap.size, 0, none⟩ = some (.int .i64 b1) := (K15.out.at (W13.heap.size) [.int .i64 b1, .int .i64 b2, .int .i64 b3, .int .i64 b4] (by simp)).c 0 rfl
  have c15_0_1 : W15.cell? ⟨W13.heap.size, 1, none⟩ = some (.int .i64 b2) := (K15.out.at (W13.heap.size) [.int .i64 b1, .int .i64 b2, .int .i64 b3, .int .i64 b4] (by simp)).c 1 rfl
  have c15_0_2 : W15.cell? ⟨W13.heap.size, 2, none⟩ = some (.int .i64 b3) := (K15.out.at (W13.heap.size) [.int .i64 b1, .int .i64 b2, .int .i64 b3, .int .i64 b4] (by simp)).c 2 rfl
  have c15_0_3 : W15.cell? ⟨W13.heap.size, 3, none⟩ = some (.int .i64 b4) := (K15.out.at (W13.heap.size) [.int .i64 b1, .int .i64 b2, .int .i64 b3, .int .i64 b4] (by simp)).c 3 rfl
  have c15_1_0 : W15.cell? ⟨W11.heap.size, 0, none⟩ = some (.int .i64 a1) := (K15.out.at (W11.heap.size) [.int .i64 a1, .int .i64 a2, .int .i64 a3, .int .i64 a4] (by simp)).c 0 rfl
  have c15_1_1 : W15.cell? ⟨W11.heap.size, 1, none⟩ = some (.int .i64 a2) := (K15.out.at (W11.heap.size) [.int .i64 a1, .int .i64 a2, .int .i64 a3, .int .i64 a4] (by simp)).c 1 rfl
  have c15_1_2 : W15.cell? ⟨W11.heap.size, 2, none⟩ = some (.int .i64 a3) := (K15.out.at (W11.heap.size) [.int .i64 a1, .int .i64 a2, .int .i64 a3, .int .i64 a4] (by simp)).c 2 rfl
  have c15_1_3 : W15.cell? ⟨W11.heap.size, 3, none⟩ = some (.int .i64 a4) := (K15.out.at (W11.heap.size) [.int .i64 a1, .int .i64 a2, .int .i64 a3, .int .i64 a4] (by simp)).c 3 rfl
  have c15_2_0 : W15.cell? ⟨w.heap.size + 1, 0, none⟩ = some (.int .i64 j) := (K15.out.at (w.heap.size + 1) [.int .i64 j, .int .i64 n, .int .i64 e, .int .i64 v] (by simp)).c 0 rfl
  have c15_2_1 : W15.cell? ⟨w.heap.size + 1, 1, none⟩ = some (.int .i64 n) := (K15.out.at (w.heap.size + 1) [.int .i64 j, .int .i64 n, .int .i64 e, .int .i64 v] (by simp)).c 1 rfl
  have c15_2_2 : W15.cell? ⟨w.heap.size + 1, 2, none⟩ = some (.int .i64 e) := (K15.out.at (w.heap.size + 1) [.int .i64 j, .int .i64 n, .int .i64 e, .int .i64 v] (by simp)).c 2 rfl
  have c15_2_3 : W15.cell? ⟨w.heap.size + 1, 3, none⟩ = some (.int .i64 v) := (K15.out.at (w.heap.size + 1) [.int .i64 j, .int .i64 n, .int .i64 e, .int .i64 v] (by simp)).c 3 rfl
  have c15_3_0 : W15.cell? ⟨w.heap.size, 0, none⟩ = some (.int .i64 i) := (K15.out.at (w.heap.size) [.int .i64 i, .int .i64 m, .int .i64 d, .int .i64 u] (by simp)).c 0 rfl
  have c15_3_1 : W15.cell? ⟨w.heap.size, 1, none⟩ = some (.int .i64 m) := (K15.out.at (w.heap.size) [.int .i64 i, .int .i64 m, .int .i64 d, .int .i64 u] (by simp)).c 1 rfl
  have c15_3_2 : W15.cell? ⟨w.heap.size, 2, none⟩ = some (.int .i64 d) := (K15.out.at (w.heap.size) [.int .i64 i, .int .i64 m, .int .i64 d, .int .i64 u] (by simp)).c 2 rfl
  have c15_3_3 : W15.cell? ⟨w.heap.size, 3, none⟩ = some (.int .i64 u) := (K15.out.at (w.heap.size) [.int .i64 i, .int .i64 m, .int .i64 d, .int .i64 u] (by simp)).c 3 rfl
  go_wp2
  go_ret
  exact ⟨rfl, K15.out.1⟩

set_option maxRecDepth 100000 in
set_option maxHeartbeats 4000000 in
theorem core_SpanOrder3 (i m d u j n e v r s a1 a2 a3 a4 b1 b2 b3 b4 : Int) (r1 : -1 ≤ r) (r2 : r ≤ 1)
    (C1 : Hid (∀ w : World, Calls Try.prog 22 #[.agg #[.int .i64 i, .int .i64 m, .int .i64 d, .int .i64 u], .agg #[.int .i64 j, .int .i64 n, .int .i64 e, .int .i64 v]] w fun r' w' => r' = .returned (.int .i64 r) ∧ Below w.heap.size w w'))
    (C2 : Hid (∀ w : World, Calls Try.prog 23 #[.agg #[.int .i64 i, .int .i64 m, .int .i64 d, .int .i64 u], .agg #[.int .i64 j, .int .i64 n, .int .i64 e, .int .i64 v]] w fun r' w' => r' = .returned (.int .i64 r) ∧ Below w.heap.size w w'))
    (G1 : Hid (∀ w : World, Calls Try.prog 24 #[.agg #[.int .i64 i, .int .i64 m, .int .i64 d, .int .i64 u]] w fun r' w' => r' = .returned (.int .i64 s) ∧ Below w.heap.size w w'))
    (G2 : Hid (∀ w : World, Calls Try.prog 25 #[.agg #[.int .i64 i, .int .i64 m, .int .i64 d, .int .i64 u]] w fun r' w' => r' = .returned (.int .i64 s) ∧ Below w.heap.size w w'))
    (N1 : Hid (∀ w : World, Calls Try.prog 9 #[.agg #[.int .i64 i, .int .i64 m, .int .i64 d, .int .i64 u]] w fun r' w' => r' = .returned (.tuple #[.agg #[.int .i64 a1, .int .i64 a2, .int .i64 a3, .int .i64 a4], .int .i64 0]) ∧ Below w.heap.size w w'))
    (N2 : Hid (∀ w : World, Calls Try.prog 9 #[.agg #[.int .i64 j, .int .i64 n, .int .i64 e, .int .i64 v]] w fun r' w' => r' = .returned (.tuple #[.agg #[.int .i64 b1, .int .i64 b2, .int .i64 b3, .int .i64 b4], .int .i64 0]) ∧ Below w.heap.size w w'))
    (C3 : Hid (∀ w : World, Calls Try.prog 22 #[.agg #[.int .i64 b1, .int .i64 b2, .int .i64 b3, .int .i64 b4], .agg #[.int .i64 a1, .int .i64 a2, .int .i64 a3, .int .i64 a4]] w fun r' w' => r' = .returned (.int .i64 r) ∧ Below w.heap.size w w'))
    (C4 : Hid (∀ w : World, Calls Try.prog 22 #[.agg #[.int .i64 j, .int .i64 n, .int .i64 e, .int .i64 v], .agg #[.int .i64 i, .int .i64 m, .int .i64 d, .int .i64 u]] w fun r' w' => r' = .returned (.int .i64 (-r)) ∧ Below w.heap.size w w'))
    (KN : Hid (∀ w : World, Calls Try.prog 17 #[] w fun r' w' => r' = .returned (.bool true) ∧ Below w.heap.size w w'))
    (w : World) :
    Calls Try.prog 5 #[.agg #[.int .i64 i, .int .i64 m, .int .i64 d, .int .i64 u], .agg #[.int .i64 j, .int .i64 n, .int .i64 e, .int .i64 v]] w fun r' w' => r' = .returned (.bool true) ∧ Below w.heap.size w w' := by
  have wr : IntKind.i64.wrap (-r) = -r := by rw [IntKind.wrap_i64]; omega
  have K0 : Hid (BS w [(w.heap.size + 1, [.int .i64 j, .int .i64 n, .int .i64 e, .int .i64 v]), (w.heap.size, [.int .i64 i, .int .i64 m, .int .i64 d, .int .i64 u])] ((w.alloc (.cells #[.int .i64 i, .int .i64 m, .int .i64 d, .int .i64 u] 23)).alloc (.cells #[.int .i64 j, .int .i64 n, .int .i64 e, .int .i64 v] 23))) := (((BS.start w).new [.int .i64 i, .int .i64 m, .int .i64 d, .int .i64 u] 23 rfl).new [.int .i64 j, .int .i64 n, .int .i64 e, .int .i64 v] 23 (by simp))
  go_enter Try.func5, Try.ntmps5
  go_wp2_with fail
  refine wp_region_held_drew (S := BS w [(w.heap.size + 1, [.int .i64 j, .int .i64 n, .int .i64 e, .int .i64 v]), (w.heap.size, [.int .i64 i, .int .i64 m, .int .i64 d, .int .i64 u])]) (by kernel_rfl) K0.out.drew (fun hHeld => ?_)
  refine wpAnyH_take (i := 0) (v := ?_) (oi := { dst := some 9, op := _, type := _, pos := _, after := _, guard := none }) rfl (by kernel_rfl) (by kernel_rfl) (by kernel_rfl) (fun _ _ _ h => h) (Or.inl ⟨by kernel_rfl, ?_⟩) (by assumption) ?_
  case refine_2 => (intro w9 hSw; have l0_0 := (hSw.at (w.heap.size + 1) [.int .i64 j, .int .i64 n, .int .i64 e, .int .i64 v] (by simp)).c 0 rfl; have l0_1 := (hSw.at (w.heap.size + 1) [.int .i64 j, .int .i64 n, .int .i64 e, .int .i64 v] (by simp)).c 1 rfl; have l0_2 := (hSw.at (w.heap.size + 1) [.int .i64 j, .int .i64 n, .int .i64 e, .int .i64 v] (by simp)).c 2 rfl; have l0_3 := (hSw.at (w.heap.size + 1) [.int .i64 j, .int .i64 n, .int .i64 e, .int .i64 v] (by simp)).c 3 rfl; have l1_0 := (hSw.at (w.heap.size) [.int .i64 i, .int .i64 m, .int .i64 d, .int .i64 u] (by simp)).c 0 rfl; have l1_1 := (hSw.at (w.heap.size) [.int .i64 i, .int .i64 m, .int .i64 d, .int .i64 u] (by simp)).c 1 rfl; have l1_2 := (hSw.at (w.heap.size) [.int .i64 i, .int .i64 m, .int .i64 d, .int .i64 u] (by simp)).c 2 rfl; have l1_3 := (hSw.at (w.heap.size) [.int .i64 i, .int .i64 m, .int .i64 d, .int .i64 u] (by simp)).c 3 rfl; clear hSw; go_simp; try with_reducible rfl)
  simp only [Act.put, List.setIfInBounds_toArray, List.set_cons_zero, List.set_cons_succ]
  refine wpAnyH_take (i := 1) (v := ?_) (oi := { dst := some 10, op := _, type := _, pos := _, after := _, guard := none }) rfl (by kernel_rfl) (by kernel_rfl) (by kernel_rfl) (fun _ _ _ h => h) (Or.inl ⟨by kernel_rfl, ?_⟩) (by assumption) ?_
  case refine_2 => (intro w9 hSw; have l0_0 := (hSw.at (w.heap.size + 1) [.int .i64 j, .int .i64 n, .int .i64 e, .int .i64 v] (by simp)).c 0 rfl; have l0_1 := (hSw.at (w.heap.size + 1) [.int .i64 j, .int .i64 n, .int .i64 e, .int .i64 v] (by simp)).c 1 rfl; have l0_2 := (hSw.at (w.heap.size + 1) [.int .i64 j, .int .i64 n, .int .i64 e, .int .i64 v] (by simp)).c 2 rfl; have l0_3 := (hSw.at (w.heap.size + 1) [.int .i64 j, .int .i64 n, .int .i64 e, .int .i64 v] (by simp)).c 3 rfl; have l1_0 := (hSw.at (w.heap.size) [.int .i64 i, .int .i64 m, .int .i64 d, .int .i64 u] (by simp)).c 0 rfl; have l1_1 := (hSw.at (w.heap.size) [.int .i64 i, .int .i64 m, .int .i64 d, .int .i64 u] (by simp)).c 1 rfl; have l1_2 := (hSw.at (w.heap.size) [.int .i64 i, .int .i64 m, .int .i64 d, .int .i64 u] (by simp)).c 2 rfl; have l1_3 := (hSw.at (w.heap.size) [.int .i64 i, .int .i64 m, .int .i64 d, .int .i64 u] (by simp)).c 3 rfl; clear hSw; go_simp; try with_reducible rfl)
  simp only [Act.put, List.setIfInBounds_toArray, List.set_cons_zero, List.set_cons_succ]
  refine wpAnyH_take (i := 3) (v := ?_) (oi := { dst := some 12, op := _, type := _, pos := _, after := _, guard := none }) rfl (by kernel_rfl) (by kernel_rfl) (by kernel_rfl) (fun _ _ _ h => h) (Or.inl ⟨by kernel_rfl, ?_⟩) (by assumption) ?_
  case refine_2 => (intro w9 hSw; have l0_0 := (hSw.at (w.heap.size + 1) [.int .i64 j, .int .i64 n, .int .i64 e, .int .i64 v] (by simp)).c 0 rfl; have l0_1 := (hSw.at (w.heap.size + 1) [.int .i64 j, .int .i64 n, .int .i64 e, .int .i64 v] (by simp)).c 1 rfl; have l0_2 := (hSw.at (w.heap.size + 1) [.int .i64 j, .int .i64 n, .int .i64 e, .int .i64 v] (by simp)).c 2 rfl; have l0_3 := (hSw.at (w.heap.size + 1) [.int .i64 j, .int .i64 n, .int .i64 e, .int .i64 v] (by simp)).c 3 rfl; have l1_0 := (hSw.at (w.heap.size) [.int .i64 i, .int .i64 m, .int .i64 d, .int .i64 u] (by simp)).c 0 rfl; have l1_1 := (hSw.at (w.heap.size) [.int .i64 i, .int .i64 m, .int .i64 d, .int .i64 u] (by simp)).c 1 rfl; have l1_2 := (hSw.at (w.heap.size) [.int .i64 i, .int .i64 m, .int .i64 d, .int .i64 u] (by simp)).c 2 rfl; have l1_3 := (hSw.at (w.heap.size) [.int .i64 i, .int .i64 m, .int .i64 d, .int .i64 u] (by simp)).c 3 rfl; clear hSw; go_simp; try with_reducible rfl)
  simp only [Act.put, List.setIfInBounds_toArray, List.set_cons_zero, List.set_cons_succ]
  refine wpAnyH_take (i := 4) (v := ?_) (oi := { dst := some 13, op := _, type := _, pos := _, after := _, guard := none }) rfl (by kernel_rfl) (by kernel_rfl) (by kernel_rfl) (fun _ _ _ h => h) (Or.inl ⟨by kernel_rfl, ?_⟩) (by assumption) ?_
  case refine_2 => (intro w9 hSw; have l0_0 := (hSw.at (w.heap.size + 1) [.int .i64 j, .int .i64 n, .int .i64 e, .int .i64 v] (by simp)).c 0 rfl; have l0_1 := (hSw.at (w.heap.size + 1) [.int .i64 j, .int .i64 n, .int .i64 e, .int .i64 v] (by simp)).c 1 rfl; have l0_2 := (hSw.at (w.heap.size + 1) [.int .i64 j, .int .i64 n, .int .i64 e, .int .i64 v] (by simp)).c 2 rfl; have l0_3 := (hSw.at (w.heap.size + 1) [.int .i64 j, .int .i64 n, .int .i64 e, .int .i64 v] (by simp)).c 3 rfl; have l1_0 := (hSw.at (w.heap.size) [.int .i64 i, .int .i64 m, .int .i64 d, .int .i64 u] (by simp)).c 0 rfl; have l1_1 := (hSw.at (w.heap.size) [.int .i64 i, .int .i64 m, .int .i64 d, .int .i64 u] (by simp)).c 1 rfl; have l1_2 := (hSw.at (w.heap.size) [.int .i64 i, .int .i64 m, .int .i64 d, .int .i64 u] (by simp)).c 2 rfl; have l1_3 := (hSw.at (w.heap.size) [.int .i64 i, .int .i64 m, .int .i64 d, .int .i64 u] (by simp)).c 3 rfl; clear hSw; go_simp; try with_reducible rfl)
  simp only [Act.put, List.setIfInBounds_toArray, List.set_cons_zero, List.set_cons_succ]
  refine wpAnyH_ready (rs := [2]) (by kernel_rfl) (by simp) (AllReadyH.cons (o := { dst := some 11, op := _, type := _, pos := _, after := _, guard := none }) rfl (fun K hK => ?_) AllReadyH.nil)
  go_simp
  refine (C1.out _).mono ?_
  rintro e v1 ⟨rfl, hb1⟩
  refine hK.out _ _ (hHeld.below hb1) (fun hHeld => ?_)
  clear hK K hb1
  refine wpAnyH_ready (rs := [5]) (by kernel_rfl) (by simp) (AllReadyH.cons (o := { dst := some 14, op := _, type := _, pos := _, after := _, guard := none }) rfl (fun K hK => ?_) AllReadyH.nil)
  go_simp
  refine (C2.out _).mono ?_
  rintro e v2 ⟨rfl, hb2⟩
  refine hK.out _ _ (hHeld.below hb2) (fun hHeld => ?_)
  clear hK K hb2
  refine wpAnyH_take (i := 6) (v := ?_) (oi := { dst := some 15, op := _, type := _, pos := _, after := _, guard := none }) rfl (by kernel_rfl) (by kernel_rfl) (by kernel_rfl) (fun _ _ _ h => h) (Or.inl ⟨by kernel_rfl, ?_⟩) (by assumption) ?_
  case refine_2 => (intro w9 hSw; clear hSw; go_simp; try with_reducible rfl)
  simp only [Act.put, List.setIfInBounds_toArray, List.set_cons_zero, List.set_cons_succ]
  refine wpAnyH_take (i := 7) (v := ?_) (oi := { dst := some 16, op := _, type := _, pos := _, after := _, guard := none }) rfl (by kernel_rfl) (by kernel_rfl) (by kernel_rfl) (fun _ _ _ h => h) (Or.inl ⟨by kernel_rfl, ?_⟩) (by assumption) ?_
  case refine_2 => (intro w9 hSw; clear hSw; go_simp; try with_reducible rfl)
  simp only [Act.put, List.setIfInBounds_toArray, List.set_cons_zero, List.set_cons_succ]
  refine wpAnyH_take (i := 8) (v := ?_) (oi := { dst := some 17, op := _, type := _, pos := _, after := _, guard := some (7, false) }) rfl (by kernel_rfl) (by kernel_rfl) (by kernel_rfl) (fun _ _ _ h => h) (Or.inl ⟨by kernel_rfl, ?_⟩) (by assumption) ?_
  case refine_2 => (intro w9 hSw; have l0_0 := (hSw.at (w.heap.size + 1) [.int .i64 j, .int .i64 n, .int .i64 e, .int .i64 v] (by simp)).c 0 rfl; have l0_1 := (hSw.at (w.heap.size + 1) [.int .i64 j, .int .i64 n, .int .i64 e, .int .i64 v] (by simp)).c 1 rfl; have l0_2 := (hSw.at (w.heap.size + 1) [.int .i64 j, .int .i64 n, .int .i64 e, .int .i64 v] (by simp)).c 2 rfl; have l0_3 := (hSw.at (w.heap.size + 1) [.int .i64 j, .int .i64 n, .int .i64 e, .int .i64 v] (by simp)).c 3 rfl; have l1_0 := (hSw.at (w.heap.size) [.int .i64 i, .int .i64 m, .int .i64 d, .int .i64 u] (by simp)).c 0 rfl; have l1_1 := (hSw.at (w.heap.size) [.int .i64 i, .int .i64 m, .int .i64 d, .int .i64 u] (by simp)).c 1 rfl; have l1_2 := (hSw.at (w.heap.size) [.int .i64 i, .int .i64 m, .int .i64 d, .int .i64 u] (by simp)).c 2 rfl; have l1_3 := (hSw.at (w.heap.size) [.int .i64 i, .int .i64 m, .int .i64 d, .int .i64 u] (by simp)).c 3 rfl; clear hSw; go_simp; try with_reducible rfl)
  simp only [Act.put, List.setIfInBounds_toArray, List.set_cons_zero, List.set_cons_succ]
  refine wpAnyH_take (i := 10) (v := ?_) (oi := { dst := some 19, op := _, type := _, pos := _, after := _, guard := some (7, false) }) rfl (by kernel_rfl) (by kernel_rfl) (by kernel_rfl) (fun _ _ _ h => h) (Or.inl ⟨by kernel_rfl, ?_⟩) (by assumption) ?_
  case refine_2 => (intro w9 hSw; have l0_0 := (hSw.at (w.heap.size + 1) [.int .i64 j, .int .i64 n, .int .i64 e, .int .i64 v] (by simp)).c 0 rfl; have l0_1 := (hSw.at (w.heap.size + 1) [.int .i64 j, .int .i64 n, .int .i64 e, .int .i64 v] (by simp)).c 1 rfl; have l0_2 := (hSw.at (w.heap.size + 1) [.int .i64 j, .int .i64 n, .int .i64 e, .int .i64 v] (by simp)).c 2 rfl; have l0_3 := (hSw.at (w.heap.size + 1) [.int .i64 j, .int .i64 n, .int .i64 e, .int .i64 v] (by simp)).c 3 rfl; have l1_0 := (hSw.at (w.heap.size) [.int .i64 i, .int .i64 m, .int .i64 d, .int .i64 u] (by simp)).c 0 rfl; have l1_1 := (hSw.at (w.heap.size) [.int .i64 i, .int .i64 m, .int .i64 d, .int .i64 u] (by simp)).c 1 rfl; have l1_2 := (hSw.at (w.heap.size) [.int .i64 i, .int .i64 m, .int .i64 d, .int .i64 u] (by simp)).c 2 rfl; have l1_3 := (hSw.at (w.heap.size) [.int .i64 i, .int .i64 m, .int .i64 d, .int .i64 u] (by simp)).c 3 rfl; clear hSw; go_simp; try with_reducible rfl)
  simp only [Act.put, List.setIfInBounds_toArray, List.set_cons_zero, List.set_cons_succ]
  refine wpAnyH_ready (rs := [9]) (by kernel_rfl) (by simp) (AllReadyH.cons (o := { dst := some 18, op := _, type := _, pos := _, after := _, guard := some (7, false) }) rfl (fun K hK => ?_) AllReadyH.nil)
  go_simp
  refine (G1.out _).mono ?_
  rintro e v3 ⟨rfl, hb3⟩
  refine hK.out _ _ (hHeld.below hb3) (fun hHeld => ?_)
  clear hK K hb3
  refine wpAnyH_ready (rs := [11]) (by kernel_rfl) (by simp) (AllReadyH.cons (o := { dst := some 20, op := _, type := _, pos := _, after := _, guard := some (7, false) }) rfl (fun K hK => ?_) AllReadyH.nil)
  go_simp
  refine (G2.out _).mono ?_
  rintro e v4 ⟨rfl, hb4⟩
  refine hK.out _ _ (hHeld.below hb4) (fun hHeld => ?_)
  clear hK K hb4
  refine wpAnyH_take (i := 12) (v := ?_) (oi := { dst := some 21, op := _, type := _, pos := _, after := _, guard := some (7, false) }) rfl (by kernel_rfl) (by kernel_rfl) (by kernel_rfl) (fun _ _ _ h => h) (Or.inl ⟨by kernel_rfl, ?_⟩) (by assumption) ?_
  case refine_2 => (intro w9 hSw; clear hSw; go_simp; try with_reducible rfl)
  simp only [Act.put, List.setIfInBounds_toArray, List.set_cons_zero, List.set_cons_succ]
  refine wpAnyH_take (i := 13) (v := ?_) (oi := { dst := some 22, op := _, type := _, pos := _, after := _, guard := none }) rfl (by kernel_rfl) (by kernel_rfl) (by kernel_rfl) (fun _ _ _ h => h) (Or.inl ⟨by kernel_rfl, ?_⟩) (by assumption) ?_
  case refine_2 => (intro w9 hSw; clear hSw; go_simp; try with_reducible rfl)
  simp only [Act.put, List.setIfInBounds_toArray, List.set_cons_zero, List.set_cons_succ]
  refine wpAnyH_done (by kernel_rfl) ?_ _
  have KA : Hid (BS w [(w.heap.size + 1, [.int .i64 j, .int .i64 n, .int .i64 e, .int .i64 v]), (w.heap.size, [.int .i64 i, .int .i64 m, .int .i64 d, .int .i64 u])] v4) := hHeld
  clear hHeld K0
  have c10_0_0 : v4.cell? ⟨w.heap.size + 1, 0, none⟩ = some (.int .i64 j) := (KA.out.at (w.heap.size + 1) [.int .i64 j, .int .i64 n, .int .i64 e, .int .i64 v] (by simp)).c 0 rfl
  have c10_0_1 : v4.cell? ⟨w.heap.size + 1, 1, none⟩ = some (.int .i64 n) := (KA.out.at (w.heap.size + 1) [.int .i64 j, .int .i64 n, .int .i64 e, .int .i64 v] (by simp)).c 1 rfl
  have c10_0_2 : v4.cell? ⟨w.heap.size + 1, 2, none⟩ = some (.int .i64 e) := (KA.out.at (w.heap.size + 1) [.int .i64 j, .int .i64 n, .int .i64 e, .int .i64 v] (by simp)).c 2 rfl
  have c10_0_3 : v4.cell? ⟨w.heap.size + 1, 3, none⟩ = some (.int .i64 v) := (KA.out.at (w.heap.size + 1) [.int .i64 j, .int .i64 n, .int .i64 e, .int .i64 v] (by simp)).c 3 rfl
  have c10_1_0 : v4.cell? ⟨w.heap.size, 0, none⟩ = some (.int .i64 i) := (KA.out.at (w.heap.size) [.int .i64 i, .int .i64 m, .int .i64 d, .int .i64 u] (by simp)).c 0 rfl
  have c10_1_1 : v4.cell? ⟨w.heap.size, 1, none⟩ = some (.int .i64 m) := (KA.out.at (w.heap.size) [.int .i64 i, .int .i64 m, .int .i64 d, .int .i64 u] (by simp)).c 1 rfl
  have c10_1_2 : v4.cell? ⟨w.heap.size, 2, none⟩ = some (.int .i64 d) := (KA.out.at (w.heap.size) [.int .i64 i, .int .i64 m, .int .i64 d, .int .i64 u] (by simp)).c 2 rfl
  have c10_1_3 : v4.cell? ⟨w.heap.size, 3, none⟩ = some (.int .i64 u) := (KA.out.at (w.heap.size) [.int .i64 i, .int .i64 m, .int .i64 d, .int .i64 u] (by simp)).c 3 rfl
  go_wp2_with fail
  refine (N1.out _).mono ?_
  rintro e W11 ⟨rfl, hb⟩
  have K11 : Hid (BS w [(w.heap.size + 1, [.int .i64 j, .int .i64 n, .int .i64 e, .int .i64 v]), (w.heap.size, [.int .i64 i, .int .i64 m, .int .i64 d, .int .i64 u])] W11) := KA.out.below hb
  clear c10_0_0 c10_0_1 c10_0_2 c10_0_3 c10_1_0 c10_1_1 c10_1_2 c10_1_3
  clear hb KA
  have c11_0_0 : W11.cell? ⟨w.heap.size + 1, 0, none⟩ = some (.int .i64 j) := (K11.out.at (w.heap.size + 1) [.int .i64 j, .int .i64 n, .int .i64 e, .int .i64 v] (by simp)).c 0 rfl
  have c11_0_1 : W11.cell? ⟨w.heap.size + 1, 1, none⟩ = some (.int .i64 n) := (K11.out.at (w.heap.size + 1) [.int .i64 j, .int .i64 n, .int .i64 e, .int .i64 v] (by simp)).c 1 rfl
  have c11_0_2 : W11.cell? ⟨w.heap.size + 1, 2, none⟩ = some (.int .i64 e) := (K11.out.at (w.heap.size + 1) [.int .i64 j, .int .i64 n, .int .i64 e, .int .i64 v] (by simp)).c 2 rfl
  have c11_0_3 : W11.cell? ⟨w.heap.size + 1, 3, none⟩ = some (.int .i64 v) := (K11.out.at (w.heap.size + 1) [.int .i64 j, .int .i64 n, .int .i64 e, .int .i64 v] (by simp)).c 3 rfl
  have c11_1_0 : W11.cell? ⟨w.heap.size, 0, none⟩ = some (.int .i64 i) := (K11.out.at (w.heap.size) [.int .i64 i, .int .i64 m, .int .i64 d, .int .i64 u] (by simp)).c 0 rfl
  have c11_1_1 : W11.cell? ⟨w.heap.size, 1, none⟩ = some (.int .i64 m) := (K11.out.at (w.heap.size) [.int .i64 i, .int .i64 m, .int .i64 d, .int .i64 u] (by simp)).c 1 rfl
  have c11_1_2 : W11.cell? ⟨w.heap.size, 2, none⟩ = some (.int .i64 d) := (K11.out.at (w.heap.size) [.int .i64 i, .int .i64 m, .int .i64 d, .int .i64 u] (by simp)).c 2 rfl
  have c11_1_3 : W11.cell? ⟨w.heap.size, 3, none⟩ = some (.int .i64 u) := (K11.out.at (w.heap.size) [.int .i64 i, .int .i64 m, .int .i64 d, .int .i64 u] (by simp)).c 3 rfl
  have Mz11 : Hid (BS w [(W11.heap.size, [.int .i64 a1, .int .i64 a2, .int .i64 a3, .int .i64 a4]), (w.heap.size + 1, [.int .i64 j, .int .i64 n, .int .i64 e, .int .i64 v]), (w.heap.size, [.int .i64 i, .int .i64 m, .int .i64 d, .int .i64 u])] (W11.alloc (.cells #[.int .i64 a1, .int .i64 a2, .int .i64 a3, .int .i64 a4] 23))) := K11.out.new [.int .i64 a1, .int .i64 a2, .int .i64 a3, .int .i64 a4] 23 rfl
  go_upto_region 4 with fail
  refine gen_to (BS w [(W11.heap.size, [.int .i64 a1, .int .i64 a2, .int .i64 a3, .int .i64 a4]), (w.heap.size + 1, [.int .i64 j, .int .i64 n, .int .i64 e, .int .i64 v]), (w.heap.size, [.int .i64 i, .int .i64 m, .int .i64 d, .int .i64 u])]) Mz11.out ?_
  clear c11_0_0 c11_0_1 c11_0_2 c11_0_3 c11_1_0 c11_1_1 c11_1_2 c11_1_3
  intro W12 K12'
  have K12 : Hid (BS w [(W11.heap.size, [.int .i64 a1, .int .i64 a2, .int .i64 a3, .int .i64 a4]), (w.heap.size + 1, [.int .i64 j, .int .i64 n, .int .i64 e, .int .i64 v]), (w.heap.size, [.int .i64 i, .int .i64 m, .int .i64 d, .int .i64 u])] W12) := K12'
  clear K12' Mz11 K11
  have c12_0_0 : W12.cell? ⟨W11.heap.size, 0, none⟩ = some (.int .i64 a1) := (K12.out.at (W11.heap.size) [.int .i64 a1, .int .i64 a2, .int .i64 a3, .int .i64 a4] (by simp)).c 0 rfl
  have c12_0_1 : W12.cell? ⟨W11.heap.size, 1, none⟩ = some (.int .i64 a2) := (K12.out.at (W11.heap.size) [.int .i64 a1, .int .i64 a2, .int .i64 a3, .int .i64 a4] (by simp)).c 1 rfl
  have c12_0_2 : W12.cell? ⟨W11.heap.size, 2, none⟩ = some (.int .i64 a3) := (K12.out.at (W11.heap.size) [.int .i64 a1, .int .i64 a2, .int .i64 a3, .int .i64 a4] (by simp)).c 2 rfl
  have c12_0_3 : W12.cell? ⟨W11.heap.size, 3, none⟩ = some (.int .i64 a4) := (K12.out.at (W11.heap.size) [.int .i64 a1, .int .i64 a2, .int .i64 a3, .int .i64 a4] (by simp)).c 3 rfl
  have c12_1_0 : W12.cell? ⟨w.heap.size + 1, 0, none⟩ = some (.int .i64 j) := (K12.out.at (w.heap.size + 1) [.int .i64 j, .int .i64 n, .int .i64 e, .int .i64 v] (by simp)).c 0 rfl
  have c12_1_1 : W12.cell? ⟨w.heap.size + 1, 1, none⟩ = some (.int .i64 n) := (K12.out.at (w.heap.size + 1) [.int .i64 j, .int .i64 n, .int .i64 e, .int .i64 v] (by simp)).c 1 rfl
  have c12_1_2 : W12.cell? ⟨w.heap.size + 1, 2, none⟩ = some (.int .i64 e) := (K12.out.at (w.heap.size + 1) [.int .i64 j, .int .i64 n, .int .i64 e, .int .i64 v] (by simp)).c 2 rfl
  have c12_1_3 : W12.cell? ⟨w.heap.size + 1, 3, none⟩ = some (.int .i64 v) := (K12.out.at (w.heap.size + 1) [.int .i64 j, .int .i64 n, .int .i64 e, .int .i64 v] (by simp)).c 3 rfl
  have c12_2_0 : W12.cell? ⟨w.heap.size, 0, none⟩ = some (.int .i64 i) := (K12.out.at (w.heap.size) [.int .i64 i, .int .i64 m, .int .i64 d, .int .i64 u] (by simp)).c 0 rfl
  have c12_2_1 : W12.cell? ⟨w.heap.size, 1, none⟩ = some (.int .i64 m) := (K12.out.at (w.heap.size) [.int .i64 i, .int .i64 m, .int .i64 d, .int .i64 u] (by simp)).c 1 rfl
  have c12_2_2 : W12.cell? ⟨w.heap.size, 2, none⟩ = some (.int .i64 d) := (K12.out.at (w.heap.size) [.int .i64 i, .int .i64 m, .int .i64 d, .int .i64 u] (by simp)).c 2 rfl
  have c12_2_3 : W12.cell? ⟨w.heap.size, 3, none⟩ = some (.int .i64 u) := (K12.out.at (w.heap.size) [.int .i64 i, .int .i64 m, .int .i64 d, .int .i64 u] (by simp)).c 3 rfl
  go_wp2_with fail
  refine (N2.out _).mono ?_
  rintro e W13 ⟨rfl, hb⟩
  have K13 : Hid (BS w [(W11.heap.size, [.int .i64 a1, .int .i64 a2, .int .i64 a3, .int .i64 a4]), (w.heap.size + 1, [.int .i64 j, .int .i64 n, .int .i64 e, .int .i64 v]), (w.heap.size, [.int .i64 i, .int .i64 m, .int .i64 d, .int .i64 u])] W13) := K12.out.below hb
  clear c12_0_0 c12_0_1 c12_0_2 c12_0_3 c12_1_0 c12_1_1 c12_1_2 c12_1_3 c12_2_0 c12_2_1 c12_2_2 c12_2_3
  clear hb K12
  have c13_0_0 : W13.cell? ⟨W11.heap.size, 0, none⟩ = some (.int .i64 a1) := (K13.out.at (W11.heap.size) [.int .i64 a1, .int .i64 a2, .int .i64 a3, .int .i64 a4] (by simp)).c 0 rfl
  have c13_0_1 : W13.cell? ⟨W11.heap.size, 1, none⟩ = some (.int .i64 a2) := (K13.out.at (W11.heap.size) [.int .i64 a1, .int .i64 a2, .int .i64 a3, .int .i64 a4] (by simp)).c 1 rfl
  have c13_0_2 : W13.cell? ⟨W11.heap.size, 2, none⟩ = some (.int .i64 a3) := (K13.out.at (W11.heap.size) [.int .i64 a1, .int .i64 a2, .int .i64 a3, .int .i64 a4] (by simp)).c 2 rfl
  have c13_0_3 : W13.cell? ⟨W11.heap.size, 3, none⟩ = some (.int .i64 a4) := (K13.out.at (W11.heap.size) [.int .i64 a1, .int .i64 a2, .int .i64 a3, .int .i64 a4] (by simp)).c 3 rfl
  have c13_1_0 : W13.cell? ⟨w.heap.size + 1, 0, none⟩ = some (.int .i64 j) := (K13.out.at (w.heap.size + 1) [.int .i64 j, .int .i64 n, .int .i64 e, .int .i64 v] (by simp)).c 0 rfl
  have c13_1_1 : W13.cell? ⟨w.heap.size + 1, 1, none⟩ = some (.int .i64 n) := (K13.out.at (w.heap.size + 1) [.int .i64 j, .int .i64 n, .int .i64 e, .int .i64 v] (by simp)).c 1 rfl
  have c13_1_2 : W13.cell? ⟨w.heap.size + 1, 2, none⟩ = some (.int .i64 e) := (K13.out.at (w.heap.size + 1) [.int .i64 j, .int .i64 n, .int .i64 e, .int .i64 v] (by simp)).c 2 rfl
  have c13_1_3 : W13.cell? ⟨w.heap.size + 1, 3, none⟩ = some (.int .i64 v) := (K13.out.at (w.heap.size + 1) [.int .i64 j, .int .i64 n, .int .i64 e, .int .i64 v] (by simp)).c 3 rfl
  have c13_2_0 : W13.cell? ⟨w.heap.size, 0, none⟩ = some (.int .i64 i) := (K13.out.at (w.heap.size) [.int .i64 i, .int .i64 m, .int .i64 d, .int .i64 u] (by simp)).c 0 rfl
  have c13_2_1 : W13.cell? ⟨w.heap.size, 1, none⟩ = some (.int .i64 m) := (K13.out.at (w.heap.size) [.int .i64 i, .int .i64 m, .int .i64 d, .int .i64 u] (by simp)).c 1 rfl
  have c13_2_2 : W13.cell? ⟨w.heap.size, 2, none⟩ = some (.int .i64 d) := (K13.out.at (w.heap.size) [.int .i64 i, .int .i64 m, .int .i64 d, .int .i64 u] (by simp)).c 2 rfl
  have c13_2_3 : W13.cell? ⟨w.heap.size, 3, none⟩ = some (.int .i64 u) := (K13.out.at (w.heap.size) [.int .i64 i, .int .i64 m, .int .i64 d, .int .i64 u] (by simp)).c 3 rfl
  have Mz13 : Hid (BS w [(W13.heap.size, [.int .i64 b1, .int .i64 b2, .int .i64 b3, .int .i64 b4]), (W11.heap.size, [.int .i64 a1, .int .i64 a2, .int .i64 a3, .int .i64 a4]), (w.heap.size + 1, [.int .i64 j, .int .i64 n, .int .i64 e, .int .i64 v]), (w.heap.size, [.int .i64 i, .int .i64 m, .int .i64 d, .int .i64 u])] (W13.alloc (.cells #[.int .i64 b1, .int .i64 b2, .int .i64 b3, .int .i64 b4] 23))) := K13.out.new [.int .i64 b1, .int .i64 b2, .int .i64 b3, .int .i64 b4] 23 rfl
  go_upto_region 5 with fail
  refine gen_to (BS w [(W13.heap.size, [.int .i64 b1, .int .i64 b2, .int .i64 b3, .int .i64 b4]), (W11.heap.size, [.int .i64 a1, .int .i64 a2, .int .i64 a3, .int .i64 a4]), (w.heap.size + 1, [.int .i64 j, .int .i64 n, .int .i64 e, .int .i64 v]), (w.heap.size, [.int .i64 i, .int .i64 m, .int .i64 d, .int .i64 u])]) Mz13.out ?_
  clear c13_0_0 c13_0_1 c13_0_2 c13_0_3 c13_1_0 c13_1_1 c13_1_2 c13_1_3 c13_2_0 c13_2_1 c13_2_2 c13_2_3
  intro W14 K14'
  have K14 : Hid (BS w [(W13.heap.size, [.int .i64 b1, .int .i64 b2, .int .i64 b3, .int .i64 b4]), (W11.heap.size, [.int .i64 a1, .int .i64 a2, .int .i64 a3, .int .i64 a4]), (w.heap.size + 1, [.int .i64 j, .int .i64 n, .int .i64 e, .int .i64 v]), (w.heap.size, [.int .i64 i, .int .i64 m, .int .i64 d, .int .i64 u])] W14) := K14'
  clear K14' Mz13 K13
  have c14_0_0 : W14.cell? ⟨W13.heap.size, 0, none⟩ = some (.int .i64 b1) := (K14.out.at (W13.heap.size) [.int .i64 b1, .int .i64 b2, .int .i64 b3, .int .i64 b4] (by simp)).c 0 rfl
  have c14_0_1 : W14.cell? ⟨W13.heap.size, 1, none⟩ = some (.int .i64 b2) := (K14.out.at (W13.heap.size) [.int .i64 b1, .int .i64 b2, .int .i64 b3, .int .i64 b4] (by simp)).c 1 rfl
  have c14_0_2 : W14.cell? ⟨W13.heap.size, 2, none⟩ = some (.int .i64 b3) := (K14.out.at (W13.heap.size) [.int .i64 b1, .int .i64 b2, .int .i64 b3, .int .i64 b4] (by simp)).c 2 rfl
  have c14_0_3 : W14.cell? ⟨W13.heap.size, 3, none⟩ = some (.int .i64 b4) := (K14.out.at (W13.heap.size) [.int .i64 b1, .int .i64 b2, .int .i64 b3, .int .i64 b4] (by simp)).c 3 rfl
  have c14_1_0 : W14.cell? ⟨W11.heap.size, 0, none⟩ = some (.int .i64 a1) := (K14.out.at (W11.heap.size) [.int .i64 a1, .int .i64 a2, .int .i64 a3, .int .i64 a4] (by simp)).c 0 rfl
  have c14_1_1 : W14.cell? ⟨W11.heap.size, 1, none⟩ = some (.int .i64 a2) := (K14.out.at (W11.heap.size) [.int .i64 a1, .int .i64 a2, .int .i64 a3, .int .i64 a4] (by simp)).c 1 rfl
  have c14_1_2 : W14.cell? ⟨W11.heap.size, 2, none⟩ = some (.int .i64 a3) := (K14.out.at (W11.heap.size) [.int .i64 a1, .int .i64 a2, .int .i64 a3, .int .i64 a4] (by simp)).c 2 rfl
  have c14_1_3 : W14.cell? ⟨W11.heap.size, 3, none⟩ = some (.int .i64 a4) := (K14.out.at (W11.heap.size) [.int .i64 a1, .int .i64 a2, .int .i64 a3, .int .i64 a4] (by simp)).c 3 rfl
  have c14_2_0 : W14.cell? ⟨w.heap.size + 1, 0, none⟩ = some (.int .i64 j) := (K14.out.at (w.heap.size + 1) [.int .i64 j, .int .i64 n, .int .i64 e, .int .i64 v] (by simp)).c 0 rfl
  have c14_2_1 : W14.cell? ⟨w.heap.size + 1, 1, none⟩ = some (.int .i64 n) := (K14.out.at (w.heap.size + 1) [.int .i64 j, .int .i64 n, .int .i64 e, .int .i64 v] (by simp)).c 1 rfl
  have c14_2_2 : W14.cell? ⟨w.heap.size + 1, 2, none⟩ = some (.int .i64 e) := (K14.out.at (w.heap.size + 1) [.int .i64 j, .int .i64 n, .int .i64 e, .int .i64 v] (by simp)).c 2 rfl
  have c14_2_3 : W14.cell? ⟨w.heap.size + 1, 3, none⟩ = some (.int .i64 v) := (K14.out.at (w.heap.size + 1) [.int .i64 j, .int .i64 n, .int .i64 e, .int .i64 v] (by simp)).c 3 rfl
  have c14_3_0 : W14.cell? ⟨w.heap.size, 0, none⟩ = some (.int .i64 i) := (K14.out.at (w.heap.size) [.int .i64 i, .int .i64 m, .int .i64 d, .int .i64 u] (by simp)).c 0 rfl
  have c14_3_1 : W14.cell? ⟨w.heap.size, 1, none⟩ = some (.int .i64 m) := (K14.out.at (w.heap.size) [.int .i64 i, .int .i64 m, .int .i64 d, .int .i64 u] (by simp)).c 1 rfl
  have c14_3_2 : W14.cell? ⟨w.heap.size, 2, none⟩ = some (.int .i64 d) := (K14.out.at (w.heap.size) [.int .i64 i, .int .i64 m, .int .i64 d, .int .i64 u] (by simp)).c 2 rfl
  have c14_3_3 : W14.cell? ⟨w.heap.size, 3, none⟩ = some (.int .i64 u) := (K14.out.at (w.heap.size) [.int .i64 i, .int .i64 m, .int .i64 d, .int .i64 u] (by simp)).c 3 rfl
  go_wp2_with fail
  clear c14_0_0 c14_0_1 c14_0_2 c14_0_3 c14_1_0 c14_1_1 c14_1_2 c14_1_3 c14_2_0 c14_2_1 c14_2_2 c14_2_3 c14_3_0 c14_3_1 c14_3_2 c14_3_3
  refine wp_region_held_drew (S := BS w [(W13.heap.size, [.int .i64 b1, .int .i64 b2, .int .i64 b3, .int .i64 b4]), (W11.heap.size, [.int .i64 a1, .int .i64 a2, .int .i64 a3, .int .i64 a4]), (w.heap.size + 1, [.int .i64 j, .int .i64 n, .int .i64 e, .int .i64 v]), (w.heap.size, [.int .i64 i, .int .i64 m, .int .i64 d, .int .i64 u])]) (by kernel_rfl) K14.out.drew (fun hHeld => ?_)
  refine wpAnyH_take (i := 0) (v := ?_) (oi := { dst := some 40, op := _, type := _, pos := _, after := _, guard := none }) rfl (by kernel_rfl) (by kernel_rfl) (by kernel_rfl) (fun _ _ _ h => h) (Or.inl ⟨by kernel_rfl, ?_⟩) (by assumption) ?_
  case refine_2 => (intro w9 hSw; have l0_0 := (hSw.at (W13.heap.size) [.int .i64 b1, .int .i64 b2, .int .i64 b3, .int .i64 b4] (by simp)).c 0 rfl; have l0_1 := (hSw.at (W13.heap.size) [.int .i64 b1, .int .i64 b2, .int .i64 b3, .int .i64 b4] (by simp)).c 1 rfl; have l0_2 := (hSw.at (W13.heap.size) [.int .i64 b1, .int .i64 b2, .int .i64 b3, .int .i64 b4] (by simp)).c 2 rfl; have l0_3 := (hSw.at (W13.heap.size) [.int .i64 b1, .int .i64 b2, .int .i64 b3, .int .i64 b4] (by simp)).c 3 rfl; have l1_0 := (hSw.at (W11.heap.size) [.int .i64 a1, .int .i64 a2, .int .i64 a3, .int .i64 a4] (by simp)).c 0 rfl; have l1_1 := (hSw.at (W11.heap.size) [.int .i64 a1, .int .i64 a2, .int .i64 a3, .int .i64 a4] (by simp)).c 1 rfl; have l1_2 := (hSw.at (W11.heap.size) [.int .i64 a1, .int .i64 a2, .int .i64 a3, .int .i64 a4] (by simp)).c 2 rfl; have l1_3 := (hSw.at (W11.heap.size) [.int .i64 a1, .int .i64 a2, .int .i64 a3, .int .i64 a4] (by simp)).c 3 rfl; have l2_0 := (hSw.at (w.heap.size + 1) [.int .i64 j, .int .i64 n, .int .i64 e, .int .i64 v] (by simp)).c 0 rfl; have l2_1 := (hSw.at (w.heap.size + 1) [.int .i64 j, .int .i64 n, .int .i64 e, .int .i64 v] (by simp)).c 1 rfl; have l2_2 := (hSw.at (w.heap.size + 1) [.int .i64 j, .int .i64 n, .int .i64 e, .int .i64 v] (by simp)).c 2 rfl; have l2_3 := (hSw.at (w.heap.size + 1) [.int .i64 j, .int .i64 n, .int .i64 e, .int .i64 v] (by simp)).c 3 rfl; have l3_0 := (hSw.at (w.heap.size) [.int .i64 i, .int .i64 m, .int .i64 d, .int .i64 u] (by simp)).c 0 rfl; have l3_1 := (hSw.at (w.heap.size) [.int .i64 i, .int .i64 m, .int .i64 d, .int .i64 u] (by simp)).c 1 rfl; have l3_2 := (hSw.at (w.heap.size) [.int .i64 i, .int .i64 m, .int .i64 d, .int .i64 u] (by simp)).c 2 rfl; have l3_3 := (hSw.at (w.heap.size) [.int .i64 i, .int .i64 m, .int .i64 d, .int .i64 u] (by simp)).c 3 rfl; clear hSw; go_simp; try with_reducible rfl)
  simp only [Act.put, List.setIfInBounds_toArray, List.set_cons_zero, List.set_cons_succ]
  refine wpAnyH_take (i := 1) (v := ?_) (oi := { dst := some 41, op := _, type := _, pos := _, after := _, guard := none }) rfl (by kernel_rfl) (by kernel_rfl) (by kernel_rfl) (fun _ _ _ h => h) (Or.inl ⟨by kernel_rfl, ?_⟩) (by assumption) ?_
  case refine_2 => (intro w9 hSw; have l0_0 := (hSw.at (W13.heap.size) [.int .i64 b1, .int .i64 b2, .int .i64 b3, .int .i64 b4] (by simp)).c 0 rfl; have l0_1 := (hSw.at (W13.heap.size) [.int .i64 b1, .int .i64 b2, .int .i64 b3, .int .i64 b4] (by simp)).c 1 rfl; have l0_2 := (hSw.at (W13.heap.size) [.int .i64 b1, .int .i64 b2, .int .i64 b3, .int .i64 b4] (by simp)).c 2 rfl; have l0_3 := (hSw.at (W13.heap.size) [.int .i64 b1, .int .i64 b2, .int .i64 b3, .int .i64 b4] (by simp)).c 3 rfl; have l1_0 := (hSw.at (W11.heap.size) [.int .i64 a1, .int .i64 a2, .int .i64 a3, .int .i64 a4] (by simp)).c 0 rfl; have l1_1 := (hSw.at (W11.heap.size) [.int .i64 a1, .int .i64 a2, .int .i64 a3, .int .i64 a4] (by simp)).c 1 rfl; have l1_2 := (hSw.at (W11.heap.size) [.int .i64 a1, .int .i64 a2, .int .i64 a3, .int .i64 a4] (by simp)).c 2 rfl; have l1_3 := (hSw.at (W11.heap.size) [.int .i64 a1, .int .i64 a2, .int .i64 a3, .int .i64 a4] (by simp)).c 3 rfl; have l2_0 := (hSw.at (w.heap.size + 1) [.int .i64 j, .int .i64 n, .int .i64 e, .int .i64 v] (by simp)).c 0 rfl; have l2_1 := (hSw.at (w.heap.size + 1) [.int .i64 j, .int .i64 n, .int .i64 e, .int .i64 v] (by simp)).c 1 rfl; have l2_2 := (hSw.at (w.heap.size + 1) [.int .i64 j, .int .i64 n, .int .i64 e, .int .i64 v] (by simp)).c 2 rfl; have l2_3 := (hSw.at (w.heap.size + 1) [.int .i64 j, .int .i64 n, .int .i64 e, .int .i64 v] (by simp)).c 3 rfl; have l3_0 := (hSw.at (w.heap.size) [.int .i64 i, .int .i64 m, .int .i64 d, .int .i64 u] (by simp)).c 0 rfl; have l3_1 := (hSw.at (w.heap.size) [.int .i64 i, .int .i64 m, .int .i64 d, .int .i64 u] (by simp)).c 1 rfl; have l3_2 := (hSw.at (w.heap.size) [.int .i64 i, .int .i64 m, .int .i64 d, .int .i64 u] (by simp)).c 2 rfl; have l3_3 := (hSw.at (w.heap.size) [.int .i64 i, .int .i64 m, .int .i64 d, .int .i64 u] (by simp)).c 3 rfl; clear hSw; go_simp; try with_reducible rfl)
  simp only [Act.put, List.setIfInBounds_toArray, List.set_cons_zero, List.set_cons_succ]
  refine wpAnyH_take (i := 3) (v := ?_) (oi := { dst := some 43, op := _, type := _, pos := _, after := _, guard := none }) rfl (by kernel_rfl) (by kernel_rfl) (by kernel_rfl) (fun _ _ _ h => h) (Or.inl ⟨by kernel_rfl, ?_⟩) (by assumption) ?_
  case refine_2 => (intro w9 hSw; have l0_0 := (hSw.at (W13.heap.size) [.int .i64 b1, .int .i64 b2, .int .i64 b3, .int .i64 b4] (by simp)).c 0 rfl; have l0_1 := (hSw.at (W13.heap.size) [.int .i64 b1, .int .i64 b2, .int .i64 b3, .int .i64 b4] (by simp)).c 1 rfl; have l0_2 := (hSw.at (W13.heap.size) [.int .i64 b1, .int .i64 b2, .int .i64 b3, .int .i64 b4] (by simp)).c 2 rfl; have l0_3 := (hSw.at (W13.heap.size) [.int .i64 b1, .int .i64 b2, .int .i64 b3, .int .i64 b4] (by simp)).c 3 rfl; have l1_0 := (hSw.at (W11.heap.size) [.int .i64 a1, .int .i64 a2, .int .i64 a3, .int .i64 a4] (by simp)).c 0 rfl; have l1_1 := (hSw.at (W11.heap.size) [.int .i64 a1, .int .i64 a2, .int .i64 a3, .int .i64 a4] (by simp)).c 1 rfl; have l1_2 := (hSw.at (W11.heap.size) [.int .i64 a1, .int .i64 a2, .int .i64 a3, .int .i64 a4] (by simp)).c 2 rfl; have l1_3 := (hSw.at (W11.heap.size) [.int .i64 a1, .int .i64 a2, .int .i64 a3, .int .i64 a4] (by simp)).c 3 rfl; have l2_0 := (hSw.at (w.heap.size + 1) [.int .i64 j, .int .i64 n, .int .i64 e, .int .i64 v] (by simp)).c 0 rfl; have l2_1 := (hSw.at (w.heap.size + 1) [.int .i64 j, .int .i64 n, .int .i64 e, .int .i64 v] (by simp)).c 1 rfl; have l2_2 := (hSw.at (w.heap.size + 1) [.int .i64 j, .int .i64 n, .int .i64 e, .int .i64 v] (by simp)).c 2 rfl; have l2_3 := (hSw.at (w.heap.size + 1) [.int .i64 j, .int .i64 n, .int .i64 e, .int .i64 v] (by simp)).c 3 rfl; have l3_0 := (hSw.at (w.heap.size) [.int .i64 i, .int .i64 m, .int .i64 d, .int .i64 u] (by simp)).c 0 rfl; have l3_1 := (hSw.at (w.heap.size) [.int .i64 i, .int .i64 m, .int .i64 d, .int .i64 u] (by simp)).c 1 rfl; have l3_2 := (hSw.at (w.heap.size) [.int .i64 i, .int .i64 m, .int .i64 d, .int .i64 u] (by simp)).c 2 rfl; have l3_3 := (hSw.at (w.heap.size) [.int .i64 i, .int .i64 m, .int .i64 d, .int .i64 u] (by simp)).c 3 rfl; clear hSw; go_simp; try with_reducible rfl)
  simp only [Act.put, List.setIfInBounds_toArray, List.set_cons_zero, List.set_cons_succ]
  refine wpAnyH_take (i := 4) (v := ?_) (oi := { dst := some 44, op := _, type := _, pos := _, after := _, guard := none }) rfl (by kernel_rfl) (by kernel_rfl) (by kernel_rfl) (fun _ _ _ h => h) (Or.inl ⟨by kernel_rfl, ?_⟩) (by assumption) ?_
  case refine_2 => (intro w9 hSw; have l0_0 := (hSw.at (W13.heap.size) [.int .i64 b1, .int .i64 b2, .int .i64 b3, .int .i64 b4] (by simp)).c 0 rfl; have l0_1 := (hSw.at (W13.heap.size) [.int .i64 b1, .int .i64 b2, .int .i64 b3, .int .i64 b4] (by simp)).c 1 rfl; have l0_2 := (hSw.at (W13.heap.size) [.int .i64 b1, .int .i64 b2, .int .i64 b3, .int .i64 b4] (by simp)).c 2 rfl; have l0_3 := (hSw.at (W13.heap.size) [.int .i64 b1, .int .i64 b2, .int .i64 b3, .int .i64 b4] (by simp)).c 3 rfl; have l1_0 := (hSw.at (W11.heap.size) [.int .i64 a1, .int .i64 a2, .int .i64 a3, .int .i64 a4] (by simp)).c 0 rfl; have l1_1 := (hSw.at (W11.heap.size) [.int .i64 a1, .int .i64 a2, .int .i64 a3, .int .i64 a4] (by simp)).c 1 rfl; have l1_2 := (hSw.at (W11.heap.size) [.int .i64 a1, .int .i64 a2, .int .i64 a3, .int .i64 a4] (by simp)).c 2 rfl; have l1_3 := (hSw.at (W11.heap.size) [.int .i64 a1, .int .i64 a2, .int .i64 a3, .int .i64 a4] (by simp)).c 3 rfl; have l2_0 := (hSw.at (w.heap.size + 1) [.int .i64 j, .int .i64 n, .int .i64 e, .int .i64 v] (by simp)).c 0 rfl; have l2_1 := (hSw.at (w.heap.size + 1) [.int .i64 j, .int .i64 n, .int .i64 e, .int .i64 v] (by simp)).c 1 rfl; have l2_2 := (hSw.at (w.heap.size + 1) [.int .i64 j, .int .i64 n, .int .i64 e, .int .i64 v] (by simp)).c 2 rfl; have l2_3 := (hSw.at (w.heap.size + 1) [.int .i64 j, .int .i64 n, .int .i64 e, .int .i64 v] (by simp)).c 3 rfl; have l3_0 := (hSw.at (w.heap.size) [.int .i64 i, .int .i64 m, .int .i64 d, .int .i64 u] (by simp)).c 0 rfl; have l3_1 := (hSw.at (w.heap.size) [.int .i64 i, .int .i64 m, .int .i64 d, .int .i64 u] (by simp)).c 1 rfl; have l3_2 := (hSw.at (w.heap.size) [.int .i64 i, .int .i64 m, .int .i64 d, .int .i64 u] (by simp)).c 2 rfl; have l3_3 := (hSw.at (w.heap.size) [.int .i64 i, .int .i64 m, .int .i64 d, .int .i64 u] (by simp)).c 3 rfl; clear hSw; go_simp; try with_reducible rfl)
  simp only [Act.put, List.setIfInBounds_toArray, List.set_cons_zero, List.set_cons_succ]
  refine wpAnyH_ready (rs := [2]) (by kernel_rfl) (by simp) (AllReadyH.cons (o := { dst := some 42, op := _, type := _, pos := _, after := _, guard := none }) rfl (fun K hK => ?_) AllReadyH.nil)
  go_simp
  refine (C3.out _).mono ?_
  rintro e v1 ⟨rfl, hb1⟩
  refine hK.out _ _ (hHeld.below hb1) (fun hHeld => ?_)
  clear hK K hb1
  refine wpAnyH_ready (rs := [5]) (by kernel_rfl) (by simp) (AllReadyH.cons (o := { dst := some 45, op := _, type := _, pos := _, after := _, guard := none }) rfl (fun K hK => ?_) AllReadyH.nil)
  go_simp
  refine (C1.out _).mono ?_
  rintro e v2 ⟨rfl, hb2⟩
  refine hK.out _ _ (hHeld.below hb2) (fun hHeld => ?_)
  clear hK K hb2
  refine wpAnyH_take (i := 6) (v := ?_) (oi := { dst := some 46, op := _, type := _, pos := _, after := _, guard := none }) rfl (by kernel_rfl) (by kernel_rfl) (by kernel_rfl) (fun _ _ _ h => h) (Or.inl ⟨by kernel_rfl, ?_⟩) (by assumption) ?_
  case refine_2 => (intro w9 hSw; clear hSw; go_simp; try with_reducible rfl)
  simp only [Act.put, List.setIfInBounds_toArray, List.set_cons_zero, List.set_cons_succ]
  refine wpAnyH_take (i := 7) (v := ?_) (oi := { dst := some 47, op := _, type := _, pos := _, after := _, guard := none }) rfl (by kernel_rfl) (by kernel_rfl) (by kernel_rfl) (fun _ _ _ h => h) (Or.inl ⟨by kernel_rfl, ?_⟩) (by assumption) ?_
  case refine_2 => (intro w9 hSw; clear hSw; go_simp; try with_reducible rfl)
  simp only [Act.put, List.setIfInBounds_toArray, List.set_cons_zero, List.set_cons_succ]
  refine wpAnyH_take (i := 8) (v := ?_) (oi := { dst := some 48, op := _, type := _, pos := _, after := _, guard := some (7, true) }) rfl (by kernel_rfl) (by kernel_rfl) (by kernel_rfl) (fun _ _ _ h => h) (Or.inl ⟨by kernel_rfl, ?_⟩) (by assumption) ?_
  case refine_2 => (intro w9 hSw; have l0_0 := (hSw.at (W13.heap.size) [.int .i64 b1, .int .i64 b2, .int .i64 b3, .int .i64 b4] (by simp)).c 0 rfl; have l0_1 := (hSw.at (W13.heap.size) [.int .i64 b1, .int .i64 b2, .int .i64 b3, .int .i64 b4] (by simp)).c 1 rfl; have l0_2 := (hSw.at (W13.heap.size) [.int .i64 b1, .int .i64 b2, .int .i64 b3, .int .i64 b4] (by simp)).c 2 rfl; have l0_3 := (hSw.at (W13.heap.size) [.int .i64 b1, .int .i64 b2, .int .i64 b3, .int .i64 b4] (by simp)).c 3 rfl; have l1_0 := (hSw.at (W11.heap.size) [.int .i64 a1, .int .i64 a2, .int .i64 a3, .int .i64 a4] (by simp)).c 0 rfl; have l1_1 := (hSw.at (W11.heap.size) [.int .i64 a1, .int .i64 a2, .int .i64 a3, .int .i64 a4] (by simp)).c 1 rfl; have l1_2 := (hSw.at (W11.heap.size) [.int .i64 a1, .int .i64 a2, .int .i64 a3, .int .i64 a4] (by simp)).c 2 rfl; have l1_3 := (hSw.at (W11.heap.size) [.int .i64 a1, .int .i64 a2, .int .i64 a3, .int .i64 a4] (by simp)).c 3 rfl; have l2_0 := (hSw.at (w.heap.size + 1) [.int .i64 j, .int .i64 n, .int .i64 e, .int .i64 v] (by simp)).c 0 rfl; have l2_1 := (hSw.at (w.heap.size + 1) [.int .i64 j, .int .i64 n, .int .i64 e, .int .i64 v] (by simp)).c 1 rfl; have l2_2 := (hSw.at (w.heap.size + 1) [.int .i64 j, .int .i64 n, .int .i64 e, .int .i64 v] (by simp)).c 2 rfl; have l2_3 := (hSw.at (w.heap.size + 1) [.int .i64 j, .int .i64 n, .int .i64 e, .int .i64 v] (by simp)).c 3 rfl; have l3_0 := (hSw.at (w.heap.size) [.int .i64 i, .int .i64 m, .int .i64 d, .int .i64 u] (by simp)).c 0 rfl; have l3_1 := (hSw.at (w.heap.size) [.int .i64 i, .int .i64 m, .int .i64 d, .int .i64 u] (by simp)).c 1 rfl; have l3_2 := (hSw.at (w.heap.size) [.int .i64 i, .int .i64 m, .int .i64 d, .int .i64 u] (by simp)).c 2 rfl; have l3_3 := (hSw.at (w.heap.size) [.int .i64 i, .int .i64 m, .int .i64 d, .int .i64 u] (by simp)).c 3 rfl; clear hSw; go_simp; try with_reducible rfl)
  simp only [Act.put, List.setIfInBounds_toArray, List.set_cons_zero, List.set_cons_succ]
  refine wpAnyH_take (i := 9) (v := ?_) (oi := { dst := some 49, op := _, type := _, pos := _, after := _, guard := some (7, true) }) rfl (by kernel_rfl) (by kernel_rfl) (by kernel_rfl) (fun _ _ _ h => h) (Or.inl ⟨by kernel_rfl, ?_⟩) (by assumption) ?_
  case refine_2 => (intro w9 hSw; have l0_0 := (hSw.at (W13.heap.size) [.int .i64 b1, .int .i64 b2, .int .i64 b3, .int .i64 b4] (by simp)).c 0 rfl; have l0_1 := (hSw.at (W13.heap.size) [.int .i64 b1, .int .i64 b2, .int .i64 b3, .int .i64 b4] (by simp)).c 1 rfl; have l0_2 := (hSw.at (W13.heap.size) [.int .i64 b1, .int .i64 b2, .int .i64 b3, .int .i64 b4] (by simp)).c 2 rfl; have l0_3 := (hSw.at (W13.heap.size) [.int .i64 b1, .int .i64 b2, .int .i64 b3, .int .i64 b4] (by simp)).c 3 rfl; have l1_0 := (hSw.at (W11.heap.size) [.int .i64 a1, .int .i64 a2, .int .i64 a3, .int .i64 a4] (by simp)).c 0 rfl; have l1_1 := (hSw.at (W11.heap.size) [.int .i64 a1, .int .i64 a2, .int .i64 a3, .int .i64 a4] (by simp)).c 1 rfl; have l1_2 := (hSw.at (W11.heap.size) [.int .i64 a1, .int .i64 a2, .int .i64 a3, .int .i64 a4] (by simp)).c 2 rfl; have l1_3 := (hSw.at (W11.heap.size) [.int .i64 a1, .int .i64 a2, .int .i64 a3, .int .i64 a4] (by simp)).c 3 rfl; have l2_0 := (hSw.at (w.heap.size + 1) [.int .i64 j, .int .i64 n, .int .i64 e, .int .i64 v] (by simp)).c 0 rfl; have l2_1 := (hSw.at (w.heap.size + 1) [.int .i64 j, .int .i64 n, .int .i64 e, .int .i64 v] (by simp)).c 1 rfl; have l2_2 := (hSw.at (w.heap.size + 1) [.int .i64 j, .int .i64 n, .int .i64 e, .int .i64 v] (by simp)).c 2 rfl; have l2_3 := (hSw.at (w.heap.size + 1) [.int .i64 j, .int .i64 n, .int .i64 e, .int .i64 v] (by simp)).c 3 rfl; have l3_0 := (hSw.at (w.heap.size) [.int .i64 i, .int .i64 m, .int .i64 d, .int .i64 u] (by simp)).c 0 rfl; have l3_1 := (hSw.at (w.heap.size) [.int .i64 i, .int .i64 m, .int .i64 d, .int .i64 u] (by simp)).c 1 rfl; have l3_2 := (hSw.at (w.heap.size) [.int .i64 i, .int .i64 m, .int .i64 d, .int .i64 u] (by simp)).c 2 rfl; have l3_3 := (hSw.at (w.heap.size) [.int .i64 i, .int .i64 m, .int .i64 d, .int .i64 u] (by simp)).c 3 rfl; clear hSw; go_simp; try with_reducible rfl)
  simp only [Act.put, List.setIfInBounds_toArray, List.set_cons_zero, List.set_cons_succ]
  refine wpAnyH_take (i := 11) (v := ?_) (oi := { dst := some 51, op := _, type := _, pos := _, after := _, guard := some (7, true) }) rfl (by kernel_rfl) (by kernel_rfl) (by kernel_rfl) (fun _ _ _ h => h) (Or.inl ⟨by kernel_rfl, ?_⟩) (by assumption) ?_
  case refine_2 => (intro w9 hSw; have l0_0 := (hSw.at (W13.heap.size) [.int .i64 b1, .int .i64 b2, .int .i64 b3, .int .i64 b4] (by simp)).c 0 rfl; have l0_1 := (hSw.at (W13.heap.size) [.int .i64 b1, .int .i64 b2, .int .i64 b3, .int .i64 b4] (by simp)).c 1 rfl; have l0_2 := (hSw.at (W13.heap.size) [.int .i64 b1, .int .i64 b2, .int .i64 b3, .int .i64 b4] (by simp)).c 2 rfl; have l0_3 := (hSw.at (W13.heap.size) [.int .i64 b1, .int .i64 b2, .int .i64 b3, .int .i64 b4] (by simp)).c 3 rfl; have l1_0 := (hSw.at (W11.heap.size) [.int .i64 a1, .int .i64 a2, .int .i64 a3, .int .i64 a4] (by simp)).c 0 rfl; have l1_1 := (hSw.at (W11.heap.size) [.int .i64 a1, .int .i64 a2, .int .i64 a3, .int .i64 a4] (by simp)).c 1 rfl; have l1_2 := (hSw.at (W11.heap.size) [.int .i64 a1, .int .i64 a2, .int .i64 a3, .int .i64 a4] (by simp)).c 2 rfl; have l1_3 := (hSw.at (W11.heap.size) [.int .i64 a1, .int .i64 a2, .int .i64 a3, .int .i64 a4] (by simp)).c 3 rfl; have l2_0 := (hSw.at (w.heap.size + 1) [.int .i64 j, .int .i64 n, .int .i64 e, .int .i64 v] (by simp)).c 0 rfl; have l2_1 := (hSw.at (w.heap.size + 1) [.int .i64 j, .int .i64 n, .int .i64 e, .int .i64 v] (by simp)).c 1 rfl; have l2_2 := (hSw.at (w.heap.size + 1) [.int .i64 j, .int .i64 n, .int .i64 e, .int .i64 v] (by simp)).c 2 rfl; have l2_3 := (hSw.at (w.heap.size + 1) [.int .i64 j, .int .i64 n, .int .i64 e, .int .i64 v] (by simp)).c 3 rfl; have l3_0 := (hSw.at (w.heap.size) [.int .i64 i, .int .i64 m, .int .i64 d, .int .i64 u] (by simp)).c 0 rfl; have l3_1 := (hSw.at (w.heap.size) [.int .i64 i, .int .i64 m, .int .i64 d, .int .i64 u] (by simp)).c 1 rfl; have l3_2 := (hSw.at (w.heap.size) [.int .i64 i, .int .i64 m, .int .i64 d, .int .i64 u] (by simp)).c 2 rfl; have l3_3 := (hSw.at (w.heap.size) [.int .i64 i, .int .i64 m, .int .i64 d, .int .i64 u] (by simp)).c 3 rfl; clear hSw; go_simp; try with_reducible rfl)
  simp only [Act.put, List.setIfInBounds_toArray, List.set_cons_zero, List.set_cons_succ]
  refine wpAnyH_take (i := 12) (v := ?_) (oi := { dst := some 52, op := _, type := _, pos := _, after := _, guard := some (7, true) }) rfl (by kernel_rfl) (by kernel_rfl) (by kernel_rfl) (fun _ _ _ h => h) (Or.inl ⟨by kernel_rfl, ?_⟩) (by assumption) ?_
  case refine_2 => (intro w9 hSw; have l0_0 := (hSw.at (W13.heap.size) [.int .i64 b1, .int .i64 b2, .int .i64 b3, .int .i64 b4] (by simp)).c 0 rfl; have l0_1 := (hSw.at (W13.heap.size) [.int .i64 b1, .int .i64 b2, .int .i64 b3, .int .i64 b4] (by simp)).c 1 rfl; have l0_2 := (hSw.at (W13.heap.size) [.int .i64 b1, .int .i64 b2, .int .i64 b3, .int .i64 b4] (by simp)).c 2 rfl; have l0_3 := (hSw.at (W13.heap.size) [.int .i64 b1, .int .i64 b2, .int .i64 b3, .int .i64 b4] (by simp)).c 3 rfl; have l1_0 := (hSw.at (W11.heap.size) [.int .i64 a1, .int .i64 a2, .int .i64 a3, .int .i64 a4] (by simp)).c 0 rfl; have l1_1 := (hSw.at (W11.heap.size) [.int .i64 a1, .int .i64 a2, .int .i64 a3, .int .i64 a4] (by simp)).c 1 rfl; have l1_2 := (hSw.at (W11.heap.size) [.int .i64 a1, .int .i64 a2, .int .i64 a3, .int .i64 a4] (by simp)).c 2 rfl; have l1_3 := (hSw.at (W11.heap.size) [.int .i64 a1, .int .i64 a2, .int .i64 a3, .int .i64 a4] (by simp)).c 3 rfl; have l2_0 := (hSw.at (w.heap.size + 1) [.int .i64 j, .int .i64 n, .int .i64 e, .int .i64 v] (by simp)).c 0 rfl; have l2_1 := (hSw.at (w.heap.size + 1) [.int .i64 j, .int .i64 n, .int .i64 e, .int .i64 v] (by simp)).c 1 rfl; have l2_2 := (hSw.at (w.heap.size + 1) [.int .i64 j, .int .i64 n, .int .i64 e, .int .i64 v] (by simp)).c 2 rfl; have l2_3 := (hSw.at (w.heap.size + 1) [.int .i64 j, .int .i64 n, .int .i64 e, .int .i64 v] (by simp)).c 3 rfl; have l3_0 := (hSw.at (w.heap.size) [.int .i64 i, .int .i64 m, .int .i64 d, .int .i64 u] (by simp)).c 0 rfl; have l3_1 := (hSw.at (w.heap.size) [.int .i64 i, .int .i64 m, .int .i64 d, .int .i64 u] (by simp)).c 1 rfl; have l3_2 := (hSw.at (w.heap.size) [.int .i64 i, .int .i64 m, .int .i64 d, .int .i64 u] (by simp)).c 2 rfl; have l3_3 := (hSw.at (w.heap.size) [.int .i64 i, .int .i64 m, .int .i64 d, .int .i64 u] (by simp)).c 3 rfl; clear hSw; go_simp; try with_reducible rfl)
  simp only [Act.put, List.setIfInBounds_toArray, List.set_cons_zero, List.set_cons_succ]
  refine wpAnyH_ready (rs := [10]) (by kernel_rfl) (by simp) (AllReadyH.cons (o := { dst := some 50, op := _, type := _, pos := _, after := _, guard := some (7, true) }) rfl (fun K hK => ?_) AllReadyH.nil)
  go_simp
  refine (C4.out _).mono ?_
  rintro e v3 ⟨rfl, hb3⟩
  refine hK.out _ _ (hHeld.below hb3) (fun hHeld => ?_)
  clear hK K hb3
  refine wpAnyH_ready (rs := [13]) (by kernel_rfl) (by simp) (AllReadyH.cons (o := { dst := some 53, op := _, type := _, pos := _, after := _, guard := some (7, true) }) rfl (fun K hK => ?_) AllReadyH.nil)
  go_simp
  refine (C1.out _).mono ?_
  rintro e v4 ⟨rfl, hb4⟩
  refine hK.out _ _ (hHeld.below hb4) (fun hHeld => ?_)
  clear hK K hb4
  refine wpAnyH_take (i := 14) (v := ?_) (oi := { dst := some 54, op := _, type := _, pos := _, after := _, guard := some (7, true) }) rfl (by kernel_rfl) (by kernel_rfl) (by kernel_rfl) (fun _ _ _ h => h) (Or.inl ⟨by kernel_rfl, ?_⟩) (by assumption) ?_
  case refine_2 => (intro w9 hSw; clear hSw; go_simp; try with_reducible rfl)
  simp only [Act.put, List.setIfInBounds_toArray, List.set_cons_zero, List.set_cons_succ]
  refine wpAnyH_take (i := 15) (v := ?_) (oi := { dst := some 55, op := _, type := _, pos := _, after := _, guard := some (7, true) }) rfl (by kernel_rfl) (by kernel_rfl) (by kernel_rfl) (fun _ _ _ h => h) (Or.inl ⟨by kernel_rfl, ?_⟩) (by assumption) ?_
  case refine_2 => (intro w9 hSw; clear hSw; go_simp; try with_reducible rfl)
  simp only [Act.put, List.setIfInBounds_toArray, List.set_cons_zero, List.set_cons_succ]
  refine wpAnyH_take (i := 16) (v := ?_) (oi := { dst := some 56, op := _, type := _, pos := _, after := _, guard := none }) rfl (by kernel_rfl) (by kernel_rfl) (by kernel_rfl) (fun _ _ _ h => h) (Or.inl ⟨by kernel_rfl, ?_⟩) (by assumption) ?_
  case refine_2 => (intro w9 hSw; clear hSw; go_simp; try with_reducible rfl)
  simp only [Act.put, List.setIfInBounds_toArray, List.set_cons_zero, List.set_cons_succ]
  refine wpAnyH_take (i := 17) (v := ?_) (oi := { dst := some 57, op := _, type := _, pos := _, after := _, guard := none }) rfl (by kernel_rfl) (by kernel_rfl) (by kernel_rfl) (fun _ _ _ h => h) (Or.inl ⟨by kernel_rfl, ?_⟩) (by assumption) ?_
  case refine_2 => (intro w9 hSw; clear hSw; go_simp; try with_reducible rfl)
  simp only [Act.put, List.setIfInBounds_toArray, List.set_cons_zero, List.set_cons_succ]
  refine wpAnyH_ready (rs := [18]) (by kernel_rfl) (by simp) (AllReadyH.cons (o := { dst := some 58, op := _, type := _, pos := _, after := _, guard := some (17, true) }) rfl (fun K hK => ?_) AllReadyH.nil)
  go_simp
  refine (KN.out _).mono ?_
  rintro e v5 ⟨rfl, hb5⟩
  refine hK.out _ _ (hHeld.below hb5) (fun hHeld => ?_)
  clear hK K hb5
  refine wpAnyH_take (i := 19) (v := ?_) (oi := { dst := some 59, op := _, type := _, pos := _, after := _, guard := none }) rfl (by kernel_rfl) (by kernel_rfl) (by kernel_rfl) (fun _ _ _ h => h) (Or.inl ⟨by kernel_rfl, ?_⟩) (by assumption) ?_
  case refine_2 => (intro w9 hSw; clear hSw; go_simp; try with_reducible rfl)
  simp only [Act.put, List.setIfInBounds_toArray, List.set_cons_zero, List.set_cons_succ]
  refine wpAnyH_take (i := 20) (v := ?_) (oi := { dst := some 4, op := _, type := _, pos := _, after := _, guard := none }) rfl (by kernel_rfl) (by kernel_rfl) (by kernel_rfl) (fun _ _ _ h => h) (Or.inl ⟨by kernel_rfl, ?_⟩) (by assumption) ?_
  case refine_2 => (intro w9 hSw; clear hSw; go_simp; try with_reducible rfl)
  simp only [Act.put, List.setIfInBounds_toArray, List.set_cons_zero, List.set_cons_succ]
  refine wpAnyH_done (by kernel_rfl) ?_ _
  have HB : Hid (Below w.heap.size w _) := hHeld.1
  clear hHeld
  go_wp2
  go_ret
  exact ⟨rfl, HB.out⟩


end Go.Proofs.Ytghfgabajdghiab
