/- series: a course's isBeyond, leadsTo, plain.next. -/
import Derived.Test.YtpdmndlpgjjopaaGreatDoorSeAq
import Derived.Test.YtpdmndlpgjjopaaGreatDoorStFq
namespace Go.Proofs.YtpdmndlpgjjopaaGreatDoor
open Go.RowKit
set_option linter.unusedVariables false

set_option maxRecDepth 100000 in
set_option maxHeartbeats 4000000 in
theorem bey_any (i u j v d c : Int)
    (CP : Hid (∀ w : World, Cvl.Lens w → Calls Tryz.prog 62 #[.agg #[.int .i64 i, .int .i64 u], .agg #[.int .i64 j, .int .i64 v]] w fun r' w' => r' = .returned (.int .i64 c) ∧ Below w.heap.size w w'))
    (w : World) (hL : Hid (∀ W : World, Below w.heap.size w W → Cvl.Lens W)) :
    Calls Tryz.prog 38 #[.agg #[.int .i64 i, .int .i64 u, .int .i64 j, .int .i64 v, .int .i64 d]] w fun r' w' => r' = .returned (.bool (c == d)) ∧ Below w.heap.size w w' := by
  have K0 : Hid (BS w [(w.heap.size, [.int .i64 i, .int .i64 u, .int .i64 j, .int .i64 v, .int .i64 d])] (w.alloc (.cells #[.int .i64 i, .int .i64 u, .int .i64 j, .int .i64 v, .int .i64 d] 89))) := ((BS.start w).new [.int .i64 i, .int .i64 u, .int .i64 j, .int .i64 v, .int .i64 d] 89 rfl)
  go_enter Tryz.func38, Tryz.ntmps38
  go_upto_region 1 with fail
  refine bs_to K0 ?_
  clear K0
  intro W0 K0
  go_wp2_with fail
  refine wp_region_held_drew (S := BS w [(w.heap.size, [.int .i64 i, .int .i64 u, .int .i64 j, .int .i64 v, .int .i64 d])]) (by kernel_rfl) K0.out.drew (fun hHeld => ?_)
  refine wpAnyH_take (i := 0) (v := ?_) (oi := { dst := some 3, op := _, type := _, pos := _, after := _, guard := none }) rfl (by kernel_rfl) (by kernel_rfl) (by kernel_rfl) (fun _ _ _ h => h) (Or.inl ⟨by kernel_rfl, ?_⟩) (by assumption) ?_
  case refine_2 => (intro w9 hSw; clear hSw; go_simp; try with_reducible rfl)
  simp only [Act.put, List.setIfInBounds_toArray, List.set_cons_zero, List.set_cons_succ]
  refine wpAnyH_take (i := 1) (v := ?_) (oi := { dst := some 4, op := _, type := _, pos := _, after := _, guard := none }) rfl (by kernel_rfl) (by kernel_rfl) (by kernel_rfl) (fun _ _ _ h => h) (Or.inl ⟨by kernel_rfl, ?_⟩) (by assumption) ?_
  case refine_2 => (intro w9 hSw; have l0_0 := (hSw.at (w.heap.size) [.int .i64 i, .int .i64 u, .int .i64 j, .int .i64 v, .int .i64 d] (by simp)).c 0 rfl; have l0_1 := (hSw.at (w.heap.size) [.int .i64 i, .int .i64 u, .int .i64 j, .int .i64 v, .int .i64 d] (by simp)).c 1 rfl; have l0_2 := (hSw.at (w.heap.size) [.int .i64 i, .int .i64 u, .int .i64 j, .int .i64 v, .int .i64 d] (by simp)).c 2 rfl; have l0_3 := (hSw.at (w.heap.size) [.int .i64 i, .int .i64 u, .int .i64 j, .int .i64 v, .int .i64 d] (by simp)).c 3 rfl; have l0_4 := (hSw.at (w.heap.size) [.int .i64 i, .int .i64 u, .int .i64 j, .int .i64 v, .int .i64 d] (by simp)).c 4 rfl; clear hSw; go_simp; try with_reducible rfl)
  simp only [Act.put, List.setIfInBounds_toArray, List.set_cons_zero, List.set_cons_succ]
  refine wpAnyH_take (i := 2) (v := ?_) (oi := { dst := some 5, op := _, type := _, pos := _, after := _, guard := none }) rfl (by kernel_rfl) (by kernel_rfl) (by kernel_rfl) (fun _ _ _ h => h) (Or.inl ⟨by kernel_rfl, ?_⟩) (by assumption) ?_
  case refine_2 => (intro w9 hSw; clear hSw; go_simp; try with_reducible rfl)
  simp only [Act.put, List.setIfInBounds_toArray, List.set_cons_zero, List.set_cons_succ]
  refine wpAnyH_take (i := 3) (v := ?_) (oi := { dst := some 6, op := _, type := _, pos := _, after := _, guard := none }) rfl (by kernel_rfl) (by kernel_rfl) (by kernel_rfl) (fun _ _ _ h => h) (Or.inl ⟨by kernel_rfl, ?_⟩) (by assumption) ?_
  case refine_2 => (intro w9 hSw; have l0_0 := (hSw.at (w.heap.size) [.int .i64 i, .int .i64 u, .int .i64 j, .int .i64 v, .int .i64 d] (by simp)).c 0 rfl; have l0_1 := (hSw.at (w.heap.size) [.int .i64 i, .int .i64 u, .int .i64 j, .int .i64 v, .int .i64 d] (by simp)).c 1 rfl; have l0_2 := (hSw.at (w.heap.size) [.int .i64 i, .int .i64 u, .int .i64 j, .int .i64 v, .int .i64 d] (by simp)).c 2 rfl; have l0_3 := (hSw.at (w.heap.size) [.int .i64 i, .int .i64 u, .int .i64 j, .int .i64 v, .int .i64 d] (by simp)).c 3 rfl; have l0_4 := (hSw.at (w.heap.size) [.int .i64 i, .int .i64 u, .int .i64 j, .int .i64 v, .int .i64 d] (by simp)).c 4 rfl; clear hSw; go_simp; try with_reducible rfl)
  simp only [Act.put, List.setIfInBounds_toArray, List.set_cons_zero, List.set_cons_succ]
  refine wpAnyH_take (i := 5) (v := ?_) (oi := { dst := some 8, op := _, type := _, pos := _, after := _, guard := none }) rfl (by kernel_rfl) (by kernel_rfl) (by kernel_rfl) (fun _ _ _ h => h) (Or.inl ⟨by kernel_rfl, ?_⟩) (by assumption) ?_
  case refine_2 => (intro w9 hSw; clear hSw; go_simp; try with_reducible rfl)
  simp only [Act.put, List.setIfInBounds_toArray, List.set_cons_zero, List.set_cons_succ]
  refine wpAnyH_take (i := 6) (v := ?_) (oi := { dst := some 9, op := _, type := _, pos := _, after := _, guard := none }) rfl (by kernel_rfl) (by kernel_rfl) (by kernel_rfl) (fun _ _ _ h => h) (Or.inl ⟨by kernel_rfl, ?_⟩) (by assumption) ?_
  case refine_2 => (intro w9 hSw; have l0_0 := (hSw.at (w.heap.size) [.int .i64 i, .int .i64 u, .int .i64 j, .int .i64 v, .int .i64 d] (by simp)).c 0 rfl; have l0_1 := (hSw.at (w.heap.size) [.int .i64 i, .int .i64 u, .int .i64 j, .int .i64 v, .int .i64 d] (by simp)).c 1 rfl; have l0_2 := (hSw.at (w.heap.size) [.int .i64 i, .int .i64 u, .int .i64 j, .int .i64 v, .int .i64 d] (by simp)).c 2 rfl; have l0_3 := (hSw.at (w.heap.size) [.int .i64 i, .int .i64 u, .int .i64 j, .int .i64 v, .int .i64 d] (by simp)).c 3 rfl; have l0_4 := (hSw.at (w.heap.size) [.int .i64 i, .int .i64 u, .int .i64 j, .int .i64 v, .int .i64 d] (by simp)).c 4 rfl; clear hSw; go_simp; try with_reducible rfl)
  simp only [Act.put, List.setIfInBounds_toArray, List.set_cons_zero, List.set_cons_succ]
  refine wpAnyH_ready (rs := [4]) (by kernel_rfl) (by simp) (AllReadyH.cons (o := { dst := some 7, op := _, type := _, pos := _, after := _, guard := none }) rfl (fun K hK => ?_) AllReadyH.nil)
  go_simp
  refine (CP.out _ (hL.out _ hHeld.1)).mono ?_
  rintro e v1 ⟨rfl, hb1⟩
  refine hK.out _ _ (hHeld.below hb1) (fun hHeld => ?_)
  clear hK K hb1
  refine wpAnyH_take (i := 7) (v := ?_) (oi := { dst := some 10, op := _, type := _, pos := _, after := _, guard := none }) rfl (by kernel_rfl) (by kernel_rfl) (by kernel_rfl) (fun _ _ _ h => h) (Or.inl ⟨by kernel_rfl, ?_⟩) (by assumption) ?_
  case refine_2 => (intro w9 hSw; clear hSw; go_simp; try with_reducible rfl)
  simp only [Act.put, List.setIfInBounds_toArray, List.set_cons_zero, List.set_cons_succ]
  refine wpAnyH_take (i := 8) (v := ?_) (oi := { dst := some 2, op := _, type := _, pos := _, after := _, guard := none }) rfl (by kernel_rfl) (by kernel_rfl) (by kernel_rfl) (fun _ _ _ h => h) (Or.inl ⟨by kernel_rfl, ?_⟩) (by assumption) ?_
  case refine_2 => (intro w9 hSw; clear hSw; go_simp; try with_reducible rfl)
  simp only [Act.put, List.setIfInBounds_toArray, List.set_cons_zero, List.set_cons_succ]
  refine wpAnyH_done (by kernel_rfl) ?_ _
  have HB : Hid (Below w.heap.size w _) := hHeld.1
  clear hHeld
  go_wp2
  go_ret
  exact ⟨rfl, HB.out⟩

set_option maxRecDepth 100000 in
set_option maxHeartbeats 4000000 in
theorem lead_any (i u j v d n s m t e c : Int)
    (CP : Hid (∀ w : World, Cvl.Lens w → Calls Tryz.prog 62 #[.agg #[.int .i64 n, .int .i64 s], .agg #[.int .i64 i, .int .i64 u]] w fun r' w' => r' = .returned (.int .i64 c) ∧ Below w.heap.size w w'))
    (w : World) (hL : Hid (∀ W : World, Below w.heap.size w W → Cvl.Lens W)) :
    Calls Tryz.prog 39 #[.agg #[.int .i64 i, .int .i64 u, .int .i64 j, .int .i64 v, .int .i64 d], .agg #[.int .i64 n, .int .i64 s, .int .i64 m, .int .i64 t, .int .i64 e]] w fun r' w' => r' = .returned (.bool (c == d)) ∧ Below w.heap.size w w' := by
  have K0 : Hid (BS w [(w.heap.size + 1, [.int .i64 n, .int .i64 s, .int .i64 m, .int .i64 t, .int .i64 e]), (w.heap.size, [.int .i64 i, .int .i64 u, .int .i64 j, .int .i64 v, .int .i64 d])] ((w.alloc (.cells #[.int .i64 i, .int .i64 u, .int .i64 j, .int .i64 v, .int .i64 d] 89)).alloc (.cells #[.int .i64 n, .int .i64 s, .int .i64 m, .int .i64 t, .int .i64 e] 89))) := (((BS.start w).new [.int .i64 i, .int .i64 u, .int .i64 j, .int .i64 v, .int .i64 d] 89 rfl).new [.int .i64 n, .int .i64 s, .int .i64 m, .int .i64 t, .int .i64 e] 89 (by simp))
  go_enter Tryz.func39, Tryz.ntmps39
  go_upto_region 1 with fail
  refine bs_to K0 ?_
  clear K0
  intro W0 K0
  go_wp2_with fail
  refine wp_region_held_drew (S := BS w [(w.heap.size + 1, [.int .i64 n, .int .i64 s, .int .i64 m, .int .i64 t, .int .i64 e]), (w.heap.size, [.int .i64 i, .int .i64 u, .int .i64 j, .int .i64 v, .int .i64 d])]) (by kernel_rfl) K0.out.drew (fun hHeld => ?_)
  refine wpAnyH_take (i := 0) (v := ?_) (oi := { dst := some 5, op := _, type := _, pos := _, after := _, guard := none }) rfl (by kernel_rfl) (by kernel_rfl) (by kernel_rfl) (fun _ _ _ h => h) (Or.inl ⟨by kernel_rfl, ?_⟩) (by assumption) ?_
  case refine_2 => (intro w9 hSw; clear hSw; go_simp; try with_reducible rfl)
  simp only [Act.put, List.setIfInBounds_toArray, List.set_cons_zero, List.set_cons_succ]
  refine wpAnyH_take (i := 1) (v := ?_) (oi := { dst := some 6, op := _, type := _, pos := _, after := _, guard := none }) rfl (by kernel_rfl) (by kernel_rfl) (by kernel_rfl) (fun _ _ _ h => h) (Or.inl ⟨by kernel_rfl, ?_⟩) (by assumption) ?_
  case refine_2 => (intro w9 hSw; have l0_0 := (hSw.at (w.heap.size + 1) [.int .i64 n, .int .i64 s, .int .i64 m, .int .i64 t, .int .i64 e] (by simp)).c 0 rfl; have l0_1 := (hSw.at (w.heap.size + 1) [.int .i64 n, .int .i64 s, .int .i64 m, .int .i64 t, .int .i64 e] (by simp)).c 1 rfl; have l0_2 := (hSw.at (w.heap.size + 1) [.int .i64 n, .int .i64 s, .int .i64 m, .int .i64 t, .int .i64 e] (by simp)).c 2 rfl; have l0_3 := (hSw.at (w.heap.size + 1) [.int .i64 n, .int .i64 s, .int .i64 m, .int .i64 t, .int .i64 e] (by simp)).c 3 rfl; have l0_4 := (hSw.at (w.heap.size + 1) [.int .i64 n, .int .i64 s, .int .i64 m, .int .i64 t, .int .i64 e] (by simp)).c 4 rfl; have l1_0 := (hSw.at (w.heap.size) [.int .i64 i, .int .i64 u, .int .i64 j, .int .i64 v, .int .i64 d] (by simp)).c 0 rfl; have l1_1 := (hSw.at (w.heap.size) [.int .i64 i, .int .i64 u, .int .i64 j, .int .i64 v, .int .i64 d] (by simp)).c 1 rfl; have l1_2 := (hSw.at (w.heap.size) [.int .i64 i, .int .i64 u, .int .i64 j, .int .i64 v, .int .i64 d] (by simp)).c 2 rfl; have l1_3 := (hSw.at (w.heap.size) [.int .i64 i, .int .i64 u, .int .i64 j, .int .i64 v, .int .i64 d] (by simp)).c 3 rfl; have l1_4 := (hSw.at (w.heap.size) [.int .i64 i, .int .i64 u, .int .i64 j, .int .i64 v, .int .i64 d] (by simp)).c 4 rfl; clear hSw; go_simp; try with_reducible rfl)
  simp only [Act.put, List.setIfInBounds_toArray, List.set_cons_zero, List.set_cons_succ]
  refine wpAnyH_take (i := 2) (v := ?_) (oi := { dst := some 7, op := _, type := _, pos := _, after := _, guard := none }) rfl (by kernel_rfl) (by kernel_rfl) (by kernel_rfl) (fun _ _ _ h => h) (Or.inl ⟨by kernel_rfl, ?_⟩) (by assumption) ?_
  case refine_2 => (intro w9 hSw; clear hSw; go_simp; try with_reducible rfl)
  simp only [Act.put, List.setIfInBounds_toArray, List.set_cons_zero, List.set_cons_succ]
  refine wpAnyH_take (i := 3) (v := ?_) (oi := { dst := some 8, op := _, type := _, pos := _, after := _, guard := none }) rfl (by kernel_rfl) (by kernel_rfl) (by kernel_rfl) (fun _ _ _ h => h) (Or.inl ⟨by kernel_rfl, ?_⟩) (by assumption) ?_
  case refine_2 => (intro w9 hSw; have l0_0 := (hSw.at (w.heap.size + 1) [.int .i64 n, .int .i64 s, .int .i64 m, .int .i64 t, .int .i64 e] (by simp)).c 0 rfl; have l0_1 := (hSw.at (w.heap.size + 1) [.int .i64 n, .int .i64 s, .int .i64 m, .int .i64 t, .int .i64 e] (by simp)).c 1 rfl; have l0_2 := (hSw.at (w.heap.size + 1) [.int .i64 n, .int .i64 s, .int .i64 m, .int .i64 t, .int .i64 e] (by simp)).c 2 rfl; have l0_3 := (hSw.at (w.heap.size + 1) [.int .i64 n, .int .i64 s, .int .i64 m, .int .i64 t, .int .i64 e] (by simp)).c 3 rfl; have l0_4 := (hSw.at (w.heap.size + 1) [.int .i64 n, .int .i64 s, .int .i64 m, .int .i64 t, .int .i64 e] (by simp)).c 4 rfl; have l1_0 := (hSw.at (w.heap.size) [.int .i64 i, .int .i64 u, .int .i64 j, .int .i64 v, .int .i64 d] (by simp)).c 0 rfl; have l1_1 := (hSw.at (w.heap.size) [.int .i64 i, .int .i64 u, .int .i64 j, .int .i64 v, .int .i64 d] (by simp)).c 1 rfl; have l1_2 := (hSw.at (w.heap.size) [.int .i64 i, .int .i64 u, .int .i64 j, .int .i64 v, .int .i64 d] (by simp)).c 2 rfl; have l1_3 := (hSw.at (w.heap.size) [.int .i64 i, .int .i64 u, .int .i64 j, .int .i64 v, .int .i64 d] (by simp)).c 3 rfl; have l1_4 := (hSw.at (w.heap.size) [.int .i64 i, .int .i64 u, .int .i64 j, .int .i64 v, .int .i64 d] (by simp)).c 4 rfl; clear hSw; go_simp; try with_reducible rfl)
  simp only [Act.put, List.setIfInBounds_toArray, List.set_cons_zero, List.set_cons_succ]
  refine wpAnyH_take (i := 5) (v := ?_) (oi := { dst := some 10, op := _, type := _, pos := _, after := _, guard := none }) rfl (by kernel_rfl) (by kernel_rfl) (by kernel_rfl) (fun _ _ _ h => h) (Or.inl ⟨by kernel_rfl, ?_⟩) (by assumption) ?_
  case refine_2 => (intro w9 hSw; clear hSw; go_simp; try with_reducible rfl)
  simp only [Act.put, List.setIfInBounds_toArray, List.set_cons_zero, List.set_cons_succ]
  refine wpAnyH_take (i := 6) (v := ?_) (oi := { dst := some 11, op := _, type := _, pos := _, after := _, guard := none }) rfl (by kernel_rfl) (by kernel_rfl) (by kernel_rfl) (fun _ _ _ h => h) (Or.inl ⟨by kernel_rfl, ?_⟩) (by assumption) ?_
  case refine_2 => (intro w9 hSw; have l0_0 := (hSw.at (w.heap.size + 1) [.int .i64 n, .int .i64 s, .int .i64 m, .int .i64 t, .int .i64 e] (by simp)).c 0 rfl; have l0_1 := (hSw.at (w.heap.size + 1) [.int .i64 n, .int .i64 s, .int .i64 m, .int .i64 t, .int .i64 e] (by simp)).c 1 rfl; have l0_2 := (hSw.at (w.heap.size + 1) [.int .i64 n, .int .i64 s, .int .i64 m, .int .i64 t, .int .i64 e] (by simp)).c 2 rfl; have l0_3 := (hSw.at (w.heap.size + 1) [.int .i64 n, .int .i64 s, .int .i64 m, .int .i64 t, .int .i64 e] (by simp)).c 3 rfl; have l0_4 := (hSw.at (w.heap.size + 1) [.int .i64 n, .int .i64 s, .int .i64 m, .int .i64 t, .int .i64 e] (by simp)).c 4 rfl; have l1_0 := (hSw.at (w.heap.size) [.int .i64 i, .int .i64 u, .int .i64 j, .int .i64 v, .int .i64 d] (by simp)).c 0 rfl; have l1_1 := (hSw.at (w.heap.size) [.int .i64 i, .int .i64 u, .int .i64 j, .int .i64 v, .int .i64 d] (by simp)).c 1 rfl; have l1_2 := (hSw.at (w.heap.size) [.int .i64 i, .int .i64 u, .int .i64 j, .int .i64 v, .int .i64 d] (by simp)).c 2 rfl; have l1_3 := (hSw.at (w.heap.size) [.int .i64 i, .int .i64 u, .int .i64 j, .int .i64 v, .int .i64 d] (by simp)).c 3 rfl; have l1_4 := (hSw.at (w.heap.size) [.int .i64 i, .int .i64 u, .int .i64 j, .int .i64 v, .int .i64 d] (by simp)).c 4 rfl; clear hSw; go_simp; try with_reducible rfl)
  simp only [Act.put, List.setIfInBounds_toArray, List.set_cons_zero, List.set_cons_succ]
  refine wpAnyH_ready (rs := [4]) (by kernel_rfl) (by simp) (AllReadyH.cons (o := { dst := some 9, op := _, type := _, pos := _, after := _, guard := none }) rfl (fun K hK => ?_) AllReadyH.nil)
  go_simp
  refine (CP.out _ (hL.out _ hHeld.1)).mono ?_
  rintro e v1 ⟨rfl, hb1⟩
  refine hK.out _ _ (hHeld.below hb1) (fun hHeld => ?_)
  clear hK K hb1
  refine wpAnyH_take (i := 7) (v := ?_) (oi := { dst := some 12, op := _, type := _, pos := _, after := _, guard := none }) rfl (by kernel_rfl) (by kernel_rfl) (by kernel_rfl) (fun _ _ _ h => h) (Or.inl ⟨by kernel_rfl, ?_⟩) (by assumption) ?_
  case refine_2 => (intro w9 hSw; clear hSw; go_simp; try with_reducible rfl)
  simp only [Act.put, List.setIfInBounds_toArray, List.set_cons_zero, List.set_cons_succ]
  refine wpAnyH_take (i := 8) (v := ?_) (oi := { dst := some 4, op := _, type := _, pos := _, after := _, guard := none }) rfl (by kernel_rfl) (by kernel_rfl) (by kernel_rfl) (fun _ _ _ h => h) (Or.inl ⟨by kernel_rfl, ?_⟩) (by assumption) ?_
  case refine_2 => (intro w9 hSw; clear hSw; go_simp; try with_reducible rfl)
  simp only [Act.put, List.setIfInBounds_toArray, List.set_cons_zero, List.set_cons_succ]
  refine wpAnyH_done (by kernel_rfl) ?_ _
  have HB : Hid (Below w.heap.size w _) := hHeld.1
  clear hHeld
  go_wp2
  go_ret
  exact ⟨rfl, HB.out⟩

set_option maxRecDepth 100000 in
set_option maxHeartbeats 4000000 in
theorem next_any (i u j m d n I V E : Int)
    (AD : Hid (∀ w : World, Cvl.Lens w → Calls Tryz.prog 53 #[.agg #[.int .i64 i, .int .i64 u], .agg #[.int .i64 j, .int .i64 m, .int .i64 d, .int .i64 n]] w fun r' w' => r' = .returned (.tuple #[.agg #[.int .i64 I, .int .i64 V], .int .i64 E]) ∧ Below w.heap.size w w'))
    (w : World) (hL : Hid (∀ W : World, Below w.heap.size w W → Cvl.Lens W)) :
    Calls Tryz.prog 31 #[.agg #[.int .i64 j, .int .i64 m, .int .i64 d, .int .i64 n], .agg #[.int .i64 i, .int .i64 u]] w fun r' w' => r' = .returned (.tuple #[.agg #[.int .i64 I, .int .i64 V], .int .i64 E]) ∧ Below w.heap.size w w' := by
  have K0 : Hid (BS w [(w.heap.size + 2, [.int .i64 0, .int .i64 0]), (w.heap.size + 1, [.int .i64 i, .int .i64 u]), (w.heap.size, [.int .i64 j, .int .i64 m, .int .i64 d, .int .i64 n])] (((w.alloc (.cells #[.int .i64 j, .int .i64 m, .int .i64 d, .int .i64 n] 84)).alloc (.cells #[.int .i64 i, .int .i64 u] 36)).alloc (.cells #[.int .i64 0, .int .i64 0] 36))) := ((((BS.start w).new [.int .i64 j, .int .i64 m, .int .i64 d, .int .i64 n] 84 rfl).new [.int .i64 i, .int .i64 u] 36 (by simp)).new [.int .i64 0, .int .i64 0] 36 (by simp))
  go_enter Tryz.func31, Tryz.ntmps31
  go_wp2_with fail
  refine (AD.out _ (hL.out _ K0.out.1)).mono ?_
  rintro e W1 ⟨rfl, hb⟩
  have K1 := bsb K0 hb
  clear hb K0
  obtain ⟨c1_0_0, c1_0_1⟩ := (bo1 K1).c2
  obtain ⟨z1_0_0, z1_0_1⟩ := (bo1 K1).f2
  obtain ⟨c1_1_0, c1_1_1⟩ := (bo2 K1).c2
  obtain ⟨c1_2_0, c1_2_1, c1_2_2, c1_2_3⟩ := (bo3 K1).c4
  have XF : Hid (Bx (W1.setCells (w.heap.size + 2) 0 [.int .i64 I, .int .i64 V]) (w.heap.size + 2) [.int .i64 I, .int .i64 V]) := (K1.out.at (w.heap.size + 2) [.int .i64 0, .int .i64 0] (by simp)).setAll _ rfl
  have BF : Hid (Below w.heap.size w (W1.setCells (w.heap.size + 2) 0 [.int .i64 I, .int .i64 V])) := below_setCells (by omega) _ _ _ K1.out.1
  have y0 := XF.out.c 0 rfl
  have y1 := XF.out.c 1 rfl
  simp only [World.setCells, Nat.zero_add] at y0 y1
  clear XF
  go_wp2
  exact bodyPost_ret (v := .tuple #[.agg #[.int .i64 I, .int .i64 V], .int .i64 E]) (by simp [results, Tryz.results31, go_sem, y0, y1]) rfl ⟨rfl, BF.out⟩


end Go.Proofs.YtpdmndlpgjjopaaGreatDoor
