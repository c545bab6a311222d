/- Intervals so many times, turned: way by way. -/
import Derived.Test.YtghfgabajdghiacSpC
import Derived.Test.YtghfgabajdghiacBxB
import Derived.Deep.Cut
namespace Go.Proofs.Ytghfgabajdghiac
open Go.RowKit
set_option linter.unusedVariables false

set_option maxRecDepth 100000 in
set_option maxHeartbeats 4000000 in
theorem pmul_inf_mm (n : Int) (hn : n ≠ 0)
    (R : Hid (∀ w : World, Calls Try.prog 13 #[.agg #[.int .i64 (-1), .int .i64 0, .int .i64 0, .int .i64 0]] w fun r' w' => r' = .returned (.bool true) ∧ Below w.heap.size w w'))
    (C : Hid (∀ w : World, Calls Try.prog 19 #[.int .i64 n, .int .i64 0] w fun r' w' => r' = .returned (.int .i64 (-1)) ∧ w' = w))
    (w : World) :
    Calls Try.prog 20 #[.agg #[.int .i64 (-1), .int .i64 0, .int .i64 0, .int .i64 0], .int .i64 n] w fun r' w' => r' = .returned (.tuple #[.agg #[.int .i64 1, .int .i64 0, .int .i64 0, .int .i64 0], .int .i64 0]) ∧ Below w.heap.size w w' := by
  have n1 : (n == 0) = false := by simpa using hn
  have q1 : IntKind.i64.wrap 1 = 1 := by decide
  have q2 : IntKind.i64.wrap (-1) = -1 := by decide
  have K0 : Hid (BS w [(w.heap.size + 1, [.int .i64 0, .int .i64 0, .int .i64 0, .int .i64 0]), (w.heap.size, [.int .i64 (-1), .int .i64 0, .int .i64 0, .int .i64 0])] ((w.alloc (.cells #[.int .i64 (-1), .int .i64 0, .int .i64 0, .int .i64 0] 23)).alloc (.cells #[.int .i64 0, .int .i64 0, .int .i64 0, .int .i64 0] 23))) := (((BS.start w).new [.int .i64 (-1), .int .i64 0, .int .i64 0, .int .i64 0] 23 rfl).new [.int .i64 0, .int .i64 0, .int .i64 0, .int .i64 0] 23 (by simp))
  go_enter Try.func20, Try.ntmps20
  go_wp2_with fail
  refine (R.out _).mono ?_
  rintro e W1 ⟨rfl, hb⟩
  have K1 : Hid (BS w [(w.heap.size + 1, [.int .i64 0, .int .i64 0, .int .i64 0, .int .i64 0]), (w.heap.size, [.int .i64 (-1), .int .i64 0, .int .i64 0, .int .i64 0])] W1) := K0.out.below hb
  clear hb K0
  have c1_0_0 : W1.cell? ⟨w.heap.size + 1, 0, none⟩ = some (.int .i64 0) := (K1.out.at (w.heap.size + 1) [.int .i64 0, .int .i64 0, .int .i64 0, .int .i64 0] (by simp)).c 0 rfl
  have z1_0_0 : W1.frozen? ⟨w.heap.size + 1, 0, none⟩ = false := (K1.out.at (w.heap.size + 1) [.int .i64 0, .int .i64 0, .int .i64 0, .int .i64 0] (by simp)).f 0 rfl
  have c1_0_1 : W1.cell? ⟨w.heap.size + 1, 1, none⟩ = some (.int .i64 0) := (K1.out.at (w.heap.size + 1) [.int .i64 0, .int .i64 0, .int .i64 0, .int .i64 0] (by simp)).c 1 rfl
  have z1_0_1 : W1.frozen? ⟨w.heap.size + 1, 1, none⟩ = false := (K1.out.at (w.heap.size + 1) [.int .i64 0, .int .i64 0, .int .i64 0, .int .i64 0] (by simp)).f 1 rfl
  have c1_0_2 : W1.cell? ⟨w.heap.size + 1, 2, none⟩ = some (.int .i64 0) := (K1.out.at (w.heap.size + 1) [.int .i64 0, .int .i64 0, .int .i64 0, .int .i64 0] (by simp)).c 2 rfl
  have z1_0_2 : W1.frozen? ⟨w.heap.size + 1, 2, none⟩ = false := (K1.out.at (w.heap.size + 1) [.int .i64 0, .int .i64 0, .int .i64 0, .int .i64 0] (by simp)).f 2 rfl
  have c1_0_3 : W1.cell? ⟨w.heap.size + 1, 3, none⟩ = some (.int .i64 0) := (K1.out.at (w.heap.size + 1) [.int .i64 0, .int .i64 0, .int .i64 0, .int .i64 0] (by simp)).c 3 rfl
  have z1_0_3 : W1.frozen? ⟨w.heap.size + 1, 3, none⟩ = false := (K1.out.at (w.heap.size + 1) [.int .i64 0, .int .i64 0, .int .i64 0, .int .i64 0] (by simp)).f 3 rfl
  have c1_1_0 : W1.cell? ⟨w.heap.size, 0, none⟩ = some (.int .i64 (-1)) := (K1.out.at (w.heap.size) [.int .i64 (-1), .int .i64 0, .int .i64 0, .int .i64 0] (by simp)).c 0 rfl
  have c1_1_1 : W1.cell? ⟨w.heap.size, 1, none⟩ = some (.int .i64 0) := (K1.out.at (w.heap.size) [.int .i64 (-1), .int .i64 0, .int .i64 0, .int .i64 0] (by simp)).c 1 rfl
  have c1_1_2 : W1.cell? ⟨w.heap.size, 2, none⟩ = some (.int .i64 0) := (K1.out.at (w.heap.size) [.int .i64 (-1), .int .i64 0, .int .i64 0, .int .i64 0] (by simp)).c 2 rfl
  have c1_1_3 : W1.cell? ⟨w.heap.size, 3, none⟩ = some (.int .i64 0) := (K1.out.at (w.heap.size) [.int .i64 (-1), .int .i64 0, .int .i64 0, .int .i64 0] (by simp)).c 3 rfl
  go_wp2_with fail
  clear c1_0_0 z1_0_0 c1_0_1 z1_0_1 c1_0_2 z1_0_2 c1_0_3 z1_0_3 c1_1_0 c1_1_1 c1_1_2 c1_1_3
  refine wp_region_held_drew (S := BS w [(w.heap.size, [.int .i64 (-1), .int .i64 0, .int .i64 0, .int .i64 0])]) (by kernel_rfl) K1.out.drew.tail (fun hHeld => ?_)
  refine wpAnyH_take (i := 0) (v := ?_) (oi := { dst := some 26, op := _, type := _, pos := _, after := _, guard := none }) rfl (by kernel_rfl) (by kernel_rfl) (by kernel_rfl) (fun _ _ _ h => h) (Or.inl ⟨by kernel_rfl, ?_⟩) (by assumption) ?_
  case refine_2 => (intro w9 hSw; clear hSw; go_simp; try with_reducible rfl)
  simp only [Act.put, List.setIfInBounds_toArray, List.set_cons_zero, List.set_cons_succ]
  refine wpAnyH_take (i := 1) (v := ?_) (oi := { dst := some 27, op := _, type := _, pos := _, after := _, guard := none }) rfl (by kernel_rfl) (by kernel_rfl) (by kernel_rfl) (fun _ _ _ h => h) (Or.inl ⟨by kernel_rfl, ?_⟩) (by assumption) ?_
  case refine_2 => (intro w9 hSw; have l_0 := (hSw.at (w.heap.size) [.int .i64 (-1), .int .i64 0, .int .i64 0, .int .i64 0] (by simp)).c 0 rfl; have l_1 := (hSw.at (w.heap.size) [.int .i64 (-1), .int .i64 0, .int .i64 0, .int .i64 0] (by simp)).c 1 rfl; have l_2 := (hSw.at (w.heap.size) [.int .i64 (-1), .int .i64 0, .int .i64 0, .int .i64 0] (by simp)).c 2 rfl; have l_3 := (hSw.at (w.heap.size) [.int .i64 (-1), .int .i64 0, .int .i64 0, .int .i64 0] (by simp)).c 3 rfl; clear hSw; go_simp; try with_reducible rfl)
  simp only [Act.put, List.setIfInBounds_toArray, List.set_cons_zero, List.set_cons_succ]
  refine wpAnyH_take (i := 2) (v := ?_) (oi := { dst := some 28, op := _, type := _, pos := _, after := _, guard := none }) rfl (by kernel_rfl) (by kernel_rfl) (by kernel_rfl) (fun _ _ _ h => h) (Or.inl ⟨by kernel_rfl, ?_⟩) (by assumption) ?_
  case refine_2 => (intro w9 hSw; clear hSw; go_simp; try with_reducible rfl)
  simp only [Act.put, List.setIfInBounds_toArray, List.set_cons_zero, List.set_cons_succ]
  refine wpAnyH_ready (rs := [3]) (by kernel_rfl) (by simp) (AllReadyH.cons (o := { dst := some 29, op := _, type := _, pos := _, after := _, guard := none }) rfl (fun K hK => ?_) AllReadyH.nil)
  go_simp
  refine (C.out _).mono ?_
  rintro e v1 ⟨rfl, hw⟩
  rw [hw]
  refine hK.out _ _ hHeld (fun hHeld => ?_)
  clear hK K hw v1
  refine wpAnyH_take (i := 4) (v := ?_) (oi := { dst := some 30, op := _, type := _, pos := _, after := _, guard := none }) rfl (by kernel_rfl) (by kernel_rfl) (by kernel_rfl) (fun _ _ _ h => h) (Or.inl ⟨by kernel_rfl, ?_⟩) (by assumption) ?_
  case refine_2 => (intro w9 hSw; clear hSw; go_simp; try with_reducible rfl)
  simp only [Act.put, List.setIfInBounds_toArray, List.set_cons_zero, List.set_cons_succ]
  refine wpAnyH_take (i := 5) (v := ?_) (oi := { dst := some 31, op := _, type := _, pos := _, after := _, guard := none }) rfl (by kernel_rfl) (by kernel_rfl) (by kernel_rfl) (fun _ _ _ h => h) (Or.inl ⟨by kernel_rfl, ?_⟩) (by assumption) ?_
  case refine_2 => (intro w9 hSw; clear hSw; go_simp; try with_reducible rfl)
  simp only [Act.put, List.setIfInBounds_toArray, List.set_cons_zero, List.set_cons_succ]
  refine wpAnyH_ready (rs := [6]) (by kernel_rfl) (by simp) (AllReadyH.cons (o := { dst := none, op := _, type := _, pos := _, after := _, guard := none }) rfl (fun K hK => ?_) AllReadyH.nil)
  have XD := K1.out
  have y_0 := XD.first.c 0 rfl
  have y_1 := XD.first.c 1 rfl
  have y_2 := XD.first.c 2 rfl
  have y_3 := XD.first.c 3 rfl
  have z_0 := XD.first.f 0 rfl
  have z_1 := XD.first.f 1 rfl
  have z_2 := XD.first.f 2 rfl
  have z_3 := XD.first.f 3 rfl
  clear XD
  go_simp
  refine hK.out _ _ (K1.out.set [.int .i64 1, .int .i64 0, .int .i64 0, .int .i64 0] rfl (by intro x hx; simp only [List.mem_singleton] at hx; subst hx; exact Nat.ne_of_lt (Nat.lt_succ_self _))).tail.drew (fun hHeld => ?_)
  clear hK K
  refine wpAnyH_take (i := 7) (v := ?_) (oi := { dst := some 5, op := _, type := _, pos := _, after := _, guard := none }) rfl (by kernel_rfl) (by kernel_rfl) (by kernel_rfl) (fun _ _ _ h => h) (Or.inl ⟨by kernel_rfl, ?_⟩) (by assumption) ?_
  case refine_2 => (intro w9 hSw; clear hSw; go_simp; try with_reducible rfl)
  simp only [Act.put, List.setIfInBounds_toArray, List.set_cons_zero, List.set_cons_succ]
  refine wpAnyH_done (by kernel_rfl) ?_ _
  have XF : Hid (Bx (W1.setCells (w.heap.size + 1) 0 [.int .i64 1, .int .i64 0, .int .i64 0, .int .i64 0]) (w.heap.size + 1) [.int .i64 1, .int .i64 0, .int .i64 0, .int .i64 0]) := K1.out.first.setAll _ rfl
  have BF : Hid (Below w.heap.size w (W1.setCells (w.heap.size + 1) 0 [.int .i64 1, .int .i64 0, .int .i64 0, .int .i64 0]).drew) := (below_setCells (by omega) _ _ _ K1.out.1).drew
  have y0 := XF.out.c 0 rfl
  have y1 := XF.out.c 1 rfl
  have y2 := XF.out.c 2 rfl
  have y3 := XF.out.c 3 rfl
  simp only [World.setCells, Nat.zero_add, Nat.reduceAdd] at y0 y1 y2 y3
  clear XF hHeld
  go_wp2
  exact bodyPost_ret (v := .tuple #[.agg #[.int .i64 1, .int .i64 0, .int .i64 0, .int .i64 0], .int .i64 0]) (by simp [results, Try.results20, go_sem, y0, y1, y2, y3]) rfl ⟨rfl, BF.out⟩

set_option maxRecDepth 100000 in
set_option maxHeartbeats 4000000 in
theorem pmul_inf_mp (n : Int) (hn : n ≠ 0)
    (R : Hid (∀ w : World, Calls Try.prog 13 #[.agg #[.int .i64 (-1), .int .i64 0, .int .i64 0, .int .i64 0]] w fun r' w' => r' = .returned (.bool true) ∧ Below w.heap.size w w'))
    (C : Hid (∀ w : World, Calls Try.prog 19 #[.int .i64 n, .int .i64 0] w fun r' w' => r' = .returned (.int .i64 1) ∧ w' = w))
    (w : World) :
    Calls Try.prog 20 #[.agg #[.int .i64 (-1), .int .i64 0, .int .i64 0, .int .i64 0], .int .i64 n] w fun r' w' => r' = .returned (.tuple #[.agg #[.int .i64 (-1), .int .i64 0, .int .i64 0, .int .i64 0], .int .i64 0]) ∧ Below w.heap.size w w' := by
  have n1 : (n == 0) = false := by simpa using hn
  have q1 : IntKind.i64.wrap 1 = 1 := by decide
  have q2 : IntKind.i64.wrap (-1) = -1 := by decide
  have K0 : Hid (BS w [(w.heap.size + 1, [.int .i64 0, .int .i64 0, .int .i64 0, .int .i64 0]), (w.heap.size, [.int .i64 (-1), .int .i64 0, .int .i64 0, .int .i64 0])] ((w.alloc (.cells #[.int .i64 (-1), .int .i64 0, .int .i64 0, .int .i64 0] 23)).alloc (.cells #[.int .i64 0, .int .i64 0, .int .i64 0, .int .i64 0] 23))) := (((BS.start w).new [.int .i64 (-1), .int .i64 0, .int .i64 0, .int .i64 0] 23 rfl).new [.int .i64 0, .int .i64 0, .int .i64 0, .int .i64 0] 23 (by simp))
  go_enter Try.func20, Try.ntmps20
  go_wp2_with fail
  refine (R.out _).mono ?_
  rintro e W1 ⟨rfl, hb⟩
  have K1 : Hid (BS w [(w.heap.size + 1, [.int .i64 0, .int .i64 0, .int .i64 0, .int .i64 0]), (w.heap.size, [.int .i64 (-1), .int .i64 0, .int .i64 0, .int .i64 0])] W1) := K0.out.below hb
  clear hb K0
  have c1_0_0 : W1.cell? ⟨w.heap.size + 1, 0, none⟩ = some (.int .i64 0) := (K1.out.at (w.heap.size + 1) [.int .i64 0, .int .i64 0, .int .i64 0, .int .i64 0] (by simp)).c 0 rfl
  have z1_0_0 : W1.frozen? ⟨w.heap.size + 1, 0, none⟩ = false := (K1.out.at (w.heap.size + 1) [.int .i64 0, .int .i64 0, .int .i64 0, .int .i64 0] (by simp)).f 0 rfl
  have c1_0_1 : W1.cell? ⟨w.heap.size + 1, 1, none⟩ = some (.int .i64 0) := (K1.out.at (w.heap.size + 1) [.int .i64 0, .int .i64 0, .int .i64 0, .int .i64 0] (by simp)).c 1 rfl
  have z1_0_1 : W1.frozen? ⟨w.heap.size + 1, 1, none⟩ = false := (K1.out.at (w.heap.size + 1) [.int .i64 0, .int .i64 0, .int .i64 0, .int .i64 0] (by simp)).f 1 rfl
  have c1_0_2 : W1.cell? ⟨w.heap.size + 1, 2, none⟩ = some (.int .i64 0) := (K1.out.at (w.heap.size + 1) [.int .i64 0, .int .i64 0, .int .i64 0, .int .i64 0] (by simp)).c 2 rfl
  have z1_0_2 : W1.frozen? ⟨w.heap.size + 1, 2, none⟩ = false := (K1.out.at (w.heap.size + 1) [.int .i64 0, .int .i64 0, .int .i64 0, .int .i64 0] (by simp)).f 2 rfl
  have c1_0_3 : W1.cell? ⟨w.heap.size + 1, 3, none⟩ = some (.int .i64 0) := (K1.out.at (w.heap.size + 1) [.int .i64 0, .int .i64 0, .int .i64 0, .int .i64 0] (by simp)).c 3 rfl
  have z1_0_3 : W1.frozen? ⟨w.heap.size + 1, 3, none⟩ = false := (K1.out.at (w.heap.size + 1) [.int .i64 0, .int .i64 0, .int .i64 0, .int .i64 0] (by simp)).f 3 rfl
  have c1_1_0 : W1.cell? ⟨w.heap.size, 0, none⟩ = some (.int .i64 (-1)) := (K1.out.at (w.heap.size) [.int .i64 (-1), .int .i64 0, .int .i64 0, .int .i64 0] (by simp)).c 0 rfl
  have c1_1_1 : W1.cell? ⟨w.heap.size, 1, none⟩ = some (.int .i64 0) := (K1.out.at (w.heap.size) [.int .i64 (-1), .int .i64 0, .int .i64 0, .int .i64 0] (by simp)).c 1 rfl
  have c1_1_2 : W1.cell? ⟨w.heap.size, 2, none⟩ = some (.int .i64 0) := (K1.out.at (w.heap.size) [.int .i64 (-1), .int .i64 0, .int .i64 0, .int .i64 0] (by simp)).c 2 rfl
  have c1_1_3 : W1.cell? ⟨w.heap.size, 3, none⟩ = some (.int .i64 0) := (K1.out.at (w.heap.size) [.int .i64 (-1), .int .i64 0, .int .i64 0, .int .i64 0] (by simp)).c 3 rfl
  go_wp2_with fail
  clear c1_0_0 z1_0_0 c1_0_1 z1_0_1 c1_0_2 z1_0_2 c1_0_3 z1_0_3 c1_1_0 c1_1_1 c1_1_2 c1_1_3
  refine wp_region_held_drew (S := BS w [(w.heap.size, [.int .i64 (-1), .int .i64 0, .int .i64 0, .int .i64 0])]) (by kernel_rfl) K1.out.drew.tail (fun hHeld => ?_)
  refine wpAnyH_take (i := 0) (v := ?_) (oi := { dst := some 26, op := _, type := _, pos := _, after := _, guard := none }) rfl (by kernel_rfl) (by kernel_rfl) (by kernel_rfl) (fun _ _ _ h => h) (Or.inl ⟨by kernel_rfl, ?_⟩) (by assumption) ?_
  case refine_2 => (intro w9 hSw; clear hSw; go_simp; try with_reducible rfl)
  simp only [Act.put, List.setIfInBounds_toArray, List.set_cons_zero, List.set_cons_succ]
  refine wpAnyH_take (i := 1) (v := ?_) (oi := { dst := some 27, op := _, type := _, pos := _, after := _, guard := none }) rfl (by kernel_rfl) (by kernel_rfl) (by kernel_rfl) (fun _ _ _ h => h) (Or.inl ⟨by kernel_rfl, ?_⟩) (by assumption) ?_
  case refine_2 => (intro w9 hSw; have l_0 := (hSw.at (w.heap.size) [.int .i64 (-1), .int .i64 0, .int .i64 0, .int .i64 0] (by simp)).c 0 rfl; have l_1 := (hSw.at (w.heap.size) [.int .i64 (-1), .int .i64 0, .int .i64 0, .int .i64 0] (by simp)).c 1 rfl; have l_2 := (hSw.at (w.heap.size) [.int .i64 (-1), .int .i64 0, .int .i64 0, .int .i64 0] (by simp)).c 2 rfl; have l_3 := (hSw.at (w.heap.size) [.int .i64 (-1), .int .i64 0, .int .i64 0, .int .i64 0] (by simp)).c 3 rfl; clear hSw; go_simp; try with_reducible rfl)
  simp only [Act.put, List.setIfInBounds_toArray, List.set_cons_zero, List.set_cons_succ]
  refine wpAnyH_take (i := 2) (v := ?_) (oi := { dst := some 28, op := _, type := _, pos := _, after := _, guard := none }) rfl (by kernel_rfl) (by kernel_rfl) (by kernel_rfl) (fun _ _ _ h => h) (Or.inl ⟨by kernel_rfl, ?_⟩) (by assumption) ?_
  case refine_2 => (intro w9 hSw; clear hSw; go_simp; try with_reducible rfl)
  simp only [Act.put, List.setIfInBounds_toArray, List.set_cons_zero, List.set_cons_succ]
  refine wpAnyH_ready (rs := [3]) (by kernel_rfl) (by simp) (AllReadyH.cons (o := { dst := some 29, op := _, type := _, pos := _, after := _, guard := none }) rfl (fun K hK => ?_) AllReadyH.nil)
  go_simp
  refine (C.out _).mono ?_
  rintro e v1 ⟨rfl, hw⟩
  rw [hw]
  refine hK.out _ _ hHeld (fun hHeld => ?_)
  clear hK K hw v1
  refine wpAnyH_take (i := 4) (v := ?_) (oi := { dst := some 30, op := _, type := _, pos := _, after := _, guard := none }) rfl (by kernel_rfl) (by kernel_rfl) (by kernel_rfl) (fun _ _ _ h => h) (Or.inl ⟨by kernel_rfl, ?_⟩) (by assumption) ?_
  case refine_2 => (intro w9 hSw; clear hSw; go_simp; try with_reducible rfl)
  simp only [Act.put, List.setIfInBounds_toArray, List.set_cons_zero, List.set_cons_succ]
  refine wpAnyH_take (i := 5) (v := ?_) (oi := { dst := some 31, op := _, type := _, pos := _, after := _, guard := none }) rfl (by kernel_rfl) (by kernel_rfl) (by kernel_rfl) (fun _ _ _ h => h) (Or.inl ⟨by kernel_rfl, ?_⟩) (by assumption) ?_
  case refine_2 => (intro w9 hSw; clear hSw; go_simp; try with_reducible rfl)
  simp only [Act.put, List.setIfInBounds_toArray, List.set_cons_zero, List.set_cons_succ]
  refine wpAnyH_ready (rs := [6]) (by kernel_rfl) (by simp) (AllReadyH.cons (o := { dst := none, op := _, type := _, pos := _, after := _, guard := none }) rfl (fun K hK => ?_) AllReadyH.nil)
  have XD := K1.out
  have y_0 := XD.first.c 0 rfl
  have y_1 := XD.first.c 1 rfl
  have y_2 := XD.first.c 2 rfl
  have y_3 := XD.first.c 3 rfl
  have z_0 := XD.first.f 0 rfl
  have z_1 := XD.first.f 1 rfl
  have z_2 := XD.first.f 2 rfl
  have z_3 := XD.first.f 3 rfl
  clear XD
  go_simp
  refine hK.out _ _ (K1.out.set [.int .i64 (-1), .int .i64 0, .int .i64 0, .int .i64 0] rfl (by intro x hx; simp only [List.mem_singleton] at hx; subst hx; exact Nat.ne_of_lt (Nat.lt_succ_self _))).tail.drew (fun hHeld => ?_)
  clear hK K
  refine wpAnyH_take (i := 7) (v := ?_) (oi := { dst := some 5, op := _, type := _, pos := _, after := _, guard := none }) rfl (by kernel_rfl) (by kernel_rfl) (by kernel_rfl) (fun _ _ _ h => h) (Or.inl ⟨by kernel_rfl, ?_⟩) (by assumption) ?_
  case refine_2 => (intro w9 hSw; clear hSw; go_simp; try with_reducible rfl)
  simp only [Act.put, List.setIfInBounds_toArray, List.set_cons_zero, List.set_cons_succ]
  refine wpAnyH_done (by kernel_rfl) ?_ _
  have XF : Hid (Bx (W1.setCells (w.heap.size + 1) 0 [.int .i64 (-1), .int .i64 0, .int .i64 0, .int .i64 0]) (w.heap.size + 1) [.int .i64 (-1), .int .i64 0, .int .i64 0, .int .i64 0]) := K1.out.first.setAll _ rfl
  have BF : Hid (Below w.heap.size w (W1.setCells (w.heap.size + 1) 0 [.int .i64 (-1), .int .i64 0, .int .i64 0, .int .i64 0]).drew) := (below_setCells (by omega) _ _ _ K1.out.1).drew
  have y0 := XF.out.c 0 rfl
  have y1 := XF.out.c 1 rfl
  have y2 := XF.out.c 2 rfl
  have y3 := XF.out.c 3 rfl
  simp only [World.setCells, Nat.zero_add, Nat.reduceAdd] at y0 y1 y2 y3
  clear XF hHeld
  go_wp2
  exact bodyPost_ret (v := .tuple #[.agg #[.int .i64 (-1), .int .i64 0, .int .i64 0, .int .i64 0], .int .i64 0]) (by simp [results, Try.results20, go_sem, y0, y1, y2, y3]) rfl ⟨rfl, BF.out⟩

set_option maxRecDepth 100000 in
set_option maxHeartbeats 4000000 in
theorem pmul_inf_pm (n : Int) (hn : n ≠ 0)
    (R : Hid (∀ w : World, Calls Try.prog 13 #[.agg #[.int .i64 1, .int .i64 0, .int .i64 0, .int .i64 0]] w fun r' w' => r' = .returned (.bool true) ∧ Below w.heap.size w w'))
    (C : Hid (∀ w : World, Calls Try.prog 19 #[.int .i64 n, .int .i64 0] w fun r' w' => r' = .returned (.int .i64 (-1)) ∧ w' = w))
    (w : World) :
    Calls Try.prog 20 #[.agg #[.int .i64 1, .int .i64 0, .int .i64 0, .int .i64 0], .int .i64 n] w fun r' w' => r' = .returned (.tuple #[.agg #[.int .i64 (-1), .int .i64 0, .int .i64 0, .int .i64 0], .int .i64 0]) ∧ Below w.heap.size w w' := by
  have n1 : (n == 0) = false := by simpa using hn
  have q1 : IntKind.i64.wrap 1 = 1 := by decide
  have q2 : IntKind.i64.wrap (-1) = -1 := by decide
  have K0 : Hid (BS w [(w.heap.size + 1, [.int .i64 0, .int .i64 0, .int .i64 0, .int .i64 0]), (w.heap.size, [.int .i64 1, .int .i64 0, .int .i64 0, .int .i64 0])] ((w.alloc (.cells #[.int .i64 1, .int .i64 0, .int .i64 0, .int .i64 0] 23)).alloc (.cells #[.int .i64 0, .int .i64 0, .int .i64 0, .int .i64 0] 23))) := (((BS.start w).new [.int .i64 1, .int .i64 0, .int .i64 0, .int .i64 0] 23 rfl).new [.int .i64 0, .int .i64 0, .int .i64 0, .int .i64 0] 23 (by simp))
  go_enter Try.func20, Try.ntmps20
  go_wp2_with fail
  refine (R.out _).mono ?_
  rintro e W1 ⟨rfl, hb⟩
  have K1 : Hid (BS w [(w.heap.size + 1, [.int .i64 0, .int .i64 0, .int .i64 0, .int .i64 0]), (w.heap.size, [.int .i64 1, .int .i64 0, .int .i64 0, .int .i64 0])] W1) := K0.out.below hb
  clear hb K0
  have c1_0_0 : W1.cell? ⟨w.heap.size + 1, 0, none⟩ = some (.int .i64 0) := (K1.out.at (w.heap.size + 1) [.int .i64 0, .int .i64 0, .int .i64 0, .int .i64 0] (by simp)).c 0 rfl
  have z1_0_0 : W1.frozen? ⟨w.heap.size + 1, 0, none⟩ = false := (K1.out.at (w.heap.size + 1) [.int .i64 0, .int .i64 0, .int .i64 0, .int .i64 0] (by simp)).f 0 rfl
  have c1_0_1 : W1.cell? ⟨w.heap.size + 1, 1, none⟩ = some (.int .i64 0) := (K1.out.at (w.heap.size + 1) [.int .i64 0, .int .i64 0, .int .i64 0, .int .i64 0] (by simp)).c 1 rfl
  have z1_0_1 : W1.frozen? ⟨w.heap.size + 1, 1, none⟩ = false := (K1.out.at (w.heap.size + 1) [.int .i64 0, .int .i64 0, .int .i64 0, .int .i64 0] (by simp)).f 1 rfl
  have c1_0_2 : W1.cell? ⟨w.heap.size + 1, 2, none⟩ = some (.int .i64 0) := (K1.out.at (w.heap.size + 1) [.int .i64 0, .int .i64 0, .int .i64 0, .int .i64 0] (by simp)).c 2 rfl
  have z1_0_2 : W1.frozen? ⟨w.heap.size + 1, 2, none⟩ = false := (K1.out.at (w.heap.size + 1) [.int .i64 0, .int .i64 0, .int .i64 0, .int .i64 0] (by simp)).f 2 rfl
  have c1_0_3 : W1.cell? ⟨w.heap.size + 1, 3, none⟩ = some (.int .i64 0) := (K1.out.at (w.heap.size + 1) [.int .i64 0, .int .i64 0, .int .i64 0, .int .i64 0] (by simp)).c 3 rfl
  have z1_0_3 : W1.frozen? ⟨w.heap.size + 1, 3, none⟩ = false := (K1.out.at (w.heap.size + 1) [.int .i64 0, .int .i64 0, .int .i64 0, .int .i64 0] (by simp)).f 3 rfl
  have c1_1_0 : W1.cell? ⟨w.heap.size, 0, none⟩ = some (.int .i64 1) := (K1.out.at (w.heap.size) [.int .i64 1, .int .i64 0, .int .i64 0, .int .i64 0] (by simp)).c 0 rfl
  have c1_1_1 : W1.cell? ⟨w.heap.size, 1, none⟩ = some (.int .i64 0) := (K1.out.at (w.heap.size) [.int .i64 1, .int .i64 0, .int .i64 0, .int .i64 0] (by simp)).c 1 rfl
  have c1_1_2 : W1.cell? ⟨w.heap.size, 2, none⟩ = some (.int .i64 0) := (K1.out.at (w.heap.size) [.int .i64 1, .int .i64 0, .int .i64 0, .int .i64 0] (by simp)).c 2 rfl
  have c1_1_3 : W1.cell? ⟨w.heap.size, 3, none⟩ = some (.int .i64 0) := (K1.out.at (w.heap.size) [.int .i64 1, .int .i64 0, .int .i64 0, .int .i64 0] (by simp)).c 3 rfl
  go_wp2_with fail
  clear c1_0_0 z1_0_0 c1_0_1 z1_0_1 c1_0_2 z1_0_2 c1_0_3 z1_0_3 c1_1_0 c1_1_1 c1_1_2 c1_1_3
  refine wp_region_held_drew (S := BS w [(w.heap.size, [.int .i64 1, .int .i64 0, .int .i64 0, .int .i64 0])]) (by kernel_rfl) K1.out.drew.tail (fun hHeld => ?_)
  refine wpAnyH_take (i := 0) (v := ?_) (oi := { dst := some 26, op := _, type := _, pos := _, after := _, guard := none }) rfl (by kernel_rfl) (by kernel_rfl) (by kernel_rfl) (fun _ _ _ h => h) (Or.inl ⟨by kernel_rfl, ?_⟩) (by assumption) ?_
  case refine_2 => (intro w9 hSw; clear hSw; go_simp; try with_reducible rfl)
  simp only [Act.put, List.setIfInBounds_toArray, List.set_cons_zero, List.set_cons_succ]
  refine wpAnyH_take (i := 1) (v := ?_) (oi := { dst := some 27, op := _, type := _, pos := _, after := _, guard := none }) rfl (by kernel_rfl) (by kernel_rfl) (by kernel_rfl) (fun _ _ _ h => h) (Or.inl ⟨by kernel_rfl, ?_⟩) (by assumption) ?_
  case refine_2 => (intro w9 hSw; have l_0 := (hSw.at (w.heap.size) [.int .i64 1, .int .i64 0, .int .i64 0, .int .i64 0] (by simp)).c 0 rfl; have l_1 := (hSw.at (w.heap.size) [.int .i64 1, .int .i64 0, .int .i64 0, .int .i64 0] (by simp)).c 1 rfl; have l_2 := (hSw.at (w.heap.size) [.int .i64 1, .int .i64 0, .int .i64 0, .int .i64 0] (by simp)).c 2 rfl; have l_3 := (hSw.at (w.heap.size) [.int .i64 1, .int .i64 0, .int .i64 0, .int .i64 0] (by simp)).c 3 rfl; clear hSw; go_simp; try with_reducible rfl)
  simp only [Act.put, List.setIfInBounds_toArray, List.set_cons_zero, List.set_cons_succ]
  refine wpAnyH_take (i := 2) (v := ?_) (oi := { dst := some 28, op := _, type := _, pos := _, after := _, guard := none }) rfl (by kernel_rfl) (by kernel_rfl) (by kernel_rfl) (fun _ _ _ h => h) (Or.inl ⟨by kernel_rfl, ?_⟩) (by assumption) ?_
  case refine_2 => (intro w9 hSw; clear hSw; go_simp; try with_reducible rfl)
  simp only [Act.put, List.setIfInBounds_toArray, List.set_cons_zero, List.set_cons_succ]
  refine wpAnyH_ready (rs := [3]) (by kernel_rfl) (by simp) (AllReadyH.cons (o := { dst := some 29, op := _, type := _, pos := _, after := _, guard := none }) rfl (fun K hK => ?_) AllReadyH.nil)
  go_simp
  refine (C.out _).mono ?_
  rintro e v1 ⟨rfl, hw⟩
  rw [hw]
  refine hK.out _ _ hHeld (fun hHeld => ?_)
  clear hK K hw v1
  refine wpAnyH_take (i := 4) (v := ?_) (oi := { dst := some 30, op := _, type := _, pos := _, after := _, guard := none }) rfl (by kernel_rfl) (by kernel_rfl) (by kernel_rfl) (fun _ _ _ h => h) (Or.inl ⟨by kernel_rfl, ?_⟩) (by assumption) ?_
  case refine_2 => (intro w9 hSw; clear hSw; go_simp; try with_reducible rfl)
  simp only [Act.put, List.setIfInBounds_toArray, List.set_cons_zero, List.set_cons_succ]
  refine wpAnyH_take (i := 5) (v := ?_) (oi := { dst := some 31, op := _, type := _, pos := _, after := _, guard := none }) rfl (by kernel_rfl) (by kernel_rfl) (by kernel_rfl) (fun _ _ _ h => h) (Or.inl ⟨by kernel_rfl, ?_⟩) (by assumption) ?_
  case refine_2 => (intro w9 hSw; clear hSw; go_simp; try with_reducible rfl)
  simp only [Act.put, List.setIfInBounds_toArray, List.set_cons_zero, List.set_cons_succ]
  refine wpAnyH_ready (rs := [6]) (by kernel_rfl) (by simp) (AllReadyH.cons (o := { dst := none, op := _, type := _, pos := _, after := _, guard := none }) rfl (fun K hK => ?_) AllReadyH.nil)
  have XD := K1.out
  have y_0 := XD.first.c 0 rfl
  have y_1 := XD.first.c 1 rfl
  have y_2 := XD.first.c 2 rfl
  have y_3 := XD.first.c 3 rfl
  have z_0 := XD.first.f 0 rfl
  have z_1 := XD.first.f 1 rfl
  have z_2 := XD.first.f 2 rfl
  have z_3 := XD.first.f 3 rfl
  clear XD
  go_simp
  refine hK.out _ _ (K1.out.set [.int .i64 (-1), .int .i64 0, .int .i64 0, .int .i64 0] rfl (by intro x hx; simp only [List.mem_singleton] at hx; subst hx; exact Nat.ne_of_lt (Nat.lt_succ_self _))).tail.drew (fun hHeld => ?_)
  clear hK K
  refine wpAnyH_take (i := 7) (v := ?_) (oi := { dst := some 5, op := _, type := _, pos := _, after := _, guard := none }) rfl (by kernel_rfl) (by kernel_rfl) (by kernel_rfl) (fun _ _ _ h => h) (Or.inl ⟨by kernel_rfl, ?_⟩) (by assumption) ?_
  case refine_2 => (intro w9 hSw; clear hSw; go_simp; try with_reducible rfl)
  simp only [Act.put, List.setIfInBounds_toArray, List.set_cons_zero, List.set_cons_succ]
  refine wpAnyH_done (by kernel_rfl) ?_ _
  have XF : Hid (Bx (W1.setCells (w.heap.size + 1) 0 [.int .i64 (-1), .int .i64 0, .int .i64 0, .int .i64 0]) (w.heap.size + 1) [.int .i64 (-1), .int .i64 0, .int .i64 0, .int .i64 0]) := K1.out.first.setAll _ rfl
  have BF : Hid (Below w.heap.size w (W1.setCells (w.heap.size + 1) 0 [.int .i64 (-1), .int .i64 0, .int .i64 0, .int .i64 0]).drew) := (below_setCells (by omega) _ _ _ K1.out.1).drew
  have y0 := XF.out.c 0 rfl
  have y1 := XF.out.c 1 rfl
  have y2 := XF.out.c 2 rfl
  have y3 := XF.out.c 3 rfl
  simp only [World.setCells, Nat.zero_add, Nat.reduceAdd] at y0 y1 y2 y3
  clear XF hHeld
  go_wp2
  exact bodyPost_ret (v := .tuple #[.agg #[.int .i64 (-1), .int .i64 0, .int .i64 0, .int .i64 0], .int .i64 0]) (by simp [results, Try.results20, go_sem, y0, y1, y2, y3]) rfl ⟨rfl, BF.out⟩

set_option maxRecDepth 100000 in
set_option maxHeartbeats 4000000 in
theorem pmul_inf_pp (n : Int) (hn : n ≠ 0)
    (R : Hid (∀ w : World, Calls Try.prog 13 #[.agg #[.int .i64 1, .int .i64 0, .int .i64 0, .int .i64 0]] w fun r' w' => r' = .returned (.bool true) ∧ Below w.heap.size w w'))
    (C : Hid (∀ w : World, Calls Try.prog 19 #[.int .i64 n, .int .i64 0] w fun r' w' => r' = .returned (.int .i64 1) ∧ w' = w))
    (w : World) :
    Calls Try.prog 20 #[.agg #[.int .i64 1, .int .i64 0, .int .i64 0, .int .i64 0], .int .i64 n] w fun r' w' => r' = .returned (.tuple #[.agg #[.int .i64 1, .int .i64 0, .int .i64 0, .int .i64 0], .int .i64 0]) ∧ Below w.heap.size w w' := by
  have n1 : (n == 0) = false := by simpa using hn
  have q1 : IntKind.i64.wrap 1 = 1 := by decide
  have q2 : IntKind.i64.wrap (-1) = -1 := by decide
  have K0 : Hid (BS w [(w.heap.size + 1, [.int .i64 0, .int .i64 0, .int .i64 0, .int .i64 0]), (w.heap.size, [.int .i64 1, .int .i64 0, .int .i64 0, .int .i64 0])] ((w.alloc (.cells #[.int .i64 1, .int .i64 0, .int .i64 0, .int .i64 0] 23)).alloc (.cells #[.int .i64 0, .int .i64 0, .int .i64 0, .int .i64 0] 23))) := (((BS.start w).new [.int .i64 1, .int .i64 0, .int .i64 0, .int .i64 0] 23 rfl).new [.int .i64 0, .int .i64 0, .int .i64 0, .int .i64 0] 23 (by simp))
  go_enter Try.func20, Try.ntmps20
  go_wp2_with fail
  refine (R.out _).mono ?_
  rintro e W1 ⟨rfl, hb⟩
  have K1 : Hid (BS w [(w.heap.size + 1, [.int .i64 0, .int .i64 0, .int .i64 0, .int .i64 0]), (w.heap.size, [.int .i64 1, .int .i64 0, .int .i64 0, .int .i64 0])] W1) := K0.out.below hb
  clear hb K0
  have c1_0_0 : W1.cell? ⟨w.heap.size + 1, 0, none⟩ = some (.int .i64 0) := (K1.out.at (w.heap.size + 1) [.int .i64 0, .int .i64 0, .int .i64 0, .int .i64 0] (by simp)).c 0 rfl
  have z1_0_0 : W1.frozen? ⟨w.heap.size + 1, 0, none⟩ = false := (K1.out.at (w.heap.size + 1) [.int .i64 0, .int .i64 0, .int .i64 0, .int .i64 0] (by simp)).f 0 rfl
  have c1_0_1 : W1.cell? ⟨w.heap.size + 1, 1, none⟩ = some (.int .i64 0) := (K1.out.at (w.heap.size + 1) [.int .i64 0, .int .i64 0, .int .i64 0, .int .i64 0] (by simp)).c 1 rfl
  have z1_0_1 : W1.frozen? ⟨w.heap.size + 1, 1, none⟩ = false := (K1.out.at (w.heap.size + 1) [.int .i64 0, .int .i64 0, .int .i64 0, .int .i64 0] (by simp)).f 1 rfl
  have c1_0_2 : W1.cell? ⟨w.heap.size + 1, 2, none⟩ = some (.int .i64 0) := (K1.out.at (w.heap.size + 1) [.int .i64 0, .int .i64 0, .int .i64 0, .int .i64 0] (by simp)).c 2 rfl
  have z1_0_2 : W1.frozen? ⟨w.heap.size + 1, 2, none⟩ = false := (K1.out.at (w.heap.size + 1) [.int .i64 0, .int .i64 0, .int .i64 0, .int .i64 0] (by simp)).f 2 rfl
  have c1_0_3 : W1.cell? ⟨w.heap.size + 1, 3, none⟩ = some (.int .i64 0) := (K1.out.at (w.heap.size + 1) [.int .i64 0, .int .i64 0, .int .i64 0, .int .i64 0] (by simp)).c 3 rfl
  have z1_0_3 : W1.frozen? ⟨w.heap.size + 1, 3, none⟩ = false := (K1.out.at (w.heap.size + 1) [.int .i64 0, .int .i64 0, .int .i64 0, .int .i64 0] (by simp)).f 3 rfl
  have c1_1_0 : W1.cell? ⟨w.heap.size, 0, none⟩ = some (.int .i64 1) := (K1.out.at (w.heap.size) [.int .i64 1, .int .i64 0, .int .i64 0, .int .i64 0] (by simp)).c 0 rfl
  have c1_1_1 : W1.cell? ⟨w.heap.size, 1, none⟩ = some (.int .i64 0) := (K1.out.at (w.heap.size) [.int .i64 1, .int .i64 0, .int .i64 0, .int .i64 0] (by simp)).c 1 rfl
  have c1_1_2 : W1.cell? ⟨w.heap.size, 2, none⟩ = some (.int .i64 0) := (K1.out.at (w.heap.size) [.int .i64 1, .int .i64 0, .int .i64 0, .int .i64 0] (by simp)).c 2 rfl
  have c1_1_3 : W1.cell? ⟨w.heap.size, 3, none⟩ = some (.int .i64 0) := (K1.out.at (w.heap.size) [.int .i64 1, .int .i64 0, .int .i64 0, .int .i64 0] (by simp)).c 3 rfl
  go_wp2_with fail
  clear c1_0_0 z1_0_0 c1_0_1 z1_0_1 c1_0_2 z1_0_2 c1_0_3 z1_0_3 c1_1_0 c1_1_1 c1_1_2 c1_1_3
  refine wp_region_held_drew (S := BS w [(w.heap.size, [.int .i64 1, .int .i64 0, .int .i64 0, .int .i64 0])]) (by kernel_rfl) K1.out.drew.tail (fun hHeld => ?_)
  refine wpAnyH_take (i := 0) (v := ?_) (oi := { dst := some 26, op := _, type := _, pos := _, after := _, guard := none }) rfl (by kernel_rfl) (by kernel_rfl) (by kernel_rfl) (fun _ _ _ h => h) (Or.inl ⟨by kernel_rfl, ?_⟩) (by assumption) ?_
  case refine_2 => (intro w9 hSw; clear hSw; go_simp; try with_reducible rfl)
  simp only [Act.put, List.setIfInBounds_toArray, List.set_cons_zero, List.set_cons_succ]
  refine wpAnyH_take (i := 1) (v := ?_) (oi := { dst := some 27, op := _, type := _, pos := _, after := _, guard := none }) rfl (by kernel_rfl) (by kernel_rfl) (by kernel_rfl) (fun _ _ _ h => h) (Or.inl ⟨by kernel_rfl, ?_⟩) (by assumption) ?_
  case refine_2 => (intro w9 hSw; have l_0 := (hSw.at (w.heap.size) [.int .i64 1, .int .i64 0, .int .i64 0, .int .i64 0] (by simp)).c 0 rfl; have l_1 := (hSw.at (w.heap.size) [.int .i64 1, .int .i64 0, .int .i64 0, .int .i64 0] (by simp)).c 1 rfl; have l_2 := (hSw.at (w.heap.size) [.int .i64 1, .int .i64 0, .int .i64 0, .int .i64 0] (by simp)).c 2 rfl; have l_3 := (hSw.at (w.heap.size) [.int .i64 1, .int .i64 0, .int .i64 0, .int .i64 0] (by simp)).c 3 rfl; clear hSw; go_simp; try with_reducible rfl)
  simp only [Act.put, List.setIfInBounds_toArray, List.set_cons_zero, List.set_cons_succ]
  refine wpAnyH_take (i := 2) (v := ?_) (oi := { dst := some 28, op := _, type := _, pos := _, after := _, guard := none }) rfl (by kernel_rfl) (by kernel_rfl) (by kernel_rfl) (fun _ _ _ h => h) (Or.inl ⟨by kernel_rfl, ?_⟩) (by assumption) ?_
  case refine_2 => (intro w9 hSw; clear hSw; go_simp; try with_reducible rfl)
  simp only [Act.put, List.setIfInBounds_toArray, List.set_cons_zero, List.set_cons_succ]
  refine wpAnyH_ready (rs := [3]) (by kernel_rfl) (by simp) (AllReadyH.cons (o := { dst := some 29, op := _, type := _, pos := _, after := _, guard := none }) rfl (fun K hK => ?_) AllReadyH.nil)
  go_simp
  refine (C.out _).mono ?_
  rintro e v1 ⟨rfl, hw⟩
  rw [hw]
  refine hK.out _ _ hHeld (fun hHeld => ?_)
  clear hK K hw v1
  refine wpAnyH_take (i := 4) (v := ?_) (oi := { dst := some 30, op := _, type := _, pos := _, after := _, guard := none }) rfl (by kernel_rfl) (by kernel_rfl) (by kernel_rfl) (fun _ _ _ h => h) (Or.inl ⟨by kernel_rfl, ?_⟩) (by assumption) ?_
  case refine_2 => (intro w9 hSw; clear hSw; go_simp; try with_reducible rfl)
  simp only [Act.put, List.setIfInBounds_toArray, List.set_cons_zero, List.set_cons_succ]
  refine wpAnyH_take (i := 5) (v := ?_) (oi := { dst := some 31, op := _, type := _, pos := _, after := _, guard := none }) rfl (by kernel_rfl) (by kernel_rfl) (by kernel_rfl) (fun _ _ _ h => h) (Or.inl ⟨by kernel_rfl, ?_⟩) (by assumption) ?_
  case refine_2 => (intro w9 hSw; clear hSw; go_simp; try with_reducible rfl)
  simp only [Act.put, List.setIfInBounds_toArray, List.set_cons_zero, List.set_cons_succ]
  refine wpAnyH_ready (rs := [6]) (by kernel_rfl) (by simp) (AllReadyH.cons (o := { dst := none, op := _, type := _, pos := _, after := _, guard := none }) rfl (fun K hK => ?_) AllReadyH.nil)
  have XD := K1.out
  have y_0 := XD.first.c 0 rfl
  have y_1 := XD.first.c 1 rfl
  have y_2 := XD.first.c 2 rfl
  have y_3 := XD.first.c 3 rfl
  have z_0 := XD.first.f 0 rfl
  have z_1 := XD.first.f 1 rfl
  have z_2 := XD.first.f 2 rfl
  have z_3 := XD.first.f 3 rfl
  clear XD
  go_simp
  refine hK.out _ _ (K1.out.set [.int .i64 1, .int .i64 0, .int .i64 0, .int .i64 0] rfl (by intro x hx; simp only [List.mem_singleton] at hx; subst hx; exact Nat.ne_of_lt (Nat.lt_succ_self _))).tail.drew (fun hHeld => ?_)
  clear hK K
  refine wpAnyH_take (i := 7) (v := ?_) (oi := { dst := some 5, op := _, type := _, pos := _, after := _, guard := none }) rfl (by kernel_rfl) (by kernel_rfl) (by kernel_rfl) (fun _ _ _ h => h) (Or.inl ⟨by kernel_rfl, ?_⟩) (by assumption) ?_
  case refine_2 => (intro w9 hSw; clear hSw; go_simp; try with_reducible rfl)
  simp only [Act.put, List.setIfInBounds_toArray, List.set_cons_zero, List.set_cons_succ]
  refine wpAnyH_done (by kernel_rfl) ?_ _
  have XF : Hid (Bx (W1.setCells (w.heap.size + 1) 0 [.int .i64 1, .int .i64 0, .int .i64 0, .int .i64 0]) (w.heap.size + 1) [.int .i64 1, .int .i64 0, .int .i64 0, .int .i64 0]) := K1.out.first.setAll _ rfl
  have BF : Hid (Below w.heap.size w (W1.setCells (w.heap.size + 1) 0 [.int .i64 1, .int .i64 0, .int .i64 0, .int .i64 0]).drew) := (below_setCells (by omega) _ _ _ K1.out.1).drew
  have y0 := XF.out.c 0 rfl
  have y1 := XF.out.c 1 rfl
  have y2 := XF.out.c 2 rfl
  have y3 := XF.out.c 3 rfl
  simp only [World.setCells, Nat.zero_add, Nat.reduceAdd] at y0 y1 y2 y3
  clear XF hHeld
  go_wp2
  exact bodyPost_ret (v := .tuple #[.agg #[.int .i64 1, .int .i64 0, .int .i64 0, .int .i64 0], .int .i64 0]) (by simp [results, Try.results20, go_sem, y0, y1, y2, y3]) rfl ⟨rfl, BF.out⟩

set_option maxRecDepth 100000 in
set_option maxHeartbeats 4000000 in
theorem pmul_no (i m d u n : Int)
    (R : Hid (∀ w : World, Calls Try.prog 13 #[.agg #[.int .i64 i, .int .i64 m, .int .i64 d, .int .i64 u]] w fun r' w' => r' = .returned (.bool false) ∧ Below w.heap.size w w'))
    (w : World) :
    Calls Try.prog 20 #[.agg #[.int .i64 i, .int .i64 m, .int .i64 d, .int .i64 u], .int .i64 n] w fun r' w' => r' = .returned (.tuple #[.agg #[.int .i64 0, .int .i64 0, .int .i64 0, .int .i64 0], .int .i64 1]) ∧ Below w.heap.size w w' := by
  have K0 : Hid (BS w [(w.heap.size + 1, [.int .i64 0, .int .i64 0, .int .i64 0, .int .i64 0]), (w.heap.size, [.int .i64 i, .int .i64 m, .int .i64 d, .int .i64 u])] ((w.alloc (.cells #[.int .i64 i, .int .i64 m, .int .i64 d, .int .i64 u] 23)).alloc (.cells #[.int .i64 0, .int .i64 0, .int .i64 0, .int .i64 0] 23))) := (((BS.start w).new [.int .i64 i, .int .i64 m, .int .i64 d, .int .i64 u] 23 rfl).new [.int .i64 0, .int .i64 0, .int .i64 0, .int .i64 0] 23 (by simp))
  go_enter Try.func20, Try.ntmps20
  go_wp2_with fail
  refine (R.out _).mono ?_
  rintro e W1 ⟨rfl, hb⟩
  have K1 : Hid (BS w [(w.heap.size + 1, [.int .i64 0, .int .i64 0, .int .i64 0, .int .i64 0]), (w.heap.size, [.int .i64 i, .int .i64 m, .int .i64 d, .int .i64 u])] W1) := K0.out.below hb
  clear hb K0
  have c1_0_0 : W1.cell? ⟨w.heap.size + 1, 0, none⟩ = some (.int .i64 0) := (K1.out.at (w.heap.size + 1) [.int .i64 0, .int .i64 0, .int .i64 0, .int .i64 0] (by simp)).c 0 rfl
  have z1_0_0 : W1.frozen? ⟨w.heap.size + 1, 0, none⟩ = false := (K1.out.at (w.heap.size + 1) [.int .i64 0, .int .i64 0, .int .i64 0, .int .i64 0] (by simp)).f 0 rfl
  have c1_0_1 : W1.cell? ⟨w.heap.size + 1, 1, none⟩ = some (.int .i64 0) := (K1.out.at (w.heap.size + 1) [.int .i64 0, .int .i64 0, .int .i64 0, .int .i64 0] (by simp)).c 1 rfl
  have z1_0_1 : W1.frozen? ⟨w.heap.size + 1, 1, none⟩ = false := (K1.out.at (w.heap.size + 1) [.int .i64 0, .int .i64 0, .int .i64 0, .int .i64 0] (by simp)).f 1 rfl
  have c1_0_2 : W1.cell? ⟨w.heap.size + 1, 2, none⟩ = some (.int .i64 0) := (K1.out.at (w.heap.size + 1) [.int .i64 0, .int .i64 0, .int .i64 0, .int .i64 0] (by simp)).c 2 rfl
  have z1_0_2 : W1.frozen? ⟨w.heap.size + 1, 2, none⟩ = false := (K1.out.at (w.heap.size + 1) [.int .i64 0, .int .i64 0, .int .i64 0, .int .i64 0] (by simp)).f 2 rfl
  have c1_0_3 : W1.cell? ⟨w.heap.size + 1, 3, none⟩ = some (.int .i64 0) := (K1.out.at (w.heap.size + 1) [.int .i64 0, .int .i64 0, .int .i64 0, .int .i64 0] (by simp)).c 3 rfl
  have z1_0_3 : W1.frozen? ⟨w.heap.size + 1, 3, none⟩ = false := (K1.out.at (w.heap.size + 1) [.int .i64 0, .int .i64 0, .int .i64 0, .int .i64 0] (by simp)).f 3 rfl
  have c1_1_0 : W1.cell? ⟨w.heap.size, 0, none⟩ = some (.int .i64 i) := (K1.out.at (w.heap.size) [.int .i64 i, .int .i64 m, .int .i64 d, .int .i64 u] (by simp)).c 0 rfl
  have c1_1_1 : W1.cell? ⟨w.heap.size, 1, none⟩ = some (.int .i64 m) := (K1.out.at (w.heap.size) [.int .i64 i, .int .i64 m, .int .i64 d, .int .i64 u] (by simp)).c 1 rfl
  have c1_1_2 : W1.cell? ⟨w.heap.size, 2, none⟩ = some (.int .i64 d) := (K1.out.at (w.heap.size) [.int .i64 i, .int .i64 m, .int .i64 d, .int .i64 u] (by simp)).c 2 rfl
  have c1_1_3 : W1.cell? ⟨w.heap.size, 3, none⟩ = some (.int .i64 u) := (K1.out.at (w.heap.size) [.int .i64 i, .int .i64 m, .int .i64 d, .int .i64 u] (by simp)).c 3 rfl
  have XF : Hid (Bx (W1.setCells (w.heap.size + 1) 0 [.int .i64 0, .int .i64 0, .int .i64 0, .int .i64 0]) (w.heap.size + 1) [.int .i64 0, .int .i64 0, .int .i64 0, .int .i64 0]) := (K1.out.at (w.heap.size + 1) [.int .i64 0, .int .i64 0, .int .i64 0, .int .i64 0] (by simp)).setAll _ rfl
  have BF : Hid (Below w.heap.size w (W1.setCells (w.heap.size + 1) 0 [.int .i64 0, .int .i64 0, .int .i64 0, .int .i64 0])) := below_setCells (by omega) _ _ _ K1.out.1
  have y0 := XF.out.c 0 rfl
  have y1 := XF.out.c 1 rfl
  have y2 := XF.out.c 2 rfl
  have y3 := XF.out.c 3 rfl
  simp only [World.setCells, Nat.zero_add, Nat.reduceAdd] at y0 y1 y2 y3
  clear XF
  go_wp2
  exact bodyPost_ret (v := .tuple #[.agg #[.int .i64 0, .int .i64 0, .int .i64 0, .int .i64 0], .int .i64 1]) (by simp [results, Try.results20, go_sem, y0, y1, y2, y3]) rfl ⟨rfl, BF.out⟩

set_option maxRecDepth 100000 in
set_option maxHeartbeats 4000000 in
theorem pmul_inf0 (i m d u : Int) (hi : i ≠ 0)
    (R : Hid (∀ w : World, Calls Try.prog 13 #[.agg #[.int .i64 i, .int .i64 m, .int .i64 d, .int .i64 u]] w fun r' w' => r' = .returned (.bool true) ∧ Below w.heap.size w w'))
    (w : World) :
    Calls Try.prog 20 #[.agg #[.int .i64 i, .int .i64 m, .int .i64 d, .int .i64 u], .int .i64 0] w fun r' w' => r' = .returned (.tuple #[.agg #[.int .i64 0, .int .i64 0, .int .i64 0, .int .i64 0], .int .i64 10]) ∧ Below w.heap.size w w' := by
  have i1 : (i == 0) = false := by simpa using hi
  have i2 : (i != 0) = true := bne_iff_ne.2 hi
  have K0 : Hid (BS w [(w.heap.size + 1, [.int .i64 0, .int .i64 0, .int .i64 0, .int .i64 0]), (w.heap.size, [.int .i64 i, .int .i64 m, .int .i64 d, .int .i64 u])] ((w.alloc (.cells #[.int .i64 i, .int .i64 m, .int .i64 d, .int .i64 u] 23)).alloc (.cells #[.int .i64 0, .int .i64 0, .int .i64 0, .int .i64 0] 23))) := (((BS.start w).new [.int .i64 i, .int .i64 m, .int .i64 d, .int .i64 u] 23 rfl).new [.int .i64 0, .int .i64 0, .int .i64 0, .int .i64 0] 23 (by simp))
  go_enter Try.func20, Try.ntmps20
  go_wp2_with fail
  refine (R.out _).mono ?_
  rintro e W1 ⟨rfl, hb⟩
  have K1 : Hid (BS w [(w.heap.size + 1, [.int .i64 0, .int .i64 0, .int .i64 0, .int .i64 0]), (w.heap.size, [.int .i64 i, .int .i64 m, .int .i64 d, .int .i64 u])] W1) := K0.out.below hb
  clear hb K0
  have c1_0_0 : W1.cell? ⟨w.heap.size + 1, 0, none⟩ = some (.int .i64 0) := (K1.out.at (w.heap.size + 1) [.int .i64 0, .int .i64 0, .int .i64 0, .int .i64 0] (by simp)).c 0 rfl
  have z1_0_0 : W1.frozen? ⟨w.heap.size + 1, 0, none⟩ = false := (K1.out.at (w.heap.size + 1) [.int .i64 0, .int .i64 0, .int .i64 0, .int .i64 0] (by simp)).f 0 rfl
  have c1_0_1 : W1.cell? ⟨w.heap.size + 1, 1, none⟩ = some (.int .i64 0) := (K1.out.at (w.heap.size + 1) [.int .i64 0, .int .i64 0, .int .i64 0, .int .i64 0] (by simp)).c 1 rfl
  have z1_0_1 : W1.frozen? ⟨w.heap.size + 1, 1, none⟩ = false := (K1.out.at (w.heap.size + 1) [.int .i64 0, .int .i64 0, .int .i64 0, .int .i64 0] (by simp)).f 1 rfl
  have c1_0_2 : W1.cell? ⟨w.heap.size + 1, 2, none⟩ = some (.int .i64 0) := (K1.out.at (w.heap.size + 1) [.int .i64 0, .int .i64 0, .int .i64 0, .int .i64 0] (by simp)).c 2 rfl
  have z1_0_2 : W1.frozen? ⟨w.heap.size + 1, 2, none⟩ = false := (K1.out.at (w.heap.size + 1) [.int .i64 0, .int .i64 0, .int .i64 0, .int .i64 0] (by simp)).f 2 rfl
  have c1_0_3 : W1.cell? ⟨w.heap.size + 1, 3, none⟩ = some (.int .i64 0) := (K1.out.at (w.heap.size + 1) [.int .i64 0, .int .i64 0, .int .i64 0, .int .i64 0] (by simp)).c 3 rfl
  have z1_0_3 : W1.frozen? ⟨w.heap.size + 1, 3, none⟩ = false := (K1.out.at (w.heap.size + 1) [.int .i64 0, .int .i64 0, .int .i64 0, .int .i64 0] (by simp)).f 3 rfl
  have c1_1_0 : W1.cell? ⟨w.heap.size, 0, none⟩ = some (.int .i64 i) := (K1.out.at (w.heap.size) [.int .i64 i, .int .i64 m, .int .i64 d, .int .i64 u] (by simp)).c 0 rfl
  have c1_1_1 : W1.cell? ⟨w.heap.size, 1, none⟩ = some (.int .i64 m) := (K1.out.at (w.heap.size) [.int .i64 i, .int .i64 m, .int .i64 d, .int .i64 u] (by simp)).c 1 rfl
  have c1_1_2 : W1.cell? ⟨w.heap.size, 2, none⟩ = some (.int .i64 d) := (K1.out.at (w.heap.size) [.int .i64 i, .int .i64 m, .int .i64 d, .int .i64 u] (by simp)).c 2 rfl
  have c1_1_3 : W1.cell? ⟨w.heap.size, 3, none⟩ = some (.int .i64 u) := (K1.out.at (w.heap.size) [.int .i64 i, .int .i64 m, .int .i64 d, .int .i64 u] (by simp)).c 3 rfl
  have XF : Hid (Bx (W1.setCells (w.heap.size + 1) 0 [.int .i64 0, .int .i64 0, .int .i64 0, .int .i64 0]) (w.heap.size + 1) [.int .i64 0, .int .i64 0, .int .i64 0, .int .i64 0]) := (K1.out.at (w.heap.size + 1) [.int .i64 0, .int .i64 0, .int .i64 0, .int .i64 0] (by simp)).setAll _ rfl
  have BF : Hid (Below w.heap.size w (W1.setCells (w.heap.size + 1) 0 [.int .i64 0, .int .i64 0, .int .i64 0, .int .i64 0])) := below_setCells (by omega) _ _ _ K1.out.1
  have y0 := XF.out.c 0 rfl
  have y1 := XF.out.c 1 rfl
  have y2 := XF.out.c 2 rfl
  have y3 := XF.out.c 3 rfl
  simp only [World.setCells, Nat.zero_add, Nat.reduceAdd] at y0 y1 y2 y3
  clear XF
  go_wp2
  exact bodyPost_ret (v := .tuple #[.agg #[.int .i64 0, .int .i64 0, .int .i64 0, .int .i64 0], .int .i64 10]) (by simp [results, Try.results20, go_sem, y0, y1, y2, y3]) rfl ⟨rfl, BF.out⟩

set_option maxRecDepth 100000 in
set_option maxHeartbeats 4000000 in
theorem pmul_each (m d u n I M D U E : Int)
    (R : Hid (∀ w : World, Calls Try.prog 13 #[.agg #[.int .i64 0, .int .i64 m, .int .i64 d, .int .i64 u]] w fun r' w' => r' = .returned (.bool true) ∧ Below w.heap.size w w'))
    (EA : Hid (∀ w : World, Calls Try.prog 14 #[.agg #[.int .i64 0, .int .i64 m, .int .i64 d, .int .i64 u], .func (.func 27) #[.int .i64 n] #[], .func (.func 27) #[.int .i64 n] #[], .func (.func 27) #[.int .i64 n] #[]] w fun r' w' => r' = .returned (.tuple #[.agg #[.int .i64 I, .int .i64 M, .int .i64 D, .int .i64 U], .int .i64 E]) ∧ Below w.heap.size w w'))
    (w : World) :
    Calls Try.prog 20 #[.agg #[.int .i64 0, .int .i64 m, .int .i64 d, .int .i64 u], .int .i64 n] w fun r' w' => r' = .returned (.tuple #[.agg #[.int .i64 I, .int .i64 M, .int .i64 D, .int .i64 U], .int .i64 E]) ∧ Below w.heap.size w w' := by
  have K0 : Hid (BS w [(w.heap.size + 1, [.int .i64 0, .int .i64 0, .int .i64 0, .int .i64 0]), (w.heap.size, [.int .i64 0, .int .i64 m, .int .i64 d, .int .i64 u])] ((w.alloc (.cells #[.int .i64 0, .int .i64 m, .int .i64 d, .int .i64 u] 23)).alloc (.cells #[.int .i64 0, .int .i64 0, .int .i64 0, .int .i64 0] 23))) := (((BS.start w).new [.int .i64 0, .int .i64 m, .int .i64 d, .int .i64 u] 23 rfl).new [.int .i64 0, .int .i64 0, .int .i64 0, .int .i64 0] 23 (by simp))
  go_enter Try.func20, Try.ntmps20
  go_wp2_with fail
  refine (R.out _).mono ?_
  rintro e W1 ⟨rfl, hb⟩
  have K1 : Hid (BS w [(w.heap.size + 1, [.int .i64 0, .int .i64 0, .int .i64 0, .int .i64 0]), (w.heap.size, [.int .i64 0, .int .i64 m, .int .i64 d, .int .i64 u])] W1) := K0.out.below hb
  clear hb K0
  have c1_0_0 : W1.cell? ⟨w.heap.size + 1, 0, none⟩ = some (.int .i64 0) := (K1.out.at (w.heap.size + 1) [.int .i64 0, .int .i64 0, .int .i64 0, .int .i64 0] (by simp)).c 0 rfl
  have z1_0_0 : W1.frozen? ⟨w.heap.size + 1, 0, none⟩ = false := (K1.out.at (w.heap.size + 1) [.int .i64 0, .int .i64 0, .int .i64 0, .int .i64 0] (by simp)).f 0 rfl
  have c1_0_1 : W1.cell? ⟨w.heap.size + 1, 1, none⟩ = some (.int .i64 0) := (K1.out.at (w.heap.size + 1) [.int .i64 0, .int .i64 0, .int .i64 0, .int .i64 0] (by simp)).c 1 rfl
  have z1_0_1 : W1.frozen? ⟨w.heap.size + 1, 1, none⟩ = false := (K1.out.at (w.heap.size + 1) [.int .i64 0, .int .i64 0, .int .i64 0, .int .i64 0] (by simp)).f 1 rfl
  have c1_0_2 : W1.cell? ⟨w.heap.size + 1, 2, none⟩ = some (.int .i64 0) := (K1.out.at (w.heap.size + 1) [.int .i64 0, .int .i64 0, .int .i64 0, .int .i64 0] (by simp)).c 2 rfl
  have z1_0_2 : W1.frozen? ⟨w.heap.size + 1, 2, none⟩ = false := (K1.out.at (w.heap.size + 1) [.int .i64 0, .int .i64 0, .int .i64 0, .int .i64 0] (by simp)).f 2 rfl
  have c1_0_3 : W1.cell? ⟨w.heap.size + 1, 3, none⟩ = some (.int .i64 0) := (K1.out.at (w.heap.size + 1) [.int .i64 0, .int .i64 0, .int .i64 0, .int .i64 0] (by simp)).c 3 rfl
  have z1_0_3 : W1.frozen? ⟨w.heap.size + 1, 3, none⟩ = false := (K1.out.at (w.heap.size + 1) [.int .i64 0, .int .i64 0, .int .i64 0, .int .i64 0] (by simp)).f 3 rfl
  have c1_1_0 : W1.cell? ⟨w.heap.size, 0, none⟩ = some (.int .i64 0) := (K1.out.at (w.heap.size) [.int .i64 0, .int .i64 m, .int .i64 d, .int .i64 u] (by simp)).c 0 rfl
  have c1_1_1 : W1.cell? ⟨w.heap.size, 1, none⟩ = some (.int .i64 m) := (K1.out.at (w.heap.size) [.int .i64 0, .int .i64 m, .int .i64 d, .int .i64 u] (by simp)).c 1 rfl
  have c1_1_2 : W1.cell? ⟨w.heap.size, 2, none⟩ = some (.int .i64 d) := (K1.out.at (w.heap.size) [.int .i64 0, .int .i64 m, .int .i64 d, .int .i64 u] (by simp)).c 2 rfl
  have c1_1_3 : W1.cell? ⟨w.heap.size, 3, none⟩ = some (.int .i64 u) := (K1.out.at (w.heap.size) [.int .i64 0, .int .i64 m, .int .i64 d, .int .i64 u] (by simp)).c 3 rfl
  go_wp2_with fail
  refine (EA.out _).mono ?_
  rintro e W2 ⟨rfl, hb⟩
  have K2 : Hid (BS w [(w.heap.size + 1, [.int .i64 0, .int .i64 0, .int .i64 0, .int .i64 0]), (w.heap.size, [.int .i64 0, .int .i64 m, .int .i64 d, .int .i64 u])] W2) := K1.out.below hb
  clear c1_0_0 z1_0_0 c1_0_1 z1_0_1 c1_0_2 z1_0_2 c1_0_3 z1_0_3 c1_1_0 c1_1_1 c1_1_2 c1_1_3
  clear hb K1
  have c2_0_0 : W2.cell? ⟨w.heap.size + 1, 0, none⟩ = some (.int .i64 0) := (K2.out.at (w.heap.size + 1) [.int .i64 0, .int .i64 0, .int .i64 0, .int .i64 0] (by simp)).c 0 rfl
  have z2_0_0 : W2.frozen? ⟨w.heap.size + 1, 0, none⟩ = false := (K2.out.at (w.heap.size + 1) [.int .i64 0, .int .i64 0, .int .i64 0, .int .i64 0] (by simp)).f 0 rfl
  have c2_0_1 : W2.cell? ⟨w.heap.size + 1, 1, none⟩ = some (.int .i64 0) := (K2.out.at (w.heap.size + 1) [.int .i64 0, .int .i64 0, .int .i64 0, .int .i64 0] (by simp)).c 1 rfl
  have z2_0_1 : W2.frozen? ⟨w.heap.size + 1, 1, none⟩ = false := (K2.out.at (w.heap.size + 1) [.int .i64 0, .int .i64 0, .int .i64 0, .int .i64 0] (by simp)).f 1 rfl
  have c2_0_2 : W2.cell? ⟨w.heap.size + 1, 2, none⟩ = some (.int .i64 0) := (K2.out.at (w.heap.size + 1) [.int .i64 0, .int .i64 0, .int .i64 0, .int .i64 0] (by simp)).c 2 rfl
  have z2_0_2 : W2.frozen? ⟨w.heap.size + 1, 2, none⟩ = false := (K2.out.at (w.heap.size + 1) [.int .i64 0, .int .i64 0, .int .i64 0, .int .i64 0] (by simp)).f 2 rfl
  have c2_0_3 : W2.cell? ⟨w.heap.size + 1, 3, none⟩ = some (.int .i64 0) := (K2.out.at (w.heap.size + 1) [.int .i64 0, .int .i64 0, .int .i64 0, .int .i64 0] (by simp)).c 3 rfl
  have z2_0_3 : W2.frozen? ⟨w.heap.size + 1, 3, none⟩ = false := (K2.out.at (w.heap.size + 1) [.int .i64 0, .int .i64 0, .int .i64 0, .int .i64 0] (by simp)).f 3 rfl
  have c2_1_0 : W2.cell? ⟨w.heap.size, 0, none⟩ = some (.int .i64 0) := (K2.out.at (w.heap.size) [.int .i64 0, .int .i64 m, .int .i64 d, .int .i64 u] (by simp)).c 0 rfl
  have c2_1_1 : W2.cell? ⟨w.heap.size, 1, none⟩ = some (.int .i64 m) := (K2.out.at (w.heap.size) [.int .i64 0, .int .i64 m, .int .i64 d, .int .i64 u] (by simp)).c 1 rfl
  have c2_1_2 : W2.cell? ⟨w.heap.size, 2, none⟩ = some (.int .i64 d) := (K2.out.at (w.heap.size) [.int .i64 0, .int .i64 m, .int .i64 d, .int .i64 u] (by simp)).c 2 rfl
  have c2_1_3 : W2.cell? ⟨w.heap.size, 3, none⟩ = some (.int .i64 u) := (K2.out.at (w.heap.size) [.int .i64 0, .int .i64 m, .int .i64 d, .int .i64 u] (by simp)).c 3 rfl
  have XF : Hid (Bx (W2.setCells (w.heap.size + 1) 0 [.int .i64 I, .int .i64 M, .int .i64 D, .int .i64 U]) (w.heap.size + 1) [.int .i64 I, .int .i64 M, .int .i64 D, .int .i64 U]) := (K2.out.at (w.heap.size + 1) [.int .i64 0, .int .i64 0, .int .i64 0, .int .i64 0] (by simp)).setAll _ rfl
  have BF : Hid (Below w.heap.size w (W2.setCells (w.heap.size + 1) 0 [.int .i64 I, .int .i64 M, .int .i64 D, .int .i64 U])) := below_setCells (by omega) _ _ _ K2.out.1
  have y0 := XF.out.c 0 rfl
  have y1 := XF.out.c 1 rfl
  have y2 := XF.out.c 2 rfl
  have y3 := XF.out.c 3 rfl
  simp only [World.setCells, Nat.zero_add, Nat.reduceAdd] at y0 y1 y2 y3
  clear XF
  go_wp2
  exact bodyPost_ret (v := .tuple #[.agg #[.int .i64 I, .int .i64 M, .int .i64 D, .int .i64 U], .int .i64 E]) (by simp [results, Try.results20, go_sem, y0, y1, y2, y3]) rfl ⟨rfl, BF.out⟩

set_option maxRecDepth 100000 in
set_option maxHeartbeats 4000000 in
theorem pneg_run (i m d u I M D U E : Int)
    (ML : Hid (∀ w : World, Calls Try.prog 20 #[.agg #[.int .i64 i, .int .i64 m, .int .i64 d, .int .i64 u], .int .i64 (-1)] w fun r' w' => r' = .returned (.tuple #[.agg #[.int .i64 I, .int .i64 M, .int .i64 D, .int .i64 U], .int .i64 E]) ∧ Below w.heap.size w w'))
    (w : World) :
    Calls Try.prog 11 #[.agg #[.int .i64 i, .int .i64 m, .int .i64 d, .int .i64 u]] w fun r' w' => r' = .returned (.tuple #[.agg #[.int .i64 I, .int .i64 M, .int .i64 D, .int .i64 U], .int .i64 E]) ∧ Below w.heap.size w w' := by
  have K0 : Hid (BS w [(w.heap.size + 1, [.int .i64 0, .int .i64 0, .int .i64 0, .int .i64 0]), (w.heap.size, [.int .i64 i, .int .i64 m, .int .i64 d, .int .i64 u])] ((w.alloc (.cells #[.int .i64 i, .int .i64 m, .int .i64 d, .int .i64 u] 23)).alloc (.cells #[.int .i64 0, .int .i64 0, .int .i64 0, .int .i64 0] 23))) := (((BS.start w).new [.int .i64 i, .int .i64 m, .int .i64 d, .int .i64 u] 23 rfl).new [.int .i64 0, .int .i64 0, .int .i64 0, .int .i64 0] 23 (by simp))
  go_enter Try.func11, Try.ntmps11
  go_wp2_with fail
  refine (ML.out _).mono ?_
  rintro e W1 ⟨rfl, hb⟩
  have K1 : Hid (BS w [(w.heap.size + 1, [.int .i64 0, .int .i64 0, .int .i64 0, .int .i64 0]), (w.heap.size, [.int .i64 i, .int .i64 m, .int .i64 d, .int .i64 u])] W1) := K0.out.below hb
  clear hb K0
  have c1_0_0 : W1.cell? ⟨w.heap.size + 1, 0, none⟩ = some (.int .i64 0) := (K1.out.at (w.heap.size + 1) [.int .i64 0, .int .i64 0, .int .i64 0, .int .i64 0] (by simp)).c 0 rfl
  have z1_0_0 : W1.frozen? ⟨w.heap.size + 1, 0, none⟩ = false := (K1.out.at (w.heap.size + 1) [.int .i64 0, .int .i64 0, .int .i64 0, .int .i64 0] (by simp)).f 0 rfl
  have c1_0_1 : W1.cell? ⟨w.heap.size + 1, 1, none⟩ = some (.int .i64 0) := (K1.out.at (w.heap.size + 1) [.int .i64 0, .int .i64 0, .int .i64 0, .int .i64 0] (by simp)).c 1 rfl
  have z1_0_1 : W1.frozen? ⟨w.heap.size + 1, 1, none⟩ = false := (K1.out.at (w.heap.size + 1) [.int .i64 0, .int .i64 0, .int .i64 0, .int .i64 0] (by simp)).f 1 rfl
  have c1_0_2 : W1.cell? ⟨w.heap.size + 1, 2, none⟩ = some (.int .i64 0) := (K1.out.at (w.heap.size + 1) [.int .i64 0, .int .i64 0, .int .i64 0, .int .i64 0] (by simp)).c 2 rfl
  have z1_0_2 : W1.frozen? ⟨w.heap.size + 1, 2, none⟩ = false := (K1.out.at (w.heap.size + 1) [.int .i64 0, .int .i64 0, .int .i64 0, .int .i64 0] (by simp)).f 2 rfl
  have c1_0_3 : W1.cell? ⟨w.heap.size + 1, 3, none⟩ = some (.int .i64 0) := (K1.out.at (w.heap.size + 1) [.int .i64 0, .int .i64 0, .int .i64 0, .int .i64 0] (by simp)).c 3 rfl
  have z1_0_3 : W1.frozen? ⟨w.heap.size + 1, 3, none⟩ = false := (K1.out.at (w.heap.size + 1) [.int .i64 0, .int .i64 0, .int .i64 0, .int .i64 0] (by simp)).f 3 rfl
  have c1_1_0 : W1.cell? ⟨w.heap.size, 0, none⟩ = some (.int .i64 i) := (K1.out.at (w.heap.size) [.int .i64 i, .int .i64 m, .int .i64 d, .int .i64 u] (by simp)).c 0 rfl
  have c1_1_1 : W1.cell? ⟨w.heap.size, 1, none⟩ = some (.int .i64 m) := (K1.out.at (w.heap.size) [.int .i64 i, .int .i64 m, .int .i64 d, .int .i64 u] (by simp)).c 1 rfl
  have c1_1_2 : W1.cell? ⟨w.heap.size, 2, none⟩ = some (.int .i64 d) := (K1.out.at (w.heap.size) [.int .i64 i, .int .i64 m, .int .i64 d, .int .i64 u] (by simp)).c 2 rfl
  have c1_1_3 : W1.cell? ⟨w.heap.size, 3, none⟩ = some (.int .i64 u) := (K1.out.at (w.heap.size) [.int .i64 i, .int .i64 m, .int .i64 d, .int .i64 u] (by simp)).c 3 rfl
  have XF : Hid (Bx (W1.setCells (w.heap.size + 1) 0 [.int .i64 I, .int .i64 M, .int .i64 D, .int .i64 U]) (w.heap.size + 1) [.int .i64 I, .int .i64 M, .int .i64 D, .int .i64 U]) := (K1.out.at (w.heap.size + 1) [.int .i64 0, .int .i64 0, .int .i64 0, .int .i64 0] (by simp)).setAll _ rfl
  have BF : Hid (Below w.heap.size w (W1.setCells (w.heap.size + 1) 0 [.int .i64 I, .int .i64 M, .int .i64 D, .int .i64 U])) := below_setCells (by omega) _ _ _ K1.out.1
  have y0 := XF.out.c 0 rfl
  have y1 := XF.out.c 1 rfl
  have y2 := XF.out.c 2 rfl
  have y3 := XF.out.c 3 rfl
  simp only [World.setCells, Nat.zero_add, Nat.reduceAdd] at y0 y1 y2 y3
  clear XF
  go_wp2
  exact bodyPost_ret (v := .tuple #[.agg #[.int .i64 I, .int .i64 M, .int .i64 D, .int .i64 U], .int .i64 E]) (by simp [results, Try.results11, go_sem, y0, y1, y2, y3]) rfl ⟨rfl, BF.out⟩


end Go.Proofs.Ytghfgabajdghiac
