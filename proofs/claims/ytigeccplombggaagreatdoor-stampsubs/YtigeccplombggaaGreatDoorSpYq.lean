/- SpD, SpE, as one text. -/
import Derived.Test.YtigeccplombggaaGreatDoorSpXq
import Derived.Test.YtigeccplombggaaGreatDoorBxZq
import Derived.Test.YtigeccplombggaaGreatDoorBxCq
import Derived.Deep.Cut
import Derived.Test.YtigeccplombggaaGreatDoorWiZq
/- Intervals so many times, turned: way by way. -/
namespace Go.Proofs.YtigeccplombggaaGreatDoor.Sp
open Go.RowKit
set_option linter.unusedVariables false

set_option maxRecDepth 100000 in
set_option maxHeartbeats 4000000 in
theorem pmul_inf_mm (n : Int) (hn : n ≠ 0)
    (R : Hid (∀ w : World, Calls Tryz.prog 27 #[.agg #[.int .i64 (-1), .int .i64 0, .int .i64 0, .int .i64 0]] w fun r' w' => r' = .returned (.bool true) ∧ Below w.heap.size w w'))
    (C : Hid (∀ w : World, Calls Tryz.prog 127 #[.int .i64 n, .int .i64 0] w fun r' w' => r' = .returned (.int .i64 (-1)) ∧ w' = w))
    (w : World) :
    Calls Tryz.prog 97 #[.agg #[.int .i64 (-1), .int .i64 0, .int .i64 0, .int .i64 0], .int .i64 n] w fun r' w' => r' = .returned (.tuple #[.agg #[.int .i64 1, .int .i64 0, .int .i64 0, .int .i64 0], .int .i64 0]) ∧ Below w.heap.size w w' := by
  have n1 : (n == 0) = false := by simpa using hn
  have q1 : IntKind.i64.wrap 1 = 1 := by decide
  have q2 : IntKind.i64.wrap (-1) = -1 := by decide
  have K0 : Hid (BS w [(w.heap.size + 1, [.int .i64 0, .int .i64 0, .int .i64 0, .int .i64 0]), (w.heap.size, [.int .i64 (-1), .int .i64 0, .int .i64 0, .int .i64 0])] ((w.alloc (.cells #[.int .i64 (-1), .int .i64 0, .int .i64 0, .int .i64 0] 59)).alloc (.cells #[.int .i64 0, .int .i64 0, .int .i64 0, .int .i64 0] 59))) := (((BS.start w).new [.int .i64 (-1), .int .i64 0, .int .i64 0, .int .i64 0] 59 rfl).new [.int .i64 0, .int .i64 0, .int .i64 0, .int .i64 0] 59 (by simp))
  go_enter Tryz.func97, Tryz.ntmps97
  go_wp2_with fail
  refine (R.out _).mono ?_
  rintro e W1 ⟨rfl, hb⟩
  have K1 := bsb K0 hb
  clear hb K0
  obtain ⟨c1_0_0, c1_0_1, c1_0_2, c1_0_3⟩ := (bo1 K1).c4
  obtain ⟨z1_0_0, z1_0_1, z1_0_2, z1_0_3⟩ := (bo1 K1).f4
  obtain ⟨c1_1_0, c1_1_1, c1_1_2, c1_1_3⟩ := (bo2 K1).c4
  go_wp2_with fail
  clear c1_0_0 c1_0_1 c1_0_2 c1_0_3 z1_0_0 z1_0_1 z1_0_2 z1_0_3 c1_1_0 c1_1_1 c1_1_2 c1_1_3
  refine wp_region_held_drew (S := BS w [(w.heap.size, [.int .i64 (-1), .int .i64 0, .int .i64 0, .int .i64 0])]) (by kernel_rfl) K1.out.drew.tail (fun hHeld => ?_)
  refine wpAnyH_take (i := 0) (v := ?_) (oi := { dst := some 26, op := _, type := _, pos := _, after := _, guard := none }) rfl (by kernel_rfl) (by kernel_rfl) (by kernel_rfl) (fun _ _ _ h => h) (Or.inl ⟨by kernel_rfl, ?_⟩) (by assumption) ?_
  case refine_2 => (intro w9 hSw; clear hSw; go_simp; try with_reducible rfl)
  simp only [Act.put, List.setIfInBounds_toArray, List.set_cons_zero, List.set_cons_succ]
  refine wpAnyH_take (i := 1) (v := ?_) (oi := { dst := some 27, op := _, type := _, pos := _, after := _, guard := none }) rfl (by kernel_rfl) (by kernel_rfl) (by kernel_rfl) (fun _ _ _ h => h) (Or.inl ⟨by kernel_rfl, ?_⟩) (by assumption) ?_
  case refine_2 => (intro w9 hSw; have l_0 := (hSw.at (w.heap.size) [.int .i64 (-1), .int .i64 0, .int .i64 0, .int .i64 0] (by simp)).c 0 rfl; have l_1 := (hSw.at (w.heap.size) [.int .i64 (-1), .int .i64 0, .int .i64 0, .int .i64 0] (by simp)).c 1 rfl; have l_2 := (hSw.at (w.heap.size) [.int .i64 (-1), .int .i64 0, .int .i64 0, .int .i64 0] (by simp)).c 2 rfl; have l_3 := (hSw.at (w.heap.size) [.int .i64 (-1), .int .i64 0, .int .i64 0, .int .i64 0] (by simp)).c 3 rfl; clear hSw; go_simp; try with_reducible rfl)
  simp only [Act.put, List.setIfInBounds_toArray, List.set_cons_zero, List.set_cons_succ]
  refine wpAnyH_take (i := 2) (v := ?_) (oi := { dst := some 28, op := _, type := _, pos := _, after := _, guard := none }) rfl (by kernel_rfl) (by kernel_rfl) (by kernel_rfl) (fun _ _ _ h => h) (Or.inl ⟨by kernel_rfl, ?_⟩) (by assumption) ?_
  case refine_2 => (intro w9 hSw; clear hSw; go_simp; try with_reducible rfl)
  simp only [Act.put, List.setIfInBounds_toArray, List.set_cons_zero, List.set_cons_succ]
  refine wpAnyH_ready (rs := [3]) (by kernel_rfl) (by simp) (AllReadyH.cons (o := { dst := some 29, op := _, type := _, pos := _, after := _, guard := none }) rfl (fun K hK => ?_) AllReadyH.nil)
  go_simp
  refine (C.out _).mono ?_
  rintro e v1 ⟨rfl, hw⟩
  rw [hw]
  refine hK.out _ _ hHeld (fun hHeld => ?_)
  clear hK K hw v1
  refine wpAnyH_take (i := 4) (v := ?_) (oi := { dst := some 30, op := _, type := _, pos := _, after := _, guard := none }) rfl (by kernel_rfl) (by kernel_rfl) (by kernel_rfl) (fun _ _ _ h => h) (Or.inl ⟨by kernel_rfl, ?_⟩) (by assumption) ?_
  case refine_2 => (intro w9 hSw; clear hSw; go_simp; try with_reducible rfl)
  simp only [Act.put, List.setIfInBounds_toArray, List.set_cons_zero, List.set_cons_succ]
  refine wpAnyH_take (i := 5) (v := ?_) (oi := { dst := some 31, op := _, type := _, pos := _, after := _, guard := none }) rfl (by kernel_rfl) (by kernel_rfl) (by kernel_rfl) (fun _ _ _ h => h) (Or.inl ⟨by kernel_rfl, ?_⟩) (by assumption) ?_
  case refine_2 => (intro w9 hSw; clear hSw; go_simp; try with_reducible rfl)
  simp only [Act.put, List.setIfInBounds_toArray, List.set_cons_zero, List.set_cons_succ]
  refine wpAnyH_ready (rs := [6]) (by kernel_rfl) (by simp) (AllReadyH.cons (o := { dst := none, op := _, type := _, pos := _, after := _, guard := none }) rfl (fun K hK => ?_) AllReadyH.nil)
  have XD := K1.out
  have y_0 := XD.first.c 0 rfl
  have y_1 := XD.first.c 1 rfl
  have y_2 := XD.first.c 2 rfl
  have y_3 := XD.first.c 3 rfl
  have z_0 := XD.first.f 0 rfl
  have z_1 := XD.first.f 1 rfl
  have z_2 := XD.first.f 2 rfl
  have z_3 := XD.first.f 3 rfl
  clear XD
  go_simp
  refine hK.out _ _ (K1.out.set [.int .i64 1, .int .i64 0, .int .i64 0, .int .i64 0] rfl (by intro x hx; simp only [List.mem_singleton] at hx; subst hx; exact Nat.ne_of_lt (Nat.lt_succ_self _))).tail.drew (fun hHeld => ?_)
  clear hK K
  refine wpAnyH_take (i := 7) (v := ?_) (oi := { dst := some 5, op := _, type := _, pos := _, after := _, guard := none }) rfl (by kernel_rfl) (by kernel_rfl) (by kernel_rfl) (fun _ _ _ h => h) (Or.inl ⟨by kernel_rfl, ?_⟩) (by assumption) ?_
  case refine_2 => (intro w9 hSw; clear hSw; go_simp; try with_reducible rfl)
  simp only [Act.put, List.setIfInBounds_toArray, List.set_cons_zero, List.set_cons_succ]
  refine wpAnyH_done (by kernel_rfl) ?_ _
  have XF : Hid (Bx (W1.setCells (w.heap.size + 1) 0 [.int .i64 1, .int .i64 0, .int .i64 0, .int .i64 0]) (w.heap.size + 1) [.int .i64 1, .int .i64 0, .int .i64 0, .int .i64 0]) := K1.out.first.setAll _ rfl
  have BF : Hid (Below w.heap.size w (W1.setCells (w.heap.size + 1) 0 [.int .i64 1, .int .i64 0, .int .i64 0, .int .i64 0]).drew) := (below_setCells (by omega) _ _ _ K1.out.1).drew
  have y0 := XF.out.c 0 rfl
  have y1 := XF.out.c 1 rfl
  have y2 := XF.out.c 2 rfl
  have y3 := XF.out.c 3 rfl
  simp only [World.setCells, Nat.zero_add, Nat.reduceAdd] at y0 y1 y2 y3
  clear XF hHeld
  go_wp2
  exact bodyPost_ret (v := .tuple #[.agg #[.int .i64 1, .int .i64 0, .int .i64 0, .int .i64 0], .int .i64 0]) (by simp [results, Tryz.results97, go_sem, y0, y1, y2, y3]) rfl ⟨rfl, BF.out⟩

set_option maxRecDepth 100000 in
set_option maxHeartbeats 4000000 in
theorem pmul_inf_mp (n : Int) (hn : n ≠ 0)
    (R : Hid (∀ w : World, Calls Tryz.prog 27 #[.agg #[.int .i64 (-1), .int .i64 0, .int .i64 0, .int .i64 0]] w fun r' w' => r' = .returned (.bool true) ∧ Below w.heap.size w w'))
    (C : Hid (∀ w : World, Calls Tryz.prog 127 #[.int .i64 n, .int .i64 0] w fun r' w' => r' = .returned (.int .i64 1) ∧ w' = w))
    (w : World) :
    Calls Tryz.prog 97 #[.agg #[.int .i64 (-1), .int .i64 0, .int .i64 0, .int .i64 0], .int .i64 n] w fun r' w' => r' = .returned (.tuple #[.agg #[.int .i64 (-1), .int .i64 0, .int .i64 0, .int .i64 0], .int .i64 0]) ∧ Below w.heap.size w w' := by
  have n1 : (n == 0) = false := by simpa using hn
  have q1 : IntKind.i64.wrap 1 = 1 := by decide
  have q2 : IntKind.i64.wrap (-1) = -1 := by decide
  have K0 : Hid (BS w [(w.heap.size + 1, [.int .i64 0, .int .i64 0, .int .i64 0, .int .i64 0]), (w.heap.size, [.int .i64 (-1), .int .i64 0, .int .i64 0, .int .i64 0])] ((w.alloc (.cells #[.int .i64 (-1), .int .i64 0, .int .i64 0, .int .i64 0] 59)).alloc (.cells #[.int .i64 0, .int .i64 0, .int .i64 0, .int .i64 0] 59))) := (((BS.start w).new [.int .i64 (-1), .int .i64 0, .int .i64 0, .int .i64 0] 59 rfl).new [.int .i64 0, .int .i64 0, .int .i64 0, .int .i64 0] 59 (by simp))
  go_enter Tryz.func97, Tryz.ntmps97
  go_wp2_with fail
  refine (R.out _).mono ?_
  rintro e W1 ⟨rfl, hb⟩
  have K1 := bsb K0 hb
  clear hb K0
  obtain ⟨c1_0_0, c1_0_1, c1_0_2, c1_0_3⟩ := (bo1 K1).c4
  obtain ⟨z1_0_0, z1_0_1, z1_0_2, z1_0_3⟩ := (bo1 K1).f4
  obtain ⟨c1_1_0, c1_1_1, c1_1_2, c1_1_3⟩ := (bo2 K1).c4
  go_wp2_with fail
  clear c1_0_0 c1_0_1 c1_0_2 c1_0_3 z1_0_0 z1_0_1 z1_0_2 z1_0_3 c1_1_0 c1_1_1 c1_1_2 c1_1_3
  refine wp_region_held_drew (S := BS w [(w.heap.size, [.int .i64 (-1), .int .i64 0, .int .i64 0, .int .i64 0])]) (by kernel_rfl) K1.out.drew.tail (fun hHeld => ?_)
  refine wpAnyH_take (i := 0) (v := ?_) (oi := { dst := some 26, op := _, type := _, pos := _, after := _, guard := none }) rfl (by kernel_rfl) (by kernel_rfl) (by kernel_rfl) (fun _ _ _ h => h) (Or.inl ⟨by kernel_rfl, ?_⟩) (by assumption) ?_
  case refine_2 => (intro w9 hSw; clear hSw; go_simp; try with_reducible rfl)
  simp only [Act.put, List.setIfInBounds_toArray, List.set_cons_zero, List.set_cons_succ]
  refine wpAnyH_take (i := 1) (v := ?_) (oi := { dst := some 27, op := _, type := _, pos := _, after := _, guard := none }) rfl (by kernel_rfl) (by kernel_rfl) (by kernel_rfl) (fun _ _ _ h => h) (Or.inl ⟨by kernel_rfl, ?_⟩) (by assumption) ?_
  case refine_2 => (intro w9 hSw; have l_0 := (hSw.at (w.heap.size) [.int .i64 (-1), .int .i64 0, .int .i64 0, .int .i64 0] (by simp)).c 0 rfl; have l_1 := (hSw.at (w.heap.size) [.int .i64 (-1), .int .i64 0, .int .i64 0, .int .i64 0] (by simp)).c 1 rfl; have l_2 := (hSw.at (w.heap.size) [.int .i64 (-1), .int .i64 0, .int .i64 0, .int .i64 0] (by simp)).c 2 rfl; have l_3 := (hSw.at (w.heap.size) [.int .i64 (-1), .int .i64 0, .int .i64 0, .int .i64 0] (by simp)).c 3 rfl; clear hSw; go_simp; try with_reducible rfl)
  simp only [Act.put, List.setIfInBounds_toArray, List.set_cons_zero, List.set_cons_succ]
  refine wpAnyH_take (i := 2) (v := ?_) (oi := { dst := some 28, op := _, type := _, pos := _, after := _, guard := none }) rfl (by kernel_rfl) (by kernel_rfl) (by kernel_rfl) (fun _ _ _ h => h) (Or.inl ⟨by kernel_rfl, ?_⟩) (by assumption) ?_
  case refine_2 => (intro w9 hSw; clear hSw; go_simp; try with_reducible rfl)
  simp only [Act.put, List.setIfInBounds_toArray, List.set_cons_zero, List.set_cons_succ]
  refine wpAnyH_ready (rs := [3]) (by kernel_rfl) (by simp) (AllReadyH.cons (o := { dst := some 29, op := _, type := _, pos := _, after := _, guard := none }) rfl (fun K hK => ?_) AllReadyH.nil)
  go_simp
  refine (C.out _).mono ?_
  rintro e v1 ⟨rfl, hw⟩
  rw [hw]
  refine hK.out _ _ hHeld (fun hHeld => ?_)
  clear hK K hw v1
  refine wpAnyH_take (i := 4) (v := ?_) (oi := { dst := some 30, op := _, type := _, pos := _, after := _, guard := none }) rfl (by kernel_rfl) (by kernel_rfl) (by kernel_rfl) (fun _ _ _ h => h) (Or.inl ⟨by kernel_rfl, ?_⟩) (by assumption) ?_
  case refine_2 => (intro w9 hSw; clear hSw; go_simp; try with_reducible rfl)
  simp only [Act.put, List.setIfInBounds_toArray, List.set_cons_zero, List.set_cons_succ]
  refine wpAnyH_take (i := 5) (v := ?_) (oi := { dst := some 31, op := _, type := _, pos := _, after := _, guard := none }) rfl (by kernel_rfl) (by kernel_rfl) (by kernel_rfl) (fun _ _ _ h => h) (Or.inl ⟨by kernel_rfl, ?_⟩) (by assumption) ?_
  case refine_2 => (intro w9 hSw; clear hSw; go_simp; try with_reducible rfl)
  simp only [Act.put, List.setIfInBounds_toArray, List.set_cons_zero, List.set_cons_succ]
  refine wpAnyH_ready (rs := [6]) (by kernel_rfl) (by simp) (AllReadyH.cons (o := { dst := none, op := _, type := _, pos := _, after := _, guard := none }) rfl (fun K hK => ?_) AllReadyH.nil)
  have XD := K1.out
  have y_0 := XD.first.c 0 rfl
  have y_1 := XD.first.c 1 rfl
  have y_2 := XD.first.c 2 rfl
  have y_3 := XD.first.c 3 rfl
  have z_0 := XD.first.f 0 rfl
  have z_1 := XD.first.f 1 rfl
  have z_2 := XD.first.f 2 rfl
  have z_3 := XD.first.f 3 rfl
  clear XD
  go_simp
  refine hK.out _ _ (K1.out.set [.int .i64 (-1), .int .i64 0, .int .i64 0, .int .i64 0] rfl (by intro x hx; simp only [List.mem_singleton] at hx; subst hx; exact Nat.ne_of_lt (Nat.lt_succ_self _))).tail.drew (fun hHeld => ?_)
  clear hK K
  refine wpAnyH_take (i := 7) (v := ?_) (oi := { dst := some 5, op := _, type := _, pos := _, after := _, guard := none }) rfl (by kernel_rfl) (by kernel_rfl) (by kernel_rfl) (fun _ _ _ h => h) (Or.inl ⟨by kernel_rfl, ?_⟩) (by assumption) ?_
  case refine_2 => (intro w9 hSw; clear hSw; go_simp; try with_reducible rfl)
  simp only [Act.put, List.setIfInBounds_toArray, List.set_cons_zero, List.set_cons_succ]
  refine wpAnyH_done (by kernel_rfl) ?_ _
  have XF : Hid (Bx (W1.setCells (w.heap.size + 1) 0 [.int .i64 (-1), .int .i64 0, .int .i64 0, .int .i64 0]) (w.heap.size + 1) [.int .i64 (-1), .int .i64 0, .int .i64 0, .int .i64 0]) := K1.out.first.setAll _ rfl
  have BF : Hid (Below w.heap.size w (W1.setCells (w.heap.size + 1) 0 [.int .i64 (-1), .int .i64 0, .int .i64 0, .int .i64 0]).drew) := (below_setCells (by omega) _ _ _ K1.out.1).drew
  have y0 := XF.out.c 0 rfl
  have y1 := XF.out.c 1 rfl
  have y2 := XF.out.c 2 rfl
  have y3 := XF.out.c 3 rfl
  simp only [World.setCells, Nat.zero_add, Nat.reduceAdd] at y0 y1 y2 y3
  clear XF hHeld
  go_wp2
  exact bodyPost_ret (v := .tuple #[.agg #[.int .i64 (-1), .int .i64 0, .int .i64 0, .int .i64 0], .int .i64 0]) (by simp [results, Tryz.results97, go_sem, y0, y1, y2, y3]) rfl ⟨rfl, BF.out⟩

set_option maxRecDepth 100000 in
set_option maxHeartbeats 4000000 in
theorem pmul_inf_pm (n : Int) (hn : n ≠ 0)
    (R : Hid (∀ w : World, Calls Tryz.prog 27 #[.agg #[.int .i64 1, .int .i64 0, .int .i64 0, .int .i64 0]] w fun r' w' => r' = .returned (.bool true) ∧ Below w.heap.size w w'))
    (C : Hid (∀ w : World, Calls Tryz.prog 127 #[.int .i64 n, .int .i64 0] w fun r' w' => r' = .returned (.int .i64 (-1)) ∧ w' = w))
    (w : World) :
    Calls Tryz.prog 97 #[.agg #[.int .i64 1, .int .i64 0, .int .i64 0, .int .i64 0], .int .i64 n] w fun r' w' => r' = .returned (.tuple #[.agg #[.int .i64 (-1), .int .i64 0, .int .i64 0, .int .i64 0], .int .i64 0]) ∧ Below w.heap.size w w' := by
  have n1 : (n == 0) = false := by simpa using hn
  have q1 : IntKind.i64.wrap 1 = 1 := by decide
  have q2 : IntKind.i64.wrap (-1) = -1 := by decide
  have K0 : Hid (BS w [(w.heap.size + 1, [.int .i64 0, .int .i64 0, .int .i64 0, .int .i64 0]), (w.heap.size, [.int .i64 1, .int .i64 0, .int .i64 0, .int .i64 0])] ((w.alloc (.cells #[.int .i64 1, .int .i64 0, .int .i64 0, .int .i64 0] 59)).alloc (.cells #[.int .i64 0, .int .i64 0, .int .i64 0, .int .i64 0] 59))) := (((BS.start w).new [.int .i64 1, .int .i64 0, .int .i64 0, .int .i64 0] 59 rfl).new [.int .i64 0, .int .i64 0, .int .i64 0, .int .i64 0] 59 (by simp))
  go_enter Tryz.func97, Tryz.ntmps97
  go_wp2_with fail
  refine (R.out _).mono ?_
  rintro e W1 ⟨rfl, hb⟩
  have K1 := bsb K0 hb
  clear hb K0
  obtain ⟨c1_0_0, c1_0_1, c1_0_2, c1_0_3⟩ := (bo1 K1).c4
  obtain ⟨z1_0_0, z1_0_1, z1_0_2, z1_0_3⟩ := (bo1 K1).f4
  obtain ⟨c1_1_0, c1_1_1, c1_1_2, c1_1_3⟩ := (bo2 K1).c4
  go_wp2_with fail
  clear c1_0_0 c1_0_1 c1_0_2 c1_0_3 z1_0_0 z1_0_1 z1_0_2 z1_0_3 c1_1_0 c1_1_1 c1_1_2 c1_1_3
  refine wp_region_held_drew (S := BS w [(w.heap.size, [.int .i64 1, .int .i64 0, .int .i64 0, .int .i64 0])]) (by kernel_rfl) K1.out.drew.tail (fun hHeld => ?_)
  refine wpAnyH_take (i := 0) (v := ?_) (oi := { dst := some 26, op := _, type := _, pos := _, after := _, guard := none }) rfl (by kernel_rfl) (by kernel_rfl) (by kernel_rfl) (fun _ _ _ h => h) (Or.inl ⟨by kernel_rfl, ?_⟩) (by assumption) ?_
  case refine_2 => (intro w9 hSw; clear hSw; go_simp; try with_reducible rfl)
  simp only [Act.put, List.setIfInBounds_toArray, List.set_cons_zero, List.set_cons_succ]
  refine wpAnyH_take (i := 1) (v := ?_) (oi := { dst := some 27, op := _, type := _, pos := _, after := _, guard := none }) rfl (by kernel_rfl) (by kernel_rfl) (by kernel_rfl) (fun _ _ _ h => h) (Or.inl ⟨by kernel_rfl, ?_⟩) (by assumption) ?_
  case refine_2 => (intro w9 hSw; have l_0 := (hSw.at (w.heap.size) [.int .i64 1, .int .i64 0, .int .i64 0, .int .i64 0] (by simp)).c 0 rfl; have l_1 := (hSw.at (w.heap.size) [.int .i64 1, .int .i64 0, .int .i64 0, .int .i64 0] (by simp)).c 1 rfl; have l_2 := (hSw.at (w.heap.size) [.int .i64 1, .int .i64 0, .int .i64 0, .int .i64 0] (by simp)).c 2 rfl; have l_3 := (hSw.at (w.heap.size) [.int .i64 1, .int .i64 0, .int .i64 0, .int .i64 0] (by simp)).c 3 rfl; clear hSw; go_simp; try with_reducible rfl)
  simp only [Act.put, List.setIfInBounds_toArray, List.set_cons_zero, List.set_cons_succ]
  refine wpAnyH_take (i := 2) (v := ?_) (oi := { dst := some 28, op := _, type := _, pos := _, after := _, guard := none }) rfl (by kernel_rfl) (by kernel_rfl) (by kernel_rfl) (fun _ _ _ h => h) (Or.inl ⟨by kernel_rfl, ?_⟩) (by assumption) ?_
  case refine_2 => (intro w9 hSw; clear hSw; go_simp; try with_reducible rfl)
  simp only [Act.put, List.setIfInBounds_toArray, List.set_cons_zero, List.set_cons_succ]
  refine wpAnyH_ready (rs := [3]) (by kernel_rfl) (by simp) (AllReadyH.cons (o := { dst := some 29, op := _, type := _, pos := _, after := _, guard := none }) rfl (fun K hK => ?_) AllReadyH.nil)
  go_simp
  refine (C.out _).mono ?_
  rintro e v1 ⟨rfl, hw⟩
  rw [hw]
  refine hK.out _ _ hHeld (fun hHeld => ?_)
  clear hK K hw v1
  refine wpAnyH_take (i := 4) (v := ?_) (oi := { dst := some 30, op := _, type := _, pos := _, after := _, guard := none }) rfl (by kernel_rfl) (by kernel_rfl) (by kernel_rfl) (fun _ _ _ h => h) (Or.inl ⟨by kernel_rfl, ?_⟩) (by assumption) ?_
  case refine_2 => (intro w9 hSw; clear hSw; go_simp; try with_reducible rfl)
  simp only [Act.put, List.setIfInBounds_toArray, List.set_cons_zero, List.set_cons_succ]
  refine wpAnyH_take (i := 5) (v := ?_) (oi := { dst := some 31, op := _, type := _, pos := _, after := _, guard := none }) rfl (by kernel_rfl) (by kernel_rfl) (by kernel_rfl) (fun _ _ _ h => h) (Or.inl ⟨by kernel_rfl, ?_⟩) (by assumption) ?_
  case refine_2 => (intro w9 hSw; clear hSw; go_simp; try with_reducible rfl)
  simp only [Act.put, List.setIfInBounds_toArray, List.set_cons_zero, List.set_cons_succ]
  refine wpAnyH_ready (rs := [6]) (by kernel_rfl) (by simp) (AllReadyH.cons (o := { dst := none, op := _, type := _, pos := _, after := _, guard := none }) rfl (fun K hK => ?_) AllReadyH.nil)
  have XD := K1.out
  have y_0 := XD.first.c 0 rfl
  have y_1 := XD.first.c 1 rfl
  have y_2 := XD.first.c 2 rfl
  have y_3 := XD.first.c 3 rfl
  have z_0 := XD.first.f 0 rfl
  have z_1 := XD.first.f 1 rfl
  have z_2 := XD.first.f 2 rfl
  have z_3 := XD.first.f 3 rfl
  clear XD
  go_simp
  refine hK.out _ _ (K1.out.set [.int .i64 (-1), .int .i64 0, .int .i64 0, .int .i64 0] rfl (by intro x hx; simp only [List.mem_singleton] at hx; subst hx; exact Nat.ne_of_lt (Nat.lt_succ_self _))).tail.drew (fun hHeld => ?_)
  clear hK K
  refine wpAnyH_take (i := 7) (v := ?_) (oi := { dst := some 5, op := _, type := _, pos := _, after := _, guard := none }) rfl (by kernel_rfl) (by kernel_rfl) (by kernel_rfl) (fun _ _ _ h => h) (Or.inl ⟨by kernel_rfl, ?_⟩) (by assumption) ?_
  case refine_2 => (intro w9 hSw; clear hSw; go_simp; try with_reducible rfl)
  simp only [Act.put, List.setIfInBounds_toArray, List.set_cons_zero, List.set_cons_succ]
  refine wpAnyH_done (by kernel_rfl) ?_ _
  have XF : Hid (Bx (W1.setCells (w.heap.size + 1) 0 [.int .i64 (-1), .int .i64 0, .int .i64 0, .int .i64 0]) (w.heap.size + 1) [.int .i64 (-1), .int .i64 0, .int .i64 0, .int .i64 0]) := K1.out.first.setAll _ rfl
  have BF : Hid (Below w.heap.size w (W1.setCells (w.heap.size + 1) 0 [.int .i64 (-1), .int .i64 0, .int .i64 0, .int .i64 0]).drew) := (below_setCells (by omega) _ _ _ K1.out.1).drew
  have y0 := XF.out.c 0 rfl
  have y1 := XF.out.c 1 rfl
  have y2 := XF.out.c 2 rfl
  have y3 := XF.out.c 3 rfl
  simp only [World.setCells, Nat.zero_add, Nat.reduceAdd] at y0 y1 y2 y3
  clear XF hHeld
  go_wp2
  exact bodyPost_ret (v := .tuple #[.agg #[.int .i64 (-1), .int .i64 0, .int .i64 0, .int .i64 0], .int .i64 0]) (by simp [results, Tryz.results97, go_sem, y0, y1, y2, y3]) rfl ⟨rfl, BF.out⟩

set_option maxRecDepth 100000 in
set_option maxHeartbeats 4000000 in
theorem pmul_inf_pp (n : Int) (hn : n ≠ 0)
    (R : Hid (∀ w : World, Calls Tryz.prog 27 #[.agg #[.int .i64 1, .int .i64 0, .int .i64 0, .int .i64 0]] w fun r' w' => r' = .returned (.bool true) ∧ Below w.heap.size w w'))
    (C : Hid (∀ w : World, Calls Tryz.prog 127 #[.int .i64 n, .int .i64 0] w fun r' w' => r' = .returned (.int .i64 1) ∧ w' = w))
    (w : World) :
    Calls Tryz.prog 97 #[.agg #[.int .i64 1, .int .i64 0, .int .i64 0, .int .i64 0], .int .i64 n] w fun r' w' => r' = .returned (.tuple #[.agg #[.int .i64 1, .int .i64 0, .int .i64 0, .int .i64 0], .int .i64 0]) ∧ Below w.heap.size w w' := by
  have n1 : (n == 0) = false := by simpa using hn
  have q1 : IntKind.i64.wrap 1 = 1 := by decide
  have q2 : IntKind.i64.wrap (-1) = -1 := by decide
  have K0 : Hid (BS w [(w.heap.size + 1, [.int .i64 0, .int .i64 0, .int .i64 0, .int .i64 0]), (w.heap.size, [.int .i64 1, .int .i64 0, .int .i64 0, .int .i64 0])] ((w.alloc (.cells #[.int .i64 1, .int .i64 0, .int .i64 0, .int .i64 0] 59)).alloc (.cells #[.int .i64 0, .int .i64 0, .int .i64 0, .int .i64 0] 59))) := (((BS.start w).new [.int .i64 1, .int .i64 0, .int .i64 0, .int .i64 0] 59 rfl).new [.int .i64 0, .int .i64 0, .int .i64 0, .int .i64 0] 59 (by simp))
  go_enter Tryz.func97, Tryz.ntmps97
  go_wp2_with fail
  refine (R.out _).mono ?_
  rintro e W1 ⟨rfl, hb⟩
  have K1 := bsb K0 hb
  clear hb K0
  obtain ⟨c1_0_0, c1_0_1, c1_0_2, c1_0_3⟩ := (bo1 K1).c4
  obtain ⟨z1_0_0, z1_0_1, z1_0_2, z1_0_3⟩ := (bo1 K1).f4
  obtain ⟨c1_1_0, c1_1_1, c1_1_2, c1_1_3⟩ := (bo2 K1).c4
  go_wp2_with fail
  clear c1_0_0 c1_0_1 c1_0_2 c1_0_3 z1_0_0 z1_0_1 z1_0_2 z1_0_3 c1_1_0 c1_1_1 c1_1_2 c1_1_3
  refine wp_region_held_drew (S := BS w [(w.heap.size, [.int .i64 1, .int .i64 0, .int .i64 0, .int .i64 0])]) (by kernel_rfl) K1.out.drew.tail (fun hHeld => ?_)
  refine wpAnyH_take (i := 0) (v := ?_) (oi := { dst := some 26, op := _, type := _, pos := _, after := _, guard := none }) rfl (by kernel_rfl) (by kernel_rfl) (by kernel_rfl) (fun _ _ _ h => h) (Or.inl ⟨by kernel_rfl, ?_⟩) (by assumption) ?_
  case refine_2 => (intro w9 hSw; clear hSw; go_simp; try with_reducible rfl)
  simp only [Act.put, List.setIfInBounds_toArray, List.set_cons_zero, List.set_cons_succ]
  refine wpAnyH_take (i := 1) (v := ?_) (oi := { dst := some 27, op := _, type := _, pos := _, after := _, guard := none }) rfl (by kernel_rfl) (by kernel_rfl) (by kernel_rfl) (fun _ _ _ h => h) (Or.inl ⟨by kernel_rfl, ?_⟩) (by assumption) ?_
  case refine_2 => (intro w9 hSw; have l_0 := (hSw.at (w.heap.size) [.int .i64 1, .int .i64 0, .int .i64 0, .int .i64 0] (by simp)).c 0 rfl; have l_1 := (hSw.at (w.heap.size) [.int .i64 1, .int .i64 0, .int .i64 0, .int .i64 0] (by simp)).c 1 rfl; have l_2 := (hSw.at (w.heap.size) [.int .i64 1, .int .i64 0, .int .i64 0, .int .i64 0] (by simp)).c 2 rfl; have l_3 := (hSw.at (w.heap.size) [.int .i64 1, .int .i64 0, .int .i64 0, .int .i64 0] (by simp)).c 3 rfl; clear hSw; go_simp; try with_reducible rfl)
  simp only [Act.put, List.setIfInBounds_toArray, List.set_cons_zero, List.set_cons_succ]
  refine wpAnyH_take (i := 2) (v := ?_) (oi := { dst := some 28, op := _, type := _, pos := _, after := _, guard := none }) rfl (by kernel_rfl) (by kernel_rfl) (by kernel_rfl) (fun _ _ _ h => h) (Or.inl ⟨by kernel_rfl, ?_⟩) (by assumption) ?_
  case refine_2 => (intro w9 hSw; clear hSw; go_simp; try with_reducible rfl)
  simp only [Act.put, List.setIfInBounds_toArray, List.set_cons_zero, List.set_cons_succ]
  refine wpAnyH_ready (rs := [3]) (by kernel_rfl) (by simp) (AllReadyH.cons (o := { dst := some 29, op := _, type := _, pos := _, after := _, guard := none }) rfl (fun K hK => ?_) AllReadyH.nil)
  go_simp
  refine (C.out _).mono ?_
  rintro e v1 ⟨rfl, hw⟩
  rw [hw]
  refine hK.out _ _ hHeld (fun hHeld => ?_)
  clear hK K hw v1
  refine wpAnyH_take (i := 4) (v := ?_) (oi := { dst := some 30, op := _, type := _, pos := _, after := _, guard := none }) rfl (by kernel_rfl) (by kernel_rfl) (by kernel_rfl) (fun _ _ _ h => h) (Or.inl ⟨by kernel_rfl, ?_⟩) (by assumption) ?_
  case refine_2 => (intro w9 hSw; clear hSw; go_simp; try with_reducible rfl)
  simp only [Act.put, List.setIfInBounds_toArray, List.set_cons_zero, List.set_cons_succ]
  refine wpAnyH_take (i := 5) (v := ?_) (oi := { dst := some 31, op := _, type := _, pos := _, after := _, guard := none }) rfl (by kernel_rfl) (by kernel_rfl) (by kernel_rfl) (fun _ _ _ h => h) (Or.inl ⟨by kernel_rfl, ?_⟩) (by assumption) ?_
  case refine_2 => (intro w9 hSw; clear hSw; go_simp; try with_reducible rfl)
  simp only [Act.put, List.setIfInBounds_toArray, List.set_cons_zero, List.set_cons_succ]
  refine wpAnyH_ready (rs := [6]) (by kernel_rfl) (by simp) (AllReadyH.cons (o := { dst := none, op := _, type := _, pos := _, after := _, guard := none }) rfl (fun K hK => ?_) AllReadyH.nil)
  have XD := K1.out
  have y_0 := XD.first.c 0 rfl
  have y_1 := XD.first.c 1 rfl
  have y_2 := XD.first.c 2 rfl
  have y_3 := XD.first.c 3 rfl
  have z_0 := XD.first.f 0 rfl
  have z_1 := XD.first.f 1 rfl
  have z_2 := XD.first.f 2 rfl
  have z_3 := XD.first.f 3 rfl
  clear XD
  go_simp
  refine hK.out _ _ (K1.out.set [.int .i64 1, .int .i64 0, .int .i64 0, .int .i64 0] rfl (by intro x hx; simp only [List.mem_singleton] at hx; subst hx; exact Nat.ne_of_lt (Nat.lt_succ_self _))).tail.drew (fun hHeld => ?_)
  clear hK K
  refine wpAnyH_take (i := 7) (v := ?_) (oi := { dst := some 5, op := _, type := _, pos := _, after := _, guard := none }) rfl (by kernel_rfl) (by kernel_rfl) (by kernel_rfl) (fun _ _ _ h => h) (Or.inl ⟨by kernel_rfl, ?_⟩) (by assumption) ?_
  case refine_2 => (intro w9 hSw; clear hSw; go_simp; try with_reducible rfl)
  simp only [Act.put, List.setIfInBounds_toArray, List.set_cons_zero, List.set_cons_succ]
  refine wpAnyH_done (by kernel_rfl) ?_ _
  have XF : Hid (Bx (W1.setCells (w.heap.size + 1) 0 [.int .i64 1, .int .i64 0, .int .i64 0, .int .i64 0]) (w.heap.size + 1) [.int .i64 1, .int .i64 0, .int .i64 0, .int .i64 0]) := K1.out.first.setAll _ rfl
  have BF : Hid (Below w.heap.size w (W1.setCells (w.heap.size + 1) 0 [.int .i64 1, .int .i64 0, .int .i64 0, .int .i64 0]).drew) := (below_setCells (by omega) _ _ _ K1.out.1).drew
  have y0 := XF.out.c 0 rfl
  have y1 := XF.out.c 1 rfl
  have y2 := XF.out.c 2 rfl
  have y3 := XF.out.c 3 rfl
  simp only [World.setCells, Nat.zero_add, Nat.reduceAdd] at y0 y1 y2 y3
  clear XF hHeld
  go_wp2
  exact bodyPost_ret (v := .tuple #[.agg #[.int .i64 1, .int .i64 0, .int .i64 0, .int .i64 0], .int .i64 0]) (by simp [results, Tryz.results97, go_sem, y0, y1, y2, y3]) rfl ⟨rfl, BF.out⟩

set_option maxRecDepth 100000 in
set_option maxHeartbeats 4000000 in
theorem pmul_no (i m d u n : Int)
    (R : Hid (∀ w : World, Calls Tryz.prog 27 #[.agg #[.int .i64 i, .int .i64 m, .int .i64 d, .int .i64 u]] w fun r' w' => r' = .returned (.bool false) ∧ Below w.heap.size w w'))
    (w : World) :
    Calls Tryz.prog 97 #[.agg #[.int .i64 i, .int .i64 m, .int .i64 d, .int .i64 u], .int .i64 n] w fun r' w' => r' = .returned (.tuple #[.agg #[.int .i64 0, .int .i64 0, .int .i64 0, .int .i64 0], .int .i64 1]) ∧ Below w.heap.size w w' := by
  have K0 : Hid (BS w [(w.heap.size + 1, [.int .i64 0, .int .i64 0, .int .i64 0, .int .i64 0]), (w.heap.size, [.int .i64 i, .int .i64 m, .int .i64 d, .int .i64 u])] ((w.alloc (.cells #[.int .i64 i, .int .i64 m, .int .i64 d, .int .i64 u] 59)).alloc (.cells #[.int .i64 0, .int .i64 0, .int .i64 0, .int .i64 0] 59))) := (((BS.start w).new [.int .i64 i, .int .i64 m, .int .i64 d, .int .i64 u] 59 rfl).new [.int .i64 0, .int .i64 0, .int .i64 0, .int .i64 0] 59 (by simp))
  go_enter Tryz.func97, Tryz.ntmps97
  go_wp2_with fail
  refine (R.out _).mono ?_
  rintro e W1 ⟨rfl, hb⟩
  have K1 := bsb K0 hb
  clear hb K0
  obtain ⟨c1_0_0, c1_0_1, c1_0_2, c1_0_3⟩ := (bo1 K1).c4
  obtain ⟨z1_0_0, z1_0_1, z1_0_2, z1_0_3⟩ := (bo1 K1).f4
  obtain ⟨c1_1_0, c1_1_1, c1_1_2, c1_1_3⟩ := (bo2 K1).c4
  have XF : Hid (Bx (W1.setCells (w.heap.size + 1) 0 [.int .i64 0, .int .i64 0, .int .i64 0, .int .i64 0]) (w.heap.size + 1) [.int .i64 0, .int .i64 0, .int .i64 0, .int .i64 0]) := (K1.out.at (w.heap.size + 1) [.int .i64 0, .int .i64 0, .int .i64 0, .int .i64 0] (by simp)).setAll _ rfl
  have BF : Hid (Below w.heap.size w (W1.setCells (w.heap.size + 1) 0 [.int .i64 0, .int .i64 0, .int .i64 0, .int .i64 0])) := below_setCells (by omega) _ _ _ K1.out.1
  have y0 := XF.out.c 0 rfl
  have y1 := XF.out.c 1 rfl
  have y2 := XF.out.c 2 rfl
  have y3 := XF.out.c 3 rfl
  simp only [World.setCells, Nat.zero_add, Nat.reduceAdd] at y0 y1 y2 y3
  clear XF
  go_wp2
  exact bodyPost_ret (v := .tuple #[.agg #[.int .i64 0, .int .i64 0, .int .i64 0, .int .i64 0], .int .i64 1]) (by simp [results, Tryz.results97, go_sem, y0, y1, y2, y3]) rfl ⟨rfl, BF.out⟩

set_option maxRecDepth 100000 in
set_option maxHeartbeats 4000000 in
theorem pmul_inf0 (i m d u : Int) (hi : i ≠ 0)
    (R : Hid (∀ w : World, Calls Tryz.prog 27 #[.agg #[.int .i64 i, .int .i64 m, .int .i64 d, .int .i64 u]] w fun r' w' => r' = .returned (.bool true) ∧ Below w.heap.size w w'))
    (w : World) :
    Calls Tryz.prog 97 #[.agg #[.int .i64 i, .int .i64 m, .int .i64 d, .int .i64 u], .int .i64 0] w fun r' w' => r' = .returned (.tuple #[.agg #[.int .i64 0, .int .i64 0, .int .i64 0, .int .i64 0], .int .i64 10]) ∧ Below w.heap.size w w' := by
  have i1 : (i == 0) = false := by simpa using hi
  have i2 : (i != 0) = true := bne_iff_ne.2 hi
  have K0 : Hid (BS w [(w.heap.size + 1, [.int .i64 0, .int .i64 0, .int .i64 0, .int .i64 0]), (w.heap.size, [.int .i64 i, .int .i64 m, .int .i64 d, .int .i64 u])] ((w.alloc (.cells #[.int .i64 i, .int .i64 m, .int .i64 d, .int .i64 u] 59)).alloc (.cells #[.int .i64 0, .int .i64 0, .int .i64 0, .int .i64 0] 59))) := (((BS.start w).new [.int .i64 i, .int .i64 m, .int .i64 d, .int .i64 u] 59 rfl).new [.int .i64 0, .int .i64 0, .int .i64 0, .int .i64 0] 59 (by simp))
  go_enter Tryz.func97, Tryz.ntmps97
  go_wp2_with fail
  refine (R.out _).mono ?_
  rintro e W1 ⟨rfl, hb⟩
  have K1 := bsb K0 hb
  clear hb K0
  obtain ⟨c1_0_0, c1_0_1, c1_0_2, c1_0_3⟩ := (bo1 K1).c4
  obtain ⟨z1_0_0, z1_0_1, z1_0_2, z1_0_3⟩ := (bo1 K1).f4
  obtain ⟨c1_1_0, c1_1_1, c1_1_2, c1_1_3⟩ := (bo2 K1).c4
  have XF : Hid (Bx (W1.setCells (w.heap.size + 1) 0 [.int .i64 0, .int .i64 0, .int .i64 0, .int .i64 0]) (w.heap.size + 1) [.int .i64 0, .int .i64 0, .int .i64 0, .int .i64 0]) := (K1.out.at (w.heap.size + 1) [.int .i64 0, .int .i64 0, .int .i64 0, .int .i64 0] (by simp)).setAll _ rfl
  have BF : Hid (Below w.heap.size w (W1.setCells (w.heap.size + 1) 0 [.int .i64 0, .int .i64 0, .int .i64 0, .int .i64 0])) := below_setCells (by omega) _ _ _ K1.out.1
  have y0 := XF.out.c 0 rfl
  have y1 := XF.out.c 1 rfl
  have y2 := XF.out.c 2 rfl
  have y3 := XF.out.c 3 rfl
  simp only [World.setCells, Nat.zero_add, Nat.reduceAdd] at y0 y1 y2 y3
  clear XF
  go_wp2
  exact bodyPost_ret (v := .tuple #[.agg #[.int .i64 0, .int .i64 0, .int .i64 0, .int .i64 0], .int .i64 10]) (by simp [results, Tryz.results97, go_sem, y0, y1, y2, y3]) rfl ⟨rfl, BF.out⟩

set_option maxRecDepth 100000 in
set_option maxHeartbeats 4000000 in
theorem pmul_each (m d u n I M D U E : Int)
    (R : Hid (∀ w : World, Calls Tryz.prog 27 #[.agg #[.int .i64 0, .int .i64 m, .int .i64 d, .int .i64 u]] w fun r' w' => r' = .returned (.bool true) ∧ Below w.heap.size w w'))
    (EA : Hid (∀ w : World, Calls Tryz.prog 125 #[.agg #[.int .i64 0, .int .i64 m, .int .i64 d, .int .i64 u], .func (.func 126) #[.int .i64 n] #[], .func (.func 126) #[.int .i64 n] #[], .func (.func 126) #[.int .i64 n] #[]] w fun r' w' => r' = .returned (.tuple #[.agg #[.int .i64 I, .int .i64 M, .int .i64 D, .int .i64 U], .int .i64 E]) ∧ Below w.heap.size w w'))
    (w : World) :
    Calls Tryz.prog 97 #[.agg #[.int .i64 0, .int .i64 m, .int .i64 d, .int .i64 u], .int .i64 n] w fun r' w' => r' = .returned (.tuple #[.agg #[.int .i64 I, .int .i64 M, .int .i64 D, .int .i64 U], .int .i64 E]) ∧ Below w.heap.size w w' := by
  have K0 : Hid (BS w [(w.heap.size + 1, [.int .i64 0, .int .i64 0, .int .i64 0, .int .i64 0]), (w.heap.size, [.int .i64 0, .int .i64 m, .int .i64 d, .int .i64 u])] ((w.alloc (.cells #[.int .i64 0, .int .i64 m, .int .i64 d, .int .i64 u] 59)).alloc (.cells #[.int .i64 0, .int .i64 0, .int .i64 0, .int .i64 0] 59))) := (((BS.start w).new [.int .i64 0, .int .i64 m, .int .i64 d, .int .i64 u] 59 rfl).new [.int .i64 0, .int .i64 0, .int .i64 0, .int .i64 0] 59 (by simp))
  go_enter Tryz.func97, Tryz.ntmps97
  go_wp2_with fail
  refine (R.out _).mono ?_
  rintro e W1 ⟨rfl, hb⟩
  have K1 := bsb K0 hb
  clear hb K0
  obtain ⟨c1_0_0, c1_0_1, c1_0_2, c1_0_3⟩ := (bo1 K1).c4
  obtain ⟨z1_0_0, z1_0_1, z1_0_2, z1_0_3⟩ := (bo1 K1).f4
  obtain ⟨c1_1_0, c1_1_1, c1_1_2, c1_1_3⟩ := (bo2 K1).c4
  go_wp2_with fail
  refine (EA.out _).mono ?_
  rintro e W2 ⟨rfl, hb⟩
  have K2 := bsb K1 hb
  clear c1_0_0 c1_0_1 c1_0_2 c1_0_3 z1_0_0 z1_0_1 z1_0_2 z1_0_3 c1_1_0 c1_1_1 c1_1_2 c1_1_3
  clear hb K1
  obtain ⟨c2_0_0, c2_0_1, c2_0_2, c2_0_3⟩ := (bo1 K2).c4
  obtain ⟨z2_0_0, z2_0_1, z2_0_2, z2_0_3⟩ := (bo1 K2).f4
  obtain ⟨c2_1_0, c2_1_1, c2_1_2, c2_1_3⟩ := (bo2 K2).c4
  have XF : Hid (Bx (W2.setCells (w.heap.size + 1) 0 [.int .i64 I, .int .i64 M, .int .i64 D, .int .i64 U]) (w.heap.size + 1) [.int .i64 I, .int .i64 M, .int .i64 D, .int .i64 U]) := (K2.out.at (w.heap.size + 1) [.int .i64 0, .int .i64 0, .int .i64 0, .int .i64 0] (by simp)).setAll _ rfl
  have BF : Hid (Below w.heap.size w (W2.setCells (w.heap.size + 1) 0 [.int .i64 I, .int .i64 M, .int .i64 D, .int .i64 U])) := below_setCells (by omega) _ _ _ K2.out.1
  have y0 := XF.out.c 0 rfl
  have y1 := XF.out.c 1 rfl
  have y2 := XF.out.c 2 rfl
  have y3 := XF.out.c 3 rfl
  simp only [World.setCells, Nat.zero_add, Nat.reduceAdd] at y0 y1 y2 y3
  clear XF
  go_wp2
  exact bodyPost_ret (v := .tuple #[.agg #[.int .i64 I, .int .i64 M, .int .i64 D, .int .i64 U], .int .i64 E]) (by simp [results, Tryz.results97, go_sem, y0, y1, y2, y3]) rfl ⟨rfl, BF.out⟩

set_option maxRecDepth 100000 in
set_option maxHeartbeats 4000000 in
theorem pneg_run (i m d u I M D U E : Int)
    (ML : Hid (∀ w : World, Calls Tryz.prog 97 #[.agg #[.int .i64 i, .int .i64 m, .int .i64 d, .int .i64 u], .int .i64 (-1)] w fun r' w' => r' = .returned (.tuple #[.agg #[.int .i64 I, .int .i64 M, .int .i64 D, .int .i64 U], .int .i64 E]) ∧ Below w.heap.size w w'))
    (w : World) :
    Calls Tryz.prog 55 #[.agg #[.int .i64 i, .int .i64 m, .int .i64 d, .int .i64 u]] w fun r' w' => r' = .returned (.tuple #[.agg #[.int .i64 I, .int .i64 M, .int .i64 D, .int .i64 U], .int .i64 E]) ∧ Below w.heap.size w w' := by
  have K0 : Hid (BS w [(w.heap.size + 1, [.int .i64 0, .int .i64 0, .int .i64 0, .int .i64 0]), (w.heap.size, [.int .i64 i, .int .i64 m, .int .i64 d, .int .i64 u])] ((w.alloc (.cells #[.int .i64 i, .int .i64 m, .int .i64 d, .int .i64 u] 59)).alloc (.cells #[.int .i64 0, .int .i64 0, .int .i64 0, .int .i64 0] 59))) := (((BS.start w).new [.int .i64 i, .int .i64 m, .int .i64 d, .int .i64 u] 59 rfl).new [.int .i64 0, .int .i64 0, .int .i64 0, .int .i64 0] 59 (by simp))
  go_enter Tryz.func55, Tryz.ntmps55
  go_wp2_with fail
  refine (ML.out _).mono ?_
  rintro e W1 ⟨rfl, hb⟩
  have K1 := bsb K0 hb
  clear hb K0
  obtain ⟨c1_0_0, c1_0_1, c1_0_2, c1_0_3⟩ := (bo1 K1).c4
  obtain ⟨z1_0_0, z1_0_1, z1_0_2, z1_0_3⟩ := (bo1 K1).f4
  obtain ⟨c1_1_0, c1_1_1, c1_1_2, c1_1_3⟩ := (bo2 K1).c4
  have XF : Hid (Bx (W1.setCells (w.heap.size + 1) 0 [.int .i64 I, .int .i64 M, .int .i64 D, .int .i64 U]) (w.heap.size + 1) [.int .i64 I, .int .i64 M, .int .i64 D, .int .i64 U]) := (K1.out.at (w.heap.size + 1) [.int .i64 0, .int .i64 0, .int .i64 0, .int .i64 0] (by simp)).setAll _ rfl
  have BF : Hid (Below w.heap.size w (W1.setCells (w.heap.size + 1) 0 [.int .i64 I, .int .i64 M, .int .i64 D, .int .i64 U])) := below_setCells (by omega) _ _ _ K1.out.1
  have y0 := XF.out.c 0 rfl
  have y1 := XF.out.c 1 rfl
  have y2 := XF.out.c 2 rfl
  have y3 := XF.out.c 3 rfl
  simp only [World.setCells, Nat.zero_add, Nat.reduceAdd] at y0 y1 y2 y3
  clear XF
  go_wp2
  exact bodyPost_ret (v := .tuple #[.agg #[.int .i64 I, .int .i64 M, .int .i64 D, .int .i64 U], .int .i64 E]) (by simp [results, Tryz.results55, go_sem, y0, y1, y2, y3]) rfl ⟨rfl, BF.out⟩

set_option maxRecDepth 100000 in
set_option maxHeartbeats 4000000 in
theorem rpneg_no (i m d u : Int)
    (R : Hid (∀ w : World, Calls Tryz.prog 45 #[.agg #[.int .i64 i, .int .i64 m, .int .i64 d, .int .i64 u]] w fun r' w' => r' = .returned (.bool false) ∧ Below w.heap.size w w'))
    (w : World) :
    Calls Tryz.prog 57 #[.agg #[.int .i64 i, .int .i64 m, .int .i64 d, .int .i64 u]] w fun r' w' => r' = .returned (.tuple #[.agg #[.int .i64 0, .int .i64 0, .int .i64 0, .int .i64 0], .int .i64 1]) ∧ Below w.heap.size w w' := by
  have K0 : Hid (BS w [(w.heap.size + 1, [.int .i64 0, .int .i64 0, .int .i64 0, .int .i64 0]), (w.heap.size, [.int .i64 i, .int .i64 m, .int .i64 d, .int .i64 u])] ((w.alloc (.cells #[.int .i64 i, .int .i64 m, .int .i64 d, .int .i64 u] 59)).alloc (.cells #[.int .i64 0, .int .i64 0, .int .i64 0, .int .i64 0] 59))) := (((BS.start w).new [.int .i64 i, .int .i64 m, .int .i64 d, .int .i64 u] 59 rfl).new [.int .i64 0, .int .i64 0, .int .i64 0, .int .i64 0] 59 (by simp))
  go_enter Tryz.func57, Tryz.ntmps57
  go_wp2_with fail
  refine (R.out _).mono ?_
  rintro e W1 ⟨rfl, hb⟩
  have K1 := bsb K0 hb
  clear hb K0
  obtain ⟨c1_0_0, c1_0_1, c1_0_2, c1_0_3⟩ := (bo1 K1).c4
  obtain ⟨z1_0_0, z1_0_1, z1_0_2, z1_0_3⟩ := (bo1 K1).f4
  obtain ⟨c1_1_0, c1_1_1, c1_1_2, c1_1_3⟩ := (bo2 K1).c4
  have XF : Hid (Bx (W1.setCells (w.heap.size + 1) 0 [.int .i64 0, .int .i64 0, .int .i64 0, .int .i64 0]) (w.heap.size + 1) [.int .i64 0, .int .i64 0, .int .i64 0, .int .i64 0]) := (K1.out.at (w.heap.size + 1) [.int .i64 0, .int .i64 0, .int .i64 0, .int .i64 0] (by simp)).setAll _ rfl
  have BF : Hid (Below w.heap.size w (W1.setCells (w.heap.size + 1) 0 [.int .i64 0, .int .i64 0, .int .i64 0, .int .i64 0])) := below_setCells (by omega) _ _ _ K1.out.1
  have y0 := XF.out.c 0 rfl
  have y1 := XF.out.c 1 rfl
  have y2 := XF.out.c 2 rfl
  have y3 := XF.out.c 3 rfl
  simp only [World.setCells, Nat.zero_add, Nat.reduceAdd] at y0 y1 y2 y3
  clear XF
  go_wp2
  exact bodyPost_ret (v := .tuple #[.agg #[.int .i64 0, .int .i64 0, .int .i64 0, .int .i64 0], .int .i64 1]) (by simp [results, Tryz.results57, go_sem, y0, y1, y2, y3]) rfl ⟨rfl, BF.out⟩

set_option maxRecDepth 100000 in
set_option maxHeartbeats 4000000 in
theorem rpneg_yes (i m d u : Int) (i1 : -1 ≤ i) (i2 : i ≤ 1) (m1 : -2147483647 ≤ m) (m2 : m ≤ 2147483647) (d1 : -2147483647 ≤ d) (d2 : d ≤ 2147483647) (u1 : -9223372036854775807 ≤ u) (u2 : u ≤ 9223372036854775807)
    (R : Hid (∀ w : World, Calls Tryz.prog 45 #[.agg #[.int .i64 i, .int .i64 m, .int .i64 d, .int .i64 u]] w fun r' w' => r' = .returned (.bool true) ∧ Below w.heap.size w w'))
    (w : World) :
    Calls Tryz.prog 57 #[.agg #[.int .i64 i, .int .i64 m, .int .i64 d, .int .i64 u]] w fun r' w' => r' = .returned (.tuple #[.agg #[.int .i64 (-i), .int .i64 (-m), .int .i64 (-d), .int .i64 (-u)], .int .i64 0]) ∧ Below w.heap.size w w' := by
  have K0 : Hid (BS w [(w.heap.size + 1, [.int .i64 0, .int .i64 0, .int .i64 0, .int .i64 0]), (w.heap.size, [.int .i64 i, .int .i64 m, .int .i64 d, .int .i64 u])] ((w.alloc (.cells #[.int .i64 i, .int .i64 m, .int .i64 d, .int .i64 u] 59)).alloc (.cells #[.int .i64 0, .int .i64 0, .int .i64 0, .int .i64 0] 59))) := (((BS.start w).new [.int .i64 i, .int .i64 m, .int .i64 d, .int .i64 u] 59 rfl).new [.int .i64 0, .int .i64 0, .int .i64 0, .int .i64 0] 59 (by simp))
  go_enter Tryz.func57, Tryz.ntmps57
  go_wp2_with fail
  refine (R.out _).mono ?_
  rintro e W1 ⟨rfl, hb⟩
  have K1 := bsb K0 hb
  clear hb K0
  obtain ⟨c1_0_0, c1_0_1, c1_0_2, c1_0_3⟩ := (bo1 K1).c4
  obtain ⟨z1_0_0, z1_0_1, z1_0_2, z1_0_3⟩ := (bo1 K1).f4
  obtain ⟨c1_1_0, c1_1_1, c1_1_2, c1_1_3⟩ := (bo2 K1).c4
  have XF : Hid (Bx (W1.setCells (w.heap.size + 1) 0 [.int .i64 (-i), .int .i64 (-m), .int .i64 (-d), .int .i64 (-u)]) (w.heap.size + 1) [.int .i64 (-i), .int .i64 (-m), .int .i64 (-d), .int .i64 (-u)]) := (K1.out.at (w.heap.size + 1) [.int .i64 0, .int .i64 0, .int .i64 0, .int .i64 0] (by simp)).setAll _ rfl
  have BF : Hid (Below w.heap.size w (W1.setCells (w.heap.size + 1) 0 [.int .i64 (-i), .int .i64 (-m), .int .i64 (-d), .int .i64 (-u)])) := below_setCells (by omega) _ _ _ K1.out.1
  have y0 := XF.out.c 0 rfl
  have y1 := XF.out.c 1 rfl
  have y2 := XF.out.c 2 rfl
  have y3 := XF.out.c 3 rfl
  simp only [World.setCells, Nat.zero_add, Nat.reduceAdd] at y0 y1 y2 y3
  clear XF
  go_wp2
  exact bodyPost_ret (v := .tuple #[.agg #[.int .i64 (-i), .int .i64 (-m), .int .i64 (-d), .int .i64 (-u)], .int .i64 0]) (by simp [results, Tryz.results57, go_sem, y0, y1, y2, y3]) rfl ⟨rfl, BF.out⟩


end Go.Proofs.YtigeccplombggaaGreatDoor.Sp

/- Intervals turned, together, apart, so many times: what each function answers, the program's and the reference's alike. -/
namespace Go.Proofs.YtigeccplombggaaGreatDoor.Sp
open Go.RowKit
set_option linter.unusedVariables false

/-- an answer: an interval, and what is wrong. -/
structure R5 where
  (i m d u e : Int)
abbrev v5 (x : R5) : Value := .tuple #[.agg #[.int .i64 x.i, .int .i64 x.m, .int .i64 x.d, .int .i64 x.u], .int .i64 x.e]
abbrev a4 (i m d u : Int) : Value := .agg #[.int .i64 i, .int .i64 m, .int .i64 d, .int .i64 u]
def err5 (e : Int) : R5 := ⟨0, 0, 0, 0, e⟩
def mk5 (m d u : Int) : R5 := ⟨0, gM m d u m, gM m d u d, gM m d u u, gE m d u⟩
def parts5 (v1 e1 v2 e2 v3 e3 : Int) : R5 := if e1 = 0 ∧ e2 = 0 ∧ e3 = 0 then mk5 v1 v2 v3 else err5 10
def mul5 (i m d u n : Int) : R5 := if pR i m d u = true then (if i = 0 then parts5 (smV (m * n)) (smE (m * n)) (smV (d * n)) (smE (d * n)) (smV (u * n)) (smE (u * n)) else if n = 0 then err5 10 else ⟨i * sgnC n 0, 0, 0, 0, 0⟩) else err5 1
def neg5 (i m d u : Int) : R5 := if pR i m d u = true then ⟨-i, -m, -d, -u, 0⟩ else err5 1
theorem smE_01 (x : Int) : smE x = 0 ∨ smE x = 10 := by unfold smE; split; exact .inl rfl; exact .inr rfl

theorem smV_bd (x : Int) : -9223372036854775808 ≤ smV x ∧ smV x ≤ 9223372036854775807 := by unfold smV; split; assumption; decide

theorem or_10 {a b c : Int} (ha : a = 0 ∨ a = 10) (hb : b = 0 ∨ b = 10) (hc : c = 0 ∨ c = 10) (h : ¬ (a = 0 ∧ b = 0 ∧ c = 0)) : orV a b c = 10 := by
  rcases ha with rfl | rfl
  · rcases hb with rfl | rfl
    · rcases hc with rfl | rfl
      · exact absurd ⟨rfl, rfl, rfl⟩ h
      · rfl
    · rfl
  · rfl

theorem each_times (m d u n : Int) (n1 : -9223372036854775808 ≤ n) (n2 : n ≤ 9223372036854775807) (m1 : -9223372036854775808 ≤ m) (m2 : m ≤ 9223372036854775807) (d1 : -9223372036854775808 ≤ d) (d2 : d ≤ 9223372036854775807) (u1 : -9223372036854775808 ≤ u) (u2 : u ≤ 9223372036854775807) (w : World) :
    Calls Tryz.prog 125 #[a4 0 m d u, .func (.func 126) #[.int .i64 n] #[], .func (.func 126) #[.int .i64 n] #[], .func (.func 126) #[.int .i64 n] #[]] w
      fun r w' => r = .returned (v5 (parts5 (smV (m * n)) (smE (m * n)) (smV (d * n)) (smE (d * n)) (smV (u * n)) (smE (u * n)))) ∧ Below w.heap.size w w' := by
  have F1 := fun w => times_meth n m _ _ (fun w => mul_any m n m1 m2 n1 n2 w) w
  have F2 := fun w => times_meth n d _ _ (fun w => mul_any d n d1 d2 n1 n2 w) w
  have F3 := fun w => times_meth n u _ _ (fun w => mul_any u n u1 u2 n1 n2 w) w
  by_cases h : smE (m * n) = 0 ∧ smE (d * n) = 0 ∧ smE (u * n) = 0
  · have e : orV (smE (m * n)) (smE (d * n)) (smE (u * n)) = 0 := by rw [h.1, h.2.1, h.2.2]; rfl
    unfold parts5
    rw [if_pos h]
    exact each_times_ok m d u n n n _ _ _ _ _ _ _ _ _ _ e F1 F2 F3 (fun w => pmake_any _ _ _ (smV_bd _).1 (smV_bd _).2 w) w
  · unfold parts5
    rw [if_neg h]
    exact each_times_bad m d u n n n _ _ _ _ _ _ 10 (or_10 (smE_01 _) (smE_01 _) (smE_01 _) h) (by decide) F1 F2 F3 w

theorem pright_is (i m d u : Int) (u1 : -9223372036854775808 ≤ u) (u2 : u ≤ 9223372036854775807) (c : Bool) (h : pR i m d u = c) : Hid (∀ w : World, Calls Tryz.prog 27 #[a4 i m d u] w fun r' w' => r' = .returned (.bool c) ∧ Below w.heap.size w w') := fun w => by rw [← h]; exact pr_any i m d u u1 u2 w

theorem rpright_is (i m d u : Int) (u1 : -9223372036854775808 ≤ u) (u2 : u ≤ 9223372036854775807) (c : Bool) (h : pR i m d u = c) : Hid (∀ w : World, Calls Tryz.prog 45 #[a4 i m d u] w fun r' w' => r' = .returned (.bool c) ∧ Below w.heap.size w w') := fun w => by rw [← h]; exact rpr_any i m d u u1 u2 w

theorem pmul_any (i m d u : Int) (m1 : -9223372036854775808 ≤ m) (m2 : m ≤ 9223372036854775807) (d1 : -9223372036854775808 ≤ d) (d2 : d ≤ 9223372036854775807) (u1 : -9223372036854775808 ≤ u) (u2 : u ≤ 9223372036854775807) (n : Int) (n1 : -9223372036854775808 ≤ n) (n2 : n ≤ 9223372036854775807) (w : World) :
    Calls Tryz.prog 97 #[a4 i m d u, .int .i64 n] w fun r w' => r = .returned (v5 (mul5 i m d u n)) ∧ Below w.heap.size w w' := by
  have RI := pright_is i m d u u1 u2
  unfold mul5
  cases h : pR i m d u
  · rw [if_neg (by decide)]; exact pmul_no i m d u n (RI false h) w
  · rw [if_pos rfl]
    by_cases h0 : i = 0
    · subst h0
      rw [if_pos rfl]
      exact pmul_each m d u n _ _ _ _ _ (RI true h) (fun w => each_times m d u n n1 n2 m1 m2 d1 d2 u1 u2 w) w
    · rw [if_neg h0]
      by_cases hn : n = 0
      · subst hn
        rw [if_pos rfl]; exact pmul_inf0 i m d u h0 (RI true h) w
      · rw [if_neg hn]
        rcases pR_yes h with q | ⟨q, rfl, rfl, rfl⟩
        · exact absurd q.1 h0
        · have C := fun w => cmp_int64_any n 0 w
          rcases Int.lt_or_gt_of_ne hn with k | k
          · rw [sgnC_lt k] at C ⊢
            rcases q with rfl | rfl
            · exact pmul_inf_mm n hn (RI true h) C w
            · exact pmul_inf_pm n hn (RI true h) C w
          · rw [sgnC_gt k] at C ⊢
            rcases q with rfl | rfl
            · exact pmul_inf_mp n hn (RI true h) C w
            · exact pmul_inf_pp n hn (RI true h) C w

theorem mul_neg (i m d u : Int) (m1 : -9223372036854775808 ≤ m) (m2 : m ≤ 9223372036854775807) (d1 : -9223372036854775808 ≤ d) (d2 : d ≤ 9223372036854775807) (u1 : -9223372036854775808 ≤ u) (u2 : u ≤ 9223372036854775807) (w : World) : mul5 i m d u (-1) = neg5 i m d u := by
  unfold mul5 neg5
  cases h : pR i m d u
  · rw [if_neg (by decide), if_neg (by decide)]
  · rw [if_pos rfl, if_pos rfl]
    rcases pR_yes h with ⟨rfl, a, b, c, e, f, g⟩ | ⟨q, rfl, rfl, rfl⟩
    · rw [if_pos rfl, show m * -1 = -m by omega, show d * -1 = -d by omega, show u * -1 = -u by omega, smV_in (by omega) (by omega), smE_in (by omega) (by omega), smV_in (by omega) (by omega), smE_in (by omega) (by omega), smV_in (by omega) (by omega), smE_in (by omega) (by omega)]
      unfold parts5
      rw [if_pos ⟨rfl, rfl, rfl⟩]
      unfold mk5
      obtain ⟨x, y, z, t⟩ := g_yes (pR_in (m := -m) (d := -d) (u := -u) (by omega) (by omega) (by omega) (by omega) (by omega) (by omega))
      rw [x, y, z, t]; rfl
    · have h0 : i ≠ 0 := by omega
      rw [if_neg h0, if_neg (by decide), sgnC_lt (by decide), show i * -1 = -i by omega]; rfl

theorem pneg_any (i m d u : Int) (m1 : -9223372036854775808 ≤ m) (m2 : m ≤ 9223372036854775807) (d1 : -9223372036854775808 ≤ d) (d2 : d ≤ 9223372036854775807) (u1 : -9223372036854775808 ≤ u) (u2 : u ≤ 9223372036854775807) (w : World) : Calls Tryz.prog 55 #[a4 i m d u] w fun r w' => r = .returned (v5 (neg5 i m d u)) ∧ Below w.heap.size w w' := by
  rw [← mul_neg i m d u m1 m2 d1 d2 u1 u2 w]
  exact pneg_run i m d u _ _ _ _ _ (fun w => pmul_any i m d u m1 m2 d1 d2 u1 u2 (-1) (by decide) (by decide) w) w

theorem rpneg_any (i m d u : Int) (m1 : -9223372036854775808 ≤ m) (m2 : m ≤ 9223372036854775807) (d1 : -9223372036854775808 ≤ d) (d2 : d ≤ 9223372036854775807) (u1 : -9223372036854775808 ≤ u) (u2 : u ≤ 9223372036854775807) (w : World) : Calls Tryz.prog 57 #[a4 i m d u] w fun r w' => r = .returned (v5 (neg5 i m d u)) ∧ Below w.heap.size w w' := by
  unfold neg5
  cases h : pR i m d u
  · rw [if_neg (by decide)]; exact rpneg_no i m d u (rpright_is i m d u u1 u2 false h) w
  · rw [if_pos rfl]
    have q := pR_yes h
    exact rpneg_yes i m d u (by omega) (by omega) (by omega) (by omega) (by omega) (by omega) (by omega) (by omega) (rpright_is i m d u u1 u2 true h) w

end Go.Proofs.YtigeccplombggaaGreatDoor.Sp
