/- The walk of DecOrder. -/
import Derived.Test.YtcflipkbncpababDoorDecL
namespace Go.Proofs.YtcflipkbncpababDoor
open Go.RowKit
set_option linter.unusedVariables false

set_option maxHeartbeats 400000 in
theorem rright_yes (n s : Int) (h : rt s = true) (w : World) :
    Calls Tryd.prog 20 #[.agg #[.int .i64 n, .int .i64 s]] w fun e w' => e = .returned (.bool true) ∧ Below w.heap.size w w' := by
  obtain ⟨h1, h2⟩ := rt_yes h
  clear h
  go_enter Tryd.func20, Tryd.ntmps20
  go_wp2
  go_ret
  exact ⟨rfl, (by repeat' (first | assumption | exact Below.refl _ _ | exact Nat.le_refl _ | refine Below.alloc ?_ ?_ _ | (simp; done) | (simp; omega) | omega))⟩

set_option maxHeartbeats 400000 in
theorem rright_no (n s : Int) (h : rt s = false) (w : World) :
    Calls Tryd.prog 20 #[.agg #[.int .i64 n, .int .i64 s]] w fun e w' => e = .returned (.bool false) ∧ Below w.heap.size w w' := by
  have h1 := rt_no h
  clear h
  rcases h1 with h1 | h1
  · go_enter Tryd.func20, Tryd.ntmps20
    go_wp2
    go_ret
    exact ⟨rfl, (by repeat' (first | assumption | exact Below.refl _ _ | exact Nat.le_refl _ | refine Below.alloc ?_ ?_ _ | (simp; done) | (simp; omega) | omega))⟩
  · have h2 : 0 ≤ s := by omega
    go_enter Tryd.func20, Tryd.ntmps20
    go_wp2
    go_ret
    exact ⟨ret_bool (decide_eq_false (by omega)), (by repeat' (first | assumption | exact Below.refl _ _ | exact Nat.le_refl _ | refine Below.alloc ?_ ?_ _ | (simp; done) | (simp; omega) | omega))⟩

set_option maxRecDepth 100000 in
set_option maxHeartbeats 8000000 in
theorem core_DecOrder_a (xn xs yn ys pl : Int) 
    (HX : (Hid (∀ w : World, Calls Tryd.prog 10 #[.agg #[.int .i64 xn, .int .i64 xs]] w fun e w' => e = .returned (.agg #[.int .i64 xn, .int .i64 xs]) ∧ Below w.heap.size w w')))
    (HY : (Hid (∀ w : World, Calls Tryd.prog 10 #[.agg #[.int .i64 yn, .int .i64 ys]] w fun e w' => e = .returned (.agg #[.int .i64 yn, .int .i64 ys]) ∧ Below w.heap.size w w')))
    (RX : (Hid (∀ w : World, Calls Tryd.prog 20 #[.agg #[.int .i64 xn, .int .i64 xs]] w fun e w' => e = .returned (.bool false) ∧ Below w.heap.size w w')))
    (KN : Hid (∀ w : World, Tab w → Calls Tryd.prog 21 #[] w fun e w' => e = .returned (.bool true) ∧ Below w.heap.size w w')) (w : World) (hT : Hid (Tab w)) :
    Calls Tryd.prog 7 #[.agg #[.int .i64 xn, .int .i64 xs], .agg #[.int .i64 yn, .int .i64 ys], .int .i64 pl] w fun e w' => e = .returned (.bool true) ∧ Below w.heap.size w w' := by
  have L0 := LS.start w xn xs yn ys 23
  go_enter Tryd.func7, Tryd.ntmps7
  go_wp2_with fail
  refine gen_world (LS w [(w.heap.size, xn, xs), (w.heap.size + 1, yn, ys)]) L0 ?_
  clear L0
  rintro W1 K1
  refine wp_region_held_drew (S := LS w [(w.heap.size, xn, xs), (w.heap.size + 1, yn, ys)]) (by kernel_rfl) K1.drew (fun hHeld => ?_)
  refine wpAnyH_take (i := 0) (v := ?_) (oi := { dst := some 15, op := _, type := _, pos := _, after := _, guard := none }) rfl (by kernel_rfl) (by kernel_rfl) (by kernel_rfl) (fun _ _ _ h => h) (Or.inl ⟨by kernel_rfl, ?_⟩) (by assumption) ?_
  case refine_2 => (intro w9 hSw; obtain ⟨sa0, sb0, sc0, sd0, se0⟩ := hSw.2 (w.heap.size, xn, xs) (by simp); obtain ⟨sa1, sb1, sc1, sd1, se1⟩ := hSw.2 (w.heap.size + 1, yn, ys) (by simp); clear hSw; go_simp; try with_reducible rfl)
  simp only [Act.put, List.setIfInBounds_toArray, List.set_cons_zero, List.set_cons_succ]
  refine wpAnyH_ready (rs := [1]) (by kernel_rfl) (by simp) (AllReadyH.cons (o := { dst := some 16, op := _, type := _, pos := _, after := _, guard := none }) rfl (fun K hK => ?_) AllReadyH.nil)
  go_simp
  refine (RX.out _).mono ?_
  rintro e v1 ⟨rfl, hb1⟩
  refine hK.out _ _ (hHeld.below hb1) (fun hHeld => ?_)
  clear hK K hb1
  refine wpAnyH_take (i := 2) (v := ?_) (oi := { dst := some 17, op := _, type := _, pos := _, after := _, guard := none }) rfl (by kernel_rfl) (by kernel_rfl) (by kernel_rfl) (fun _ _ _ h => h) (Or.inl ⟨by kernel_rfl, ?_⟩) (by assumption) ?_
  case refine_2 => (intro w9 hSw; clear hSw; go_simp; try with_reducible rfl)
  simp only [Act.put, List.setIfInBounds_toArray, List.set_cons_zero, List.set_cons_succ]
  refine wpAnyH_take (i := 3) (v := ?_) (oi := { dst := some 18, op := _, type := _, pos := _, after := _, guard := none }) rfl (by kernel_rfl) (by kernel_rfl) (by kernel_rfl) (fun _ _ _ h => h) (Or.inl ⟨by kernel_rfl, ?_⟩) (by assumption) ?_
  case refine_2 => (intro w9 hSw; clear hSw; go_simp; try with_reducible rfl)
  simp only [Act.put, List.setIfInBounds_toArray, List.set_cons_zero, List.set_cons_succ]
  refine wpAnyH_take (i := 4) (v := undef) (oi := { dst := some 19, op := _, type := _, pos := _, after := _, guard := some (3, false) }) rfl (by kernel_rfl) (by kernel_rfl) (by kernel_rfl) (fun _ _ _ h => h) (Or.inr ⟨by kernel_rfl, rfl⟩) (by assumption) ?_
  simp only [Act.put, List.setIfInBounds_toArray, List.set_cons_zero, List.set_cons_succ]
  refine wpAnyH_take (i := 5) (v := undef) (oi := { dst := some 20, op := _, type := _, pos := _, after := _, guard := some (3, false) }) rfl (by kernel_rfl) (by kernel_rfl) (by kernel_rfl) (fun _ _ _ h => h) (Or.inr ⟨by kernel_rfl, rfl⟩) (by assumption) ?_
  simp only [Act.put, List.setIfInBounds_toArray, List.set_cons_zero, List.set_cons_succ]
  refine wpAnyH_take (i := 6) (v := undef) (oi := { dst := some 21, op := _, type := _, pos := _, after := _, guard := some (3, false) }) rfl (by kernel_rfl) (by kernel_rfl) (by kernel_rfl) (fun _ _ _ h => h) (Or.inr ⟨by kernel_rfl, rfl⟩) (by assumption) ?_
  simp only [Act.put, List.setIfInBounds_toArray, List.set_cons_zero, List.set_cons_succ]
  refine wpAnyH_take (i := 7) (v := ?_) (oi := { dst := some 22, op := _, type := _, pos := _, after := _, guard := none }) rfl (by kernel_rfl) (by kernel_rfl) (by kernel_rfl) (fun _ _ _ h => h) (Or.inl ⟨by kernel_rfl, ?_⟩) (by assumption) ?_
  case refine_2 => (intro w9 hSw; clear hSw; go_simp; try with_reducible rfl)
  simp only [Act.put, List.setIfInBounds_toArray, List.set_cons_zero, List.set_cons_succ]
  refine wpAnyH_take (i := 8) (v := ?_) (oi := { dst := some 23, op := _, type := _, pos := _, after := _, guard := none }) rfl (by kernel_rfl) (by kernel_rfl) (by kernel_rfl) (fun _ _ _ h => h) (Or.inl ⟨by kernel_rfl, ?_⟩) (by assumption) ?_
  case refine_2 => (intro w9 hSw; clear hSw; go_simp; try with_reducible rfl)
  simp only [Act.put, List.setIfInBounds_toArray, List.set_cons_zero, List.set_cons_succ]
  refine wpAnyH_take (i := 9) (v := undef) (oi := { dst := some 24, op := _, type := _, pos := _, after := _, guard := some (8, false) }) rfl (by kernel_rfl) (by kernel_rfl) (by kernel_rfl) (fun _ _ _ h => h) (Or.inr ⟨by kernel_rfl, rfl⟩) (by assumption) ?_
  simp only [Act.put, List.setIfInBounds_toArray, List.set_cons_zero, List.set_cons_succ]
  refine wpAnyH_take (i := 10) (v := undef) (oi := { dst := some 25, op := _, type := _, pos := _, after := _, guard := some (8, false) }) rfl (by kernel_rfl) (by kernel_rfl) (by kernel_rfl) (fun _ _ _ h => h) (Or.inr ⟨by kernel_rfl, rfl⟩) (by assumption) ?_
  simp only [Act.put, List.setIfInBounds_toArray, List.set_cons_zero, List.set_cons_succ]
  refine wpAnyH_take (i := 11) (v := undef) (oi := { dst := some 26, op := _, type := _, pos := _, after := _, guard := some (8, false) }) rfl (by kernel_rfl) (by kernel_rfl) (by kernel_rfl) (fun _ _ _ h => h) (Or.inr ⟨by kernel_rfl, rfl⟩) (by assumption) ?_
  simp only [Act.put, List.setIfInBounds_toArray, List.set_cons_zero, List.set_cons_succ]
  refine wpAnyH_take (i := 12) (v := undef) (oi := { dst := some 27, op := _, type := _, pos := _, after := _, guard := some (8, false) }) rfl (by kernel_rfl) (by kernel_rfl) (by kernel_rfl) (fun _ _ _ h => h) (Or.inr ⟨by kernel_rfl, rfl⟩) (by assumption) ?_
  simp only [Act.put, List.setIfInBounds_toArray, List.set_cons_zero, List.set_cons_succ]
  refine wpAnyH_take (i := 13) (v := undef) (oi := { dst := some 28, op := _, type := _, pos := _, after := _, guard := some (8, false) }) rfl (by kernel_rfl) (by kernel_rfl) (by kernel_rfl) (fun _ _ _ h => h) (Or.inr ⟨by kernel_rfl, rfl⟩) (by assumption) ?_
  simp only [Act.put, List.setIfInBounds_toArray, List.set_cons_zero, List.set_cons_succ]
  refine wpAnyH_take (i := 14) (v := undef) (oi := { dst := some 29, op := _, type := _, pos := _, after := _, guard := some (8, false) }) rfl (by kernel_rfl) (by kernel_rfl) (by kernel_rfl) (fun _ _ _ h => h) (Or.inr ⟨by kernel_rfl, rfl⟩) (by assumption) ?_
  simp only [Act.put, List.setIfInBounds_toArray, List.set_cons_zero, List.set_cons_succ]
  refine wpAnyH_take (i := 15) (v := ?_) (oi := { dst := some 30, op := _, type := _, pos := _, after := _, guard := none }) rfl (by kernel_rfl) (by kernel_rfl) (by kernel_rfl) (fun _ _ _ h => h) (Or.inl ⟨by kernel_rfl, ?_⟩) (by assumption) ?_
  case refine_2 => (intro w9 hSw; clear hSw; go_simp; try with_reducible rfl)
  simp only [Act.put, List.setIfInBounds_toArray, List.set_cons_zero, List.set_cons_succ]
  refine wpAnyH_done (by kernel_rfl) ?_ _
  go_wp2_with fail
  refine (KN.out _ (hT.out.below hHeld.1)).mono ?_
  rintro e V99 ⟨rfl, hb⟩
  go_wp2
  go_ret
  exact ⟨rfl, (hHeld.below hb).1⟩

set_option maxRecDepth 100000 in
set_option maxHeartbeats 8000000 in
theorem core_DecOrder_b (xn xs yn ys pl : Int) 
    (HX : (Hid (∀ w : World, Calls Tryd.prog 10 #[.agg #[.int .i64 xn, .int .i64 xs]] w fun e w' => e = .returned (.agg #[.int .i64 xn, .int .i64 xs]) ∧ Below w.heap.size w w')))
    (HY : (Hid (∀ w : World, Calls Tryd.prog 10 #[.agg #[.int .i64 yn, .int .i64 ys]] w fun e w' => e = .returned (.agg #[.int .i64 yn, .int .i64 ys]) ∧ Below w.heap.size w w')))
    (RX : (Hid (∀ w : World, Calls Tryd.prog 20 #[.agg #[.int .i64 xn, .int .i64 xs]] w fun e w' => e = .returned (.bool true) ∧ Below w.heap.size w w')))
    (RY : (Hid (∀ w : World, Calls Tryd.prog 20 #[.agg #[.int .i64 yn, .int .i64 ys]] w fun e w' => e = .returned (.bool false) ∧ Below w.heap.size w w')))
    (KN : Hid (∀ w : World, Tab w → Calls Tryd.prog 21 #[] w fun e w' => e = .returned (.bool true) ∧ Below w.heap.size w w')) (w : World) (hT : Hid (Tab w)) :
    Calls Tryd.prog 7 #[.agg #[.int .i64 xn, .int .i64 xs], .agg #[.int .i64 yn, .int .i64 ys], .int .i64 pl] w fun e w' => e = .returned (.bool true) ∧ Below w.heap.size w w' := by
  have L0 := LS.start w xn xs yn ys 23
  go_enter Tryd.func7, Tryd.ntmps7
  go_wp2_with fail
  refine gen_world (LS w [(w.heap.size, xn, xs), (w.heap.size + 1, yn, ys)]) L0 ?_
  clear L0
  rintro W1 K1
  refine wp_region_held_drew (S := LS w [(w.heap.size, xn, xs), (w.heap.size + 1, yn, ys)]) (by kernel_rfl) K1.drew (fun hHeld => ?_)
  refine wpAnyH_take (i := 0) (v := ?_) (oi := { dst := some 15, op := _, type := _, pos := _, after := _, guard := none }) rfl (by kernel_rfl) (by kernel_rfl) (by kernel_rfl) (fun _ _ _ h => h) (Or.inl ⟨by kernel_rfl, ?_⟩) (by assumption) ?_
  case refine_2 => (intro w9 hSw; obtain ⟨sa0, sb0, sc0, sd0, se0⟩ := hSw.2 (w.heap.size, xn, xs) (by simp); obtain ⟨sa1, sb1, sc1, sd1, se1⟩ := hSw.2 (w.heap.size + 1, yn, ys) (by simp); clear hSw; go_simp; try with_reducible rfl)
  simp only [Act.put, List.setIfInBounds_toArray, List.set_cons_zero, List.set_cons_succ]
  refine wpAnyH_ready (rs := [1]) (by kernel_rfl) (by simp) (AllReadyH.cons (o := { dst := some 16, op := _, type := _, pos := _, after := _, guard := none }) rfl (fun K hK => ?_) AllReadyH.nil)
  go_simp
  refine (RX.out _).mono ?_
  rintro e v1 ⟨rfl, hb1⟩
  refine hK.out _ _ (hHeld.below hb1) (fun hHeld => ?_)
  clear hK K hb1
  refine wpAnyH_take (i := 2) (v := ?_) (oi := { dst := some 17, op := _, type := _, pos := _, after := _, guard := none }) rfl (by kernel_rfl) (by kernel_rfl) (by kernel_rfl) (fun _ _ _ h => h) (Or.inl ⟨by kernel_rfl, ?_⟩) (by assumption) ?_
  case refine_2 => (intro w9 hSw; clear hSw; go_simp; try with_reducible rfl)
  simp only [Act.put, List.setIfInBounds_toArray, List.set_cons_zero, List.set_cons_succ]
  refine wpAnyH_take (i := 3) (v := ?_) (oi := { dst := some 18, op := _, type := _, pos := _, after := _, guard := none }) rfl (by kernel_rfl) (by kernel_rfl) (by kernel_rfl) (fun _ _ _ h => h) (Or.inl ⟨by kernel_rfl, ?_⟩) (by assumption) ?_
  case refine_2 => (intro w9 hSw; clear hSw; go_simp; try with_reducible rfl)
  simp only [Act.put, List.setIfInBounds_toArray, List.set_cons_zero, List.set_cons_succ]
  refine wpAnyH_take (i := 4) (v := ?_) (oi := { dst := some 19, op := _, type := _, pos := _, after := _, guard := some (3, false) }) rfl (by kernel_rfl) (by kernel_rfl) (by kernel_rfl) (fun _ _ _ h => h) (Or.inl ⟨by kernel_rfl, ?_⟩) (by assumption) ?_
  case refine_2 => (intro w9 hSw; obtain ⟨sa0, sb0, sc0, sd0, se0⟩ := hSw.2 (w.heap.size, xn, xs) (by simp); obtain ⟨sa1, sb1, sc1, sd1, se1⟩ := hSw.2 (w.heap.size + 1, yn, ys) (by simp); clear hSw; go_simp; try with_reducible rfl)
  simp only [Act.put, List.setIfInBounds_toArray, List.set_cons_zero, List.set_cons_succ]
  refine wpAnyH_ready (rs := [5]) (by kernel_rfl) (by simp) (AllReadyH.cons (o := { dst := some 20, op := _, type := _, pos := _, after := _, guard := some (3, false) }) rfl (fun K hK => ?_) AllReadyH.nil)
  go_simp
  refine (RY.out _).mono ?_
  rintro e v2 ⟨rfl, hb2⟩
  refine hK.out _ _ (hHeld.below hb2) (fun hHeld => ?_)
  clear hK K hb2
  refine wpAnyH_take (i := 6) (v := ?_) (oi := { dst := some 21, op := _, type := _, pos := _, after := _, guard := some (3, false) }) rfl (by kernel_rfl) (by kernel_rfl) (by kernel_rfl) (fun _ _ _ h => h) (Or.inl ⟨by kernel_rfl, ?_⟩) (by assumption) ?_
  case refine_2 => (intro w9 hSw; clear hSw; go_simp; try with_reducible rfl)
  simp only [Act.put, List.setIfInBounds_toArray, List.set_cons_zero, List.set_cons_succ]
  refine wpAnyH_take (i := 7) (v := ?_) (oi := { dst := some 22, op := _, type := _, pos := _, after := _, guard := none }) rfl (by kernel_rfl) (by kernel_rfl) (by kernel_rfl) (fun _ _ _ h => h) (Or.inl ⟨by kernel_rfl, ?_⟩) (by assumption) ?_
  case refine_2 => (intro w9 hSw; clear hSw; go_simp; try with_reducible rfl)
  simp only [Act.put, List.setIfInBounds_toArray, List.set_cons_zero, List.set_cons_succ]
  refine wpAnyH_take (i := 8) (v := ?_) (oi := { dst := some 23, op := _, type := _, pos := _, after := _, guard := none }) rfl (by kernel_rfl) (by kernel_rfl) (by kernel_rfl) (fun _ _ _ h => h) (Or.inl ⟨by kernel_rfl, ?_⟩) (by assumption) ?_
  case refine_2 => (intro w9 hSw; clear hSw; go_simp; try with_reducible rfl)
  simp only [Act.put, List.setIfInBounds_toArray, List.set_cons_zero, List.set_cons_succ]
  refine wpAnyH_take (i := 9) (v := undef) (oi := { dst := some 24, op := _, type := _, pos := _, after := _, guard := some (8, false) }) rfl (by kernel_rfl) (by kernel_rfl) (by kernel_rfl) (fun _ _ _ h => h) (Or.inr ⟨by kernel_rfl, rfl⟩) (by assumption) ?_
  simp only [Act.put, List.setIfInBounds_toArray, List.set_cons_zero, List.set_cons_succ]
  refine wpAnyH_take (i := 10) (v := undef) (oi := { dst := some 25, op := _, type := _, pos := _, after := _, guard := some (8, false) }) rfl (by kernel_rfl) (by kernel_rfl) (by kernel_rfl) (fun _ _ _ h => h) (Or.inr ⟨by kernel_rfl, rfl⟩) (by assumption) ?_
  simp only [Act.put, List.setIfInBounds_toArray, List.set_cons_zero, List.set_cons_succ]
  refine wpAnyH_take (i := 11) (v := undef) (oi := { dst := some 26, op := _, type := _, pos := _, after := _, guard := some (8, false) }) rfl (by kernel_rfl) (by kernel_rfl) (by kernel_rfl) (fun _ _ _ h => h) (Or.inr ⟨by kernel_rfl, rfl⟩) (by assumption) ?_
  simp only [Act.put, List.setIfInBounds_toArray, List.set_cons_zero, List.set_cons_succ]
  refine wpAnyH_take (i := 12) (v := undef) (oi := { dst := some 27, op := _, type := _, pos := _, after := _, guard := some (8, false) }) rfl (by kernel_rfl) (by kernel_rfl) (by kernel_rfl) (fun _ _ _ h => h) (Or.inr ⟨by kernel_rfl, rfl⟩) (by assumption) ?_
  simp only [Act.put, List.setIfInBounds_toArray, List.set_cons_zero, List.set_cons_succ]
  refine wpAnyH_take (i := 13) (v := undef) (oi := { dst := some 28, op := _, type := _, pos := _, after := _, guard := some (8, false) }) rfl (by kernel_rfl) (by kernel_rfl) (by kernel_rfl) (fun _ _ _ h => h) (Or.inr ⟨by kernel_rfl, rfl⟩) (by assumption) ?_
  simp only [Act.put, List.setIfInBounds_toArray, List.set_cons_zero, List.set_cons_succ]
  refine wpAnyH_take (i := 14) (v := undef) (oi := { dst := some 29, op := _, type := _, pos := _, after := _, guard := some (8, false) }) rfl (by kernel_rfl) (by kernel_rfl) (by kernel_rfl) (fun _ _ _ h => h) (Or.inr ⟨by kernel_rfl, rfl⟩) (by assumption) ?_
  simp only [Act.put, List.setIfInBounds_toArray, List.set_cons_zero, List.set_cons_succ]
  refine wpAnyH_take (i := 15) (v := ?_) (oi := { dst := some 30, op := _, type := _, pos := _, after := _, guard := none }) rfl (by kernel_rfl) (by kernel_rfl) (by kernel_rfl) (fun _ _ _ h => h) (Or.inl ⟨by kernel_rfl, ?_⟩) (by assumption) ?_
  case refine_2 => (intro w9 hSw; clear hSw; go_simp; try with_reducible rfl)
  simp only [Act.put, List.setIfInBounds_toArray, List.set_cons_zero, List.set_cons_succ]
  refine wpAnyH_done (by kernel_rfl) ?_ _
  go_wp2_with fail
  refine (KN.out _ (hT.out.below hHeld.1)).mono ?_
  rintro e V99 ⟨rfl, hb⟩
  go_wp2
  go_ret
  exact ⟨rfl, (hHeld.below hb).1⟩

set_option maxRecDepth 100000 in
set_option maxHeartbeats 8000000 in
theorem core_DecOrder_c (xn xs yn ys pl C : Int) (hC : 0 < C)
    (HX : (Hid (∀ w : World, Calls Tryd.prog 10 #[.agg #[.int .i64 xn, .int .i64 xs]] w fun e w' => e = .returned (.agg #[.int .i64 xn, .int .i64 xs]) ∧ Below w.heap.size w w')))
    (HY : (Hid (∀ w : World, Calls Tryd.prog 10 #[.agg #[.int .i64 yn, .int .i64 ys]] w fun e w' => e = .returned (.agg #[.int .i64 yn, .int .i64 ys]) ∧ Below w.heap.size w w')))
    (RX : (Hid (∀ w : World, Calls Tryd.prog 20 #[.agg #[.int .i64 xn, .int .i64 xs]] w fun e w' => e = .returned (.bool true) ∧ Below w.heap.size w w')))
    (RY : (Hid (∀ w : World, Calls Tryd.prog 20 #[.agg #[.int .i64 yn, .int .i64 ys]] w fun e w' => e = .returned (.bool true) ∧ Below w.heap.size w w')))
    (CX : (Hid (∀ w : World, Calls Tryd.prog 17 #[.agg #[.int .i64 xn, .int .i64 xs], .agg #[.int .i64 yn, .int .i64 ys]] w fun e w' => e = .returned (.int .i64 C) ∧ Below w.heap.size w w')))
    (KN : Hid (∀ w : World, Tab w → Calls Tryd.prog 21 #[] w fun e w' => e = .returned (.bool true) ∧ Below w.heap.size w w')) (w : World) (hT : Hid (Tab w)) :
    Calls Tryd.prog 7 #[.agg #[.int .i64 xn, .int .i64 xs], .agg #[.int .i64 yn, .int .i64 ys], .int .i64 pl] w fun e w' => e = .returned (.bool true) ∧ Below w.heap.size w w' := by
  have L0 := LS.start w xn xs yn ys 23
  go_enter Tryd.func7, Tryd.ntmps7
  go_wp2_with fail
  refine gen_world (LS w [(w.heap.size, xn, xs), (w.heap.size + 1, yn, ys)]) L0 ?_
  clear L0
  rintro W1 K1
  refine wp_region_held_drew (S := LS w [(w.heap.size, xn, xs), (w.heap.size + 1, yn, ys)]) (by kernel_rfl) K1.drew (fun hHeld => ?_)
  refine wpAnyH_take (i := 0) (v := ?_) (oi := { dst := some 15, op := _, type := _, pos := _, after := _, guard := none }) rfl (by kernel_rfl) (by kernel_rfl) (by kernel_rfl) (fun _ _ _ h => h) (Or.inl ⟨by kernel_rfl, ?_⟩) (by assumption) ?_
  case refine_2 => (intro w9 hSw; obtain ⟨sa0, sb0, sc0, sd0, se0⟩ := hSw.2 (w.heap.size, xn, xs) (by simp); obtain ⟨sa1, sb1, sc1, sd1, se1⟩ := hSw.2 (w.heap.size + 1, yn, ys) (by simp); clear hSw; go_simp; try with_reducible rfl)
  simp only [Act.put, List.setIfInBounds_toArray, List.set_cons_zero, List.set_cons_succ]
  refine wpAnyH_ready (rs := [1]) (by kernel_rfl) (by simp) (AllReadyH.cons (o := { dst := some 16, op := _, type := _, pos := _, after := _, guard := none }) rfl (fun K hK => ?_) AllReadyH.nil)
  go_simp
  refine (RX.out _).mono ?_
  rintro e v1 ⟨rfl, hb1⟩
  refine hK.out _ _ (hHeld.below hb1) (fun hHeld => ?_)
  clear hK K hb1
  refine wpAnyH_take (i := 2) (v := ?_) (oi := { dst := some 17, op := _, type := _, pos := _, after := _, guard := none }) rfl (by kernel_rfl) (by kernel_rfl) (by kernel_rfl) (fun _ _ _ h => h) (Or.inl ⟨by kernel_rfl, ?_⟩) (by assumption) ?_
  case refine_2 => (intro w9 hSw; clear hSw; go_simp; try with_reducible rfl)
  simp only [Act.put, List.setIfInBounds_toArray, List.set_cons_zero, List.set_cons_succ]
  refine wpAnyH_take (i := 3) (v := ?_) (oi := { dst := some 18, op := _, type := _, pos := _, after := _, guard := none }) rfl (by kernel_rfl) (by kernel_rfl) (by kernel_rfl) (fun _ _ _ h => h) (Or.inl ⟨by kernel_rfl, ?_⟩) (by assumption) ?_
  case refine_2 => (intro w9 hSw; clear hSw; go_simp; try with_reducible rfl)
  simp only [Act.put, List.setIfInBounds_toArray, List.set_cons_zero, List.set_cons_succ]
  refine wpAnyH_take (i := 4) (v := ?_) (oi := { dst := some 19, op := _, type := _, pos := _, after := _, guard := some (3, false) }) rfl (by kernel_rfl) (by kernel_rfl) (by kernel_rfl) (fun _ _ _ h => h) (Or.inl ⟨by kernel_rfl, ?_⟩) (by assumption) ?_
  case refine_2 => (intro w9 hSw; obtain ⟨sa0, sb0, sc0, sd0, se0⟩ := hSw.2 (w.heap.size, xn, xs) (by simp); obtain ⟨sa1, sb1, sc1, sd1, se1⟩ := hSw.2 (w.heap.size + 1, yn, ys) (by simp); clear hSw; go_simp; try with_reducible rfl)
  simp only [Act.put, List.setIfInBounds_toArray, List.set_cons_zero, List.set_cons_succ]
  refine wpAnyH_ready (rs := [5]) (by kernel_rfl) (by simp) (AllReadyH.cons (o := { dst := some 20, op := _, type := _, pos := _, after := _, guard := some (3, false) }) rfl (fun K hK => ?_) AllReadyH.nil)
  go_simp
  refine (RY.out _).mono ?_
  rintro e v2 ⟨rfl, hb2⟩
  refine hK.out _ _ (hHeld.below hb2) (fun hHeld => ?_)
  clear hK K hb2
  refine wpAnyH_take (i := 6) (v := ?_) (oi := { dst := some 21, op := _, type := _, pos := _, after := _, guard := some (3, false) }) rfl (by kernel_rfl) (by kernel_rfl) (by kernel_rfl) (fun _ _ _ h => h) (Or.inl ⟨by kernel_rfl, ?_⟩) (by assumption) ?_
  case refine_2 => (intro w9 hSw; clear hSw; go_simp; try with_reducible rfl)
  simp only [Act.put, List.setIfInBounds_toArray, List.set_cons_zero, List.set_cons_succ]
  refine wpAnyH_take (i := 7) (v := ?_) (oi := { dst := some 22, op := _, type := _, pos := _, after := _, guard := none }) rfl (by kernel_rfl) (by kernel_rfl) (by kernel_rfl) (fun _ _ _ h => h) (Or.inl ⟨by kernel_rfl, ?_⟩) (by assumption) ?_
  case refine_2 => (intro w9 hSw; clear hSw; go_simp; try with_reducible rfl)
  simp only [Act.put, List.setIfInBounds_toArray, List.set_cons_zero, List.set_cons_succ]
  refine wpAnyH_take (i := 8) (v := ?_) (oi := { dst := some 23, op := _, type := _, pos := _, after := _, guard := none }) rfl (by kernel_rfl) (by kernel_rfl) (by kernel_rfl) (fun _ _ _ h => h) (Or.inl ⟨by kernel_rfl, ?_⟩) (by assumption) ?_
  case refine_2 => (intro w9 hSw; clear hSw; go_simp; try with_reducible rfl)
  simp only [Act.put, List.setIfInBounds_toArray, List.set_cons_zero, List.set_cons_succ]
  refine wpAnyH_take (i := 9) (v := ?_) (oi := { dst := some 24, op := _, type := _, pos := _, after := _, guard := some (8, false) }) rfl (by kernel_rfl) (by kernel_rfl) (by kernel_rfl) (fun _ _ _ h => h) (Or.inl ⟨by kernel_rfl, ?_⟩) (by assumption) ?_
  case refine_2 => (intro w9 hSw; obtain ⟨sa0, sb0, sc0, sd0, se0⟩ := hSw.2 (w.heap.size, xn, xs) (by simp); obtain ⟨sa1, sb1, sc1, sd1, se1⟩ := hSw.2 (w.heap.size + 1, yn, ys) (by simp); clear hSw; go_simp; try with_reducible rfl)
  simp only [Act.put, List.setIfInBounds_toArray, List.set_cons_zero, List.set_cons_succ]
  refine wpAnyH_take (i := 11) (v := ?_) (oi := { dst := some 26, op := _, type := _, pos := _, after := _, guard := some (8, false) }) rfl (by kernel_rfl) (by kernel_rfl) (by kernel_rfl) (fun _ _ _ h => h) (Or.inl ⟨by kernel_rfl, ?_⟩) (by assumption) ?_
  case refine_2 => (intro w9 hSw; obtain ⟨sa0, sb0, sc0, sd0, se0⟩ := hSw.2 (w.heap.size, xn, xs) (by simp); obtain ⟨sa1, sb1, sc1, sd1, se1⟩ := hSw.2 (w.heap.size + 1, yn, ys) (by simp); clear hSw; go_simp; try with_reducible rfl)
  simp only [Act.put, List.setIfInBounds_toArray, List.set_cons_zero, List.set_cons_succ]
  refine wpAnyH_ready (rs := [10]) (by kernel_rfl) (by simp) (AllReadyH.cons (o := { dst := some 25, op := _, type := _, pos := _, after := _, guard := some (8, false) }) rfl (fun K hK => ?_) AllReadyH.nil)
  go_simp
  refine (HX.out _).mono ?_
  rintro e v3 ⟨rfl, hb3⟩
  refine hK.out _ _ (hHeld.below hb3) (fun hHeld => ?_)
  clear hK K hb3
  refine wpAnyH_ready (rs := [12]) (by kernel_rfl) (by simp) (AllReadyH.cons (o := { dst := some 27, op := _, type := _, pos := _, after := _, guard := some (8, false) }) rfl (fun K hK => ?_) AllReadyH.nil)
  go_simp
  refine (HY.out _).mono ?_
  rintro e v4 ⟨rfl, hb4⟩
  refine hK.out _ _ (hHeld.below hb4) (fun hHeld => ?_)
  clear hK K hb4
  refine wpAnyH_ready (rs := [13]) (by kernel_rfl) (by simp) (AllReadyH.cons (o := { dst := some 28, op := _, type := _, pos := _, after := _, guard := some (8, false) }) rfl (fun K hK => ?_) AllReadyH.nil)
  go_simp
  refine (CX.out _).mono ?_
  rintro e v5 ⟨rfl, hb5⟩
  refine hK.out _ _ (hHeld.below hb5) (fun hHeld => ?_)
  clear hK K hb5
  refine wpAnyH_take (i := 14) (v := ?_) (oi := { dst := some 29, op := _, type := _, pos := _, after := _, guard := some (8, false) }) rfl (by kernel_rfl) (by kernel_rfl) (by kernel_rfl) (fun _ _ _ h => h) (Or.inl ⟨by kernel_rfl, ?_⟩) (by assumption) ?_
  case refine_2 => (intro w9 hSw; clear hSw; go_simp; try with_reducible rfl)
  simp only [Act.put, List.setIfInBounds_toArray, List.set_cons_zero, List.set_cons_succ]
  refine wpAnyH_take (i := 15) (v := ?_) (oi := { dst := some 30, op := _, type := _, pos := _, after := _, guard := none }) rfl (by kernel_rfl) (by kernel_rfl) (by kernel_rfl) (fun _ _ _ h => h) (Or.inl ⟨by kernel_rfl, ?_⟩) (by assumption) ?_
  case refine_2 => (intro w9 hSw; clear hSw; go_simp; try with_reducible rfl)
  simp only [Act.put, List.setIfInBounds_toArray, List.set_cons_zero, List.set_cons_succ]
  refine wpAnyH_done (by kernel_rfl) ?_ _
  go_wp2_with fail
  refine (KN.out _ (hT.out.below hHeld.1)).mono ?_
  rintro e V99 ⟨rfl, hb⟩
  go_wp2
  go_ret
  exact ⟨rfl, (hHeld.below hb).1⟩

set_option maxRecDepth 100000 in
set_option maxHeartbeats 8000000 in
theorem core_DecOrder_d1 (xn xs yn ys pl C fa fb pn pS qn qS pe qe : Int) (hC : ¬ 0 < C) (hf : ¬ fb < fa) (he : (pe != 0) = true)
    (HX : (Hid (∀ w : World, Calls Tryd.prog 10 #[.agg #[.int .i64 xn, .int .i64 xs]] w fun e w' => e = .returned (.agg #[.int .i64 xn, .int .i64 xs]) ∧ Below w.heap.size w w')))
    (HY : (Hid (∀ w : World, Calls Tryd.prog 10 #[.agg #[.int .i64 yn, .int .i64 ys]] w fun e w' => e = .returned (.agg #[.int .i64 yn, .int .i64 ys]) ∧ Below w.heap.size w w')))
    (RX : (Hid (∀ w : World, Calls Tryd.prog 20 #[.agg #[.int .i64 xn, .int .i64 xs]] w fun e w' => e = .returned (.bool true) ∧ Below w.heap.size w w')))
    (RY : (Hid (∀ w : World, Calls Tryd.prog 20 #[.agg #[.int .i64 yn, .int .i64 ys]] w fun e w' => e = .returned (.bool true) ∧ Below w.heap.size w w')))
    (CX : (Hid (∀ w : World, Calls Tryd.prog 17 #[.agg #[.int .i64 xn, .int .i64 xs], .agg #[.int .i64 yn, .int .i64 ys]] w fun e w' => e = .returned (.int .i64 C) ∧ Below w.heap.size w w')))
    (FX : (Hid (∀ w : World, Calls Tryd.prog 24 #[.agg #[.int .i64 xn, .int .i64 xs]] w fun e w' => e = .returned (.tuple #[.int .i64 fa, .int .i64 0]) ∧ Below w.heap.size w w')))
    (FY : (Hid (∀ w : World, Calls Tryd.prog 24 #[.agg #[.int .i64 yn, .int .i64 ys]] w fun e w' => e = .returned (.tuple #[.int .i64 fb, .int .i64 0]) ∧ Below w.heap.size w w')))
    (OX : (Hid (∀ w : World, Calls Tryd.prog 22 #[.agg #[.int .i64 xn, .int .i64 xs], .int .i64 pl] w fun e w' => e = .returned (.tuple #[.agg #[.int .i64 pn, .int .i64 pS], .int .i64 pe]) ∧ Below w.heap.size w w')))
    (OY : (Hid (∀ w : World, Calls Tryd.prog 22 #[.agg #[.int .i64 yn, .int .i64 ys], .int .i64 pl] w fun e w' => e = .returned (.tuple #[.agg #[.int .i64 qn, .int .i64 qS], .int .i64 qe]) ∧ Below w.heap.size w w')))
    (KN : Hid (∀ w : World, Tab w → Calls Tryd.prog 21 #[] w fun e w' => e = .returned (.bool true) ∧ Below w.heap.size w w')) (w : World) (hT : Hid (Tab w)) :
    Calls Tryd.prog 7 #[.agg #[.int .i64 xn, .int .i64 xs], .agg #[.int .i64 yn, .int .i64 ys], .int .i64 pl] w fun e w' => e = .returned (.bool true) ∧ Below w.heap.size w w' := by
  have L0 := LS.start w xn xs yn ys 23
  go_enter Tryd.func7, Tryd.ntmps7
  go_wp2_with fail
  refine gen_world (LS w [(w.heap.size, xn, xs), (w.heap.size + 1, yn, ys)]) L0 ?_
  clear L0
  rintro W1 K1
  refine wp_region_held_drew (S := LS w [(w.heap.size, xn, xs), (w.heap.size + 1, yn, ys)]) (by kernel_rfl) K1.drew (fun hHeld => ?_)
  refine wpAnyH_take (i := 0) (v := ?_) (oi := { dst := some 15, op := _, type := _, pos := _, after := _, guard := none }) rfl (by kernel_rfl) (by kernel_rfl) (by kernel_rfl) (fun _ _ _ h => h) (Or.inl ⟨by kernel_rfl, ?_⟩) (by assumption) ?_
  case refine_2 => (intro w9 hSw; obtain ⟨sa0, sb0, sc0, sd0, se0⟩ := hSw.2 (w.heap.size, xn, xs) (by simp); obtain ⟨sa1, sb1, sc1, sd1, se1⟩ := hSw.2 (w.heap.size + 1, yn, ys) (by simp); clear hSw; go_simp; try with_reducible rfl)
  simp only [Act.put, List.setIfInBounds_toArray, List.set_cons_zero, List.set_cons_succ]
  refine wpAnyH_ready (rs := [1]) (by kernel_rfl) (by simp) (AllReadyH.cons (o := { dst := some 16, op := _, type := _, pos := _, after := _, guard := none }) rfl (fun K hK => ?_) AllReadyH.nil)
  go_simp
  refine (RX.out _).mono ?_
  rintro e v1 ⟨rfl, hb1⟩
  refine hK.out _ _ (hHeld.below hb1) (fun hHeld => ?_)
  clear hK K hb1
  refine wpAnyH_take (i := 2) (v := ?_) (oi := { dst := some 17, op := _, type := _, pos := _, after := _, guard := none }) rfl (by kernel_rfl) (by kernel_rfl) (by kernel_rfl) (fun _ _ _ h => h) (Or.inl ⟨by kernel_rfl, ?_⟩) (by assumption) ?_
  case refine_2 => (intro w9 hSw; clear hSw; go_simp; try with_reducible rfl)
  simp only [Act.put, List.setIfInBounds_toArray, List.set_cons_zero, List.set_cons_succ]
  refine wpAnyH_take (i := 3) (v := ?_) (oi := { dst := some 18, op := _, type := _, pos := _, after := _, guard := none }) rfl (by kernel_rfl) (by kernel_rfl) (by kernel_rfl) (fun _ _ _ h => h) (Or.inl ⟨by kernel_rfl, ?_⟩) (by assumption) ?_
  case refine_2 => (intro w9 hSw; clear hSw; go_simp; try with_reducible rfl)
  simp only [Act.put, List.setIfInBounds_toArray, List.set_cons_zero, List.set_cons_succ]
  refine wpAnyH_take (i := 4) (v := ?_) (oi := { dst := some 19, op := _, type := _, pos := _, after := _, guard := some (3, false) }) rfl (by kernel_rfl) (by kernel_rfl) (by kernel_rfl) (fun _ _ _ h => h) (Or.inl ⟨by kernel_rfl, ?_⟩) (by assumption) ?_
  case refine_2 => (intro w9 hSw; obtain ⟨sa0, sb0, sc0, sd0, se0⟩ := hSw.2 (w.heap.size, xn, xs) (by simp); obtain ⟨sa1, sb1, sc1, sd1, se1⟩ := hSw.2 (w.heap.size + 1, yn, ys) (by simp); clear hSw; go_simp; try with_reducible rfl)
  simp only [Act.put, List.setIfInBounds_toArray, List.set_cons_zero, List.set_cons_succ]
  refine wpAnyH_ready (rs := [5]) (by kernel_rfl) (by simp) (AllReadyH.cons (o := { dst := some 20, op := _, type := _, pos := _, after := _, guard := some (3, false) }) rfl (fun K hK => ?_) AllReadyH.nil)
  go_simp
  refine (RY.out _).mono ?_
  rintro e v2 ⟨rfl, hb2⟩
  refine hK.out _ _ (hHeld.below hb2) (fun hHeld => ?_)
  clear hK K hb2
  refine wpAnyH_take (i := 6) (v := ?_) (oi := { dst := some 21, op := _, type := _, pos := _, after := _, guard := some (3, false) }) rfl (by kernel_rfl) (by kernel_rfl) (by kernel_rfl) (fun _ _ _ h => h) (Or.inl ⟨by kernel_rfl, ?_⟩) (by assumption) ?_
  case refine_2 => (intro w9 hSw; clear hSw; go_simp; try with_reducible rfl)
  simp only [Act.put, List.setIfInBounds_toArray, List.set_cons_zero, List.set_cons_succ]
  refine wpAnyH_take (i := 7) (v := ?_) (oi := { dst := some 22, op := _, type := _, pos := _, after := _, guard := none }) rfl (by kernel_rfl) (by kernel_rfl) (by kernel_rfl) (fun _ _ _ h => h) (Or.inl ⟨by kernel_rfl, ?_⟩) (by assumption) ?_
  case refine_2 => (intro w9 hSw; clear hSw; go_simp; try with_reducible rfl)
  simp only [Act.put, List.setIfInBounds_toArray, List.set_cons_zero, List.set_cons_succ]
  refine wpAnyH_take (i := 8) (v := ?_) (oi := { dst := some 23, op := _, type := _, pos := _, after := _, guard := none }) rfl (by kernel_rfl) (by kernel_rfl) (by kernel_rfl) (fun _ _ _ h => h) (Or.inl ⟨by kernel_rfl, ?_⟩) (by assumption) ?_
  case refine_2 => (intro w9 hSw; clear hSw; go_simp; try with_reducible rfl)
  simp only [Act.put, List.setIfInBounds_toArray, List.set_cons_zero, List.set_cons_succ]
  refine wpAnyH_take (i := 9) (v := ?_) (oi := { dst := some 24, op := _, type := _, pos := _, after := _, guard := some (8, false) }) rfl (by kernel_rfl) (by kernel_rfl) (by kernel_rfl) (fun _ _ _ h => h) (Or.inl ⟨by kernel_rfl, ?_⟩) (by assumption) ?_
  case refine_2 => (intro w9 hSw; obtain ⟨sa0, sb0, sc0, sd0, se0⟩ := hSw.2 (w.heap.size, xn, xs) (by simp); obtain ⟨sa1, sb1, sc1, sd1, se1⟩ := hSw.2 (w.heap.size + 1, yn, ys) (by simp); clear hSw; go_simp; try with_reducible rfl)
  simp only [Act.put, List.setIfInBounds_toArray, List.set_cons_zero, List.set_cons_succ]
  refine wpAnyH_take (i := 11) (v := ?_) (oi := { dst := some 26, op := _, type := _, pos := _, after := _, guard := some (8, false) }) rfl (by kernel_rfl) (by kernel_rfl) (by kernel_rfl) (fun _ _ _ h => h) (Or.inl ⟨by kernel_rfl, ?_⟩) (by assumption) ?_
  case refine_2 => (intro w9 hSw; obtain ⟨sa0, sb0, sc0, sd0, se0⟩ := hSw.2 (w.heap.size, xn, xs) (by simp); obtain ⟨sa1, sb1, sc1, sd1, se1⟩ := hSw.2 (w.heap.size + 1, yn, ys) (by simp); clear hSw; go_simp; try with_reducible rfl)
  simp only [Act.put, List.setIfInBounds_toArray, List.set_cons_zero, List.set_cons_succ]
  refine wpAnyH_ready (rs := [10]) (by kernel_rfl) (by simp) (AllReadyH.cons (o := { dst := some 25, op := _, type := _, pos := _, after := _, guard := some (8, false) }) rfl (fun K hK => ?_) AllReadyH.nil)
  go_simp
  refine (HX.out _).mono ?_
  rintro e v3 ⟨rfl, hb3⟩
  refine hK.out _ _ (hHeld.below hb3) (fun hHeld => ?_)
  clear hK K hb3
  refine wpAnyH_ready (rs := [12]) (by kernel_rfl) (by simp) (AllReadyH.cons (o := { dst := some 27, op := _, type := _, pos := _, after := _, guard := some (8, false) }) rfl (fun K hK => ?_) AllReadyH.nil)
  go_simp
  refine (HY.out _).mono ?_
  rintro e v4 ⟨rfl, hb4⟩
  refine hK.out _ _ (hHeld.below hb4) (fun hHeld => ?_)
  clear hK K hb4
  refine wpAnyH_ready (rs := [13]) (by kernel_rfl) (by simp) (AllReadyH.cons (o := { dst := some 28, op := _, type := _, pos := _, after := _, guard := some (8, false) }) rfl (fun K hK => ?_) AllReadyH.nil)
  go_simp
  refine (CX.out _).mono ?_
  rintro e v5 ⟨rfl, hb5⟩
  refine hK.out _ _ (hHeld.below hb5) (fun hHeld => ?_)
  clear hK K hb5
  refine wpAnyH_take (i := 14) (v := ?_) (oi := { dst := some 29, op := _, type := _, pos := _, after := _, guard := some (8, false) }) rfl (by kernel_rfl) (by kernel_rfl) (by kernel_rfl) (fun _ _ _ h => h) (Or.inl ⟨by kernel_rfl, ?_⟩) (by assumption) ?_
  case refine_2 => (intro w9 hSw; clear hSw; go_simp; try with_reducible rfl)
  simp only [Act.put, List.setIfInBounds_toArray, List.set_cons_zero, List.set_cons_succ]
  refine wpAnyH_take (i := 15) (v := ?_) (oi := { dst := some 30, op := _, type := _, pos := _, after := _, guard := none }) rfl (by kernel_rfl) (by kernel_rfl) (by kernel_rfl) (fun _ _ _ h => h) (Or.inl ⟨by kernel_rfl, ?_⟩) (by assumption) ?_
  case refine_2 => (intro w9 hSw; clear hSw; go_simp; try with_reducible rfl)
  simp only [Act.put, List.setIfInBounds_toArray, List.set_cons_zero, List.set_cons_succ]
  refine wpAnyH_done (by kernel_rfl) ?_ _
  obtain ⟨qa0, qb0, qc0, qd0, qe0⟩ := hHeld.2 (w.heap.size, xn, xs) (by simp)
  obtain ⟨qa1, qb1, qc1, qd1, qe1⟩ := hHeld.2 (w.heap.size + 1, yn, ys) (by simp)
  go_wp2_with fail
  refine (HX.out _).mono ?_
  rintro e V2 ⟨rfl, hb⟩
  have K2 := hHeld.below hb
  clear hb hHeld
  clear qa0 qb0 qc0 qd0 qe0
  clear qa1 qb1 qc1 qd1 qe1
  go_wp2_with fail
  refine (FX.out _).mono ?_
  rintro e V3 ⟨rfl, hb⟩
  have K3 := K2.below hb
  clear hb K2
  obtain ⟨qa0, qb0, qc0, qd0, qe0⟩ := K3.2 (w.heap.size, xn, xs) (by simp)
  obtain ⟨qa1, qb1, qc1, qd1, qe1⟩ := K3.2 (w.heap.size + 1, yn, ys) (by simp)
  go_wp2_with fail
  refine (HY.out _).mono ?_
  rintro e V4 ⟨rfl, hb⟩
  have K4 := K3.below hb
  clear hb K3
  clear qa0 qb0 qc0 qd0 qe0
  clear qa1 qb1 qc1 qd1 qe1
  go_wp2_with fail
  refine (FY.out _).mono ?_
  rintro e V5 ⟨rfl, hb⟩
  have K5 := K4.below hb
  clear hb K4
  obtain ⟨qa0, qb0, qc0, qd0, qe0⟩ := K5.2 (w.heap.size, xn, xs) (by simp)
  obtain ⟨qa1, qb1, qc1, qd1, qe1⟩ := K5.2 (w.heap.size + 1, yn, ys) (by simp)
  go_wp2_with fail
  refine (HX.out _).mono ?_
  rintro e V6 ⟨rfl, hb⟩
  have K6 := K5.below hb
  clear hb K5
  clear qa0 qb0 qc0 qd0 qe0
  clear qa1 qb1 qc1 qd1 qe1
  go_wp2_with fail
  refine (OX.out _).mono ?_
  rintro e V7 ⟨rfl, hb⟩
  have K7 := K6.below hb
  clear hb K6
  have N8 := K7.new (pn) (pS) 24
  have M8 := (K7.alloc (.cells #[.int .i64 (pn), .int .i64 (pS)] 24)).more N8
  clear N8 K7
  obtain ⟨qa0, qb0, qc0, qd0, qe0⟩ := M8.2 (V7.heap.size, pn, pS) (by simp)
  obtain ⟨qa1, qb1, qc1, qd1, qe1⟩ := M8.2 (w.heap.size, xn, xs) (by simp)
  obtain ⟨qa2, qb2, qc2, qd2, qe2⟩ := M8.2 (w.heap.size + 1, yn, ys) (by simp)
  go_wp2_with fail
  refine (HY.out _).mono ?_
  rintro e V9 ⟨rfl, hb⟩
  have K9 := M8.below hb
  clear hb M8
  clear qa0 qb0 qc0 qd0 qe0
  clear qa1 qb1 qc1 qd1 qe1
  clear qa2 qb2 qc2 qd2 qe2
  go_wp2_with fail
  refine (OY.out _).mono ?_
  rintro e V10 ⟨rfl, hb⟩
  have K10 := K9.below hb
  clear hb K9
  have N11 := K10.new (qn) (qS) 24
  have M11 := (K10.alloc (.cells #[.int .i64 (qn), .int .i64 (qS)] 24)).more N11
  clear N11 K10
  obtain ⟨qa0, qb0, qc0, qd0, qe0⟩ := M11.2 (V10.heap.size, qn, qS) (by simp)
  obtain ⟨qa1, qb1, qc1, qd1, qe1⟩ := M11.2 (V7.heap.size, pn, pS) (by simp)
  obtain ⟨qa2, qb2, qc2, qd2, qe2⟩ := M11.2 (w.heap.size, xn, xs) (by simp)
  obtain ⟨qa3, qb3, qc3, qd3, qe3⟩ := M11.2 (w.heap.size + 1, yn, ys) (by simp)
  go_wp2_with fail
  refine (KN.out _ (hT.out.below M11.1)).mono ?_
  rintro e V99 ⟨rfl, hb⟩
  go_wp2
  go_ret
  exact ⟨rfl, (M11.below hb).1⟩

set_option maxRecDepth 100000 in
set_option maxHeartbeats 8000000 in
theorem core_DecOrder_d2 (xn xs yn ys pl C fa fb pn pS qn qS qe : Int) (hC : ¬ 0 < C) (hf : ¬ fb < fa) (he : (qe != 0) = true)
    (HX : (Hid (∀ w : World, Calls Tryd.prog 10 #[.agg #[.int .i64 xn, .int .i64 xs]] w fun e w' => e = .returned (.agg #[.int .i64 xn, .int .i64 xs]) ∧ Below w.heap.size w w')))
    (HY : (Hid (∀ w : World, Calls Tryd.prog 10 #[.agg #[.int .i64 yn, .int .i64 ys]] w fun e w' => e = .returned (.agg #[.int .i64 yn, .int .i64 ys]) ∧ Below w.heap.size w w')))
    (RX : (Hid (∀ w : World, Calls Tryd.prog 20 #[.agg #[.int .i64 xn, .int .i64 xs]] w fun e w' => e = .returned (.bool true) ∧ Below w.heap.size w w')))
    (RY : (Hid (∀ w : World, Calls Tryd.prog 20 #[.agg #[.int .i64 yn, .int .i64 ys]] w fun e w' => e = .returned (.bool true) ∧ Below w.heap.size w w')))
    (CX : (Hid (∀ w : World, Calls Tryd.prog 17 #[.agg #[.int .i64 xn, .int .i64 xs], .agg #[.int .i64 yn, .int .i64 ys]] w fun e w' => e = .returned (.int .i64 C) ∧ Below w.heap.size w w')))
    (FX : (Hid (∀ w : World, Calls Tryd.prog 24 #[.agg #[.int .i64 xn, .int .i64 xs]] w fun e w' => e = .returned (.tuple #[.int .i64 fa, .int .i64 0]) ∧ Below w.heap.size w w')))
    (FY : (Hid (∀ w : World, Calls Tryd.prog 24 #[.agg #[.int .i64 yn, .int .i64 ys]] w fun e w' => e = .returned (.tuple #[.int .i64 fb, .int .i64 0]) ∧ Below w.heap.size w w')))
    (OX : (Hid (∀ w : World, Calls Tryd.prog 22 #[.agg #[.int .i64 xn, .int .i64 xs], .int .i64 pl] w fun e w' => e = .returned (.tuple #[.agg #[.int .i64 pn, .int .i64 pS], .int .i64 0]) ∧ Below w.heap.size w w')))
    (OY : (Hid (∀ w : World, Calls Tryd.prog 22 #[.agg #[.int .i64 yn, .int .i64 ys], .int .i64 pl] w fun e w' => e = .returned (.tuple #[.agg #[.int .i64 qn, .int .i64 qS], .int .i64 qe]) ∧ Below w.heap.size w w')))
    (KN : Hid (∀ w : World, Tab w → Calls Tryd.prog 21 #[] w fun e w' => e = .returned (.bool true) ∧ Below w.heap.size w w')) (w : World) (hT : Hid (Tab w)) :
    Calls Tryd.prog 7 #[.agg #[.int .i64 xn, .int .i64 xs], .agg #[.int .i64 yn, .int .i64 ys], .int .i64 pl] w fun e w' => e = .returned (.bool true) ∧ Below w.heap.size w w' := by
  have L0 := LS.start w xn xs yn ys 23
  go_enter Tryd.func7, Tryd.ntmps7
  go_wp2_with fail
  refine gen_world (LS w [(w.heap.size, xn, xs), (w.heap.size + 1, yn, ys)]) L0 ?_
  clear L0
  rintro W1 K1
  refine wp_region_held_drew (S := LS w [(w.heap.size, xn, xs), (w.heap.size + 1, yn, ys)]) (by kernel_rfl) K1.drew (fun hHeld => ?_)
  refine wpAnyH_take (i := 0) (v := ?_) (oi := { dst := some 15, op := _, type := _, pos := _, after := _, guard := none }) rfl (by kernel_rfl) (by kernel_rfl) (by kernel_rfl) (fun _ _ _ h => h) (Or.inl ⟨by kernel_rfl, ?_⟩) (by assumption) ?_
  case refine_2 => (intro w9 hSw; obtain ⟨sa0, sb0, sc0, sd0, se0⟩ := hSw.2 (w.heap.size, xn, xs) (by simp); obtain ⟨sa1, sb1, sc1, sd1, se1⟩ := hSw.2 (w.heap.size + 1, yn, ys) (by simp); clear hSw; go_simp; try with_reducible rfl)
  simp only [Act.put, List.setIfInBounds_toArray, List.set_cons_zero, List.set_cons_succ]
  refine wpAnyH_ready (rs := [1]) (by kernel_rfl) (by simp) (AllReadyH.cons (o := { dst := some 16, op := _, type := _, pos := _, after := _, guard := none }) rfl (fun K hK => ?_) AllReadyH.nil)
  go_simp
  refine (RX.out _).mono ?_
  rintro e v1 ⟨rfl, hb1⟩
  refine hK.out _ _ (hHeld.below hb1) (fun hHeld => ?_)
  clear hK K hb1
  refine wpAnyH_take (i := 2) (v := ?_) (oi := { dst := some 17, op := _, type := _, pos := _, after := _, guard := none }) rfl (by kernel_rfl) (by kernel_rfl) (by kernel_rfl) (fun _ _ _ h => h) (Or.inl ⟨by kernel_rfl, ?_⟩) (by assumption) ?_
  case refine_2 => (intro w9 hSw; clear hSw; go_simp; try with_reducible rfl)
  simp only [Act.put, List.setIfInBounds_toArray, List.set_cons_zero, List.set_cons_succ]
  refine wpAnyH_take (i := 3) (v := ?_) (oi := { dst := some 18, op := _, type := _, pos := _, after := _, guard := none }) rfl (by kernel_rfl) (by kernel_rfl) (by kernel_rfl) (fun _ _ _ h => h) (Or.inl ⟨by kernel_rfl, ?_⟩) (by assumption) ?_
  case refine_2 => (intro w9 hSw; clear hSw; go_simp; try with_reducible rfl)
  simp only [Act.put, List.setIfInBounds_toArray, List.set_cons_zero, List.set_cons_succ]
  refine wpAnyH_take (i := 4) (v := ?_) (oi := { dst := some 19, op := _, type := _, pos := _, after := _, guard := some (3, false) }) rfl (by kernel_rfl) (by kernel_rfl) (by kernel_rfl) (fun _ _ _ h => h) (Or.inl ⟨by kernel_rfl, ?_⟩) (by assumption) ?_
  case refine_2 => (intro w9 hSw; obtain ⟨sa0, sb0, sc0, sd0, se0⟩ := hSw.2 (w.heap.size, xn, xs) (by simp); obtain ⟨sa1, sb1, sc1, sd1, se1⟩ := hSw.2 (w.heap.size + 1, yn, ys) (by simp); clear hSw; go_simp; try with_reducible rfl)
  simp only [Act.put, List.setIfInBounds_toArray, List.set_cons_zero, List.set_cons_succ]
  refine wpAnyH_ready (rs := [5]) (by kernel_rfl) (by simp) (AllReadyH.cons (o := { dst := some 20, op := _, type := _, pos := _, after := _, guard := some (3, false) }) rfl (fun K hK => ?_) AllReadyH.nil)
  go_simp
  refine (RY.out _).mono ?_
  rintro e v2 ⟨rfl, hb2⟩
  refine hK.out _ _ (hHeld.below hb2) (fun hHeld => ?_)
  clear hK K hb2
  refine wpAnyH_take (i := 6) (v := ?_) (oi := { dst := some 21, op := _, type := _, pos := _, after := _, guard := some (3, false) }) rfl (by kernel_rfl) (by kernel_rfl) (by kernel_rfl) (fun _ _ _ h => h) (Or.inl ⟨by kernel_rfl, ?_⟩) (by assumption) ?_
  case refine_2 => (intro w9 hSw; clear hSw; go_simp; try with_reducible rfl)
  simp only [Act.put, List.setIfInBounds_toArray, List.set_cons_zero, List.set_cons_succ]
  refine wpAnyH_take (i := 7) (v := ?_) (oi := { dst := some 22, op := _, type := _, pos := _, after := _, guard := none }) rfl (by kernel_rfl) (by kernel_rfl) (by kernel_rfl) (fun _ _ _ h => h) (Or.inl ⟨by kernel_rfl, ?_⟩) (by assumption) ?_
  case refine_2 => (intro w9 hSw; clear hSw; go_simp; try with_reducible rfl)
  simp only [Act.put, List.setIfInBounds_toArray, List.set_cons_zero, List.set_cons_succ]
  refine wpAnyH_take (i := 8) (v := ?_) (oi := { dst := some 23, op := _, type := _, pos := _, after := _, guard := none }) rfl (by kernel_rfl) (by kernel_rfl) (by kernel_rfl) (fun _ _ _ h => h) (Or.inl ⟨by kernel_rfl, ?_⟩) (by assumption) ?_
  case refine_2 => (intro w9 hSw; clear hSw; go_simp; try with_reducible rfl)
  simp only [Act.put, List.setIfInBounds_toArray, List.set_cons_zero, List.set_cons_succ]
  refine wpAnyH_take (i := 9) (v := ?_) (oi := { dst := some 24, op := _, type := _, pos := _, after := _, guard := some (8, false) }) rfl (by kernel_rfl) (by kernel_rfl) (by kernel_rfl) (fun _ _ _ h => h) (Or.inl ⟨by kernel_rfl, ?_⟩) (by assumption) ?_
  case refine_2 => (intro w9 hSw; obtain ⟨sa0, sb0, sc0, sd0, se0⟩ := hSw.2 (w.heap.size, xn, xs) (by simp); obtain ⟨sa1, sb1, sc1, sd1, se1⟩ := hSw.2 (w.heap.size + 1, yn, ys) (by simp); clear hSw; go_simp; try with_reducible rfl)
  simp only [Act.put, List.setIfInBounds_toArray, List.set_cons_zero, List.set_cons_succ]
  refine wpAnyH_take (i := 11) (v := ?_) (oi := { dst := some 26, op := _, type := _, pos := _, after := _, guard := some (8, false) }) rfl (by kernel_rfl) (by kernel_rfl) (by kernel_rfl) (fun _ _ _ h => h) (Or.inl ⟨by kernel_rfl, ?_⟩) (by assumption) ?_
  case refine_2 => (intro w9 hSw; obtain ⟨sa0, sb0, sc0, sd0, se0⟩ := hSw.2 (w.heap.size, xn, xs) (by simp); obtain ⟨sa1, sb1, sc1, sd1, se1⟩ := hSw.2 (w.heap.size + 1, yn, ys) (by simp); clear hSw; go_simp; try with_reducible rfl)
  simp only [Act.put, List.setIfInBounds_toArray, List.set_cons_zero, List.set_cons_succ]
  refine wpAnyH_ready (rs := [10]) (by kernel_rfl) (by simp) (AllReadyH.cons (o := { dst := some 25, op := _, type := _, pos := _, after := _, guard := some (8, false) }) rfl (fun K hK => ?_) AllReadyH.nil)
  go_simp
  refine (HX.out _).mono ?_
  rintro e v3 ⟨rfl, hb3⟩
  refine hK.out _ _ (hHeld.below hb3) (fun hHeld => ?_)
  clear hK K hb3
  refine wpAnyH_ready (rs := [12]) (by kernel_rfl) (by simp) (AllReadyH.cons (o := { dst := some 27, op := _, type := _, pos := _, after := _, guard := some (8, false) }) rfl (fun K hK => ?_) AllReadyH.nil)
  go_simp
  refine (HY.out _).mono ?_
  rintro e v4 ⟨rfl, hb4⟩
  refine hK.out _ _ (hHeld.below hb4) (fun hHeld => ?_)
  clear hK K hb4
  refine wpAnyH_ready (rs := [13]) (by kernel_rfl) (by simp) (AllReadyH.cons (o := { dst := some 28, op := _, type := _, pos := _, after := _, guard := some (8, false) }) rfl (fun K hK => ?_) AllReadyH.nil)
  go_simp
  refine (CX.out _).mono ?_
  rintro e v5 ⟨rfl, hb5⟩
  refine hK.out _ _ (hHeld.below hb5) (fun hHeld => ?_)
  clear hK K hb5
  refine wpAnyH_take (i := 14) (v := ?_) (oi := { dst := some 29, op := _, type := _, pos := _, after := _, guard := some (8, false) }) rfl (by kernel_rfl) (by kernel_rfl) (by kernel_rfl) (fun _ _ _ h => h) (Or.inl ⟨by kernel_rfl, ?_⟩) (by assumption) ?_
  case refine_2 => (intro w9 hSw; clear hSw; go_simp; try with_reducible rfl)
  simp only [Act.put, List.setIfInBounds_toArray, List.set_cons_zero, List.set_cons_succ]
  refine wpAnyH_take (i := 15) (v := ?_) (oi := { dst := some 30, op := _, type := _, pos := _, after := _, guard := none }) rfl (by kernel_rfl) (by kernel_rfl) (by kernel_rfl) (fun _ _ _ h => h) (Or.inl ⟨by kernel_rfl, ?_⟩) (by assumption) ?_
  case refine_2 => (intro w9 hSw; clear hSw; go_simp; try with_reducible rfl)
  simp only [Act.put, List.setIfInBounds_toArray, List.set_cons_zero, List.set_cons_succ]
  refine wpAnyH_done (by kernel_rfl) ?_ _
  obtain ⟨qa0, qb0, qc0, qd0, qe0⟩ := hHeld.2 (w.heap.size, xn, xs) (by simp)
  obtain ⟨qa1, qb1, qc1, qd1, qe1⟩ := hHeld.2 (w.heap.size + 1, yn, ys) (by simp)
  go_wp2_with fail
  refine (HX.out _).mono ?_
  rintro e V2 ⟨rfl, hb⟩
  have K2 := hHeld.below hb
  clear hb hHeld
  clear qa0 qb0 qc0 qd0 qe0
  clear qa1 qb1 qc1 qd1 qe1
  go_wp2_with fail
  refine (FX.out _).mono ?_
  rintro e V3 ⟨rfl, hb⟩
  have K3 := K2.below hb
  clear hb K2
  obtain ⟨qa0, qb0, qc0, qd0, qe0⟩ := K3.2 (w.heap.size, xn, xs) (by simp)
  obtain ⟨qa1, qb1, qc1, qd1, qe1⟩ := K3.2 (w.heap.size + 1, yn, ys) (by simp)
  go_wp2_with fail
  refine (HY.out _).mono ?_
  rintro e V4 ⟨rfl, hb⟩
  have K4 := K3.below hb
  clear hb K3
  clear qa0 qb0 qc0 qd0 qe0
  clear qa1 qb1 qc1 qd1 qe1
  go_wp2_with fail
  refine (FY.out _).mono ?_
  rintro e V5 ⟨rfl, hb⟩
  have K5 := K4.below hb
  clear hb K4
  obtain ⟨qa0, qb0, qc0, qd0, qe0⟩ := K5.2 (w.heap.size, xn, xs) (by simp)
  obtain ⟨qa1, qb1, qc1, qd1, qe1⟩ := K5.2 (w.heap.size + 1, yn, ys) (by simp)
  go_wp2_with fail
  refine (HX.out _).mono ?_
  rintro e V6 ⟨rfl, hb⟩
  have K6 := K5.below hb
  clear hb K5
  clear qa0 qb0 qc0 qd0 qe0
  clear qa1 qb1 qc1 qd1 qe1
  go_wp2_with fail
  refine (OX.out _).mono ?_
  rintro e V7 ⟨rfl, hb⟩
  have K7 := K6.below hb
  clear hb K6
  have N8 := K7.new (pn) (pS) 24
  have M8 := (K7.alloc (.cells #[.int .i64 (pn), .int .i64 (pS)] 24)).more N8
  clear N8 K7
  obtain ⟨qa0, qb0, qc0, qd0, qe0⟩ := M8.2 (V7.heap.size, pn, pS) (by simp)
  obtain ⟨qa1, qb1, qc1, qd1, qe1⟩ := M8.2 (w.heap.size, xn, xs) (by simp)
  obtain ⟨qa2, qb2, qc2, qd2, qe2⟩ := M8.2 (w.heap.size + 1, yn, ys) (by simp)
  go_wp2_with fail
  refine (HY.out _).mono ?_
  rintro e V9 ⟨rfl, hb⟩
  have K9 := M8.below hb
  clear hb M8
  clear qa0 qb0 qc0 qd0 qe0
  clear qa1 qb1 qc1 qd1 qe1
  clear qa2 qb2 qc2 qd2 qe2
  go_wp2_with fail
  refine (OY.out _).mono ?_
  rintro e V10 ⟨rfl, hb⟩
  have K10 := K9.below hb
  clear hb K9
  have N11 := K10.new (qn) (qS) 24
  have M11 := (K10.alloc (.cells #[.int .i64 (qn), .int .i64 (qS)] 24)).more N11
  clear N11 K10
  obtain ⟨qa0, qb0, qc0, qd0, qe0⟩ := M11.2 (V10.heap.size, qn, qS) (by simp)
  obtain ⟨qa1, qb1, qc1, qd1, qe1⟩ := M11.2 (V7.heap.size, pn, pS) (by simp)
  obtain ⟨qa2, qb2, qc2, qd2, qe2⟩ := M11.2 (w.heap.size, xn, xs) (by simp)
  obtain ⟨qa3, qb3, qc3, qd3, qe3⟩ := M11.2 (w.heap.size + 1, yn, ys) (by simp)
  go_wp2_with fail
  refine (KN.out _ (hT.out.below M11.1)).mono ?_
  rintro e V99 ⟨rfl, hb⟩
  go_wp2
  go_ret
  exact ⟨rfl, (M11.below hb).1⟩

set_option maxRecDepth 100000 in
set_option maxHeartbeats 8000000 in
theorem core_DecOrder_d3 (xn xs yn ys pl C fa fb pn pS qn qS D : Int) (hC : ¬ 0 < C) (hf : ¬ fb < fa) (hD : D ≤ 0)
    (HX : (Hid (∀ w : World, Calls Tryd.prog 10 #[.agg #[.int .i64 xn, .int .i64 xs]] w fun e w' => e = .returned (.agg #[.int .i64 xn, .int .i64 xs]) ∧ Below w.heap.size w w')))
    (HY : (Hid (∀ w : World, Calls Tryd.prog 10 #[.agg #[.int .i64 yn, .int .i64 ys]] w fun e w' => e = .returned (.agg #[.int .i64 yn, .int .i64 ys]) ∧ Below w.heap.size w w')))
    (RX : (Hid (∀ w : World, Calls Tryd.prog 20 #[.agg #[.int .i64 xn, .int .i64 xs]] w fun e w' => e = .returned (.bool true) ∧ Below w.heap.size w w')))
    (RY : (Hid (∀ w : World, Calls Tryd.prog 20 #[.agg #[.int .i64 yn, .int .i64 ys]] w fun e w' => e = .returned (.bool true) ∧ Below w.heap.size w w')))
    (CX : (Hid (∀ w : World, Calls Tryd.prog 17 #[.agg #[.int .i64 xn, .int .i64 xs], .agg #[.int .i64 yn, .int .i64 ys]] w fun e w' => e = .returned (.int .i64 C) ∧ Below w.heap.size w w')))
    (FX : (Hid (∀ w : World, Calls Tryd.prog 24 #[.agg #[.int .i64 xn, .int .i64 xs]] w fun e w' => e = .returned (.tuple #[.int .i64 fa, .int .i64 0]) ∧ Below w.heap.size w w')))
    (FY : (Hid (∀ w : World, Calls Tryd.prog 24 #[.agg #[.int .i64 yn, .int .i64 ys]] w fun e w' => e = .returned (.tuple #[.int .i64 fb, .int .i64 0]) ∧ Below w.heap.size w w')))
    (OX : (Hid (∀ w : World, Calls Tryd.prog 22 #[.agg #[.int .i64 xn, .int .i64 xs], .int .i64 pl] w fun e w' => e = .returned (.tuple #[.agg #[.int .i64 pn, .int .i64 pS], .int .i64 0]) ∧ Below w.heap.size w w')))
    (OY : (Hid (∀ w : World, Calls Tryd.prog 22 #[.agg #[.int .i64 yn, .int .i64 ys], .int .i64 pl] w fun e w' => e = .returned (.tuple #[.agg #[.int .i64 qn, .int .i64 qS], .int .i64 0]) ∧ Below w.heap.size w w')))
    (CP : (Hid (∀ w : World, Calls Tryd.prog 17 #[.agg #[.int .i64 pn, .int .i64 pS], .agg #[.int .i64 qn, .int .i64 qS]] w fun e w' => e = .returned (.int .i64 D) ∧ Below w.heap.size w w')))
    (KN : Hid (∀ w : World, Tab w → Calls Tryd.prog 21 #[] w fun e w' => e = .returned (.bool true) ∧ Below w.heap.size w w')) (w : World) (hT : Hid (Tab w)) :
    Calls Tryd.prog 7 #[.agg #[.int .i64 xn, .int .i64 xs], .agg #[.int .i64 yn, .int .i64 ys], .int .i64 pl] w fun e w' => e = .returned (.bool true) ∧ Below w.heap.size w w' := by
  have L0 := LS.start w xn xs yn ys 23
  go_enter Tryd.func7, Tryd.ntmps7
  go_wp2_with fail
  refine gen_world (LS w [(w.heap.size, xn, xs), (w.heap.size + 1, yn, ys)]) L0 ?_
  clear L0
  rintro W1 K1
  refine wp_region_held_drew (S := LS w [(w.heap.size, xn, xs), (w.heap.size + 1, yn, ys)]) (by kernel_rfl) K1.drew (fun hHeld => ?_)
  refine wpAnyH_take (i := 0) (v := ?_) (oi := { dst := some 15, op := _, type := _, pos := _, after := _, guard := none }) rfl (by kernel_rfl) (by kernel_rfl) (by kernel_rfl) (fun _ _ _ h => h) (Or.inl ⟨by kernel_rfl, ?_⟩) (by assumption) ?_
  case refine_2 => (intro w9 hSw; obtain ⟨sa0, sb0, sc0, sd0, se0⟩ := hSw.2 (w.heap.size, xn, xs) (by simp); obtain ⟨sa1, sb1, sc1, sd1, se1⟩ := hSw.2 (w.heap.size + 1, yn, ys) (by simp); clear hSw; go_simp; try with_reducible rfl)
  simp only [Act.put, List.setIfInBounds_toArray, List.set_cons_zero, List.set_cons_succ]
  refine wpAnyH_ready (rs := [1]) (by kernel_rfl) (by simp) (AllReadyH.cons (o := { dst := some 16, op := _, type := _, pos := _, after := _, guard := none }) rfl (fun K hK => ?_) AllReadyH.nil)
  go_simp
  refine (RX.out _).mono ?_
  rintro e v1 ⟨rfl, hb1⟩
  refine hK.out _ _ (hHeld.below hb1) (fun hHeld => ?_)
  clear hK K hb1
  refine wpAnyH_take (i := 2) (v := ?_) (oi := { dst := some 17, op := _, type := _, pos := _, after := _, guard := none }) rfl (by kernel_rfl) (by kernel_rfl) (by kernel_rfl) (fun _ _ _ h => h) (Or.inl ⟨by kernel_rfl, ?_⟩) (by assumption) ?_
  case refine_2 => (intro w9 hSw; clear hSw; go_simp; try with_reducible rfl)
  simp only [Act.put, List.setIfInBounds_toArray, List.set_cons_zero, List.set_cons_succ]
  refine wpAnyH_take (i := 3) (v := ?_) (oi := { dst := some 18, op := _, type := _, pos := _, after := _, guard := none }) rfl (by kernel_rfl) (by kernel_rfl) (by kernel_rfl) (fun _ _ _ h => h) (Or.inl ⟨by kernel_rfl, ?_⟩) (by assumption) ?_
  case refine_2 => (intro w9 hSw; clear hSw; go_simp; try with_reducible rfl)
  simp only [Act.put, List.setIfInBounds_toArray, List.set_cons_zero, List.set_cons_succ]
  refine wpAnyH_take (i := 4) (v := ?_) (oi := { dst := some 19, op := _, type := _, pos := _, after := _, guard := some (3, false) }) rfl (by kernel_rfl) (by kernel_rfl) (by kernel_rfl) (fun _ _ _ h => h) (Or.inl ⟨by kernel_rfl, ?_⟩) (by assumption) ?_
  case refine_2 => (intro w9 hSw; obtain ⟨sa0, sb0, sc0, sd0, se0⟩ := hSw.2 (w.heap.size, xn, xs) (by simp); obtain ⟨sa1, sb1, sc1, sd1, se1⟩ := hSw.2 (w.heap.size + 1, yn, ys) (by simp); clear hSw; go_simp; try with_reducible rfl)
  simp only [Act.put, List.setIfInBounds_toArray, List.set_cons_zero, List.set_cons_succ]
  refine wpAnyH_ready (rs := [5]) (by kernel_rfl) (by simp) (AllReadyH.cons (o := { dst := some 20, op := _, type := _, pos := _, after := _, guard := some (3, false) }) rfl (fun K hK => ?_) AllReadyH.nil)
  go_simp
  refine (RY.out _).mono ?_
  rintro e v2 ⟨rfl, hb2⟩
  refine hK.out _ _ (hHeld.below hb2) (fun hHeld => ?_)
  clear hK K hb2
  refine wpAnyH_take (i := 6) (v := ?_) (oi := { dst := some 21, op := _, type := _, pos := _, after := _, guard := some (3, false) }) rfl (by kernel_rfl) (by kernel_rfl) (by kernel_rfl) (fun _ _ _ h => h) (Or.inl ⟨by kernel_rfl, ?_⟩) (by assumption) ?_
  case refine_2 => (intro w9 hSw; clear hSw; go_simp; try with_reducible rfl)
  simp only [Act.put, List.setIfInBounds_toArray, List.set_cons_zero, List.set_cons_succ]
  refine wpAnyH_take (i := 7) (v := ?_) (oi := { dst := some 22, op := _, type := _, pos := _, after := _, guard := none }) rfl (by kernel_rfl) (by kernel_rfl) (by kernel_rfl) (fun _ _ _ h => h) (Or.inl ⟨by kernel_rfl, ?_⟩) (by assumption) ?_
  case refine_2 => (intro w9 hSw; clear hSw; go_simp; try with_reducible rfl)
  simp only [Act.put, List.setIfInBounds_toArray, List.set_cons_zero, List.set_cons_succ]
  refine wpAnyH_take (i := 8) (v := ?_) (oi := { dst := some 23, op := _, type := _, pos := _, after := _, guard := none }) rfl (by kernel_rfl) (by kernel_rfl) (by kernel_rfl) (fun _ _ _ h => h) (Or.inl ⟨by kernel_rfl, ?_⟩) (by assumption) ?_
  case refine_2 => (intro w9 hSw; clear hSw; go_simp; try with_reducible rfl)
  simp only [Act.put, List.setIfInBounds_toArray, List.set_cons_zero, List.set_cons_succ]
  refine wpAnyH_take (i := 9) (v := ?_) (oi := { dst := some 24, op := _, type := _, pos := _, after := _, guard := some (8, false) }) rfl (by kernel_rfl) (by kernel_rfl) (by kernel_rfl) (fun _ _ _ h => h) (Or.inl ⟨by kernel_rfl, ?_⟩) (by assumption) ?_
  case refine_2 => (intro w9 hSw; obtain ⟨sa0, sb0, sc0, sd0, se0⟩ := hSw.2 (w.heap.size, xn, xs) (by simp); obtain ⟨sa1, sb1, sc1, sd1, se1⟩ := hSw.2 (w.heap.size + 1, yn, ys) (by simp); clear hSw; go_simp; try with_reducible rfl)
  simp only [Act.put, List.setIfInBounds_toArray, List.set_cons_zero, List.set_cons_succ]
  refine wpAnyH_take (i := 11) (v := ?_) (oi := { dst := some 26, op := _, type := _, pos := _, after := _, guard := some (8, false) }) rfl (by kernel_rfl) (by kernel_rfl) (by kernel_rfl) (fun _ _ _ h => h) (Or.inl ⟨by kernel_rfl, ?_⟩) (by assumption) ?_
  case refine_2 => (intro w9 hSw; obtain ⟨sa0, sb0, sc0, sd0, se0⟩ := hSw.2 (w.heap.size, xn, xs) (by simp); obtain ⟨sa1, sb1, sc1, sd1, se1⟩ := hSw.2 (w.heap.size + 1, yn, ys) (by simp); clear hSw; go_simp; try with_reducible rfl)
  simp only [Act.put, List.setIfInBounds_toArray, List.set_cons_zero, List.set_cons_succ]
  refine wpAnyH_ready (rs := [10]) (by kernel_rfl) (by simp) (AllReadyH.cons (o := { dst := some 25, op := _, type := _, pos := _, after := _, guard := some (8, false) }) rfl (fun K hK => ?_) AllReadyH.nil)
  go_simp
  refine (HX.out _).mono ?_
  rintro e v3 ⟨rfl, hb3⟩
  refine hK.out _ _ (hHeld.below hb3) (fun hHeld => ?_)
  clear hK K hb3
  refine wpAnyH_ready (rs := [12]) (by kernel_rfl) (by simp) (AllReadyH.cons (o := { dst := some 27, op := _, type := _, pos := _, after := _, guard := some (8, false) }) rfl (fun K hK => ?_) AllReadyH.nil)
  go_simp
  refine (HY.out _).mono ?_
  rintro e v4 ⟨rfl, hb4⟩
  refine hK.out _ _ (hHeld.below hb4) (fun hHeld => ?_)
  clear hK K hb4
  refine wpAnyH_ready (rs := [13]) (by kernel_rfl) (by simp) (AllReadyH.cons (o := { dst := some 28, op := _, type := _, pos := _, after := _, guard := some (8, false) }) rfl (fun K hK => ?_) AllReadyH.nil)
  go_simp
  refine (CX.out _).mono ?_
  rintro e v5 ⟨rfl, hb5⟩
  refine hK.out _ _ (hHeld.below hb5) (fun hHeld => ?_)
  clear hK K hb5
  refine wpAnyH_take (i := 14) (v := ?_) (oi := { dst := some 29, op := _, type := _, pos := _, after := _, guard := some (8, false) }) rfl (by kernel_rfl) (by kernel_rfl) (by kernel_rfl) (fun _ _ _ h => h) (Or.inl ⟨by kernel_rfl, ?_⟩) (by assumption) ?_
  case refine_2 => (intro w9 hSw; clear hSw; go_simp; try with_reducible rfl)
  simp only [Act.put, List.setIfInBounds_toArray, List.set_cons_zero, List.set_cons_succ]
  refine wpAnyH_take (i := 15) (v := ?_) (oi := { dst := some 30, op := _, type := _, pos := _, after := _, guard := none }) rfl (by kernel_rfl) (by kernel_rfl) (by kernel_rfl) (fun _ _ _ h => h) (Or.inl ⟨by kernel_rfl, ?_⟩) (by assumption) ?_
  case refine_2 => (intro w9 hSw; clear hSw; go_simp; try with_reducible rfl)
  simp only [Act.put, List.setIfInBounds_toArray, List.set_cons_zero, List.set_cons_succ]
  refine wpAnyH_done (by kernel_rfl) ?_ _
  obtain ⟨qa0, qb0, qc0, qd0, qe0⟩ := hHeld.2 (w.heap.size, xn, xs) (by simp)
  obtain ⟨qa1, qb1, qc1, qd1, qe1⟩ := hHeld.2 (w.heap.size + 1, yn, ys) (by simp)
  go_wp2_with fail
  refine (HX.out _).mono ?_
  rintro e V2 ⟨rfl, hb⟩
  have K2 := hHeld.below hb
  clear hb hHeld
  clear qa0 qb0 qc0 qd0 qe0
  clear qa1 qb1 qc1 qd1 qe1
  go_wp2_with fail
  refine (FX.out _).mono ?_
  rintro e V3 ⟨rfl, hb⟩
  have K3 := K2.below hb
  clear hb K2
  obtain ⟨qa0, qb0, qc0, qd0, qe0⟩ := K3.2 (w.heap.size, xn, xs) (by simp)
  obtain ⟨qa1, qb1, qc1, qd1, qe1⟩ := K3.2 (w.heap.size + 1, yn, ys) (by simp)
  go_wp2_with fail
  refine (HY.out _).mono ?_
  rintro e V4 ⟨rfl, hb⟩
  have K4 := K3.below hb
  clear hb K3
  clear qa0 qb0 qc0 qd0 qe0
  clear qa1 qb1 qc1 qd1 qe1
  go_wp2_with fail
  refine (FY.out _).mono ?_
  rintro e V5 ⟨rfl, hb⟩
  have K5 := K4.below hb
  clear hb K4
  obtain ⟨qa0, qb0, qc0, qd0, qe0⟩ := K5.2 (w.heap.size, xn, xs) (by simp)
  obtain ⟨qa1, qb1, qc1, qd1, qe1⟩ := K5.2 (w.heap.size + 1, yn, ys) (by simp)
  go_wp2_with fail
  refine (HX.out _).mono ?_
  rintro e V6 ⟨rfl, hb⟩
  have K6 := K5.below hb
  clear hb K5
  clear qa0 qb0 qc0 qd0 qe0
  clear qa1 qb1 qc1 qd1 qe1
  go_wp2_with fail
  refine (OX.out _).mono ?_
  rintro e V7 ⟨rfl, hb⟩
  have K7 := K6.below hb
  clear hb K6
  have N8 := K7.new (pn) (pS) 24
  have M8 := (K7.alloc (.cells #[.int .i64 (pn), .int .i64 (pS)] 24)).more N8
  clear N8 K7
  obtain ⟨qa0, qb0, qc0, qd0, qe0⟩ := M8.2 (V7.heap.size, pn, pS) (by simp)
  obtain ⟨qa1, qb1, qc1, qd1, qe1⟩ := M8.2 (w.heap.size, xn, xs) (by simp)
  obtain ⟨qa2, qb2, qc2, qd2, qe2⟩ := M8.2 (w.heap.size + 1, yn, ys) (by simp)
  go_wp2_with fail
  refine (HY.out _).mono ?_
  rintro e V9 ⟨rfl, hb⟩
  have K9 := M8.below hb
  clear hb M8
  clear qa0 qb0 qc0 qd0 qe0
  clear qa1 qb1 qc1 qd1 qe1
  clear qa2 qb2 qc2 qd2 qe2
  go_wp2_with fail
  refine (OY.out _).mono ?_
  rintro e V10 ⟨rfl, hb⟩
  have K10 := K9.below hb
  clear hb K9
  have N11 := K10.new (qn) (qS) 24
  have M11 := (K10.alloc (.cells #[.int .i64 (qn), .int .i64 (qS)] 24)).more N11
  clear N11 K10
  obtain ⟨qa0, qb0, qc0, qd0, qe0⟩ := M11.2 (V10.heap.size, qn, qS) (by simp)
  obtain ⟨qa1, qb1, qc1, qd1, qe1⟩ := M11.2 (V7.heap.size, pn, pS) (by simp)
  obtain ⟨qa2, qb2, qc2, qd2, qe2⟩ := M11.2 (w.heap.size, xn, xs) (by simp)
  obtain ⟨qa3, qb3, qc3, qd3, qe3⟩ := M11.2 (w.heap.size + 1, yn, ys) (by simp)
  go_wp2_with fail
  refine (CP.out _).mono ?_
  rintro e V12 ⟨rfl, hb⟩
  have K12 := M11.below hb
  clear hb M11
  clear qa0 qb0 qc0 qd0 qe0
  clear qa1 qb1 qc1 qd1 qe1
  clear qa2 qb2 qc2 qd2 qe2
  clear qa3 qb3 qc3 qd3 qe3
  go_wp2_with fail
  refine (KN.out _ (hT.out.below K12.1)).mono ?_
  rintro e V99 ⟨rfl, hb⟩
  go_wp2
  go_ret
  exact ⟨rfl, (K12.below hb).1⟩

end Go.Proofs.YtcflipkbncpababDoor
