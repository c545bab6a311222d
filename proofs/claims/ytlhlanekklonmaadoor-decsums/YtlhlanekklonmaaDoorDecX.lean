/- Contracts of the reference's Floor and Trim on decimal numbers. -/
import Derived.Test.YtlhlanekklonmaaDoorDecV
import Derived.Test.YtlhlanekklonmaaDoorDecL
namespace Go.Proofs.YtlhlanekklonmaaDoor
open Go.RowKit
set_option linter.unusedVariables false

theorem fdiv_small (n t : Int) (h1 : -9223372036854775808 ≤ n) (h2 : n ≤ 9223372036854775807) (ht : 0 < t) : smE (n.fdiv t) = 0 ∧ smV (n.fdiv t) = n.fdiv t := by
  rw [Int.fdiv_eq_ediv_of_nonneg _ (Int.le_of_lt ht)]
  have a : -9223372036854775808 ≤ n / t := Int.le_ediv_of_mul_le ht (by omega)
  have b : n / t < 9223372036854775808 := Int.ediv_lt_of_lt_mul ht (by omega)
  have c : -9223372036854775808 ≤ n / t ∧ n / t ≤ 9223372036854775807 := ⟨a, by omega⟩
  unfold smE smV
  rw [if_pos c, if_pos c]
  exact ⟨rfl, rfl⟩

set_option maxRecDepth 100000 in
set_option maxHeartbeats 1000000 in
theorem efloor_bad (n s : Int) (h : rt s = false) (w : World) :
    Calls Tryd.prog 39 #[.agg #[.int .i64 n, .int .i64 s]] w fun e w' => e = .returned (.tuple #[.int .i64 0, .int .i64 1]) ∧ Below w.heap.size w w' := by
  go_enter Tryd.func39, Tryd.ntmps39
  go_wp2_with fail
  refine (eright_no _ _ h _).mono ?_
  rintro e w1 ⟨rfl, hb⟩
  go_wp2
  go_ret2
  exact ⟨rfl, ((Below.refl _ _).alloc (Nat.le_refl _) _).trans (hb.mono (by simp))⟩

set_option maxRecDepth 100000 in
set_option maxHeartbeats 2000000 in
theorem efloor_ok (n s t v : Int) (h : rt s = true)
    (HT : Hid (∀ w : World, Calls Tryd.prog 74 #[.int .i64 s] w fun e w' => e = .returned (.int .i64 t) ∧ Below w.heap.size w w'))
    (HD : Hid (∀ w : World, Calls Tryd.prog 76 #[.int .i64 n, .int .i64 t] w fun e w' => e = .returned (.tuple #[.int .i64 v, .int .i64 0]) ∧ Below w.heap.size w w')) (w : World) :
    Calls Tryd.prog 39 #[.agg #[.int .i64 n, .int .i64 s]] w fun e w' => e = .returned (.tuple #[.int .i64 v, .int .i64 0]) ∧ Below w.heap.size w w' := by
  have F := Box.newT w n s 33
  go_enter Tryd.func39, Tryd.ntmps39
  go_wp2_with fail
  refine (eright_yes _ _ h _).mono ?_
  rintro e w1 ⟨rfl, hb⟩
  have L1 : LS w [(w.heap.size, n, s)] w1 := ⟨((Below.refl _ _).alloc (Nat.le_refl _) _).trans (hb.mono (by simp)), fun x hx => by
    rcases List.mem_cons.1 hx with rfl | hx
    · exact F.below hb F.1
    · cases hx⟩
  clear F hb
  go_wp2_with fail
  refine wp_region_held_drew (S := LS w [(w.heap.size, n, s)]) (by kernel_rfl) L1.drew (fun hHeld => ?_)
  refine wpAnyH_take (i := 0) (v := ?_) (oi := { dst := some 7, op := _, type := _, pos := _, after := _, guard := none }) rfl (by kernel_rfl) (by kernel_rfl) (by kernel_rfl) (fun _ _ _ h => h) (Or.inl ⟨by kernel_rfl, ?_⟩) (by assumption) ?_
  case refine_2 => (intro w9 hSw; clear hSw; go_simp; try with_reducible rfl)
  simp only [Act.put, List.setIfInBounds_toArray, List.set_cons_zero, List.set_cons_succ]
  refine wpAnyH_take (i := 1) (v := ?_) (oi := { dst := some 8, op := _, type := _, pos := _, after := _, guard := none }) rfl (by kernel_rfl) (by kernel_rfl) (by kernel_rfl) (fun _ _ _ h => h) (Or.inl ⟨by kernel_rfl, ?_⟩) (by assumption) ?_
  case refine_2 => (intro w9 hSw; obtain ⟨sa0, sb0, sc0, sd0, se0⟩ := hSw.2 (w.heap.size, n, s) (by simp); clear hSw; go_simp; try with_reducible rfl)
  simp only [Act.put, List.setIfInBounds_toArray, List.set_cons_zero, List.set_cons_succ]
  refine wpAnyH_take (i := 2) (v := ?_) (oi := { dst := some 9, op := _, type := _, pos := _, after := _, guard := none }) rfl (by kernel_rfl) (by kernel_rfl) (by kernel_rfl) (fun _ _ _ h => h) (Or.inl ⟨by kernel_rfl, ?_⟩) (by assumption) ?_
  case refine_2 => (intro w9 hSw; clear hSw; go_simp; try with_reducible rfl)
  simp only [Act.put, List.setIfInBounds_toArray, List.set_cons_zero, List.set_cons_succ]
  refine wpAnyH_take (i := 3) (v := ?_) (oi := { dst := some 10, op := _, type := _, pos := _, after := _, guard := none }) rfl (by kernel_rfl) (by kernel_rfl) (by kernel_rfl) (fun _ _ _ h => h) (Or.inl ⟨by kernel_rfl, ?_⟩) (by assumption) ?_
  case refine_2 => (intro w9 hSw; obtain ⟨sa0, sb0, sc0, sd0, se0⟩ := hSw.2 (w.heap.size, n, s) (by simp); clear hSw; go_simp; try with_reducible rfl)
  simp only [Act.put, List.setIfInBounds_toArray, List.set_cons_zero, List.set_cons_succ]
  refine wpAnyH_ready (rs := [4]) (by kernel_rfl) (by simp) (AllReadyH.cons (o := { dst := some 11, op := _, type := _, pos := _, after := _, guard := none }) rfl (fun K hK => ?_) AllReadyH.nil)
  go_simp
  refine (HT.out _).mono ?_
  rintro e v1 ⟨rfl, hb1⟩
  refine hK.out _ _ (hHeld.below hb1) (fun hHeld => ?_)
  clear hK K hb1
  refine wpAnyH_ready (rs := [5]) (by kernel_rfl) (by simp) (AllReadyH.cons (o := { dst := some 12, op := _, type := _, pos := _, after := _, guard := none }) rfl (fun K hK => ?_) AllReadyH.nil)
  go_simp
  refine (HD.out _).mono ?_
  rintro e v2 ⟨rfl, hb2⟩
  refine hK.out _ _ (hHeld.below hb2) (fun hHeld => ?_)
  clear hK K hb2
  refine wpAnyH_take (i := 6) (v := ?_) (oi := { dst := some 13, op := _, type := _, pos := _, after := _, guard := none }) rfl (by kernel_rfl) (by kernel_rfl) (by kernel_rfl) (fun _ _ _ h => h) (Or.inl ⟨by kernel_rfl, ?_⟩) (by assumption) ?_
  case refine_2 => (intro w9 hSw; clear hSw; go_simp; try with_reducible rfl)
  simp only [Act.put, List.setIfInBounds_toArray, List.set_cons_zero, List.set_cons_succ]
  refine wpAnyH_take (i := 7) (v := ?_) (oi := { dst := some 14, op := _, type := _, pos := _, after := _, guard := none }) rfl (by kernel_rfl) (by kernel_rfl) (by kernel_rfl) (fun _ _ _ h => h) (Or.inl ⟨by kernel_rfl, ?_⟩) (by assumption) ?_
  case refine_2 => (intro w9 hSw; clear hSw; go_simp; try with_reducible rfl)
  simp only [Act.put, List.setIfInBounds_toArray, List.set_cons_zero, List.set_cons_succ]
  refine wpAnyH_take (i := 8) (v := ?_) (oi := { dst := some 2, op := _, type := _, pos := _, after := _, guard := none }) rfl (by kernel_rfl) (by kernel_rfl) (by kernel_rfl) (fun _ _ _ h => h) (Or.inl ⟨by kernel_rfl, ?_⟩) (by assumption) ?_
  case refine_2 => (intro w9 hSw; clear hSw; go_simp; try with_reducible rfl)
  simp only [Act.put, List.setIfInBounds_toArray, List.set_cons_zero, List.set_cons_succ]
  refine wpAnyH_take (i := 9) (v := ?_) (oi := { dst := some 3, op := _, type := _, pos := _, after := _, guard := none }) rfl (by kernel_rfl) (by kernel_rfl) (by kernel_rfl) (fun _ _ _ h => h) (Or.inl ⟨by kernel_rfl, ?_⟩) (by assumption) ?_
  case refine_2 => (intro w9 hSw; clear hSw; go_simp; try with_reducible rfl)
  simp only [Act.put, List.setIfInBounds_toArray, List.set_cons_zero, List.set_cons_succ]
  refine wpAnyH_done (by kernel_rfl) ?_ _
  go_wp2
  go_ret2
  exact ⟨rfl, hHeld.1⟩

theorem efloor_any (n s : Int) (h1 : -9223372036854775808 ≤ n) (h2 : n ≤ 9223372036854775807) (h : rt s = true) (w : World) :
    Calls Tryd.prog 39 #[.agg #[.int .i64 n, .int .i64 s]] w fun e w' => e = .returned (.tuple #[.int .i64 (n.fdiv (Dm.ten s.toNat)), .int .i64 0]) ∧ Below w.heap.size w w' := by
  obtain ⟨k, hk, rfl⟩ := nat_of_rt h
  have t0 := Dm.ten_pos k
  have t1 := Dm.ten_le hk
  refine efloor_ok n k (Dm.ten k) _ h (rten_any k hk) (fun w => ?_) w
  have D := refdiv_any n (Dm.ten k) h1 h2 (by omega) (by omega) (by omega) w
  have hq : smE (n.fdiv (Dm.ten k)) = 0 ∧ smV (n.fdiv (Dm.ten k)) = n.fdiv (Dm.ten k) := fdiv_small n (Dm.ten k) h1 h2 (by omega)
  rw [hq.1, hq.2] at D
  exact D

set_option maxRecDepth 100000 in
set_option maxHeartbeats 1000000 in
theorem etrim_bad (n s : Int) (h : rt s = false) (w : World) :
    Calls Tryd.prog 41 #[.agg #[.int .i64 n, .int .i64 s]] w fun e w' => e = .returned (.agg #[.int .i64 n, .int .i64 s]) ∧ Below w.heap.size w w' := by
  have F := rv2_two w n s
  have HB : Hid (Below w.heap.size w (rv2 w n s)) := rv2_below _ _ _
  go_enter Tryd.func41, Tryd.ntmps41
  go_wp2_with fail
  go_loopw [] (fun wr => wr = rv2 w n s) (fun _ => 0)
  case atStart => rfl
  case round =>
    subst hrel
    go_wp2_with fail
    refine (eright_no _ _ h _).mono ?_
    rintro e w1 ⟨rfl, hb⟩
    obtain ⟨⟨x1, x2, x3, x4, x5⟩, ⟨z1, z2, z3, z4, z5⟩⟩ := F.below hb
    have HB1 : Hid (Below w.heap.size w w1) := HB.out.trans (hb.mono HB.out.size)
    clear F HB hb
    go_wp2_with fail
    exact bodyPost_ret (v := .agg #[.int .i64 n, .int .i64 s]) (by simp [results, Tryd.results41, go_sem, z2, z3]) rfl ⟨rfl, (HB1.out.setCell (by simp) _).setCell (by simp) _⟩

set_option maxRecDepth 100000 in
set_option maxHeartbeats 2000000 in
theorem etrim_ok (n : Int) (s : Nat) (n1 : -9223372036854775808 ≤ n) (n2 : n ≤ 9223372036854775807) (h : s ≤ 9) (w : World) :
    Calls Tryd.prog 41 #[.agg #[.int .i64 n, .int .i64 (s : Int)]] w fun e w' => e = .returned (.agg #[.int .i64 (trimN n s), .int .i64 (trimS n s : Int)]) ∧ Below w.heap.size w w' := by
  have F := rv2_two w n s
  have HB : Hid (Below w.heap.size w (rv2 w n s)) := rv2_below _ _ _
  go_enter Tryd.func41, Tryd.ntmps41
  go_wp2_with fail
  go_loopw [] (fun wr => ∃ (m : Int) (k : Nat), k ≤ 9 ∧ -9223372036854775808 ≤ m ∧ m ≤ 9223372036854775807 ∧ Two2 wr w.heap.size m (k : Int) 0 0 ∧ Below w.heap.size w wr ∧ Hid (trimN m k = trimN n s) ∧ Hid (trimS m k = trimS n s)) (fun wr => scaleAt wr w.heap.size)
  case atStart => exact ⟨n, s, h, n1, n2, F, HB.out, rfl, rfl⟩
  case round =>
    clear F HB
    obtain ⟨m, k, hk, m1, m2, F, hB, H1, H2⟩ := hrel
    have HB : Hid (Below w.heap.size w wr) := hB
    clear hB
    obtain ⟨⟨x1, x2, x3, x4, x5⟩, _⟩ := id F
    go_wp2_with fail
    refine (eright_yes _ _ (rt_nat hk) _).mono ?_
    rintro e w1 ⟨rfl, hb⟩
    have F1 := F.below hb
    have HB1 : Hid (Below w.heap.size w w1) := HB.out.trans (hb.mono HB.out.size)
    have hS : scaleAt wr w.heap.size = k := scaleAt_of x3
    clear F HB hb x1 x2 x3 x4 x5
    obtain ⟨⟨x1, x2, x3, x4, x5⟩, ⟨z1, z2, z3, z4, z5⟩⟩ := id F1
    cases k with
    | zero =>
      have x3' : w1.cell? ⟨w.heap.size, 1, none⟩ = some (.int .i64 0) := x3
      clear x3 F1
      go_wp2_with fail
      exact bodyPost_ret (v := .agg #[.int .i64 m, .int .i64 0]) (by simp [results, Tryd.results41, go_sem, z2, z3]) rfl ⟨by rw [← H1.out, ← H2.out]; rfl, (HB1.out.setCell (by simp) _).setCell (by simp) _⟩
    | succ k =>
      have x3' : w1.cell? ⟨w.heap.size, 1, none⟩ = some (.int .i64 ((k : Int) + 1)) := x3
      clear x3
      have k0 : (0 : Int) < (k : Int) + 1 := by omega
      by_cases hm : m.tmod 10 = 0
      · have hm' : (m.tmod 10 == 0) = true := by rw [hm]; rfl
        have E1 : Hid (trimN (m.tdiv 10) k = trimN n s) := by show _ = _; rw [← H1.out]; simp [trimN, hm]
        have E2 : Hid (trimS (m.tdiv 10) k = trimS n s) := by show _ = _; rw [← H2.out]; simp [trimS, hm]
        obtain ⟨t1, t2⟩ := Nm.tdiv_half m1 m2 (b := 10) (by omega)
        clear hm
        go_wp2_with fail
        go_roundw
        case rel => exact ⟨m.tdiv 10, k, by omega, by omega, by omega, ⟨F1.1.set _ _, F1.2.other (by omega) _ _⟩, (HB1.out.setCell (by simp) _).setCell (by simp) _, E1, E2⟩
        case measure =>
          rw [hS, scaleAt_of (F1.1.set (m.tdiv 10) (k : Int)).2.2.1]
          omega
      · have hm' : (m.tmod 10 == 0) = false := by rw [beq_eq_false_iff_ne]; exact hm
        have E1 : trimN m (k + 1) = m := by simp [trimN, hm]
        have E2 : trimS m (k + 1) = k + 1 := by simp [trimS, hm]
        have E3 : Hid (m = trimN n s) := by show _ = _; rw [← H1.out, E1]
        have E4 : Hid ((k : Int) + 1 = (trimS n s : Int)) := by show _ = _; rw [← H2.out, E2]; rfl
        clear E1 E2 hm F1
        go_wp2_with fail
        exact bodyPost_ret (v := .agg #[.int .i64 m, .int .i64 ((k : Int) + 1)]) (by simp [results, Tryd.results41, go_sem, z2, z3]) rfl ⟨by rw [← E3.out, ← E4.out], (HB1.out.setCell (by simp) _).setCell (by simp) _⟩

end Go.Proofs.YtlhlanekklonmaaDoor
