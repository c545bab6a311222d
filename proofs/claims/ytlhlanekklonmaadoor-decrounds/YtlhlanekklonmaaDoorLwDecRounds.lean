/- The walk of DecRounds. -/
import Derived.Test.YtlhlanekklonmaaDoorDecX
namespace Go.Proofs.YtlhlanekklonmaaDoor
open Go.RowKit
set_option linter.unusedVariables false

set_option maxRecDepth 100000 in
set_option maxHeartbeats 8000000 in
theorem core_DecRounds (xn xs pl an aS ae fv fe tn ts : Int)
    (HX : (Hid (∀ w : World, Calls Tryd.prog 24 #[.agg #[.int .i64 xn, .int .i64 xs]] w fun e w' => e = .returned (.agg #[.int .i64 xn, .int .i64 xs]) ∧ Below w.heap.size w w')))
    (OX : (Hid (∀ w : World, Calls Tryd.prog 36 #[.agg #[.int .i64 xn, .int .i64 xs], .int .i64 pl] w fun e w' => e = .returned (.tuple #[.agg #[.int .i64 an, .int .i64 aS], .int .i64 ae]) ∧ Below w.heap.size w w')))
    (ER : (Hid (∀ w : World, Calls Tryd.prog 37 #[.agg #[.int .i64 xn, .int .i64 xs], .int .i64 pl] w fun e w' => e = .returned (.tuple #[.agg #[.int .i64 an, .int .i64 aS], .int .i64 ae]) ∧ Below w.heap.size w w')))
    (FX : (Hid (∀ w : World, Calls Tryd.prog 38 #[.agg #[.int .i64 xn, .int .i64 xs]] w fun e w' => e = .returned (.tuple #[.int .i64 fv, .int .i64 fe]) ∧ Below w.heap.size w w')))
    (EF : (Hid (∀ w : World, Calls Tryd.prog 39 #[.agg #[.int .i64 xn, .int .i64 xs]] w fun e w' => e = .returned (.tuple #[.int .i64 fv, .int .i64 fe]) ∧ Below w.heap.size w w')))
    (TX : (Hid (∀ w : World, Calls Tryd.prog 40 #[.agg #[.int .i64 xn, .int .i64 xs]] w fun e w' => e = .returned (.agg #[.int .i64 tn, .int .i64 ts]) ∧ Below w.heap.size w w')))
    (ET : (Hid (∀ w : World, Calls Tryd.prog 41 #[.agg #[.int .i64 xn, .int .i64 xs]] w fun e w' => e = .returned (.agg #[.int .i64 tn, .int .i64 ts]) ∧ Below w.heap.size w w')))
    (TA : (Hid (∀ w : World, Calls Tryd.prog 30 #[.agg #[.int .i64 an, .int .i64 aS]] w fun e w' => e = .returned (.agg #[.int .i64 an, .int .i64 aS]) ∧ Below w.heap.size w w')))
    (TT : (Hid (∀ w : World, Calls Tryd.prog 30 #[.agg #[.int .i64 tn, .int .i64 ts]] w fun e w' => e = .returned (.agg #[.int .i64 tn, .int .i64 ts]) ∧ Below w.heap.size w w')))
    (CT : (Hid (∀ w : World, Calls Tryd.prog 31 #[.agg #[.int .i64 tn, .int .i64 ts], .agg #[.int .i64 xn, .int .i64 xs]] w fun e w' => e = .returned (.int .i64 0) ∧ Below w.heap.size w w')))
    (KN : Hid (∀ w : World, Tab w → Calls Tryd.prog 35 #[] w fun e w' => e = .returned (.bool true) ∧ Below w.heap.size w w')) (w : World) (hT : Hid (Tab w)) :
    Calls Tryd.prog 7 #[.agg #[.int .i64 xn, .int .i64 xs], .int .i64 pl] w fun e w' => e = .returned (.bool true) ∧ Below w.heap.size w w' := by
  have L0 : LS w [(w.heap.size, xn, xs)] (w.alloc (.cells #[.int .i64 xn, .int .i64 xs] 33)) := ⟨(Below.refl _ _).alloc (Nat.le_refl _) _, fun q hq => by
    rcases List.mem_cons.1 hq with rfl | hq
    · exact Box.newT w xn xs 33
    · cases hq⟩
  go_enter Tryd.func7, Tryd.ntmps7
  go_wp2_with fail
  refine (HX.out _).mono ?_
  rintro e V1 ⟨rfl, hb⟩
  have K1 := L0.below hb
  clear hb L0
  go_wp2_with fail
  refine (OX.out _).mono ?_
  rintro e V2 ⟨rfl, hb⟩
  have K2 := K1.below hb
  clear hb K1
  have N3 := K2.new (an) (aS) 34
  have M3 := (K2.alloc (.cells #[.int .i64 (an), .int .i64 (aS)] 34)).more N3
  clear N3 K2
  obtain ⟨qa0, qb0, qc0, qd0, qe0⟩ := M3.2 (V2.heap.size, an, aS) (by simp)
  obtain ⟨qa1, qb1, qc1, qd1, qe1⟩ := M3.2 (w.heap.size, xn, xs) (by simp)
  go_wp2_with fail
  refine (ER.out _).mono ?_
  rintro e V4 ⟨rfl, hb⟩
  have K4 := M3.below hb
  clear hb M3
  clear qa0 qb0 qc0 qd0 qe0
  clear qa1 qb1 qc1 qd1 qe1
  have N5 := K4.new (an) (aS) 33
  have M5 := (K4.alloc (.cells #[.int .i64 (an), .int .i64 (aS)] 33)).more N5
  clear N5 K4
  obtain ⟨qa0, qb0, qc0, qd0, qe0⟩ := M5.2 (V4.heap.size, an, aS) (by simp)
  obtain ⟨qa1, qb1, qc1, qd1, qe1⟩ := M5.2 (V2.heap.size, an, aS) (by simp)
  obtain ⟨qa2, qb2, qc2, qd2, qe2⟩ := M5.2 (w.heap.size, xn, xs) (by simp)
  go_wp2_with fail
  refine (HX.out _).mono ?_
  rintro e V6 ⟨rfl, hb⟩
  have K6 := M5.below hb
  clear hb M5
  clear qa0 qb0 qc0 qd0 qe0
  clear qa1 qb1 qc1 qd1 qe1
  clear qa2 qb2 qc2 qd2 qe2
  go_wp2_with fail
  refine (FX.out _).mono ?_
  rintro e V7 ⟨rfl, hb⟩
  have K7 := K6.below hb
  clear hb K6
  obtain ⟨qa0, qb0, qc0, qd0, qe0⟩ := K7.2 (V4.heap.size, an, aS) (by simp)
  obtain ⟨qa1, qb1, qc1, qd1, qe1⟩ := K7.2 (V2.heap.size, an, aS) (by simp)
  obtain ⟨qa2, qb2, qc2, qd2, qe2⟩ := K7.2 (w.heap.size, xn, xs) (by simp)
  go_wp2_with fail
  refine (EF.out _).mono ?_
  rintro e V8 ⟨rfl, hb⟩
  have K8 := K7.below hb
  clear hb K7
  clear qa0 qb0 qc0 qd0 qe0
  clear qa1 qb1 qc1 qd1 qe1
  clear qa2 qb2 qc2 qd2 qe2
  obtain ⟨qa0, qb0, qc0, qd0, qe0⟩ := K8.2 (V4.heap.size, an, aS) (by simp)
  obtain ⟨qa1, qb1, qc1, qd1, qe1⟩ := K8.2 (V2.heap.size, an, aS) (by simp)
  obtain ⟨qa2, qb2, qc2, qd2, qe2⟩ := K8.2 (w.heap.size, xn, xs) (by simp)
  go_wp2_with fail
  refine (HX.out _).mono ?_
  rintro e V9 ⟨rfl, hb⟩
  have K9 := K8.below hb
  clear hb K8
  clear qa0 qb0 qc0 qd0 qe0
  clear qa1 qb1 qc1 qd1 qe1
  clear qa2 qb2 qc2 qd2 qe2
  go_wp2_with fail
  refine (TX.out _).mono ?_
  rintro e V10 ⟨rfl, hb⟩
  have K10 := K9.below hb
  clear hb K9
  have N11 := K10.new (tn) (ts) 34
  have M11 := (K10.alloc (.cells #[.int .i64 (tn), .int .i64 (ts)] 34)).more N11
  clear N11 K10
  go_wp2_with fail
  refine gen_world (LS w [(V10.heap.size, tn, ts), (V4.heap.size, an, aS), (V2.heap.size, an, aS), (w.heap.size, xn, xs)]) M11 ?_
  clear M11
  rintro W12 K12
  refine wp_region_held_drew (S := LS w [(V10.heap.size, tn, ts), (V4.heap.size, an, aS), (V2.heap.size, an, aS), (w.heap.size, xn, xs)]) (by kernel_rfl) K12.drew (fun hHeld => ?_)
  refine wpAnyH_take (i := 0) (v := ?_) (oi := { dst := some 41, op := _, type := _, pos := _, after := _, guard := none }) rfl (by kernel_rfl) (by kernel_rfl) (by kernel_rfl) (fun _ _ _ h => h) (Or.inl ⟨by kernel_rfl, ?_⟩) (by assumption) ?_
  case refine_2 => (intro w9 hSw; obtain ⟨sa0, sb0, sc0, sd0, se0⟩ := hSw.2 (V10.heap.size, tn, ts) (by simp); obtain ⟨sa1, sb1, sc1, sd1, se1⟩ := hSw.2 (V4.heap.size, an, aS) (by simp); obtain ⟨sa2, sb2, sc2, sd2, se2⟩ := hSw.2 (V2.heap.size, an, aS) (by simp); obtain ⟨sa3, sb3, sc3, sd3, se3⟩ := hSw.2 (w.heap.size, xn, xs) (by simp); clear hSw; go_simp; try with_reducible rfl)
  simp only [Act.put, List.setIfInBounds_toArray, List.set_cons_zero, List.set_cons_succ]
  refine wpAnyH_take (i := 2) (v := ?_) (oi := { dst := some 43, op := _, type := _, pos := _, after := _, guard := none }) rfl (by kernel_rfl) (by kernel_rfl) (by kernel_rfl) (fun _ _ _ h => h) (Or.inl ⟨by kernel_rfl, ?_⟩) (by assumption) ?_
  case refine_2 => (intro w9 hSw; obtain ⟨sa0, sb0, sc0, sd0, se0⟩ := hSw.2 (V10.heap.size, tn, ts) (by simp); obtain ⟨sa1, sb1, sc1, sd1, se1⟩ := hSw.2 (V4.heap.size, an, aS) (by simp); obtain ⟨sa2, sb2, sc2, sd2, se2⟩ := hSw.2 (V2.heap.size, an, aS) (by simp); obtain ⟨sa3, sb3, sc3, sd3, se3⟩ := hSw.2 (w.heap.size, xn, xs) (by simp); clear hSw; go_simp; try with_reducible rfl)
  simp only [Act.put, List.setIfInBounds_toArray, List.set_cons_zero, List.set_cons_succ]
  refine wpAnyH_ready (rs := [1]) (by kernel_rfl) (by simp) (AllReadyH.cons (o := { dst := some 42, op := _, type := _, pos := _, after := _, guard := none }) rfl (fun K hK => ?_) AllReadyH.nil)
  go_simp
  refine (TA.out _).mono ?_
  rintro e v1 ⟨rfl, hb1⟩
  refine hK.out _ _ (hHeld.below hb1) (fun hHeld => ?_)
  clear hK K hb1
  refine wpAnyH_take (i := 3) (v := ?_) (oi := { dst := some 44, op := _, type := _, pos := _, after := _, guard := none }) rfl (by kernel_rfl) (by kernel_rfl) (by kernel_rfl) (fun _ _ _ h => h) (Or.inl ⟨by kernel_rfl, ?_⟩) (by assumption) ?_
  case refine_2 => (intro w9 hSw; clear hSw; go_simp; try with_reducible rfl)
  simp only [Act.put, List.setIfInBounds_toArray, List.set_cons_zero, List.set_cons_succ]
  refine wpAnyH_take (i := 4) (v := ?_) (oi := { dst := some 45, op := _, type := _, pos := _, after := _, guard := none }) rfl (by kernel_rfl) (by kernel_rfl) (by kernel_rfl) (fun _ _ _ h => h) (Or.inl ⟨by kernel_rfl, ?_⟩) (by assumption) ?_
  case refine_2 => (intro w9 hSw; clear hSw; go_simp; try with_reducible rfl)
  simp only [Act.put, List.setIfInBounds_toArray, List.set_cons_zero, List.set_cons_succ]
  refine wpAnyH_take (i := 5) (v := ?_) (oi := { dst := some 46, op := _, type := _, pos := _, after := _, guard := some (4, true) }) rfl (by kernel_rfl) (by kernel_rfl) (by kernel_rfl) (fun _ _ _ h => h) (Or.inl ⟨by kernel_rfl, ?_⟩) (by assumption) ?_
  case refine_2 => (intro w9 hSw; clear hSw; go_simp; try with_reducible rfl)
  simp only [Act.put, List.setIfInBounds_toArray, List.set_cons_zero, List.set_cons_succ]
  refine wpAnyH_take (i := 6) (v := ?_) (oi := { dst := some 47, op := _, type := _, pos := _, after := _, guard := some (4, true) }) rfl (by kernel_rfl) (by kernel_rfl) (by kernel_rfl) (fun _ _ _ h => h) (Or.inl ⟨by kernel_rfl, ?_⟩) (by assumption) ?_
  case refine_2 => (intro w9 hSw; clear hSw; go_simp; try with_reducible rfl)
  simp only [Act.put, List.setIfInBounds_toArray, List.set_cons_zero, List.set_cons_succ]
  refine wpAnyH_take (i := 7) (v := ?_) (oi := { dst := some 48, op := _, type := _, pos := _, after := _, guard := some (4, true) }) rfl (by kernel_rfl) (by kernel_rfl) (by kernel_rfl) (fun _ _ _ h => h) (Or.inl ⟨by kernel_rfl, ?_⟩) (by assumption) ?_
  case refine_2 => (intro w9 hSw; clear hSw; go_simp; try with_reducible rfl)
  simp only [Act.put, List.setIfInBounds_toArray, List.set_cons_zero, List.set_cons_succ]
  refine wpAnyH_take (i := 8) (v := ?_) (oi := { dst := some 49, op := _, type := _, pos := _, after := _, guard := none }) rfl (by kernel_rfl) (by kernel_rfl) (by kernel_rfl) (fun _ _ _ h => h) (Or.inl ⟨by kernel_rfl, ?_⟩) (by assumption) ?_
  case refine_2 => (intro w9 hSw; clear hSw; go_simp; try with_reducible rfl)
  simp only [Act.put, List.setIfInBounds_toArray, List.set_cons_zero, List.set_cons_succ]
  refine wpAnyH_take (i := 9) (v := ?_) (oi := { dst := some 50, op := _, type := _, pos := _, after := _, guard := none }) rfl (by kernel_rfl) (by kernel_rfl) (by kernel_rfl) (fun _ _ _ h => h) (Or.inl ⟨by kernel_rfl, ?_⟩) (by assumption) ?_
  case refine_2 => (intro w9 hSw; clear hSw; go_simp; try with_reducible rfl)
  simp only [Act.put, List.setIfInBounds_toArray, List.set_cons_zero, List.set_cons_succ]
  refine wpAnyH_take (i := 10) (v := ?_) (oi := { dst := some 51, op := _, type := _, pos := _, after := _, guard := some (9, true) }) rfl (by kernel_rfl) (by kernel_rfl) (by kernel_rfl) (fun _ _ _ h => h) (Or.inl ⟨by kernel_rfl, ?_⟩) (by assumption) ?_
  case refine_2 => (intro w9 hSw; clear hSw; go_simp; try with_reducible rfl)
  simp only [Act.put, List.setIfInBounds_toArray, List.set_cons_zero, List.set_cons_succ]
  refine wpAnyH_take (i := 11) (v := ?_) (oi := { dst := some 52, op := _, type := _, pos := _, after := _, guard := some (9, true) }) rfl (by kernel_rfl) (by kernel_rfl) (by kernel_rfl) (fun _ _ _ h => h) (Or.inl ⟨by kernel_rfl, ?_⟩) (by assumption) ?_
  case refine_2 => (intro w9 hSw; clear hSw; go_simp; try with_reducible rfl)
  simp only [Act.put, List.setIfInBounds_toArray, List.set_cons_zero, List.set_cons_succ]
  refine wpAnyH_take (i := 12) (v := ?_) (oi := { dst := some 53, op := _, type := _, pos := _, after := _, guard := some (9, true) }) rfl (by kernel_rfl) (by kernel_rfl) (by kernel_rfl) (fun _ _ _ h => h) (Or.inl ⟨by kernel_rfl, ?_⟩) (by assumption) ?_
  case refine_2 => (intro w9 hSw; clear hSw; go_simp; try with_reducible rfl)
  simp only [Act.put, List.setIfInBounds_toArray, List.set_cons_zero, List.set_cons_succ]
  refine wpAnyH_take (i := 13) (v := ?_) (oi := { dst := some 54, op := _, type := _, pos := _, after := _, guard := none }) rfl (by kernel_rfl) (by kernel_rfl) (by kernel_rfl) (fun _ _ _ h => h) (Or.inl ⟨by kernel_rfl, ?_⟩) (by assumption) ?_
  case refine_2 => (intro w9 hSw; clear hSw; go_simp; try with_reducible rfl)
  simp only [Act.put, List.setIfInBounds_toArray, List.set_cons_zero, List.set_cons_succ]
  refine wpAnyH_take (i := 14) (v := ?_) (oi := { dst := some 55, op := _, type := _, pos := _, after := _, guard := none }) rfl (by kernel_rfl) (by kernel_rfl) (by kernel_rfl) (fun _ _ _ h => h) (Or.inl ⟨by kernel_rfl, ?_⟩) (by assumption) ?_
  case refine_2 => (intro w9 hSw; clear hSw; go_simp; try with_reducible rfl)
  simp only [Act.put, List.setIfInBounds_toArray, List.set_cons_zero, List.set_cons_succ]
  refine wpAnyH_take (i := 15) (v := ?_) (oi := { dst := some 56, op := _, type := _, pos := _, after := _, guard := some (14, true) }) rfl (by kernel_rfl) (by kernel_rfl) (by kernel_rfl) (fun _ _ _ h => h) (Or.inl ⟨by kernel_rfl, ?_⟩) (by assumption) ?_
  case refine_2 => (intro w9 hSw; clear hSw; go_simp; try with_reducible rfl)
  simp only [Act.put, List.setIfInBounds_toArray, List.set_cons_zero, List.set_cons_succ]
  refine wpAnyH_take (i := 16) (v := ?_) (oi := { dst := some 57, op := _, type := _, pos := _, after := _, guard := some (14, true) }) rfl (by kernel_rfl) (by kernel_rfl) (by kernel_rfl) (fun _ _ _ h => h) (Or.inl ⟨by kernel_rfl, ?_⟩) (by assumption) ?_
  case refine_2 => (intro w9 hSw; clear hSw; go_simp; try with_reducible rfl)
  simp only [Act.put, List.setIfInBounds_toArray, List.set_cons_zero, List.set_cons_succ]
  refine wpAnyH_take (i := 17) (v := ?_) (oi := { dst := some 58, op := _, type := _, pos := _, after := _, guard := some (14, true) }) rfl (by kernel_rfl) (by kernel_rfl) (by kernel_rfl) (fun _ _ _ h => h) (Or.inl ⟨by kernel_rfl, ?_⟩) (by assumption) ?_
  case refine_2 => (intro w9 hSw; clear hSw; go_simp; try with_reducible rfl)
  simp only [Act.put, List.setIfInBounds_toArray, List.set_cons_zero, List.set_cons_succ]
  refine wpAnyH_take (i := 18) (v := ?_) (oi := { dst := some 59, op := _, type := _, pos := _, after := _, guard := none }) rfl (by kernel_rfl) (by kernel_rfl) (by kernel_rfl) (fun _ _ _ h => h) (Or.inl ⟨by kernel_rfl, ?_⟩) (by assumption) ?_
  case refine_2 => (intro w9 hSw; clear hSw; go_simp; try with_reducible rfl)
  simp only [Act.put, List.setIfInBounds_toArray, List.set_cons_zero, List.set_cons_succ]
  refine wpAnyH_take (i := 19) (v := ?_) (oi := { dst := some 60, op := _, type := _, pos := _, after := _, guard := none }) rfl (by kernel_rfl) (by kernel_rfl) (by kernel_rfl) (fun _ _ _ h => h) (Or.inl ⟨by kernel_rfl, ?_⟩) (by assumption) ?_
  case refine_2 => (intro w9 hSw; clear hSw; go_simp; try with_reducible rfl)
  simp only [Act.put, List.setIfInBounds_toArray, List.set_cons_zero, List.set_cons_succ]
  refine wpAnyH_take (i := 20) (v := ?_) (oi := { dst := some 61, op := _, type := _, pos := _, after := _, guard := some (19, true) }) rfl (by kernel_rfl) (by kernel_rfl) (by kernel_rfl) (fun _ _ _ h => h) (Or.inl ⟨by kernel_rfl, ?_⟩) (by assumption) ?_
  case refine_2 => (intro w9 hSw; obtain ⟨sa0, sb0, sc0, sd0, se0⟩ := hSw.2 (V10.heap.size, tn, ts) (by simp); obtain ⟨sa1, sb1, sc1, sd1, se1⟩ := hSw.2 (V4.heap.size, an, aS) (by simp); obtain ⟨sa2, sb2, sc2, sd2, se2⟩ := hSw.2 (V2.heap.size, an, aS) (by simp); obtain ⟨sa3, sb3, sc3, sd3, se3⟩ := hSw.2 (w.heap.size, xn, xs) (by simp); clear hSw; go_simp; try with_reducible rfl)
  simp only [Act.put, List.setIfInBounds_toArray, List.set_cons_zero, List.set_cons_succ]
  refine wpAnyH_take (i := 22) (v := ?_) (oi := { dst := some 63, op := _, type := _, pos := _, after := _, guard := some (19, true) }) rfl (by kernel_rfl) (by kernel_rfl) (by kernel_rfl) (fun _ _ _ h => h) (Or.inl ⟨by kernel_rfl, ?_⟩) (by assumption) ?_
  case refine_2 => (intro w9 hSw; obtain ⟨sa0, sb0, sc0, sd0, se0⟩ := hSw.2 (V10.heap.size, tn, ts) (by simp); obtain ⟨sa1, sb1, sc1, sd1, se1⟩ := hSw.2 (V4.heap.size, an, aS) (by simp); obtain ⟨sa2, sb2, sc2, sd2, se2⟩ := hSw.2 (V2.heap.size, an, aS) (by simp); obtain ⟨sa3, sb3, sc3, sd3, se3⟩ := hSw.2 (w.heap.size, xn, xs) (by simp); clear hSw; go_simp; try with_reducible rfl)
  simp only [Act.put, List.setIfInBounds_toArray, List.set_cons_zero, List.set_cons_succ]
  refine wpAnyH_ready (rs := [21]) (by kernel_rfl) (by simp) (AllReadyH.cons (o := { dst := some 62, op := _, type := _, pos := _, after := _, guard := some (19, true) }) rfl (fun K hK => ?_) AllReadyH.nil)
  go_simp
  refine (TT.out _).mono ?_
  rintro e v2 ⟨rfl, hb2⟩
  refine hK.out _ _ (hHeld.below hb2) (fun hHeld => ?_)
  clear hK K hb2
  refine wpAnyH_ready (rs := [23]) (by kernel_rfl) (by simp) (AllReadyH.cons (o := { dst := some 64, op := _, type := _, pos := _, after := _, guard := some (19, true) }) rfl (fun K hK => ?_) AllReadyH.nil)
  go_simp
  refine (ET.out _).mono ?_
  rintro e v3 ⟨rfl, hb3⟩
  refine hK.out _ _ (hHeld.below hb3) (fun hHeld => ?_)
  clear hK K hb3
  refine wpAnyH_take (i := 24) (v := ?_) (oi := { dst := some 65, op := _, type := _, pos := _, after := _, guard := some (19, true) }) rfl (by kernel_rfl) (by kernel_rfl) (by kernel_rfl) (fun _ _ _ h => h) (Or.inl ⟨by kernel_rfl, ?_⟩) (by assumption) ?_
  case refine_2 => (intro w9 hSw; clear hSw; go_simp; try with_reducible rfl)
  simp only [Act.put, List.setIfInBounds_toArray, List.set_cons_zero, List.set_cons_succ]
  refine wpAnyH_take (i := 25) (v := ?_) (oi := { dst := some 66, op := _, type := _, pos := _, after := _, guard := none }) rfl (by kernel_rfl) (by kernel_rfl) (by kernel_rfl) (fun _ _ _ h => h) (Or.inl ⟨by kernel_rfl, ?_⟩) (by assumption) ?_
  case refine_2 => (intro w9 hSw; clear hSw; go_simp; try with_reducible rfl)
  simp only [Act.put, List.setIfInBounds_toArray, List.set_cons_zero, List.set_cons_succ]
  refine wpAnyH_take (i := 26) (v := ?_) (oi := { dst := some 67, op := _, type := _, pos := _, after := _, guard := none }) rfl (by kernel_rfl) (by kernel_rfl) (by kernel_rfl) (fun _ _ _ h => h) (Or.inl ⟨by kernel_rfl, ?_⟩) (by assumption) ?_
  case refine_2 => (intro w9 hSw; clear hSw; go_simp; try with_reducible rfl)
  simp only [Act.put, List.setIfInBounds_toArray, List.set_cons_zero, List.set_cons_succ]
  refine wpAnyH_take (i := 27) (v := ?_) (oi := { dst := some 68, op := _, type := _, pos := _, after := _, guard := some (26, true) }) rfl (by kernel_rfl) (by kernel_rfl) (by kernel_rfl) (fun _ _ _ h => h) (Or.inl ⟨by kernel_rfl, ?_⟩) (by assumption) ?_
  case refine_2 => (intro w9 hSw; obtain ⟨sa0, sb0, sc0, sd0, se0⟩ := hSw.2 (V10.heap.size, tn, ts) (by simp); obtain ⟨sa1, sb1, sc1, sd1, se1⟩ := hSw.2 (V4.heap.size, an, aS) (by simp); obtain ⟨sa2, sb2, sc2, sd2, se2⟩ := hSw.2 (V2.heap.size, an, aS) (by simp); obtain ⟨sa3, sb3, sc3, sd3, se3⟩ := hSw.2 (w.heap.size, xn, xs) (by simp); clear hSw; go_simp; try with_reducible rfl)
  simp only [Act.put, List.setIfInBounds_toArray, List.set_cons_zero, List.set_cons_succ]
  refine wpAnyH_take (i := 28) (v := ?_) (oi := { dst := some 69, op := _, type := _, pos := _, after := _, guard := some (26, true) }) rfl (by kernel_rfl) (by kernel_rfl) (by kernel_rfl) (fun _ _ _ h => h) (Or.inl ⟨by kernel_rfl, ?_⟩) (by assumption) ?_
  case refine_2 => (intro w9 hSw; obtain ⟨sa0, sb0, sc0, sd0, se0⟩ := hSw.2 (V10.heap.size, tn, ts) (by simp); obtain ⟨sa1, sb1, sc1, sd1, se1⟩ := hSw.2 (V4.heap.size, an, aS) (by simp); obtain ⟨sa2, sb2, sc2, sd2, se2⟩ := hSw.2 (V2.heap.size, an, aS) (by simp); obtain ⟨sa3, sb3, sc3, sd3, se3⟩ := hSw.2 (w.heap.size, xn, xs) (by simp); clear hSw; go_simp; try with_reducible rfl)
  simp only [Act.put, List.setIfInBounds_toArray, List.set_cons_zero, List.set_cons_succ]
  refine wpAnyH_ready (rs := [29]) (by kernel_rfl) (by simp) (AllReadyH.cons (o := { dst := some 70, op := _, type := _, pos := _, after := _, guard := some (26, true) }) rfl (fun K hK => ?_) AllReadyH.nil)
  go_simp
  refine (HX.out _).mono ?_
  rintro e v4 ⟨rfl, hb4⟩
  refine hK.out _ _ (hHeld.below hb4) (fun hHeld => ?_)
  clear hK K hb4
  refine wpAnyH_ready (rs := [30]) (by kernel_rfl) (by simp) (AllReadyH.cons (o := { dst := some 71, op := _, type := _, pos := _, after := _, guard := some (26, true) }) rfl (fun K hK => ?_) AllReadyH.nil)
  go_simp
  refine (CT.out _).mono ?_
  rintro e v5 ⟨rfl, hb5⟩
  refine hK.out _ _ (hHeld.below hb5) (fun hHeld => ?_)
  clear hK K hb5
  refine wpAnyH_take (i := 31) (v := ?_) (oi := { dst := some 72, op := _, type := _, pos := _, after := _, guard := some (26, true) }) rfl (by kernel_rfl) (by kernel_rfl) (by kernel_rfl) (fun _ _ _ h => h) (Or.inl ⟨by kernel_rfl, ?_⟩) (by assumption) ?_
  case refine_2 => (intro w9 hSw; clear hSw; go_simp; try with_reducible rfl)
  simp only [Act.put, List.setIfInBounds_toArray, List.set_cons_zero, List.set_cons_succ]
  refine wpAnyH_take (i := 32) (v := ?_) (oi := { dst := some 73, op := _, type := _, pos := _, after := _, guard := none }) rfl (by kernel_rfl) (by kernel_rfl) (by kernel_rfl) (fun _ _ _ h => h) (Or.inl ⟨by kernel_rfl, ?_⟩) (by assumption) ?_
  case refine_2 => (intro w9 hSw; clear hSw; go_simp; try with_reducible rfl)
  simp only [Act.put, List.setIfInBounds_toArray, List.set_cons_zero, List.set_cons_succ]
  refine wpAnyH_take (i := 33) (v := ?_) (oi := { dst := some 74, op := _, type := _, pos := _, after := _, guard := none }) rfl (by kernel_rfl) (by kernel_rfl) (by kernel_rfl) (fun _ _ _ h => h) (Or.inl ⟨by kernel_rfl, ?_⟩) (by assumption) ?_
  case refine_2 => (intro w9 hSw; clear hSw; go_simp; try with_reducible rfl)
  simp only [Act.put, List.setIfInBounds_toArray, List.set_cons_zero, List.set_cons_succ]
  refine wpAnyH_ready (rs := [34]) (by kernel_rfl) (by simp) (AllReadyH.cons (o := { dst := some 75, op := _, type := _, pos := _, after := _, guard := some (33, true) }) rfl (fun K hK => ?_) AllReadyH.nil)
  go_simp
  refine (KN.out _ (hT.out.below hHeld.1)).mono ?_
  rintro e v6 ⟨rfl, hb6⟩
  refine hK.out _ _ (hHeld.below hb6) (fun hHeld => ?_)
  clear hK K hb6
  refine wpAnyH_take (i := 35) (v := ?_) (oi := { dst := some 76, op := _, type := _, pos := _, after := _, guard := none }) rfl (by kernel_rfl) (by kernel_rfl) (by kernel_rfl) (fun _ _ _ h => h) (Or.inl ⟨by kernel_rfl, ?_⟩) (by assumption) ?_
  case refine_2 => (intro w9 hSw; clear hSw; go_simp; try with_reducible rfl)
  simp only [Act.put, List.setIfInBounds_toArray, List.set_cons_zero, List.set_cons_succ]
  refine wpAnyH_take (i := 36) (v := ?_) (oi := { dst := some 4, op := _, type := _, pos := _, after := _, guard := none }) rfl (by kernel_rfl) (by kernel_rfl) (by kernel_rfl) (fun _ _ _ h => h) (Or.inl ⟨by kernel_rfl, ?_⟩) (by assumption) ?_
  case refine_2 => (intro w9 hSw; clear hSw; go_simp; try with_reducible rfl)
  simp only [Act.put, List.setIfInBounds_toArray, List.set_cons_zero, List.set_cons_succ]
  refine wpAnyH_done (by kernel_rfl) ?_ _
  go_wp2
  go_ret
  exact ⟨rfl, hHeld.1⟩

end Go.Proofs.YtlhlanekklonmaaDoor
