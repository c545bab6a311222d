/- The walk of DecTexts. -/
import Derived.Test.YtebjicnjbiiioaaDoorDecTx
import Derived.Test.YtebjicnjbiiioaaDoorDecL
import Derived.Deep.RegionHeld3
namespace Go.Proofs.YtebjicnjbiiioaaDoor
open Go.RowKit
set_option linter.unusedVariables false

theorem ne_self (t : ByteArray) : (!(t.toList == t.toList)) = false := by simp
theorem agg_self (a b : Int) : (a == a && b == b) = true := by simp

set_option maxRecDepth 100000 in
set_option maxHeartbeats 8000000 in
theorem core_DecTexts_bad (xn xs an aS ae : Int) (s t : ByteArray)
    (HX : (Hid (∀ w : World, Calls Tryd.prog 10 #[.agg #[.int .i64 xn, .int .i64 xs]] w fun e w' => e = .returned (.agg #[.int .i64 xn, .int .i64 xs]) ∧ Below w.heap.size w w')))
    (TX : (Hid (∀ w : World, Tab w → Calls Tryd.prog 9 #[.agg #[.int .i64 xn, .int .i64 xs]] w fun e w' => e = .returned (.string t) ∧ Below w.heap.size w w')))
    (OX : (Hid (∀ w : World, Calls Tryd.prog 11 #[.string s] w fun e w' => e = .returned (.tuple #[.agg #[.int .i64 an, .int .i64 aS], .int .i64 ae]) ∧ Below w.heap.size w w')))
    (ER : (Hid (∀ w : World, Calls Tryd.prog 12 #[.string s] w fun e w' => e = .returned (.tuple #[.agg #[.int .i64 an, .int .i64 aS], .int .i64 ae]) ∧ Below w.heap.size w w')))
    (ET : (Hid (∀ w : World, Calls Tryd.prog 13 #[.agg #[.int .i64 xn, .int .i64 xs]] w fun e w' => e = .returned (.string t) ∧ Below w.heap.size w w')))
    (TA : (Hid (∀ w : World, Calls Tryd.prog 14 #[.agg #[.int .i64 an, .int .i64 aS]] w fun e w' => e = .returned (.agg #[.int .i64 an, .int .i64 aS]) ∧ Below w.heap.size w w')))
    (RX : (Hid (∀ w : World, Calls Tryd.prog 15 #[.agg #[.int .i64 xn, .int .i64 xs]] w fun e w' => e = .returned (.bool false) ∧ Below w.heap.size w w')))
    (KN : Hid (∀ w : World, Tab w → Calls Tryd.prog 16 #[] w fun e w' => e = .returned (.bool true) ∧ Below w.heap.size w w')) (w : World) (hT : Hid (Tab w)) :
    Calls Tryd.prog 3 #[.agg #[.int .i64 xn, .int .i64 xs], .string s] w fun e w' => e = .returned (.bool true) ∧ Below w.heap.size w w' := by
  have L0 : LS w [(w.heap.size, xn, xs)] (w.alloc (.cells #[.int .i64 xn, .int .i64 xs] 23)) := ⟨(Below.refl _ _).alloc (Nat.le_refl _) _, fun q hq => by
    rcases List.mem_cons.1 hq with rfl | hq
    · exact Box.newT w xn xs 23
    · cases hq⟩
  go_enter Tryd.func3, Tryd.ntmps3
  go_wp2_with fail
  refine (HX.out _).mono ?_
  rintro e V1 ⟨rfl, hb⟩
  have K1 := L0.below hb
  clear hb L0
  go_wp2_with fail
  refine (TX.out _ (hT.out.below K1.1)).mono ?_
  rintro e V2 ⟨rfl, hb⟩
  have K2 := K1.below hb
  clear hb K1
  go_wp2_with fail
  refine (OX.out _).mono ?_
  rintro e V3 ⟨rfl, hb⟩
  have K3 := K2.below hb
  clear hb K2
  have N4 := K3.new (an) (aS) 25
  have M4 := (K3.alloc (.cells #[.int .i64 (an), .int .i64 (aS)] 25)).more N4
  clear N4 K3
  go_wp2_with fail
  refine (ER.out _).mono ?_
  rintro e V5 ⟨rfl, hb⟩
  have K5 := M4.below hb
  clear hb M4
  have N6 := K5.new (an) (aS) 23
  have M6 := (K5.alloc (.cells #[.int .i64 (an), .int .i64 (aS)] 23)).more N6
  clear N6 K5
  go_wp2_with fail
  refine gen_world (LS w [(V5.heap.size, an, aS), (V3.heap.size, an, aS), (w.heap.size, xn, xs)]) M6 ?_
  clear M6
  rintro W7 K7
  refine wp_region_held_drew (S := LS w [(V5.heap.size, an, aS), (V3.heap.size, an, aS), (w.heap.size, xn, xs)]) (by kernel_rfl) K7.drew (fun hHeld => ?_)
  refine wpAnyH_take (i := 0) (v := ?_) (oi := { dst := some 25, op := _, type := _, pos := _, after := _, guard := none }) rfl (by kernel_rfl) (by kernel_rfl) (by kernel_rfl) (fun _ _ _ h => h) (Or.inl ⟨by kernel_rfl, ?_⟩) (by assumption) ?_
  case refine_2 => (intro w9 hSw; clear hSw; go_simp; try with_reducible rfl)
  simp only [Act.put, List.setIfInBounds_toArray, List.set_cons_zero, List.set_cons_succ]
  refine wpAnyH_take (i := 1) (v := ?_) (oi := { dst := some 26, op := _, type := _, pos := _, after := _, guard := none }) rfl (by kernel_rfl) (by kernel_rfl) (by kernel_rfl) (fun _ _ _ h => h) (Or.inl ⟨by kernel_rfl, ?_⟩) (by assumption) ?_
  case refine_2 => (intro w9 hSw; obtain ⟨sa0, sb0, sc0, sd0, se0⟩ := hSw.2 (V5.heap.size, an, aS) (by simp); obtain ⟨sa1, sb1, sc1, sd1, se1⟩ := hSw.2 (V3.heap.size, an, aS) (by simp); obtain ⟨sa2, sb2, sc2, sd2, se2⟩ := hSw.2 (w.heap.size, xn, xs) (by simp); clear hSw; go_simp; try with_reducible rfl)
  simp only [Act.put, List.setIfInBounds_toArray, List.set_cons_zero, List.set_cons_succ]
  refine wpAnyH_ready (rs := [2]) (by kernel_rfl) (by simp) (AllReadyH.cons (o := { dst := some 27, op := _, type := _, pos := _, after := _, guard := none }) rfl (fun K hK => ?_) AllReadyH.nil)
  go_simp
  refine (ET.out _).mono ?_
  rintro e v1 ⟨rfl, hb1⟩
  refine hK.out _ _ (hHeld.below hb1) (fun hHeld => ?_)
  clear hK K hb1
  refine wpAnyH_take (i := 3) (v := .bool false) (oi := { dst := some 28, op := _, type := _, pos := _, after := _, guard := none }) rfl (by kernel_rfl) (by kernel_rfl) (by kernel_rfl) (fun _ _ _ h => h) (Or.inl ⟨by kernel_rfl, ?_⟩) (by assumption) ?_
  case refine_1 => (intro w9 hSw; clear hSw; go_simp; try with_reducible rfl)
  simp only [Act.put, List.setIfInBounds_toArray, List.set_cons_zero, List.set_cons_succ]
  refine wpAnyH_take (i := 4) (v := .bool false) (oi := { dst := some 29, op := _, type := _, pos := _, after := _, guard := none }) rfl (by kernel_rfl) (by kernel_rfl) (by kernel_rfl) (fun _ _ _ h => h) (Or.inl ⟨by kernel_rfl, ?_⟩) (by assumption) ?_
  case refine_1 => (intro w9 hSw; clear hSw; go_simp; try with_reducible rfl)
  simp only [Act.put, List.setIfInBounds_toArray, List.set_cons_zero, List.set_cons_succ]
  refine wpAnyH_take (i := 5) (v := ?_) (oi := { dst := some 30, op := _, type := _, pos := _, after := _, guard := some (4, false) }) rfl (by kernel_rfl) (by kernel_rfl) (by kernel_rfl) (fun _ _ _ h => h) (Or.inl ⟨by kernel_rfl, ?_⟩) (by assumption) ?_
  case refine_2 => (intro w9 hSw; obtain ⟨sa0, sb0, sc0, sd0, se0⟩ := hSw.2 (V5.heap.size, an, aS) (by simp); obtain ⟨sa1, sb1, sc1, sd1, se1⟩ := hSw.2 (V3.heap.size, an, aS) (by simp); obtain ⟨sa2, sb2, sc2, sd2, se2⟩ := hSw.2 (w.heap.size, xn, xs) (by simp); clear hSw; go_simp; try with_reducible rfl)
  simp only [Act.put, List.setIfInBounds_toArray, List.set_cons_zero, List.set_cons_succ]
  refine wpAnyH_take (i := 7) (v := ?_) (oi := { dst := some 32, op := _, type := _, pos := _, after := _, guard := some (4, false) }) rfl (by kernel_rfl) (by kernel_rfl) (by kernel_rfl) (fun _ _ _ h => h) (Or.inl ⟨by kernel_rfl, ?_⟩) (by assumption) ?_
  case refine_2 => (intro w9 hSw; obtain ⟨sa0, sb0, sc0, sd0, se0⟩ := hSw.2 (V5.heap.size, an, aS) (by simp); obtain ⟨sa1, sb1, sc1, sd1, se1⟩ := hSw.2 (V3.heap.size, an, aS) (by simp); obtain ⟨sa2, sb2, sc2, sd2, se2⟩ := hSw.2 (w.heap.size, xn, xs) (by simp); clear hSw; go_simp; try with_reducible rfl)
  simp only [Act.put, List.setIfInBounds_toArray, List.set_cons_zero, List.set_cons_succ]
  refine wpAnyH_ready (rs := [6]) (by kernel_rfl) (by simp) (AllReadyH.cons (o := { dst := some 31, op := _, type := _, pos := _, after := _, guard := some (4, false) }) rfl (fun K hK => ?_) AllReadyH.nil)
  go_simp
  refine (TA.out _).mono ?_
  rintro e v2 ⟨rfl, hb2⟩
  refine hK.out _ _ (hHeld.below hb2) (fun hHeld => ?_)
  clear hK K hb2
  refine wpAnyH_take (i := 8) (v := .bool false) (oi := { dst := some 33, op := _, type := _, pos := _, after := _, guard := some (4, false) }) rfl (by kernel_rfl) (by kernel_rfl) (by kernel_rfl) (fun _ _ _ h => h) (Or.inl ⟨by kernel_rfl, ?_⟩) (by assumption) ?_
  case refine_1 => (intro w9 hSw; clear hSw; go_simp; try with_reducible rfl)
  simp only [Act.put, List.setIfInBounds_toArray, List.set_cons_zero, List.set_cons_succ]
  refine wpAnyH_take (i := 9) (v := .bool false) (oi := { dst := some 34, op := _, type := _, pos := _, after := _, guard := none }) rfl (by kernel_rfl) (by kernel_rfl) (by kernel_rfl) (fun _ _ _ h => h) (Or.inl ⟨by kernel_rfl, ?_⟩) (by assumption) ?_
  case refine_1 => (intro w9 hSw; clear hSw; go_simp; try with_reducible rfl)
  simp only [Act.put, List.setIfInBounds_toArray, List.set_cons_zero, List.set_cons_succ]
  refine wpAnyH_take (i := 10) (v := .bool false) (oi := { dst := some 35, op := _, type := _, pos := _, after := _, guard := none }) rfl (by kernel_rfl) (by kernel_rfl) (by kernel_rfl) (fun _ _ _ h => h) (Or.inl ⟨by kernel_rfl, ?_⟩) (by assumption) ?_
  case refine_1 => (intro w9 hSw; clear hSw; go_simp; try with_reducible rfl)
  simp only [Act.put, List.setIfInBounds_toArray, List.set_cons_zero, List.set_cons_succ]
  refine wpAnyH_take (i := 11) (v := ?_) (oi := { dst := some 36, op := _, type := _, pos := _, after := _, guard := some (10, false) }) rfl (by kernel_rfl) (by kernel_rfl) (by kernel_rfl) (fun _ _ _ h => h) (Or.inl ⟨by kernel_rfl, ?_⟩) (by assumption) ?_
  case refine_2 => (intro w9 hSw; clear hSw; go_simp; try with_reducible rfl)
  simp only [Act.put, List.setIfInBounds_toArray, List.set_cons_zero, List.set_cons_succ]
  refine wpAnyH_take (i := 12) (v := ?_) (oi := { dst := some 37, op := _, type := _, pos := _, after := _, guard := some (10, false) }) rfl (by kernel_rfl) (by kernel_rfl) (by kernel_rfl) (fun _ _ _ h => h) (Or.inl ⟨by kernel_rfl, ?_⟩) (by assumption) ?_
  case refine_2 => (intro w9 hSw; clear hSw; go_simp; try with_reducible rfl)
  simp only [Act.put, List.setIfInBounds_toArray, List.set_cons_zero, List.set_cons_succ]
  refine wpAnyH_take (i := 13) (v := .bool false) (oi := { dst := some 38, op := _, type := _, pos := _, after := _, guard := some (10, false) }) rfl (by kernel_rfl) (by kernel_rfl) (by kernel_rfl) (fun _ _ _ h => h) (Or.inl ⟨by kernel_rfl, ?_⟩) (by assumption) ?_
  case refine_1 => (intro w9 hSw; clear hSw; go_simp; try with_reducible rfl)
  simp only [Act.put, List.setIfInBounds_toArray, List.set_cons_zero, List.set_cons_succ]
  refine wpAnyH_take (i := 14) (v := .bool false) (oi := { dst := some 39, op := _, type := _, pos := _, after := _, guard := none }) rfl (by kernel_rfl) (by kernel_rfl) (by kernel_rfl) (fun _ _ _ h => h) (Or.inl ⟨by kernel_rfl, ?_⟩) (by assumption) ?_
  case refine_1 => (intro w9 hSw; clear hSw; go_simp; try with_reducible rfl)
  simp only [Act.put, List.setIfInBounds_toArray, List.set_cons_zero, List.set_cons_succ]
  refine wpAnyH_done (by kernel_rfl) ?_ _
  obtain ⟨qa0, qb0, qc0, qd0, qe0⟩ := hHeld.2 (V5.heap.size, an, aS) (by simp)
  obtain ⟨qa1, qb1, qc1, qd1, qe1⟩ := hHeld.2 (V3.heap.size, an, aS) (by simp)
  obtain ⟨qa2, qb2, qc2, qd2, qe2⟩ := hHeld.2 (w.heap.size, xn, xs) (by simp)
  go_wp2_with fail
  refine (RX.out _).mono ?_
  rintro e V8 ⟨rfl, hb⟩
  have K8 := hHeld.below hb
  clear hb hHeld
  clear qa0 qb0 qc0 qd0 qe0
  clear qa1 qb1 qc1 qd1 qe1
  clear qa2 qb2 qc2 qd2 qe2
  go_wp2_with fail
  refine (KN.out _ (hT.out.below K8.1)).mono ?_
  rintro e V99 ⟨rfl, hb⟩
  go_wp2
  go_ret
  exact ⟨rfl, (K8.below hb).1⟩

set_option maxRecDepth 100000 in
set_option maxHeartbeats 8000000 in
theorem core_DecTexts_ok (xn xs an aS ae : Int) (s t : ByteArray)
    (HX : (Hid (∀ w : World, Calls Tryd.prog 10 #[.agg #[.int .i64 xn, .int .i64 xs]] w fun e w' => e = .returned (.agg #[.int .i64 xn, .int .i64 xs]) ∧ Below w.heap.size w w')))
    (TX : (Hid (∀ w : World, Tab w → Calls Tryd.prog 9 #[.agg #[.int .i64 xn, .int .i64 xs]] w fun e w' => e = .returned (.string t) ∧ Below w.heap.size w w')))
    (OX : (Hid (∀ w : World, Calls Tryd.prog 11 #[.string s] w fun e w' => e = .returned (.tuple #[.agg #[.int .i64 an, .int .i64 aS], .int .i64 ae]) ∧ Below w.heap.size w w')))
    (ER : (Hid (∀ w : World, Calls Tryd.prog 12 #[.string s] w fun e w' => e = .returned (.tuple #[.agg #[.int .i64 an, .int .i64 aS], .int .i64 ae]) ∧ Below w.heap.size w w')))
    (ET : (Hid (∀ w : World, Calls Tryd.prog 13 #[.agg #[.int .i64 xn, .int .i64 xs]] w fun e w' => e = .returned (.string t) ∧ Below w.heap.size w w')))
    (TA : (Hid (∀ w : World, Calls Tryd.prog 14 #[.agg #[.int .i64 an, .int .i64 aS]] w fun e w' => e = .returned (.agg #[.int .i64 an, .int .i64 aS]) ∧ Below w.heap.size w w')))
    (RX : (Hid (∀ w : World, Calls Tryd.prog 15 #[.agg #[.int .i64 xn, .int .i64 xs]] w fun e w' => e = .returned (.bool true) ∧ Below w.heap.size w w')))
    (OC : (Hid (∀ w : World, Calls Tryd.prog 11 #[.string t] w fun e w' => e = .returned (.tuple #[.agg #[.int .i64 xn, .int .i64 xs], .int .i64 0]) ∧ Below w.heap.size w w')))
    (TC : (Hid (∀ w : World, Calls Tryd.prog 14 #[.agg #[.int .i64 xn, .int .i64 xs]] w fun e w' => e = .returned (.agg #[.int .i64 xn, .int .i64 xs]) ∧ Below w.heap.size w w')))
    (KN : Hid (∀ w : World, Tab w → Calls Tryd.prog 16 #[] w fun e w' => e = .returned (.bool true) ∧ Below w.heap.size w w')) (w : World) (hT : Hid (Tab w)) :
    Calls Tryd.prog 3 #[.agg #[.int .i64 xn, .int .i64 xs], .string s] w fun e w' => e = .returned (.bool true) ∧ Below w.heap.size w w' := by
  have L0 : LS w [(w.heap.size, xn, xs)] (w.alloc (.cells #[.int .i64 xn, .int .i64 xs] 23)) := ⟨(Below.refl _ _).alloc (Nat.le_refl _) _, fun q hq => by
    rcases List.mem_cons.1 hq with rfl | hq
    · exact Box.newT w xn xs 23
    · cases hq⟩
  go_enter Tryd.func3, Tryd.ntmps3
  go_wp2_with fail
  refine (HX.out _).mono ?_
  rintro e V1 ⟨rfl, hb⟩
  have K1 := L0.below hb
  clear hb L0
  go_wp2_with fail
  refine (TX.out _ (hT.out.below K1.1)).mono ?_
  rintro e V2 ⟨rfl, hb⟩
  have K2 := K1.below hb
  clear hb K1
  go_wp2_with fail
  refine (OX.out _).mono ?_
  rintro e V3 ⟨rfl, hb⟩
  have K3 := K2.below hb
  clear hb K2
  have N4 := K3.new (an) (aS) 25
  have M4 := (K3.alloc (.cells #[.int .i64 (an), .int .i64 (aS)] 25)).more N4
  clear N4 K3
  go_wp2_with fail
  refine (ER.out _).mono ?_
  rintro e V5 ⟨rfl, hb⟩
  have K5 := M4.below hb
  clear hb M4
  have N6 := K5.new (an) (aS) 23
  have M6 := (K5.alloc (.cells #[.int .i64 (an), .int .i64 (aS)] 23)).more N6
  clear N6 K5
  go_wp2_with fail
  refine gen_world (LS w [(V5.heap.size, an, aS), (V3.heap.size, an, aS), (w.heap.size, xn, xs)]) M6 ?_
  clear M6
  rintro W7 K7
  refine wp_region_held_drew (S := LS w [(V5.heap.size, an, aS), (V3.heap.size, an, aS), (w.heap.size, xn, xs)]) (by kernel_rfl) K7.drew (fun hHeld => ?_)
  refine wpAnyH_take (i := 0) (v := ?_) (oi := { dst := some 25, op := _, type := _, pos := _, after := _, guard := none }) rfl (by kernel_rfl) (by kernel_rfl) (by kernel_rfl) (fun _ _ _ h => h) (Or.inl ⟨by kernel_rfl, ?_⟩) (by assumption) ?_
  case refine_2 => (intro w9 hSw; clear hSw; go_simp; try with_reducible rfl)
  simp only [Act.put, List.setIfInBounds_toArray, List.set_cons_zero, List.set_cons_succ]
  refine wpAnyH_take (i := 1) (v := ?_) (oi := { dst := some 26, op := _, type := _, pos := _, after := _, guard := none }) rfl (by kernel_rfl) (by kernel_rfl) (by kernel_rfl) (fun _ _ _ h => h) (Or.inl ⟨by kernel_rfl, ?_⟩) (by assumption) ?_
  case refine_2 => (intro w9 hSw; obtain ⟨sa0, sb0, sc0, sd0, se0⟩ := hSw.2 (V5.heap.size, an, aS) (by simp); obtain ⟨sa1, sb1, sc1, sd1, se1⟩ := hSw.2 (V3.heap.size, an, aS) (by simp); obtain ⟨sa2, sb2, sc2, sd2, se2⟩ := hSw.2 (w.heap.size, xn, xs) (by simp); clear hSw; go_simp; try with_reducible rfl)
  simp only [Act.put, List.setIfInBounds_toArray, List.set_cons_zero, List.set_cons_succ]
  refine wpAnyH_ready (rs := [2]) (by kernel_rfl) (by simp) (AllReadyH.cons (o := { dst := some 27, op := _, type := _, pos := _, after := _, guard := none }) rfl (fun K hK => ?_) AllReadyH.nil)
  go_simp
  refine (ET.out _).mono ?_
  rintro e v1 ⟨rfl, hb1⟩
  refine hK.out _ _ (hHeld.below hb1) (fun hHeld => ?_)
  clear hK K hb1
  refine wpAnyH_take (i := 3) (v := .bool false) (oi := { dst := some 28, op := _, type := _, pos := _, after := _, guard := none }) rfl (by kernel_rfl) (by kernel_rfl) (by kernel_rfl) (fun _ _ _ h => h) (Or.inl ⟨by kernel_rfl, ?_⟩) (by assumption) ?_
  case refine_1 => (intro w9 hSw; clear hSw; go_simp; try with_reducible rfl)
  simp only [Act.put, List.setIfInBounds_toArray, List.set_cons_zero, List.set_cons_succ]
  refine wpAnyH_take (i := 4) (v := .bool false) (oi := { dst := some 29, op := _, type := _, pos := _, after := _, guard := none }) rfl (by kernel_rfl) (by kernel_rfl) (by kernel_rfl) (fun _ _ _ h => h) (Or.inl ⟨by kernel_rfl, ?_⟩) (by assumption) ?_
  case refine_1 => (intro w9 hSw; clear hSw; go_simp; try with_reducible rfl)
  simp only [Act.put, List.setIfInBounds_toArray, List.set_cons_zero, List.set_cons_succ]
  refine wpAnyH_take (i := 5) (v := ?_) (oi := { dst := some 30, op := _, type := _, pos := _, after := _, guard := some (4, false) }) rfl (by kernel_rfl) (by kernel_rfl) (by kernel_rfl) (fun _ _ _ h => h) (Or.inl ⟨by kernel_rfl, ?_⟩) (by assumption) ?_
  case refine_2 => (intro w9 hSw; obtain ⟨sa0, sb0, sc0, sd0, se0⟩ := hSw.2 (V5.heap.size, an, aS) (by simp); obtain ⟨sa1, sb1, sc1, sd1, se1⟩ := hSw.2 (V3.heap.size, an, aS) (by simp); obtain ⟨sa2, sb2, sc2, sd2, se2⟩ := hSw.2 (w.heap.size, xn, xs) (by simp); clear hSw; go_simp; try with_reducible rfl)
  simp only [Act.put, List.setIfInBounds_toArray, List.set_cons_zero, List.set_cons_succ]
  refine wpAnyH_take (i := 7) (v := ?_) (oi := { dst := some 32, op := _, type := _, pos := _, after := _, guard := some (4, false) }) rfl (by kernel_rfl) (by kernel_rfl) (by kernel_rfl) (fun _ _ _ h => h) (Or.inl ⟨by kernel_rfl, ?_⟩) (by assumption) ?_
  case refine_2 => (intro w9 hSw; obtain ⟨sa0, sb0, sc0, sd0, se0⟩ := hSw.2 (V5.heap.size, an, aS) (by simp); obtain ⟨sa1, sb1, sc1, sd1, se1⟩ := hSw.2 (V3.heap.size, an, aS) (by simp); obtain ⟨sa2, sb2, sc2, sd2, se2⟩ := hSw.2 (w.heap.size, xn, xs) (by simp); clear hSw; go_simp; try with_reducible rfl)
  simp only [Act.put, List.setIfInBounds_toArray, List.set_cons_zero, List.set_cons_succ]
  refine wpAnyH_ready (rs := [6]) (by kernel_rfl) (by simp) (AllReadyH.cons (o := { dst := some 31, op := _, type := _, pos := _, after := _, guard := some (4, false) }) rfl (fun K hK => ?_) AllReadyH.nil)
  go_simp
  refine (TA.out _).mono ?_
  rintro e v2 ⟨rfl, hb2⟩
  refine hK.out _ _ (hHeld.below hb2) (fun hHeld => ?_)
  clear hK K hb2
  refine wpAnyH_take (i := 8) (v := .bool false) (oi := { dst := some 33, op := _, type := _, pos := _, after := _, guard := some (4, false) }) rfl (by kernel_rfl) (by kernel_rfl) (by kernel_rfl) (fun _ _ _ h => h) (Or.inl ⟨by kernel_rfl, ?_⟩) (by assumption) ?_
  case refine_1 => (intro w9 hSw; clear hSw; go_simp; try with_reducible rfl)
  simp only [Act.put, List.setIfInBounds_toArray, List.set_cons_zero, List.set_cons_succ]
  refine wpAnyH_take (i := 9) (v := .bool false) (oi := { dst := some 34, op := _, type := _, pos := _, after := _, guard := none }) rfl (by kernel_rfl) (by kernel_rfl) (by kernel_rfl) (fun _ _ _ h => h) (Or.inl ⟨by kernel_rfl, ?_⟩) (by assumption) ?_
  case refine_1 => (intro w9 hSw; clear hSw; go_simp; try with_reducible rfl)
  simp only [Act.put, List.setIfInBounds_toArray, List.set_cons_zero, List.set_cons_succ]
  refine wpAnyH_take (i := 10) (v := .bool false) (oi := { dst := some 35, op := _, type := _, pos := _, after := _, guard := none }) rfl (by kernel_rfl) (by kernel_rfl) (by kernel_rfl) (fun _ _ _ h => h) (Or.inl ⟨by kernel_rfl, ?_⟩) (by assumption) ?_
  case refine_1 => (intro w9 hSw; clear hSw; go_simp; try with_reducible rfl)
  simp only [Act.put, List.setIfInBounds_toArray, List.set_cons_zero, List.set_cons_succ]
  refine wpAnyH_take (i := 11) (v := ?_) (oi := { dst := some 36, op := _, type := _, pos := _, after := _, guard := some (10, false) }) rfl (by kernel_rfl) (by kernel_rfl) (by kernel_rfl) (fun _ _ _ h => h) (Or.inl ⟨by kernel_rfl, ?_⟩) (by assumption) ?_
  case refine_2 => (intro w9 hSw; clear hSw; go_simp; try with_reducible rfl)
  simp only [Act.put, List.setIfInBounds_toArray, List.set_cons_zero, List.set_cons_succ]
  refine wpAnyH_take (i := 12) (v := ?_) (oi := { dst := some 37, op := _, type := _, pos := _, after := _, guard := some (10, false) }) rfl (by kernel_rfl) (by kernel_rfl) (by kernel_rfl) (fun _ _ _ h => h) (Or.inl ⟨by kernel_rfl, ?_⟩) (by assumption) ?_
  case refine_2 => (intro w9 hSw; clear hSw; go_simp; try with_reducible rfl)
  simp only [Act.put, List.setIfInBounds_toArray, List.set_cons_zero, List.set_cons_succ]
  refine wpAnyH_take (i := 13) (v := .bool false) (oi := { dst := some 38, op := _, type := _, pos := _, after := _, guard := some (10, false) }) rfl (by kernel_rfl) (by kernel_rfl) (by kernel_rfl) (fun _ _ _ h => h) (Or.inl ⟨by kernel_rfl, ?_⟩) (by assumption) ?_
  case refine_1 => (intro w9 hSw; clear hSw; go_simp; try with_reducible rfl)
  simp only [Act.put, List.setIfInBounds_toArray, List.set_cons_zero, List.set_cons_succ]
  refine wpAnyH_take (i := 14) (v := .bool false) (oi := { dst := some 39, op := _, type := _, pos := _, after := _, guard := none }) rfl (by kernel_rfl) (by kernel_rfl) (by kernel_rfl) (fun _ _ _ h => h) (Or.inl ⟨by kernel_rfl, ?_⟩) (by assumption) ?_
  case refine_1 => (intro w9 hSw; clear hSw; go_simp; try with_reducible rfl)
  simp only [Act.put, List.setIfInBounds_toArray, List.set_cons_zero, List.set_cons_succ]
  refine wpAnyH_done (by kernel_rfl) ?_ _
  obtain ⟨qa0, qb0, qc0, qd0, qe0⟩ := hHeld.2 (V5.heap.size, an, aS) (by simp)
  obtain ⟨qa1, qb1, qc1, qd1, qe1⟩ := hHeld.2 (V3.heap.size, an, aS) (by simp)
  obtain ⟨qa2, qb2, qc2, qd2, qe2⟩ := hHeld.2 (w.heap.size, xn, xs) (by simp)
  go_wp2_with fail
  refine (RX.out _).mono ?_
  rintro e V8 ⟨rfl, hb⟩
  have K8 := hHeld.below hb
  clear hb hHeld
  clear qa0 qb0 qc0 qd0 qe0
  clear qa1 qb1 qc1 qd1 qe1
  clear qa2 qb2 qc2 qd2 qe2
  go_wp2_with fail
  refine (OC.out _).mono ?_
  rintro e V9 ⟨rfl, hb⟩
  have K9 := K8.below hb
  clear hb K8
  have N10 := K9.new (xn) (xs) 25
  have M10 := (K9.alloc (.cells #[.int .i64 (xn), .int .i64 (xs)] 25)).more N10
  clear N10 K9
  go_wp2_with fail
  refine gen_world (LS w [(V9.heap.size, xn, xs), (V5.heap.size, an, aS), (V3.heap.size, an, aS), (w.heap.size, xn, xs)]) M10 ?_
  clear M10
  rintro W11 K11
  refine wp_region_held_drew (S := LS w [(V9.heap.size, xn, xs), (V5.heap.size, an, aS), (V3.heap.size, an, aS), (w.heap.size, xn, xs)]) (by kernel_rfl) K11.drew (fun hHeld => ?_)
  refine wpAnyH_take (i := 0) (v := ?_) (oi := { dst := some 49, op := _, type := _, pos := _, after := _, guard := none }) rfl (by kernel_rfl) (by kernel_rfl) (by kernel_rfl) (fun _ _ _ h => h) (Or.inl ⟨by kernel_rfl, ?_⟩) (by assumption) ?_
  case refine_2 => (intro w9 hSw; obtain ⟨sa0, sb0, sc0, sd0, se0⟩ := hSw.2 (V9.heap.size, xn, xs) (by simp); obtain ⟨sa1, sb1, sc1, sd1, se1⟩ := hSw.2 (V5.heap.size, an, aS) (by simp); obtain ⟨sa2, sb2, sc2, sd2, se2⟩ := hSw.2 (V3.heap.size, an, aS) (by simp); obtain ⟨sa3, sb3, sc3, sd3, se3⟩ := hSw.2 (w.heap.size, xn, xs) (by simp); clear hSw; go_simp; try with_reducible rfl)
  simp only [Act.put, List.setIfInBounds_toArray, List.set_cons_zero, List.set_cons_succ]
  refine wpAnyH_take (i := 2) (v := ?_) (oi := { dst := some 51, op := _, type := _, pos := _, after := _, guard := none }) rfl (by kernel_rfl) (by kernel_rfl) (by kernel_rfl) (fun _ _ _ h => h) (Or.inl ⟨by kernel_rfl, ?_⟩) (by assumption) ?_
  case refine_2 => (intro w9 hSw; obtain ⟨sa0, sb0, sc0, sd0, se0⟩ := hSw.2 (V9.heap.size, xn, xs) (by simp); obtain ⟨sa1, sb1, sc1, sd1, se1⟩ := hSw.2 (V5.heap.size, an, aS) (by simp); obtain ⟨sa2, sb2, sc2, sd2, se2⟩ := hSw.2 (V3.heap.size, an, aS) (by simp); obtain ⟨sa3, sb3, sc3, sd3, se3⟩ := hSw.2 (w.heap.size, xn, xs) (by simp); clear hSw; go_simp; try with_reducible rfl)
  simp only [Act.put, List.setIfInBounds_toArray, List.set_cons_zero, List.set_cons_succ]
  refine wpAnyH_ready (rs := [1]) (by kernel_rfl) (by simp) (AllReadyH.cons (o := { dst := some 50, op := _, type := _, pos := _, after := _, guard := none }) rfl (fun K hK => ?_) AllReadyH.nil)
  go_simp
  refine (TC.out _).mono ?_
  rintro e v1 ⟨rfl, hb1⟩
  refine hK.out _ _ (hHeld.below hb1) (fun hHeld => ?_)
  clear hK K hb1
  refine wpAnyH_take (i := 3) (v := .bool true) (oi := { dst := some 52, op := _, type := _, pos := _, after := _, guard := none }) rfl (by kernel_rfl) (by kernel_rfl) (by kernel_rfl) (fun _ _ _ h => h) (Or.inl ⟨by kernel_rfl, ?_⟩) (by assumption) ?_
  case refine_1 => (intro w9 hSw; clear hSw; go_simp; try with_reducible rfl)
  simp only [Act.put, List.setIfInBounds_toArray, List.set_cons_zero, List.set_cons_succ]
  refine wpAnyH_take (i := 4) (v := .bool true) (oi := { dst := some 53, op := _, type := _, pos := _, after := _, guard := none }) rfl (by kernel_rfl) (by kernel_rfl) (by kernel_rfl) (fun _ _ _ h => h) (Or.inl ⟨by kernel_rfl, ?_⟩) (by assumption) ?_
  case refine_1 => (intro w9 hSw; clear hSw; go_simp; try with_reducible rfl)
  simp only [Act.put, List.setIfInBounds_toArray, List.set_cons_zero, List.set_cons_succ]
  refine wpAnyH_take (i := 5) (v := ?_) (oi := { dst := some 54, op := _, type := _, pos := _, after := _, guard := some (4, true) }) rfl (by kernel_rfl) (by kernel_rfl) (by kernel_rfl) (fun _ _ _ h => h) (Or.inl ⟨by kernel_rfl, ?_⟩) (by assumption) ?_
  case refine_2 => (intro w9 hSw; clear hSw; go_simp; try with_reducible rfl)
  simp only [Act.put, List.setIfInBounds_toArray, List.set_cons_zero, List.set_cons_succ]
  refine wpAnyH_take (i := 6) (v := .bool true) (oi := { dst := some 55, op := _, type := _, pos := _, after := _, guard := some (4, true) }) rfl (by kernel_rfl) (by kernel_rfl) (by kernel_rfl) (fun _ _ _ h => h) (Or.inl ⟨by kernel_rfl, ?_⟩) (by assumption) ?_
  case refine_1 => (intro w9 hSw; clear hSw; go_simp; try with_reducible rfl)
  simp only [Act.put, List.setIfInBounds_toArray, List.set_cons_zero, List.set_cons_succ]
  refine wpAnyH_take (i := 7) (v := .bool true) (oi := { dst := some 56, op := _, type := _, pos := _, after := _, guard := none }) rfl (by kernel_rfl) (by kernel_rfl) (by kernel_rfl) (fun _ _ _ h => h) (Or.inl ⟨by kernel_rfl, ?_⟩) (by assumption) ?_
  case refine_1 => (intro w9 hSw; clear hSw; go_simp; try with_reducible rfl)
  simp only [Act.put, List.setIfInBounds_toArray, List.set_cons_zero, List.set_cons_succ]
  refine wpAnyH_take (i := 8) (v := .bool true) (oi := { dst := some 57, op := _, type := _, pos := _, after := _, guard := none }) rfl (by kernel_rfl) (by kernel_rfl) (by kernel_rfl) (fun _ _ _ h => h) (Or.inl ⟨by kernel_rfl, ?_⟩) (by assumption) ?_
  case refine_1 => (intro w9 hSw; clear hSw; go_simp; try with_reducible rfl)
  simp only [Act.put, List.setIfInBounds_toArray, List.set_cons_zero, List.set_cons_succ]
  refine wpAnyH_ready (rs := [9]) (by kernel_rfl) (by simp) (AllReadyH.cons (o := { dst := some 58, op := _, type := _, pos := _, after := _, guard := some (8, true) }) rfl (fun K hK => ?_) AllReadyH.nil)
  go_simp
  refine (KN.out _ (hT.out.below hHeld.1)).mono ?_
  rintro e v2 ⟨rfl, hb2⟩
  refine hK.out _ _ (hHeld.below hb2) (fun hHeld => ?_)
  clear hK K hb2
  refine wpAnyH_take (i := 10) (v := ?_) (oi := { dst := some 59, op := _, type := _, pos := _, after := _, guard := none }) rfl (by kernel_rfl) (by kernel_rfl) (by kernel_rfl) (fun _ _ _ h => h) (Or.inl ⟨by kernel_rfl, ?_⟩) (by assumption) ?_
  case refine_2 => (intro w9 hSw; clear hSw; go_simp; try with_reducible rfl)
  simp only [Act.put, List.setIfInBounds_toArray, List.set_cons_zero, List.set_cons_succ]
  refine wpAnyH_take (i := 11) (v := ?_) (oi := { dst := some 4, op := _, type := _, pos := _, after := _, guard := none }) rfl (by kernel_rfl) (by kernel_rfl) (by kernel_rfl) (fun _ _ _ h => h) (Or.inl ⟨by kernel_rfl, ?_⟩) (by assumption) ?_
  case refine_2 => (intro w9 hSw; clear hSw; go_simp; try with_reducible rfl)
  simp only [Act.put, List.setIfInBounds_toArray, List.set_cons_zero, List.set_cons_succ]
  refine wpAnyH_done (by kernel_rfl) ?_ _
  go_wp2
  go_ret
  exact ⟨rfl, hHeld.1⟩

end Go.Proofs.YtebjicnjbiiioaaDoor
