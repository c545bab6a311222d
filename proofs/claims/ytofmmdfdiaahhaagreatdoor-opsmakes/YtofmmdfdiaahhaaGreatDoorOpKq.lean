/- law20: a stamp of a date and a time; known. -/
import Derived.Test.YtofmmdfdiaahhaaGreatDoorOpZq
namespace Go.Proofs.YtofmmdfdiaahhaaGreatDoor
open Go.RowKit
set_option linter.unusedVariables false

/-- both tables lie there: the months' lengths and the fields'. -/
def LO (w : World) : Prop := Cvl.Lens w ∧ OLens w
theorem LO.of {w : World} (h : LO w) : Hid (∀ W : World, Below w.heap.size w W → LO W) := fun W hb => ⟨(Dy.lens_of h.1).out W hb, h.2.below hb⟩


set_option maxRecDepth 100000 in
set_option maxHeartbeats 4000000 in
theorem at_run (y m d us v e V f : Int)
    (MK : Hid (∀ w : World, Calls Tryz.prog 15 #[.int .i64 y, .int .i64 m, .int .i64 d] w fun r' w' => r' = .returned (.tuple #[.agg #[.int .i64 0, .int .i64 v], .int .i64 e]) ∧ Below w.heap.size w w'))
    (SM : Hid (∀ w : World, Calls Tryz.prog 16 #[.agg #[.int .i64 0, .int .i64 v], .int .i64 us] w fun r' w' => r' = .returned (.tuple #[.agg #[.int .i64 0, .int .i64 V], .int .i64 f]) ∧ Below w.heap.size w w'))
    (w : World) :
    Calls Tryz.prog 23 #[.int .i64 y, .int .i64 m, .int .i64 d, .int .i64 us] w fun r' w' => r' = .returned (.agg #[.int .i64 0, .int .i64 V]) ∧ Below w.heap.size w w' := by
  have K0 : Hid (BS w [(w.heap.size, [.int .i64 0, .int .i64 0])] (w.alloc (.cells #[.int .i64 0, .int .i64 0] 23))) := ((BS.start w).new [.int .i64 0, .int .i64 0] 23 rfl)
  go_enter Tryz.func23, Tryz.ntmps23
  go_wp2_with fail
  refine (MK.out _).mono ?_
  rintro e W1 ⟨rfl, hb⟩
  have K1 := bsb K0 hb
  clear hb K0
  obtain ⟨c1_0_0, c1_0_1⟩ := (bo1 K1).c2
  have Mz1 := bsn K1 [.int .i64 0, .int .i64 v] 40
  have lt1_0 := (bo1 K1).1
  go_upto_region 2 with fail
  refine bs_to Mz1 ?_
  clear c1_0_0 c1_0_1
  intro W2 K2
  clear Mz1 K1
  obtain ⟨c2_0_0, c2_0_1⟩ := (bo1 K2).c2
  obtain ⟨c2_1_0, c2_1_1⟩ := (bo2 K2).c2
  go_wp2_with fail
  refine (SM.out _).mono ?_
  rintro e W3 ⟨rfl, hb⟩
  have K3 := bsb K2 hb
  clear c2_0_0 c2_0_1 c2_1_0 c2_1_1
  clear hb K2
  obtain ⟨c3_0_0, c3_0_1⟩ := (bo1 K3).c2
  obtain ⟨c3_1_0, c3_1_1⟩ := (bo2 K3).c2
  have Mz3 := bsn K3 [.int .i64 0, .int .i64 V] 23
  have lt3_0 := (bo1 K3).1
  have lt3_1 := (bo2 K3).1
  go_upto_region 3 with fail
  refine bs_to Mz3 ?_
  clear c3_0_0 c3_0_1 c3_1_0 c3_1_1
  intro W4 K4
  clear Mz3 K3
  obtain ⟨c4_0_0, c4_0_1⟩ := (bo1 K4).c2
  obtain ⟨c4_1_0, c4_1_1⟩ := (bo2 K4).c2
  obtain ⟨c4_2_0, c4_2_1⟩ := (bo3 K4).c2
  obtain ⟨z4_2_0, z4_2_1⟩ := (bo3 K4).f2
  have XF : Hid (Bx (W4.setCells (w.heap.size) 0 [.int .i64 0, .int .i64 V]) (w.heap.size) [.int .i64 0, .int .i64 V]) := (K4.out.at (w.heap.size) [.int .i64 0, .int .i64 0] (by simp)).setAll _ rfl
  have BF : Hid (Below w.heap.size w (W4.setCells (w.heap.size) 0 [.int .i64 0, .int .i64 V])) := below_setCells (by omega) _ _ _ K4.out.1
  have y0 := XF.out.c 0 rfl
  have y1 := XF.out.c 1 rfl
  simp only [World.setCells, Nat.zero_add] at y0 y1
  clear XF
  go_wp2
  exact bodyPost_ret (v := .agg #[.int .i64 0, .int .i64 V]) (by simp [results, Tryz.results23, go_sem, y0, y1]) rfl ⟨rfl, BF.out⟩

theorem at_any (y m d us v : Int) (h1 : Dy.mkV y m d = v) (h2 : Dy.stI 0 v us = 0) (V : Int) (h3 : Dy.stV 0 v us = V) (w : World) :
    Calls Tryz.prog 23 #[.int .i64 y, .int .i64 m, .int .i64 d, .int .i64 us] w fun r w' => r = .returned (.agg #[.int .i64 0, .int .i64 V]) ∧ Below w.heap.size w w' := by
  have MK := fun w => Dy.rmake_any y m d w
  rw [h1] at MK
  have SM := fun w => Dy.rstamp_any 0 v us w
  rw [h2, h3] at SM
  exact at_run y m d us v _ V _ MK SM w

set_option maxRecDepth 100000 in
set_option maxHeartbeats 16000000 in
theorem known_run 
    (TR : Hid (∀ w : World, LO w → Calls Tryz.prog 10 #[.string ⟨#[119, 101, 101, 107]⟩, .agg #[.int .i64 0, .int .i64 765158400000005]] w fun r' w' => r' = .returned (.tuple #[.agg #[.int .i64 0, .int .i64 764640000000000], .int .i64 0]) ∧ Below w.heap.size w w'))
    (BI : Hid (∀ w : World, LO w → Calls Tryz.prog 12 #[.agg #[.int .i64 0, .int .i64 0, .int .i64 0, .int .i64 900000000], .agg #[.int .i64 0, .int .i64 765167820000000], .agg #[.int .i64 0, .int .i64 765158400000000]] w fun r' w' => r' = .returned (.tuple #[.agg #[.int .i64 0, .int .i64 765167400000000], .int .i64 0]) ∧ Below w.heap.size w w'))
    (E1 : Hid (∀ w : World, LO w → Calls Tryz.prog 17 #[.agg utL.toArray, .string ⟨#[99, 101, 110, 116, 117, 114, 121]⟩, .agg (v_dt 0 0).toArray] w fun r' w' => r' = .returned (.tuple #[.agg #[.int .i64 20, .int .i64 0], .int .i64 0]) ∧ Below w.heap.size w w'))
    (E2 : Hid (∀ w : World, LO w → Calls Tryz.prog 17 #[.agg utL.toArray, .string ⟨#[115, 101, 99, 111, 110, 100]⟩, .agg (v_sp 0 0 0 1500000).toArray] w fun r' w' => r' = .returned (.tuple #[.agg #[.int .i64 1500000, .int .i64 6], .int .i64 0]) ∧ Below w.heap.size w w'))
    (w : World) (hL : Hid (∀ W : World, Below w.heap.size w W → LO W)) :
    Calls Tryz.prog 9 #[] w fun r' w' => r' = .returned (.bool true) ∧ Below w.heap.size w w' := by
  have AT1 : Hid (∀ w : World, Calls Tryz.prog 23 #[.int .i64 2024, .int .i64 3, .int .i64 31, .int .i64 5] w fun r w' => r = .returned (.agg #[.int .i64 0, .int .i64 765158400000005]) ∧ Below w.heap.size w w') := fun w => at_any 2024 3 31 5 8856 (by decide +kernel) (by decide +kernel) _ (by decide +kernel) w
  have AT2 : Hid (∀ w : World, Calls Tryz.prog 23 #[.int .i64 2024, .int .i64 3, .int .i64 31, .int .i64 9420000000] w fun r w' => r = .returned (.agg #[.int .i64 0, .int .i64 765167820000000]) ∧ Below w.heap.size w w') := fun w => at_any 2024 3 31 9420000000 8856 (by decide +kernel) (by decide +kernel) _ (by decide +kernel) w
  have AT3 : Hid (∀ w : World, Calls Tryz.prog 23 #[.int .i64 2024, .int .i64 3, .int .i64 31, .int .i64 0] w fun r w' => r = .returned (.agg #[.int .i64 0, .int .i64 765158400000000]) ∧ Below w.heap.size w w') := fun w => at_any 2024 3 31 0 8856 (by decide +kernel) (by decide +kernel) _ (by decide +kernel) w
  have AT4 : Hid (∀ w : World, Calls Tryz.prog 23 #[.int .i64 2024, .int .i64 3, .int .i64 25, .int .i64 0] w fun r w' => r = .returned (.agg #[.int .i64 0, .int .i64 764640000000000]) ∧ Below w.heap.size w w') := fun w => at_any 2024 3 25 0 8850 (by decide +kernel) (by decide +kernel) _ (by decide +kernel) w
  have AT5 : Hid (∀ w : World, Calls Tryz.prog 23 #[.int .i64 2024, .int .i64 3, .int .i64 31, .int .i64 9000000000] w fun r w' => r = .returned (.agg #[.int .i64 0, .int .i64 765167400000000]) ∧ Below w.heap.size w w') := fun w => at_any 2024 3 31 9000000000 8856 (by decide +kernel) (by decide +kernel) _ (by decide +kernel) w
  have UT : Hid (∀ w : World, Calls Tryz.prog 18 #[] w fun e w' => e = .returned (.agg utL.toArray) ∧ Below w.heap.size w w') := utc_any
  have K0 : Hid (BS w [] w) := (BS.start w)
  go_enter Tryz.func9, Tryz.ntmps9
  go_wp2_with fail
  refine (AT1.out _).mono ?_
  rintro e W1 ⟨rfl, hb⟩
  have K1 := bsb K0 hb
  clear hb K0
  go_wp2_with fail
  refine (TR.out _ (hL.out _ K1.out.1)).mono ?_
  rintro e W2 ⟨rfl, hb⟩
  have K2 := bsb K1 hb
  clear hb K1
  have Mz2 := bsn K2 [.int .i64 0, .int .i64 764640000000000] 23
  go_upto_region 2 with fail
  refine bs_to Mz2 ?_
  intro W3 K3
  clear Mz2 K2
  obtain ⟨c3_0_0, c3_0_1⟩ := (bo1 K3).c2
  go_wp2_with fail
  refine (AT2.out _).mono ?_
  rintro e W4 ⟨rfl, hb⟩
  have K4 := bsb K3 hb
  clear c3_0_0 c3_0_1
  clear hb K3
  obtain ⟨c4_0_0, c4_0_1⟩ := (bo1 K4).c2
  go_wp2_with fail
  refine (AT3.out _).mono ?_
  rintro e W5 ⟨rfl, hb⟩
  have K5 := bsb K4 hb
  clear c4_0_0 c4_0_1
  clear hb K4
  obtain ⟨c5_0_0, c5_0_1⟩ := (bo1 K5).c2
  go_wp2_with fail
  refine (BI.out _ (hL.out _ K5.out.1)).mono ?_
  rintro e W6 ⟨rfl, hb⟩
  have K6 := bsb K5 hb
  clear c5_0_0 c5_0_1
  clear hb K5
  obtain ⟨c6_0_0, c6_0_1⟩ := (bo1 K6).c2
  have Mz6 := bsn K6 [.int .i64 0, .int .i64 765167400000000] 23
  have lt6_0 := (bo1 K6).1
  go_upto_region 3 with fail
  refine bs_to Mz6 ?_
  clear c6_0_0 c6_0_1
  intro W7 K7
  clear Mz6 K6
  obtain ⟨c7_0_0, c7_0_1⟩ := (bo1 K7).c2
  obtain ⟨c7_1_0, c7_1_1⟩ := (bo2 K7).c2
  go_wp2_with fail
  refine (UT.out _).mono ?_
  rintro e W8 ⟨rfl, hb⟩
  have K8 := bsb K7 hb
  clear c7_0_0 c7_0_1 c7_1_0 c7_1_1
  clear hb K7
  obtain ⟨c8_0_0, c8_0_1⟩ := (bo1 K8).c2
  obtain ⟨c8_1_0, c8_1_1⟩ := (bo2 K8).c2
  go_wp2_with fail
  refine (E1.out _ (hL.out _ K8.out.1)).mono ?_
  rintro e W9 ⟨rfl, hb⟩
  have K9 := bsb K8 hb
  clear c8_0_0 c8_0_1 c8_1_0 c8_1_1
  clear hb K8
  obtain ⟨c9_0_0, c9_0_1⟩ := (bo1 K9).c2
  obtain ⟨c9_1_0, c9_1_1⟩ := (bo2 K9).c2
  have Mz9 := bsn K9 [.int .i64 20, .int .i64 0] 45
  have lt9_0 := (bo1 K9).1
  have lt9_1 := (bo2 K9).1
  go_upto_region 4 with fail
  refine bs_to Mz9 ?_
  clear c9_0_0 c9_0_1 c9_1_0 c9_1_1
  intro W10 K10
  clear Mz9 K9
  obtain ⟨c10_0_0, c10_0_1⟩ := (bo1 K10).c2
  obtain ⟨c10_1_0, c10_1_1⟩ := (bo2 K10).c2
  obtain ⟨c10_2_0, c10_2_1⟩ := (bo3 K10).c2
  go_wp2_with fail
  refine (UT.out _).mono ?_
  rintro e W11 ⟨rfl, hb⟩
  have K11 := bsb K10 hb
  clear c10_0_0 c10_0_1 c10_1_0 c10_1_1 c10_2_0 c10_2_1
  clear hb K10
  obtain ⟨c11_0_0, c11_0_1⟩ := (bo1 K11).c2
  obtain ⟨c11_1_0, c11_1_1⟩ := (bo2 K11).c2
  obtain ⟨c11_2_0, c11_2_1⟩ := (bo3 K11).c2
  go_wp2_with fail
  refine (E2.out _ (hL.out _ K11.out.1)).mono ?_
  rintro e W12 ⟨rfl, hb⟩
  have K12 := bsb K11 hb
  clear c11_0_0 c11_0_1 c11_1_0 c11_1_1 c11_2_0 c11_2_1
  clear hb K11
  obtain ⟨c12_0_0, c12_0_1⟩ := (bo1 K12).c2
  obtain ⟨c12_1_0, c12_1_1⟩ := (bo2 K12).c2
  obtain ⟨c12_2_0, c12_2_1⟩ := (bo3 K12).c2
  have Mz12 := bsn K12 [.int .i64 1500000, .int .i64 6] 45
  have lt12_0 := (bo1 K12).1
  have lt12_1 := (bo2 K12).1
  have lt12_2 := (bo3 K12).1
  go_upto_region 5 with fail
  refine bs_to Mz12 ?_
  clear c12_0_0 c12_0_1 c12_1_0 c12_1_1 c12_2_0 c12_2_1
  intro W13 K13
  clear Mz12 K12
  obtain ⟨c13_0_0, c13_0_1⟩ := (bo1 K13).c2
  obtain ⟨c13_1_0, c13_1_1⟩ := (bo2 K13).c2
  obtain ⟨c13_2_0, c13_2_1⟩ := (bo3 K13).c2
  obtain ⟨c13_3_0, c13_3_1⟩ := (bo4 K13).c2
  go_wp2_with fail
  clear c13_0_0 c13_0_1 c13_1_0 c13_1_1 c13_2_0 c13_2_1 c13_3_0 c13_3_1
  refine wp_region_held_drew (S := BS w [(W12.heap.size, [.int .i64 1500000, .int .i64 6]), (W9.heap.size, [.int .i64 20, .int .i64 0]), (W6.heap.size, [.int .i64 0, .int .i64 765167400000000]), (W2.heap.size, [.int .i64 0, .int .i64 764640000000000])]) (by kernel_rfl) K13.out.drew (fun hHeld => ?_)
  refine wpAnyH_take (i := 0) (v := ?_) (oi := { dst := some 35, op := _, type := _, pos := _, after := _, guard := none }) rfl (by kernel_rfl) (by kernel_rfl) (by kernel_rfl) (fun _ _ _ h => h) (Or.inl ⟨by kernel_rfl, ?_⟩) (by assumption) ?_
  case refine_2 => (intro w9 hSw; have l0_0 := (hSw.at (W12.heap.size) [.int .i64 1500000, .int .i64 6] (by simp)).c 0 rfl; have l0_1 := (hSw.at (W12.heap.size) [.int .i64 1500000, .int .i64 6] (by simp)).c 1 rfl; have l1_0 := (hSw.at (W9.heap.size) [.int .i64 20, .int .i64 0] (by simp)).c 0 rfl; have l1_1 := (hSw.at (W9.heap.size) [.int .i64 20, .int .i64 0] (by simp)).c 1 rfl; have l2_0 := (hSw.at (W6.heap.size) [.int .i64 0, .int .i64 765167400000000] (by simp)).c 0 rfl; have l2_1 := (hSw.at (W6.heap.size) [.int .i64 0, .int .i64 765167400000000] (by simp)).c 1 rfl; have l3_0 := (hSw.at (W2.heap.size) [.int .i64 0, .int .i64 764640000000000] (by simp)).c 0 rfl; have l3_1 := (hSw.at (W2.heap.size) [.int .i64 0, .int .i64 764640000000000] (by simp)).c 1 rfl; clear hSw; go_simp; try with_reducible rfl)
  simp only [Act.put, List.setIfInBounds_toArray, List.set_cons_zero, List.set_cons_succ]
  refine wpAnyH_ready (rs := [1]) (by kernel_rfl) (by simp) (AllReadyH.cons (o := { dst := some 36, op := _, type := _, pos := _, after := _, guard := none }) rfl (fun K hK => ?_) AllReadyH.nil)
  go_simp
  refine (AT4.out _).mono ?_
  rintro e v1 ⟨rfl, hb1⟩
  refine hK.out _ _ (hHeld.below hb1) (fun hHeld => ?_)
  clear hK K hb1
  refine wpAnyH_take (i := 2) (v := ?_) (oi := { dst := some 37, op := _, type := _, pos := _, after := _, guard := none }) rfl (by kernel_rfl) (by kernel_rfl) (by kernel_rfl) (fun _ _ _ h => h) (Or.inl ⟨by kernel_rfl, ?_⟩) (by assumption) ?_
  case refine_2 => (intro w9 hSw; clear hSw; go_simp; try with_reducible rfl)
  simp only [Act.put, List.setIfInBounds_toArray, List.set_cons_zero, List.set_cons_succ]
  refine wpAnyH_take (i := 3) (v := ?_) (oi := { dst := some 38, op := _, type := _, pos := _, after := _, guard := none }) rfl (by kernel_rfl) (by kernel_rfl) (by kernel_rfl) (fun _ _ _ h => h) (Or.inl ⟨by kernel_rfl, ?_⟩) (by assumption) ?_
  case refine_2 => (intro w9 hSw; clear hSw; go_simp; try with_reducible rfl)
  simp only [Act.put, List.setIfInBounds_toArray, List.set_cons_zero, List.set_cons_succ]
  refine wpAnyH_take (i := 4) (v := ?_) (oi := { dst := some 39, op := _, type := _, pos := _, after := _, guard := some (3, true) }) rfl (by kernel_rfl) (by kernel_rfl) (by kernel_rfl) (fun _ _ _ h => h) (Or.inl ⟨by kernel_rfl, ?_⟩) (by assumption) ?_
  case refine_2 => (intro w9 hSw; clear hSw; go_simp; try with_reducible rfl)
  simp only [Act.put, List.setIfInBounds_toArray, List.set_cons_zero, List.set_cons_succ]
  refine wpAnyH_take (i := 5) (v := ?_) (oi := { dst := some 40, op := _, type := _, pos := _, after := _, guard := some (3, true) }) rfl (by kernel_rfl) (by kernel_rfl) (by kernel_rfl) (fun _ _ _ h => h) (Or.inl ⟨by kernel_rfl, ?_⟩) (by assumption) ?_
  case refine_2 => (intro w9 hSw; clear hSw; go_simp; try with_reducible rfl)
  simp only [Act.put, List.setIfInBounds_toArray, List.set_cons_zero, List.set_cons_succ]
  refine wpAnyH_take (i := 6) (v := ?_) (oi := { dst := some 41, op := _, type := _, pos := _, after := _, guard := none }) rfl (by kernel_rfl) (by kernel_rfl) (by kernel_rfl) (fun _ _ _ h => h) (Or.inl ⟨by kernel_rfl, ?_⟩) (by assumption) ?_
  case refine_2 => (intro w9 hSw; clear hSw; go_simp; try with_reducible rfl)
  simp only [Act.put, List.setIfInBounds_toArray, List.set_cons_zero, List.set_cons_succ]
  refine wpAnyH_take (i := 7) (v := ?_) (oi := { dst := some 42, op := _, type := _, pos := _, after := _, guard := none }) rfl (by kernel_rfl) (by kernel_rfl) (by kernel_rfl) (fun _ _ _ h => h) (Or.inl ⟨by kernel_rfl, ?_⟩) (by assumption) ?_
  case refine_2 => (intro w9 hSw; clear hSw; go_simp; try with_reducible rfl)
  simp only [Act.put, List.setIfInBounds_toArray, List.set_cons_zero, List.set_cons_succ]
  refine wpAnyH_take (i := 8) (v := ?_) (oi := { dst := some 43, op := _, type := _, pos := _, after := _, guard := some (7, true) }) rfl (by kernel_rfl) (by kernel_rfl) (by kernel_rfl) (fun _ _ _ h => h) (Or.inl ⟨by kernel_rfl, ?_⟩) (by assumption) ?_
  case refine_2 => (intro w9 hSw; have l0_0 := (hSw.at (W12.heap.size) [.int .i64 1500000, .int .i64 6] (by simp)).c 0 rfl; have l0_1 := (hSw.at (W12.heap.size) [.int .i64 1500000, .int .i64 6] (by simp)).c 1 rfl; have l1_0 := (hSw.at (W9.heap.size) [.int .i64 20, .int .i64 0] (by simp)).c 0 rfl; have l1_1 := (hSw.at (W9.heap.size) [.int .i64 20, .int .i64 0] (by simp)).c 1 rfl; have l2_0 := (hSw.at (W6.heap.size) [.int .i64 0, .int .i64 765167400000000] (by simp)).c 0 rfl; have l2_1 := (hSw.at (W6.heap.size) [.int .i64 0, .int .i64 765167400000000] (by simp)).c 1 rfl; have l3_0 := (hSw.at (W2.heap.size) [.int .i64 0, .int .i64 764640000000000] (by simp)).c 0 rfl; have l3_1 := (hSw.at (W2.heap.size) [.int .i64 0, .int .i64 764640000000000] (by simp)).c 1 rfl; clear hSw; go_simp; try with_reducible rfl)
  simp only [Act.put, List.setIfInBounds_toArray, List.set_cons_zero, List.set_cons_succ]
  refine wpAnyH_ready (rs := [9]) (by kernel_rfl) (by simp) (AllReadyH.cons (o := { dst := some 44, op := _, type := _, pos := _, after := _, guard := some (7, true) }) rfl (fun K hK => ?_) AllReadyH.nil)
  go_simp
  refine (AT5.out _).mono ?_
  rintro e v2 ⟨rfl, hb2⟩
  refine hK.out _ _ (hHeld.below hb2) (fun hHeld => ?_)
  clear hK K hb2
  refine wpAnyH_take (i := 10) (v := ?_) (oi := { dst := some 45, op := _, type := _, pos := _, after := _, guard := some (7, true) }) rfl (by kernel_rfl) (by kernel_rfl) (by kernel_rfl) (fun _ _ _ h => h) (Or.inl ⟨by kernel_rfl, ?_⟩) (by assumption) ?_
  case refine_2 => (intro w9 hSw; clear hSw; go_simp; try with_reducible rfl)
  simp only [Act.put, List.setIfInBounds_toArray, List.set_cons_zero, List.set_cons_succ]
  refine wpAnyH_take (i := 11) (v := ?_) (oi := { dst := some 46, op := _, type := _, pos := _, after := _, guard := none }) rfl (by kernel_rfl) (by kernel_rfl) (by kernel_rfl) (fun _ _ _ h => h) (Or.inl ⟨by kernel_rfl, ?_⟩) (by assumption) ?_
  case refine_2 => (intro w9 hSw; clear hSw; go_simp; try with_reducible rfl)
  simp only [Act.put, List.setIfInBounds_toArray, List.set_cons_zero, List.set_cons_succ]
  refine wpAnyH_take (i := 12) (v := ?_) (oi := { dst := some 47, op := _, type := _, pos := _, after := _, guard := none }) rfl (by kernel_rfl) (by kernel_rfl) (by kernel_rfl) (fun _ _ _ h => h) (Or.inl ⟨by kernel_rfl, ?_⟩) (by assumption) ?_
  case refine_2 => (intro w9 hSw; clear hSw; go_simp; try with_reducible rfl)
  simp only [Act.put, List.setIfInBounds_toArray, List.set_cons_zero, List.set_cons_succ]
  refine wpAnyH_take (i := 13) (v := ?_) (oi := { dst := some 48, op := _, type := _, pos := _, after := _, guard := some (12, true) }) rfl (by kernel_rfl) (by kernel_rfl) (by kernel_rfl) (fun _ _ _ h => h) (Or.inl ⟨by kernel_rfl, ?_⟩) (by assumption) ?_
  case refine_2 => (intro w9 hSw; clear hSw; go_simp; try with_reducible rfl)
  simp only [Act.put, List.setIfInBounds_toArray, List.set_cons_zero, List.set_cons_succ]
  refine wpAnyH_take (i := 14) (v := ?_) (oi := { dst := some 49, op := _, type := _, pos := _, after := _, guard := some (12, true) }) rfl (by kernel_rfl) (by kernel_rfl) (by kernel_rfl) (fun _ _ _ h => h) (Or.inl ⟨by kernel_rfl, ?_⟩) (by assumption) ?_
  case refine_2 => (intro w9 hSw; clear hSw; go_simp; try with_reducible rfl)
  simp only [Act.put, List.setIfInBounds_toArray, List.set_cons_zero, List.set_cons_succ]
  refine wpAnyH_take (i := 15) (v := ?_) (oi := { dst := some 50, op := _, type := _, pos := _, after := _, guard := none }) rfl (by kernel_rfl) (by kernel_rfl) (by kernel_rfl) (fun _ _ _ h => h) (Or.inl ⟨by kernel_rfl, ?_⟩) (by assumption) ?_
  case refine_2 => (intro w9 hSw; clear hSw; go_simp; try with_reducible rfl)
  simp only [Act.put, List.setIfInBounds_toArray, List.set_cons_zero, List.set_cons_succ]
  refine wpAnyH_take (i := 16) (v := ?_) (oi := { dst := some 51, op := _, type := _, pos := _, after := _, guard := none }) rfl (by kernel_rfl) (by kernel_rfl) (by kernel_rfl) (fun _ _ _ h => h) (Or.inl ⟨by kernel_rfl, ?_⟩) (by assumption) ?_
  case refine_2 => (intro w9 hSw; clear hSw; go_simp; try with_reducible rfl)
  simp only [Act.put, List.setIfInBounds_toArray, List.set_cons_zero, List.set_cons_succ]
  refine wpAnyH_take (i := 17) (v := ?_) (oi := { dst := some 52, op := _, type := _, pos := _, after := _, guard := some (16, true) }) rfl (by kernel_rfl) (by kernel_rfl) (by kernel_rfl) (fun _ _ _ h => h) (Or.inl ⟨by kernel_rfl, ?_⟩) (by assumption) ?_
  case refine_2 => (intro w9 hSw; clear hSw; go_simp; try with_reducible rfl)
  simp only [Act.put, List.setIfInBounds_toArray, List.set_cons_zero, List.set_cons_succ]
  refine wpAnyH_take (i := 18) (v := ?_) (oi := { dst := some 53, op := _, type := _, pos := _, after := _, guard := some (16, true) }) rfl (by kernel_rfl) (by kernel_rfl) (by kernel_rfl) (fun _ _ _ h => h) (Or.inl ⟨by kernel_rfl, ?_⟩) (by assumption) ?_
  case refine_2 => (intro w9 hSw; have l0_0 := (hSw.at (W12.heap.size) [.int .i64 1500000, .int .i64 6] (by simp)).c 0 rfl; have l0_1 := (hSw.at (W12.heap.size) [.int .i64 1500000, .int .i64 6] (by simp)).c 1 rfl; have l1_0 := (hSw.at (W9.heap.size) [.int .i64 20, .int .i64 0] (by simp)).c 0 rfl; have l1_1 := (hSw.at (W9.heap.size) [.int .i64 20, .int .i64 0] (by simp)).c 1 rfl; have l2_0 := (hSw.at (W6.heap.size) [.int .i64 0, .int .i64 765167400000000] (by simp)).c 0 rfl; have l2_1 := (hSw.at (W6.heap.size) [.int .i64 0, .int .i64 765167400000000] (by simp)).c 1 rfl; have l3_0 := (hSw.at (W2.heap.size) [.int .i64 0, .int .i64 764640000000000] (by simp)).c 0 rfl; have l3_1 := (hSw.at (W2.heap.size) [.int .i64 0, .int .i64 764640000000000] (by simp)).c 1 rfl; clear hSw; go_simp; try with_reducible rfl)
  simp only [Act.put, List.setIfInBounds_toArray, List.set_cons_zero, List.set_cons_succ]
  refine wpAnyH_take (i := 19) (v := ?_) (oi := { dst := some 54, op := _, type := _, pos := _, after := _, guard := some (16, true) }) rfl (by kernel_rfl) (by kernel_rfl) (by kernel_rfl) (fun _ _ _ h => h) (Or.inl ⟨by kernel_rfl, ?_⟩) (by assumption) ?_
  case refine_2 => (intro w9 hSw; clear hSw; go_simp; try with_reducible rfl)
  simp only [Act.put, List.setIfInBounds_toArray, List.set_cons_zero, List.set_cons_succ]
  refine wpAnyH_take (i := 20) (v := ?_) (oi := { dst := some 55, op := _, type := _, pos := _, after := _, guard := none }) rfl (by kernel_rfl) (by kernel_rfl) (by kernel_rfl) (fun _ _ _ h => h) (Or.inl ⟨by kernel_rfl, ?_⟩) (by assumption) ?_
  case refine_2 => (intro w9 hSw; clear hSw; go_simp; try with_reducible rfl)
  simp only [Act.put, List.setIfInBounds_toArray, List.set_cons_zero, List.set_cons_succ]
  refine wpAnyH_take (i := 21) (v := ?_) (oi := { dst := some 56, op := _, type := _, pos := _, after := _, guard := none }) rfl (by kernel_rfl) (by kernel_rfl) (by kernel_rfl) (fun _ _ _ h => h) (Or.inl ⟨by kernel_rfl, ?_⟩) (by assumption) ?_
  case refine_2 => (intro w9 hSw; clear hSw; go_simp; try with_reducible rfl)
  simp only [Act.put, List.setIfInBounds_toArray, List.set_cons_zero, List.set_cons_succ]
  refine wpAnyH_take (i := 22) (v := ?_) (oi := { dst := some 57, op := _, type := _, pos := _, after := _, guard := some (21, true) }) rfl (by kernel_rfl) (by kernel_rfl) (by kernel_rfl) (fun _ _ _ h => h) (Or.inl ⟨by kernel_rfl, ?_⟩) (by assumption) ?_
  case refine_2 => (intro w9 hSw; clear hSw; go_simp; try with_reducible rfl)
  simp only [Act.put, List.setIfInBounds_toArray, List.set_cons_zero, List.set_cons_succ]
  refine wpAnyH_take (i := 23) (v := ?_) (oi := { dst := some 58, op := _, type := _, pos := _, after := _, guard := some (21, true) }) rfl (by kernel_rfl) (by kernel_rfl) (by kernel_rfl) (fun _ _ _ h => h) (Or.inl ⟨by kernel_rfl, ?_⟩) (by assumption) ?_
  case refine_2 => (intro w9 hSw; have l0_0 := (hSw.at (W12.heap.size) [.int .i64 1500000, .int .i64 6] (by simp)).c 0 rfl; have l0_1 := (hSw.at (W12.heap.size) [.int .i64 1500000, .int .i64 6] (by simp)).c 1 rfl; have l1_0 := (hSw.at (W9.heap.size) [.int .i64 20, .int .i64 0] (by simp)).c 0 rfl; have l1_1 := (hSw.at (W9.heap.size) [.int .i64 20, .int .i64 0] (by simp)).c 1 rfl; have l2_0 := (hSw.at (W6.heap.size) [.int .i64 0, .int .i64 765167400000000] (by simp)).c 0 rfl; have l2_1 := (hSw.at (W6.heap.size) [.int .i64 0, .int .i64 765167400000000] (by simp)).c 1 rfl; have l3_0 := (hSw.at (W2.heap.size) [.int .i64 0, .int .i64 764640000000000] (by simp)).c 0 rfl; have l3_1 := (hSw.at (W2.heap.size) [.int .i64 0, .int .i64 764640000000000] (by simp)).c 1 rfl; clear hSw; go_simp; try with_reducible rfl)
  simp only [Act.put, List.setIfInBounds_toArray, List.set_cons_zero, List.set_cons_succ]
  refine wpAnyH_take (i := 24) (v := ?_) (oi := { dst := some 59, op := _, type := _, pos := _, after := _, guard := some (21, true) }) rfl (by kernel_rfl) (by kernel_rfl) (by kernel_rfl) (fun _ _ _ h => h) (Or.inl ⟨by kernel_rfl, ?_⟩) (by assumption) ?_
  case refine_2 => (intro w9 hSw; clear hSw; go_simp; try with_reducible rfl)
  simp only [Act.put, List.setIfInBounds_toArray, List.set_cons_zero, List.set_cons_succ]
  refine wpAnyH_take (i := 25) (v := ?_) (oi := { dst := some 60, op := _, type := _, pos := _, after := _, guard := none }) rfl (by kernel_rfl) (by kernel_rfl) (by kernel_rfl) (fun _ _ _ h => h) (Or.inl ⟨by kernel_rfl, ?_⟩) (by assumption) ?_
  case refine_2 => (intro w9 hSw; clear hSw; go_simp; try with_reducible rfl)
  simp only [Act.put, List.setIfInBounds_toArray, List.set_cons_zero, List.set_cons_succ]
  refine wpAnyH_take (i := 26) (v := ?_) (oi := { dst := some 61, op := _, type := _, pos := _, after := _, guard := none }) rfl (by kernel_rfl) (by kernel_rfl) (by kernel_rfl) (fun _ _ _ h => h) (Or.inl ⟨by kernel_rfl, ?_⟩) (by assumption) ?_
  case refine_2 => (intro w9 hSw; clear hSw; go_simp; try with_reducible rfl)
  simp only [Act.put, List.setIfInBounds_toArray, List.set_cons_zero, List.set_cons_succ]
  refine wpAnyH_take (i := 27) (v := ?_) (oi := { dst := some 62, op := _, type := _, pos := _, after := _, guard := some (26, true) }) rfl (by kernel_rfl) (by kernel_rfl) (by kernel_rfl) (fun _ _ _ h => h) (Or.inl ⟨by kernel_rfl, ?_⟩) (by assumption) ?_
  case refine_2 => (intro w9 hSw; clear hSw; go_simp; try with_reducible rfl)
  simp only [Act.put, List.setIfInBounds_toArray, List.set_cons_zero, List.set_cons_succ]
  refine wpAnyH_take (i := 28) (v := ?_) (oi := { dst := some 63, op := _, type := _, pos := _, after := _, guard := some (26, true) }) rfl (by kernel_rfl) (by kernel_rfl) (by kernel_rfl) (fun _ _ _ h => h) (Or.inl ⟨by kernel_rfl, ?_⟩) (by assumption) ?_
  case refine_2 => (intro w9 hSw; clear hSw; go_simp; try with_reducible rfl)
  simp only [Act.put, List.setIfInBounds_toArray, List.set_cons_zero, List.set_cons_succ]
  refine wpAnyH_take (i := 29) (v := ?_) (oi := { dst := some 64, op := _, type := _, pos := _, after := _, guard := none }) rfl (by kernel_rfl) (by kernel_rfl) (by kernel_rfl) (fun _ _ _ h => h) (Or.inl ⟨by kernel_rfl, ?_⟩) (by assumption) ?_
  case refine_2 => (intro w9 hSw; clear hSw; go_simp; try with_reducible rfl)
  simp only [Act.put, List.setIfInBounds_toArray, List.set_cons_zero, List.set_cons_succ]
  refine wpAnyH_take (i := 30) (v := ?_) (oi := { dst := some 65, op := _, type := _, pos := _, after := _, guard := none }) rfl (by kernel_rfl) (by kernel_rfl) (by kernel_rfl) (fun _ _ _ h => h) (Or.inl ⟨by kernel_rfl, ?_⟩) (by assumption) ?_
  case refine_2 => (intro w9 hSw; clear hSw; go_simp; try with_reducible rfl)
  simp only [Act.put, List.setIfInBounds_toArray, List.set_cons_zero, List.set_cons_succ]
  refine wpAnyH_take (i := 31) (v := ?_) (oi := { dst := some 66, op := _, type := _, pos := _, after := _, guard := some (30, true) }) rfl (by kernel_rfl) (by kernel_rfl) (by kernel_rfl) (fun _ _ _ h => h) (Or.inl ⟨by kernel_rfl, ?_⟩) (by assumption) ?_
  case refine_2 => (intro w9 hSw; clear hSw; go_simp; try with_reducible rfl)
  simp only [Act.put, List.setIfInBounds_toArray, List.set_cons_zero, List.set_cons_succ]
  refine wpAnyH_take (i := 32) (v := ?_) (oi := { dst := some 67, op := _, type := _, pos := _, after := _, guard := some (30, true) }) rfl (by kernel_rfl) (by kernel_rfl) (by kernel_rfl) (fun _ _ _ h => h) (Or.inl ⟨by kernel_rfl, ?_⟩) (by assumption) ?_
  case refine_2 => (intro w9 hSw; have l0_0 := (hSw.at (W12.heap.size) [.int .i64 1500000, .int .i64 6] (by simp)).c 0 rfl; have l0_1 := (hSw.at (W12.heap.size) [.int .i64 1500000, .int .i64 6] (by simp)).c 1 rfl; have l1_0 := (hSw.at (W9.heap.size) [.int .i64 20, .int .i64 0] (by simp)).c 0 rfl; have l1_1 := (hSw.at (W9.heap.size) [.int .i64 20, .int .i64 0] (by simp)).c 1 rfl; have l2_0 := (hSw.at (W6.heap.size) [.int .i64 0, .int .i64 765167400000000] (by simp)).c 0 rfl; have l2_1 := (hSw.at (W6.heap.size) [.int .i64 0, .int .i64 765167400000000] (by simp)).c 1 rfl; have l3_0 := (hSw.at (W2.heap.size) [.int .i64 0, .int .i64 764640000000000] (by simp)).c 0 rfl; have l3_1 := (hSw.at (W2.heap.size) [.int .i64 0, .int .i64 764640000000000] (by simp)).c 1 rfl; clear hSw; go_simp; try with_reducible rfl)
  simp only [Act.put, List.setIfInBounds_toArray, List.set_cons_zero, List.set_cons_succ]
  refine wpAnyH_take (i := 33) (v := ?_) (oi := { dst := some 68, op := _, type := _, pos := _, after := _, guard := some (30, true) }) rfl (by kernel_rfl) (by kernel_rfl) (by kernel_rfl) (fun _ _ _ h => h) (Or.inl ⟨by kernel_rfl, ?_⟩) (by assumption) ?_
  case refine_2 => (intro w9 hSw; clear hSw; go_simp; try with_reducible rfl)
  simp only [Act.put, List.setIfInBounds_toArray, List.set_cons_zero, List.set_cons_succ]
  refine wpAnyH_take (i := 34) (v := ?_) (oi := { dst := some 69, op := _, type := _, pos := _, after := _, guard := none }) rfl (by kernel_rfl) (by kernel_rfl) (by kernel_rfl) (fun _ _ _ h => h) (Or.inl ⟨by kernel_rfl, ?_⟩) (by assumption) ?_
  case refine_2 => (intro w9 hSw; clear hSw; go_simp; try with_reducible rfl)
  simp only [Act.put, List.setIfInBounds_toArray, List.set_cons_zero, List.set_cons_succ]
  refine wpAnyH_take (i := 35) (v := ?_) (oi := { dst := some 70, op := _, type := _, pos := _, after := _, guard := none }) rfl (by kernel_rfl) (by kernel_rfl) (by kernel_rfl) (fun _ _ _ h => h) (Or.inl ⟨by kernel_rfl, ?_⟩) (by assumption) ?_
  case refine_2 => (intro w9 hSw; clear hSw; go_simp; try with_reducible rfl)
  simp only [Act.put, List.setIfInBounds_toArray, List.set_cons_zero, List.set_cons_succ]
  refine wpAnyH_take (i := 36) (v := ?_) (oi := { dst := some 71, op := _, type := _, pos := _, after := _, guard := some (35, true) }) rfl (by kernel_rfl) (by kernel_rfl) (by kernel_rfl) (fun _ _ _ h => h) (Or.inl ⟨by kernel_rfl, ?_⟩) (by assumption) ?_
  case refine_2 => (intro w9 hSw; clear hSw; go_simp; try with_reducible rfl)
  simp only [Act.put, List.setIfInBounds_toArray, List.set_cons_zero, List.set_cons_succ]
  refine wpAnyH_take (i := 37) (v := ?_) (oi := { dst := some 72, op := _, type := _, pos := _, after := _, guard := some (35, true) }) rfl (by kernel_rfl) (by kernel_rfl) (by kernel_rfl) (fun _ _ _ h => h) (Or.inl ⟨by kernel_rfl, ?_⟩) (by assumption) ?_
  case refine_2 => (intro w9 hSw; have l0_0 := (hSw.at (W12.heap.size) [.int .i64 1500000, .int .i64 6] (by simp)).c 0 rfl; have l0_1 := (hSw.at (W12.heap.size) [.int .i64 1500000, .int .i64 6] (by simp)).c 1 rfl; have l1_0 := (hSw.at (W9.heap.size) [.int .i64 20, .int .i64 0] (by simp)).c 0 rfl; have l1_1 := (hSw.at (W9.heap.size) [.int .i64 20, .int .i64 0] (by simp)).c 1 rfl; have l2_0 := (hSw.at (W6.heap.size) [.int .i64 0, .int .i64 765167400000000] (by simp)).c 0 rfl; have l2_1 := (hSw.at (W6.heap.size) [.int .i64 0, .int .i64 765167400000000] (by simp)).c 1 rfl; have l3_0 := (hSw.at (W2.heap.size) [.int .i64 0, .int .i64 764640000000000] (by simp)).c 0 rfl; have l3_1 := (hSw.at (W2.heap.size) [.int .i64 0, .int .i64 764640000000000] (by simp)).c 1 rfl; clear hSw; go_simp; try with_reducible rfl)
  simp only [Act.put, List.setIfInBounds_toArray, List.set_cons_zero, List.set_cons_succ]
  refine wpAnyH_take (i := 38) (v := ?_) (oi := { dst := some 73, op := _, type := _, pos := _, after := _, guard := some (35, true) }) rfl (by kernel_rfl) (by kernel_rfl) (by kernel_rfl) (fun _ _ _ h => h) (Or.inl ⟨by kernel_rfl, ?_⟩) (by assumption) ?_
  case refine_2 => (intro w9 hSw; clear hSw; go_simp; try with_reducible rfl)
  simp only [Act.put, List.setIfInBounds_toArray, List.set_cons_zero, List.set_cons_succ]
  refine wpAnyH_take (i := 39) (v := ?_) (oi := { dst := some 74, op := _, type := _, pos := _, after := _, guard := none }) rfl (by kernel_rfl) (by kernel_rfl) (by kernel_rfl) (fun _ _ _ h => h) (Or.inl ⟨by kernel_rfl, ?_⟩) (by assumption) ?_
  case refine_2 => (intro w9 hSw; clear hSw; go_simp; try with_reducible rfl)
  simp only [Act.put, List.setIfInBounds_toArray, List.set_cons_zero, List.set_cons_succ]
  refine wpAnyH_take (i := 40) (v := ?_) (oi := { dst := some 75, op := _, type := _, pos := _, after := _, guard := none }) rfl (by kernel_rfl) (by kernel_rfl) (by kernel_rfl) (fun _ _ _ h => h) (Or.inl ⟨by kernel_rfl, ?_⟩) (by assumption) ?_
  case refine_2 => (intro w9 hSw; clear hSw; go_simp; try with_reducible rfl)
  simp only [Act.put, List.setIfInBounds_toArray, List.set_cons_zero, List.set_cons_succ]
  refine wpAnyH_take (i := 41) (v := ?_) (oi := { dst := some 76, op := _, type := _, pos := _, after := _, guard := some (40, true) }) rfl (by kernel_rfl) (by kernel_rfl) (by kernel_rfl) (fun _ _ _ h => h) (Or.inl ⟨by kernel_rfl, ?_⟩) (by assumption) ?_
  case refine_2 => (intro w9 hSw; clear hSw; go_simp; try with_reducible rfl)
  simp only [Act.put, List.setIfInBounds_toArray, List.set_cons_zero, List.set_cons_succ]
  refine wpAnyH_take (i := 42) (v := ?_) (oi := { dst := some 77, op := _, type := _, pos := _, after := _, guard := some (40, true) }) rfl (by kernel_rfl) (by kernel_rfl) (by kernel_rfl) (fun _ _ _ h => h) (Or.inl ⟨by kernel_rfl, ?_⟩) (by assumption) ?_
  case refine_2 => (intro w9 hSw; clear hSw; go_simp; try with_reducible rfl)
  simp only [Act.put, List.setIfInBounds_toArray, List.set_cons_zero, List.set_cons_succ]
  refine wpAnyH_take (i := 43) (v := ?_) (oi := { dst := some 78, op := _, type := _, pos := _, after := _, guard := none }) rfl (by kernel_rfl) (by kernel_rfl) (by kernel_rfl) (fun _ _ _ h => h) (Or.inl ⟨by kernel_rfl, ?_⟩) (by assumption) ?_
  case refine_2 => (intro w9 hSw; clear hSw; go_simp; try with_reducible rfl)
  simp only [Act.put, List.setIfInBounds_toArray, List.set_cons_zero, List.set_cons_succ]
  refine wpAnyH_take (i := 44) (v := ?_) (oi := { dst := some 0, op := _, type := _, pos := _, after := _, guard := none }) rfl (by kernel_rfl) (by kernel_rfl) (by kernel_rfl) (fun _ _ _ h => h) (Or.inl ⟨by kernel_rfl, ?_⟩) (by assumption) ?_
  case refine_2 => (intro w9 hSw; clear hSw; go_simp; try with_reducible rfl)
  simp only [Act.put, List.setIfInBounds_toArray, List.set_cons_zero]
  refine wpAnyH_done (by kernel_rfl) ?_ _
  have HB : Hid (Below w.heap.size w _) := hHeld.1
  clear hHeld
  go_wp2
  go_ret
  exact ⟨rfl, HB.out⟩

theorem known_any (w : World) (hL : LO w) : Calls Tryz.prog 9 #[] w fun r w' => r = .returned (.bool true) ∧ Below w.heap.size w w' := by
  refine known_run (fun w hw => ?_) (fun w hw => ?_) (fun w hw => ?_) (fun w hw => ?_) w (LO.of hL)
  · refine trunc_any ⟨#[119, 101, 101, 107]⟩ (by decide) 0 765158400000005 0 764640000000000 0 ?_ (by decide) (by decide) w hw.1 hw.2
    have hk : fldN ⟨#[119, 101, 101, 107]⟩ 13 = 6 := by decide +kernel
    rw [hk]
    refine .inr (.inr (.inr ⟨by decide +kernel, by decide, by decide, rfl, rfl, 2024, 3, 31, ?_, by decide +kernel, by decide +kernel⟩))
    exact ⟨by decide, by decide, by decide, by decide +kernel, by decide +kernel⟩
  · have R := bin_yes (D := 0) (U := 900000000) (t := 765167820000000) (q := 765158400000000) (n := 900000000) (by decide) (by decide) (by decide) (by decide) (by decide) (by decide) (by decide +kernel) (by decide +kernel) (by decide) (by decide) w hw.1
    rw [show (if Dy.dok ((765167820000000 - (765167820000000 - 765158400000000) % 900000000) / 86400000000) = true then 765167820000000 - (765167820000000 - 765158400000000) % 900000000 else (0 : Int)) = 765167400000000 by decide +kernel, show fdE ((765167820000000 - (765167820000000 - 765158400000000) % 900000000) / 86400000000) = 0 by decide +kernel] at R
    exact R
  · have RV : ∀ w : World, Cvl.Lens w → _ := fun w hw => rv_dt 0 0 (fun w hw => by have R := Dy.right_any 0 0 w hw; rw [show Dy.dR 0 0 = true by decide +kernel] at R; exact R) w (Dy.lens_of hw)
    have NA := fun w => named_19 ⟨#[99, 101, 110, 116, 117, 114, 121]⟩ (by decide) 11 (by decide +kernel) 11 true (by decide) (by decide) w
    have GW := fun w => gw_all 11 5 (by decide) (by decide) (by decide) (by decide) (by decide) (by decide) w
    have hq : Cv.Is 0 2000 1 1 := ⟨by decide, by decide, by decide, by decide +kernel, by decide +kernel⟩
    have d0 : Dy.dok 0 = true := by decide +kernel
    have PA : ∀ w : World, Cvl.Lens w → _ := fun w hw => Dy.parts_any 0 0 2000 1 1 0 (.inr (.inr ⟨rfl, d0, hq, rfl⟩)) w hw
    have OD : ∀ w : World, Cvl.Lens w → _ := fun w hw => od_11 0 2000 1 1 20 PA (fun w => oy_11 w) w (Dy.lens_of hw)
    have OS : ∀ w : World, Cvl.Lens w → _ := fun w hw => os_11 0 0 0 20 (fun w hw => of_in (u := 0) d0 w hw) OD (fun w => whole_any 20 w) w (Dy.lens_of hw)
    exact ex_dt ⟨#[99, 101, 110, 116, 117, 114, 121]⟩ 0 0 11 20 0 0 RV NA GW (fun w hw => sta_in (d := 0) d0 w hw) OS w (Dy.lens_of hw.1)
  · have RV := fun w => rv_sp 0 0 0 1500000 (fun w => pr_yes (m := 0) (d := 0) (n := 1500000) (by decide +kernel) w) w
    have NA := fun w => named_19 ⟨#[115, 101, 99, 111, 110, 100]⟩ (by decide) 2 (by decide +kernel) 2 true (by decide) (by decide) w
    have GW := fun w => gw_all 2 8 (by decide) (by decide) (by decide) (by decide) (by decide) (by decide) w
    have OS := fun w => osp_2 0 0 1500000 1500000 6 (fun w => ot_s 1500000 (by decide) (by decide) w) w
    exact ex_sp ⟨#[115, 101, 99, 111, 110, 100]⟩ 0 0 1500000 2 1500000 6 0 RV NA GW OS w (Dy.lens_of hw.1)


end Go.Proofs.YtofmmdfdiaahhaaGreatDoor
