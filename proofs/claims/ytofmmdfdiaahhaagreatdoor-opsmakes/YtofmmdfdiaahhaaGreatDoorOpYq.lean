/- ops.Extract at UTC, of a stamp, a date, an interval. -/
import Derived.Test.YtofmmdfdiaahhaaGreatDoorOpNq
import Derived.Test.YtofmmdfdiaahhaaGreatDoorOpVq
import Derived.Test.YtofmmdfdiaahhaaGreatDoorOpXq
namespace Go.Proofs.YtofmmdfdiaahhaaGreatDoor
open Go.RowKit
set_option linter.unusedVariables false
set_option maxRecDepth 100000 in
set_option maxHeartbeats 4000000 in
theorem ex_st (s : ByteArray) (u f N S E : Int)
    (RV : Hid (∀ w : World, Cvl.Lens w → Calls Tryz.prog 37 #[.agg (v_st 0 u).toArray] w fun r' w' => r' = .returned (.bool true) ∧ Below w.heap.size w w'))
    (NA : Hid (∀ w : World, Calls Tryz.prog 24 #[.string s, .int .i64 18] w fun r' w' => r' = .returned (.tuple #[.int .i64 f, .bool true]) ∧ Below w.heap.size w w'))
    (GW : Hid (∀ w : World, Calls Tryz.prog 39 #[.int .i64 f, .int .i64 6] w fun r' w' => r' = .returned (.bool true) ∧ Below w.heap.size w w'))
    (OS : Hid (∀ w : World, Cvl.Lens w → Calls Tryz.prog 43 #[.int .i64 f, .agg #[.int .i64 0, .int .i64 u]] w fun r' w' => r' = .returned (.tuple #[.agg #[.int .i64 N, .int .i64 S], .int .i64 E]) ∧ Below w.heap.size w w'))
    (w : World) (hL : Hid (∀ W : World, Below w.heap.size w W → Cvl.Lens W)) :
    Calls Tryz.prog 17 #[.agg utL.toArray, .string s, .agg (v_st 0 u).toArray] w fun r' w' => r' = .returned (.tuple #[.agg #[.int .i64 N, .int .i64 S], .int .i64 E]) ∧ Below w.heap.size w w' := by
  have X0 : Hid (BS w [(w.heap.size + 2, [.int .i64 0, .int .i64 0]), (w.heap.size + 1, (v_st 0 u)), (w.heap.size, utL)] (((w.alloc (.cells utL.toArray 60)).alloc (.cells (v_st 0 u).toArray 63)).alloc (.cells #[.int .i64 0, .int .i64 0] 45))) := (((BS.start w).new utL _ rfl).new (v_st 0 u) _ (by simp)).new [.int .i64 0, .int .i64 0] _ (by simp)
  have UR : Hid (∀ w : World, Calls Tryz.prog 36 #[.agg utL.toArray] w fun r' w' => r' = .returned (.bool true) ∧ Below w.heap.size w w') := uright
  go_enter Tryz.func17, Tryz.ntmps17
  generalize hUA : utL.toArray = UA at *
  generalize hVA : (v_st 0 u).toArray = VA at *
  go_upto_region 1 with fail
  refine bs_to X0 ?_
  clear X0
  intro W0 K0
  go_wp2_with (first | (refine wpList_load_mid rfl 60 _ rfl (w.heap.size) 0 rfl utL _ (bo3 K0).all Tryz.underlying60 rfl (by kernel_rfl) ?_; rw [hUA]) | fail)
  refine (UR.out _).mono ?_
  rintro e W1 ⟨rfl, hb⟩
  have K1 := bsb K0 hb
  clear hb K0
  go_wp2_with (first | (refine mid_on (by kernel_rfl) 63 _ rfl (w.heap.size + 1) 0 rfl (v_st 0 u) _ (bo2 K1).all Tryz.underlying63 rfl (by kernel_rfl) ?_; rw [hVA]) | fail)
  refine (RV.out _ (hL.out _ K1.out.1)).mono ?_
  rintro e W2 ⟨rfl, hb⟩
  have K2 := bsb K1 hb
  clear hb K1
  have v0 : W2.cell? ⟨w.heap.size + 1, 0, none⟩ = some (.int .i64 6) := (bo2 K2).c 0 rfl
  have v5 : W2.cell? ⟨w.heap.size + 1, 5, none⟩ = some (.int .i64 0) := (bo2 K2).c 5 rfl
  have v7 : W2.cell? ⟨w.heap.size + 1, 7, none⟩ = some (.int .i64 0) := (bo2 K2).c 7 rfl
  have v8 : W2.cell? ⟨w.heap.size + 1, 8, none⟩ = some (.int .i64 u) := (bo2 K2).c 8 rfl
  have v9 : W2.cell? ⟨w.heap.size + 1, 9, none⟩ = some (.int .i64 0) := (bo2 K2).c 9 rfl
  have Ma := bsn K2 (inL [5, 6, 7, 8]) 3
  go_wp2_with fail
  refine (isOf_any 6 [5, 6, 7, 8] _ (by decide) 4 rfl true (by decide) _ (bo1 Ma)).mono ?_
  rintro e W9 ⟨rfl, hw⟩
  rw [hw]
  clear hw W9
  go_upto_region 5 with fail
  refine bs_to Ma ?_
  clear Ma K2 v0 v5 v7 v8 v9
  intro Wa Ka
  go_wp2_with fail
  refine (NA.out _).mono ?_
  rintro e W3 ⟨rfl, hb⟩
  have K3 := bsb Ka hb
  clear hb Ka
  have v0 : W3.cell? ⟨w.heap.size + 1, 0, none⟩ = some (.int .i64 6) := (bo3 K3).c 0 rfl
  have v5 : W3.cell? ⟨w.heap.size + 1, 5, none⟩ = some (.int .i64 0) := (bo3 K3).c 5 rfl
  have v7 : W3.cell? ⟨w.heap.size + 1, 7, none⟩ = some (.int .i64 0) := (bo3 K3).c 7 rfl
  have v8 : W3.cell? ⟨w.heap.size + 1, 8, none⟩ = some (.int .i64 u) := (bo3 K3).c 8 rfl
  have v9 : W3.cell? ⟨w.heap.size + 1, 9, none⟩ = some (.int .i64 0) := (bo3 K3).c 9 rfl
  go_wp2_with fail
  refine (GW.out _).mono ?_
  rintro e W4 ⟨rfl, hb⟩
  have K4 := bsb K3 hb
  clear hb K3
  clear v0 v5 v7 v8 v9
  have v0 : W4.cell? ⟨w.heap.size + 1, 0, none⟩ = some (.int .i64 6) := (bo3 K4).c 0 rfl
  have v5 : W4.cell? ⟨w.heap.size + 1, 5, none⟩ = some (.int .i64 0) := (bo3 K4).c 5 rfl
  have v7 : W4.cell? ⟨w.heap.size + 1, 7, none⟩ = some (.int .i64 0) := (bo3 K4).c 7 rfl
  have v8 : W4.cell? ⟨w.heap.size + 1, 8, none⟩ = some (.int .i64 u) := (bo3 K4).c 8 rfl
  have v9 : W4.cell? ⟨w.heap.size + 1, 9, none⟩ = some (.int .i64 0) := (bo3 K4).c 9 rfl
  go_wp2_with fail
  refine (OS.out _ (hL.out _ K4.out.1)).mono ?_
  rintro e W5 ⟨rfl, hb⟩
  have K5 := bsb K4 hb
  clear hb K4
  clear v0 v5 v7 v8 v9
  obtain ⟨zz0, zz1⟩ := (bo2 K5).f2
  obtain ⟨cc0, cc1⟩ := (bo2 K5).c2
  have XF : Hid (Bx (W5.setCells (w.heap.size + 2) 0 [.int .i64 N, .int .i64 S]) (w.heap.size + 2) [.int .i64 N, .int .i64 S]) := (K5.out.at (w.heap.size + 2) [.int .i64 0, .int .i64 0] (by simp)).setAll _ rfl
  have BF : Hid (Below w.heap.size w (W5.setCells (w.heap.size + 2) 0 [.int .i64 N, .int .i64 S])) := below_setCells (by omega) _ _ _ K5.out.1
  have y0 := XF.out.c 0 rfl
  have y1 := XF.out.c 1 rfl
  simp only [World.setCells, Nat.zero_add] at y0 y1
  clear XF
  go_wp2
  exact bodyPost_ret (v := .tuple #[.agg #[.int .i64 N, .int .i64 S], .int .i64 E]) (by simp [results, Tryz.results17, go_sem, y0, y1]) rfl ⟨rfl, BF.out⟩

set_option maxRecDepth 100000 in
set_option maxHeartbeats 4000000 in
theorem ex_dt (s : ByteArray) (d u f N S E : Int)
    (RV : Hid (∀ w : World, Cvl.Lens w → Calls Tryz.prog 37 #[.agg (v_dt 0 d).toArray] w fun r' w' => r' = .returned (.bool true) ∧ Below w.heap.size w w'))
    (NA : Hid (∀ w : World, Calls Tryz.prog 24 #[.string s, .int .i64 18] w fun r' w' => r' = .returned (.tuple #[.int .i64 f, .bool true]) ∧ Below w.heap.size w w'))
    (GW : Hid (∀ w : World, Calls Tryz.prog 39 #[.int .i64 f, .int .i64 5] w fun r' w' => r' = .returned (.bool true) ∧ Below w.heap.size w w'))
    (SA : Hid (∀ w : World, Cvl.Lens w → Calls Tryz.prog 42 #[.agg #[.int .i64 0, .int .i64 d]] w fun r' w' => r' = .returned (.tuple #[.agg #[.int .i64 0, .int .i64 u], .int .i64 0]) ∧ Below w.heap.size w w'))
    (OS : Hid (∀ w : World, Cvl.Lens w → Calls Tryz.prog 43 #[.int .i64 f, .agg #[.int .i64 0, .int .i64 u]] w fun r' w' => r' = .returned (.tuple #[.agg #[.int .i64 N, .int .i64 S], .int .i64 E]) ∧ Below w.heap.size w w'))
    (w : World) (hL : Hid (∀ W : World, Below w.heap.size w W → Cvl.Lens W)) :
    Calls Tryz.prog 17 #[.agg utL.toArray, .string s, .agg (v_dt 0 d).toArray] w fun r' w' => r' = .returned (.tuple #[.agg #[.int .i64 N, .int .i64 S], .int .i64 E]) ∧ Below w.heap.size w w' := by
  have X0 : Hid (BS w [(w.heap.size + 2, [.int .i64 0, .int .i64 0]), (w.heap.size + 1, (v_dt 0 d)), (w.heap.size, utL)] (((w.alloc (.cells utL.toArray 60)).alloc (.cells (v_dt 0 d).toArray 63)).alloc (.cells #[.int .i64 0, .int .i64 0] 45))) := (((BS.start w).new utL _ rfl).new (v_dt 0 d) _ (by simp)).new [.int .i64 0, .int .i64 0] _ (by simp)
  have UR : Hid (∀ w : World, Calls Tryz.prog 36 #[.agg utL.toArray] w fun r' w' => r' = .returned (.bool true) ∧ Below w.heap.size w w') := uright
  go_enter Tryz.func17, Tryz.ntmps17
  generalize hUA : utL.toArray = UA at *
  generalize hVA : (v_dt 0 d).toArray = VA at *
  go_upto_region 1 with fail
  refine bs_to X0 ?_
  clear X0
  intro W0 K0
  go_wp2_with (first | (refine wpList_load_mid rfl 60 _ rfl (w.heap.size) 0 rfl utL _ (bo3 K0).all Tryz.underlying60 rfl (by kernel_rfl) ?_; rw [hUA]) | fail)
  refine (UR.out _).mono ?_
  rintro e W1 ⟨rfl, hb⟩
  have K1 := bsb K0 hb
  clear hb K0
  go_wp2_with (first | (refine mid_on (by kernel_rfl) 63 _ rfl (w.heap.size + 1) 0 rfl (v_dt 0 d) _ (bo2 K1).all Tryz.underlying63 rfl (by kernel_rfl) ?_; rw [hVA]) | fail)
  refine (RV.out _ (hL.out _ K1.out.1)).mono ?_
  rintro e W2 ⟨rfl, hb⟩
  have K2 := bsb K1 hb
  clear hb K1
  have v0 : W2.cell? ⟨w.heap.size + 1, 0, none⟩ = some (.int .i64 5) := (bo2 K2).c 0 rfl
  have v5 : W2.cell? ⟨w.heap.size + 1, 5, none⟩ = some (.int .i64 0) := (bo2 K2).c 5 rfl
  have v6 : W2.cell? ⟨w.heap.size + 1, 6, none⟩ = some (.int .i64 d) := (bo2 K2).c 6 rfl
  have v7 : W2.cell? ⟨w.heap.size + 1, 7, none⟩ = some (.int .i64 0) := (bo2 K2).c 7 rfl
  have v9 : W2.cell? ⟨w.heap.size + 1, 9, none⟩ = some (.int .i64 0) := (bo2 K2).c 9 rfl
  have Ma := bsn K2 (inL [5, 6, 7, 8]) 3
  go_wp2_with fail
  refine (isOf_any 5 [5, 6, 7, 8] _ (by decide) 4 rfl true (by decide) _ (bo1 Ma)).mono ?_
  rintro e W9 ⟨rfl, hw⟩
  rw [hw]
  clear hw W9
  go_upto_region 5 with fail
  refine bs_to Ma ?_
  clear Ma K2 v0 v5 v6 v7 v9
  intro Wa Ka
  go_wp2_with fail
  refine (NA.out _).mono ?_
  rintro e W3 ⟨rfl, hb⟩
  have K3 := bsb Ka hb
  clear hb Ka
  have v0 : W3.cell? ⟨w.heap.size + 1, 0, none⟩ = some (.int .i64 5) := (bo3 K3).c 0 rfl
  have v5 : W3.cell? ⟨w.heap.size + 1, 5, none⟩ = some (.int .i64 0) := (bo3 K3).c 5 rfl
  have v6 : W3.cell? ⟨w.heap.size + 1, 6, none⟩ = some (.int .i64 d) := (bo3 K3).c 6 rfl
  have v7 : W3.cell? ⟨w.heap.size + 1, 7, none⟩ = some (.int .i64 0) := (bo3 K3).c 7 rfl
  have v9 : W3.cell? ⟨w.heap.size + 1, 9, none⟩ = some (.int .i64 0) := (bo3 K3).c 9 rfl
  go_wp2_with fail
  refine (GW.out _).mono ?_
  rintro e W4 ⟨rfl, hb⟩
  have K4 := bsb K3 hb
  clear hb K3
  clear v0 v5 v6 v7 v9
  have v0 : W4.cell? ⟨w.heap.size + 1, 0, none⟩ = some (.int .i64 5) := (bo3 K4).c 0 rfl
  have v5 : W4.cell? ⟨w.heap.size + 1, 5, none⟩ = some (.int .i64 0) := (bo3 K4).c 5 rfl
  have v6 : W4.cell? ⟨w.heap.size + 1, 6, none⟩ = some (.int .i64 d) := (bo3 K4).c 6 rfl
  have v7 : W4.cell? ⟨w.heap.size + 1, 7, none⟩ = some (.int .i64 0) := (bo3 K4).c 7 rfl
  have v9 : W4.cell? ⟨w.heap.size + 1, 9, none⟩ = some (.int .i64 0) := (bo3 K4).c 9 rfl
  go_wp2_with fail
  refine (SA.out _ (hL.out _ K4.out.1)).mono ?_
  rintro e W5 ⟨rfl, hb⟩
  have K5 := bsb K4 hb
  clear hb K4
  clear v0 v5 v6 v7 v9
  have Mb := bsn K5 [.int .i64 0, .int .i64 u] 23
  have lt0 := (bo1 K5).1
  have lt1 := (bo2 K5).1
  have lt2 := (bo3 K5).1
  have lt3 := (bo4 K5).1
  go_upto_region 17 with fail
  refine bs_to Mb ?_
  clear Mb K5
  intro Wb Kb
  obtain ⟨s0, s1⟩ := (bo1 Kb).c2
  go_wp2_with fail
  refine (OS.out _ (hL.out _ Kb.out.1)).mono ?_
  rintro e W6 ⟨rfl, hb⟩
  have K6 := bsb Kb hb
  clear hb Kb
  clear s0 s1
  obtain ⟨zz0, zz1⟩ := (bo3 K6).f2
  obtain ⟨cc0, cc1⟩ := (bo3 K6).c2
  have XF : Hid (Bx (W6.setCells (w.heap.size + 2) 0 [.int .i64 N, .int .i64 S]) (w.heap.size + 2) [.int .i64 N, .int .i64 S]) := (K6.out.at (w.heap.size + 2) [.int .i64 0, .int .i64 0] (by simp)).setAll _ rfl
  have BF : Hid (Below w.heap.size w (W6.setCells (w.heap.size + 2) 0 [.int .i64 N, .int .i64 S])) := below_setCells (by omega) _ _ _ K6.out.1
  have y0 := XF.out.c 0 rfl
  have y1 := XF.out.c 1 rfl
  simp only [World.setCells, Nat.zero_add] at y0 y1
  clear XF
  go_wp2
  exact bodyPost_ret (v := .tuple #[.agg #[.int .i64 N, .int .i64 S], .int .i64 E]) (by simp [results, Tryz.results17, go_sem, y0, y1]) rfl ⟨rfl, BF.out⟩

set_option maxRecDepth 100000 in
set_option maxHeartbeats 4000000 in
theorem ex_sp (s : ByteArray) (m d u f N S E : Int)
    (RV : Hid (∀ w : World, Calls Tryz.prog 37 #[.agg (v_sp 0 m d u).toArray] w fun r' w' => r' = .returned (.bool true) ∧ Below w.heap.size w w'))
    (NA : Hid (∀ w : World, Calls Tryz.prog 24 #[.string s, .int .i64 18] w fun r' w' => r' = .returned (.tuple #[.int .i64 f, .bool true]) ∧ Below w.heap.size w w'))
    (GW : Hid (∀ w : World, Calls Tryz.prog 39 #[.int .i64 f, .int .i64 8] w fun r' w' => r' = .returned (.bool true) ∧ Below w.heap.size w w'))
    (OS : Hid (∀ w : World, Calls Tryz.prog 40 #[.int .i64 f, .agg #[.int .i64 0, .int .i64 m, .int .i64 d, .int .i64 u]] w fun r' w' => r' = .returned (.tuple #[.agg #[.int .i64 N, .int .i64 S], .int .i64 E]) ∧ Below w.heap.size w w'))
    (w : World) (hL : Hid (∀ W : World, Below w.heap.size w W → Cvl.Lens W)) :
    Calls Tryz.prog 17 #[.agg utL.toArray, .string s, .agg (v_sp 0 m d u).toArray] w fun r' w' => r' = .returned (.tuple #[.agg #[.int .i64 N, .int .i64 S], .int .i64 E]) ∧ Below w.heap.size w w' := by
  have X0 : Hid (BS w [(w.heap.size + 2, [.int .i64 0, .int .i64 0]), (w.heap.size + 1, (v_sp 0 m d u)), (w.heap.size, utL)] (((w.alloc (.cells utL.toArray 60)).alloc (.cells (v_sp 0 m d u).toArray 63)).alloc (.cells #[.int .i64 0, .int .i64 0] 45))) := (((BS.start w).new utL _ rfl).new (v_sp 0 m d u) _ (by simp)).new [.int .i64 0, .int .i64 0] _ (by simp)
  have UR : Hid (∀ w : World, Calls Tryz.prog 36 #[.agg utL.toArray] w fun r' w' => r' = .returned (.bool true) ∧ Below w.heap.size w w') := uright
  go_enter Tryz.func17, Tryz.ntmps17
  generalize hUA : utL.toArray = UA at *
  generalize hVA : (v_sp 0 m d u).toArray = VA at *
  go_upto_region 1 with fail
  refine bs_to X0 ?_
  clear X0
  intro W0 K0
  go_wp2_with (first | (refine wpList_load_mid rfl 60 _ rfl (w.heap.size) 0 rfl utL _ (bo3 K0).all Tryz.underlying60 rfl (by kernel_rfl) ?_; rw [hUA]) | fail)
  refine (UR.out _).mono ?_
  rintro e W1 ⟨rfl, hb⟩
  have K1 := bsb K0 hb
  clear hb K0
  go_wp2_with (first | (refine mid_on (by kernel_rfl) 63 _ rfl (w.heap.size + 1) 0 rfl (v_sp 0 m d u) _ (bo2 K1).all Tryz.underlying63 rfl (by kernel_rfl) ?_; rw [hVA]) | fail)
  refine (RV.out _).mono ?_
  rintro e W2 ⟨rfl, hb⟩
  have K2 := bsb K1 hb
  clear hb K1
  have v0 : W2.cell? ⟨w.heap.size + 1, 0, none⟩ = some (.int .i64 8) := (bo2 K2).c 0 rfl
  have v5 : W2.cell? ⟨w.heap.size + 1, 5, none⟩ = some (.int .i64 0) := (bo2 K2).c 5 rfl
  have v7 : W2.cell? ⟨w.heap.size + 1, 7, none⟩ = some (.int .i64 0) := (bo2 K2).c 7 rfl
  have v9 : W2.cell? ⟨w.heap.size + 1, 9, none⟩ = some (.int .i64 0) := (bo2 K2).c 9 rfl
  have v10 : W2.cell? ⟨w.heap.size + 1, 10, none⟩ = some (.int .i64 m) := (bo2 K2).c 10 rfl
  have v11 : W2.cell? ⟨w.heap.size + 1, 11, none⟩ = some (.int .i64 d) := (bo2 K2).c 11 rfl
  have v12 : W2.cell? ⟨w.heap.size + 1, 12, none⟩ = some (.int .i64 u) := (bo2 K2).c 12 rfl
  have Ma := bsn K2 (inL [5, 6, 7, 8]) 3
  go_wp2_with fail
  refine (isOf_any 8 [5, 6, 7, 8] _ (by decide) 4 rfl true (by decide) _ (bo1 Ma)).mono ?_
  rintro e W9 ⟨rfl, hw⟩
  rw [hw]
  clear hw W9
  go_upto_region 5 with fail
  refine bs_to Ma ?_
  clear Ma K2 v0 v5 v7 v9 v10 v11 v12
  intro Wa Ka
  go_wp2_with fail
  refine (NA.out _).mono ?_
  rintro e W3 ⟨rfl, hb⟩
  have K3 := bsb Ka hb
  clear hb Ka
  have v0 : W3.cell? ⟨w.heap.size + 1, 0, none⟩ = some (.int .i64 8) := (bo3 K3).c 0 rfl
  have v5 : W3.cell? ⟨w.heap.size + 1, 5, none⟩ = some (.int .i64 0) := (bo3 K3).c 5 rfl
  have v7 : W3.cell? ⟨w.heap.size + 1, 7, none⟩ = some (.int .i64 0) := (bo3 K3).c 7 rfl
  have v9 : W3.cell? ⟨w.heap.size + 1, 9, none⟩ = some (.int .i64 0) := (bo3 K3).c 9 rfl
  have v10 : W3.cell? ⟨w.heap.size + 1, 10, none⟩ = some (.int .i64 m) := (bo3 K3).c 10 rfl
  have v11 : W3.cell? ⟨w.heap.size + 1, 11, none⟩ = some (.int .i64 d) := (bo3 K3).c 11 rfl
  have v12 : W3.cell? ⟨w.heap.size + 1, 12, none⟩ = some (.int .i64 u) := (bo3 K3).c 12 rfl
  go_wp2_with fail
  refine (GW.out _).mono ?_
  rintro e W4 ⟨rfl, hb⟩
  have K4 := bsb K3 hb
  clear hb K3
  clear v0 v5 v7 v9 v10 v11 v12
  have v0 : W4.cell? ⟨w.heap.size + 1, 0, none⟩ = some (.int .i64 8) := (bo3 K4).c 0 rfl
  have v5 : W4.cell? ⟨w.heap.size + 1, 5, none⟩ = some (.int .i64 0) := (bo3 K4).c 5 rfl
  have v7 : W4.cell? ⟨w.heap.size + 1, 7, none⟩ = some (.int .i64 0) := (bo3 K4).c 7 rfl
  have v9 : W4.cell? ⟨w.heap.size + 1, 9, none⟩ = some (.int .i64 0) := (bo3 K4).c 9 rfl
  have v10 : W4.cell? ⟨w.heap.size + 1, 10, none⟩ = some (.int .i64 m) := (bo3 K4).c 10 rfl
  have v11 : W4.cell? ⟨w.heap.size + 1, 11, none⟩ = some (.int .i64 d) := (bo3 K4).c 11 rfl
  have v12 : W4.cell? ⟨w.heap.size + 1, 12, none⟩ = some (.int .i64 u) := (bo3 K4).c 12 rfl
  go_wp2_with fail
  refine (OS.out _).mono ?_
  rintro e W5 ⟨rfl, hb⟩
  have K5 := bsb K4 hb
  clear hb K4
  clear v0 v5 v7 v9 v10 v11 v12
  obtain ⟨zz0, zz1⟩ := (bo2 K5).f2
  obtain ⟨cc0, cc1⟩ := (bo2 K5).c2
  have XF : Hid (Bx (W5.setCells (w.heap.size + 2) 0 [.int .i64 N, .int .i64 S]) (w.heap.size + 2) [.int .i64 N, .int .i64 S]) := (K5.out.at (w.heap.size + 2) [.int .i64 0, .int .i64 0] (by simp)).setAll _ rfl
  have BF : Hid (Below w.heap.size w (W5.setCells (w.heap.size + 2) 0 [.int .i64 N, .int .i64 S])) := below_setCells (by omega) _ _ _ K5.out.1
  have y0 := XF.out.c 0 rfl
  have y1 := XF.out.c 1 rfl
  simp only [World.setCells, Nat.zero_add] at y0 y1
  clear XF
  go_wp2
  exact bodyPost_ret (v := .tuple #[.agg #[.int .i64 N, .int .i64 S], .int .i64 E]) (by simp [results, Tryz.results17, go_sem, y0, y1]) rfl ⟨rfl, BF.out⟩



end Go.Proofs.YtofmmdfdiaahhaaGreatDoor
