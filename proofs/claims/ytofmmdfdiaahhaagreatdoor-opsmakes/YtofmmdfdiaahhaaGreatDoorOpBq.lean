/- ops: back, lengthOf, Bin, way by way. -/
import Derived.Test.YtofmmdfdiaahhaaGreatDoorOpUq
import Derived.Deep.Cut
namespace Go.Proofs.YtofmmdfdiaahhaaGreatDoor
open Go.RowKit
set_option linter.unusedVariables false

set_option maxRecDepth 100000 in
set_option maxHeartbeats 4000000 in
theorem back_e (i t r v e : Int) (he : e ≠ 0)
    (SU : Hid (∀ w : World, Calls Tryz.prog 29 #[.int .i64 t, .int .i64 r] w fun r' w' => r' = .returned (.tuple #[.int .i64 v, .int .i64 e]) ∧ w' = w))
    (w : World) :
    Calls Tryz.prog 31 #[.agg #[.int .i64 i, .int .i64 t], .int .i64 r] w fun r' w' => r' = .returned (.tuple #[.agg #[.int .i64 0, .int .i64 0], .int .i64 10]) ∧ Below w.heap.size w w' := by
  have n_e : (e != 0) = true := bne_iff_ne.2 he
  have K0 : Hid (BS w [(w.heap.size + 1, [.int .i64 0, .int .i64 0]), (w.heap.size, [.int .i64 i, .int .i64 t])] ((w.alloc (.cells #[.int .i64 i, .int .i64 t] 23)).alloc (.cells #[.int .i64 0, .int .i64 0] 23))) := (((BS.start w).new [.int .i64 i, .int .i64 t] 23 rfl).new [.int .i64 0, .int .i64 0] 23 (by simp))
  go_enter Tryz.func31, Tryz.ntmps31
  go_wp2_with fail
  refine (SU.out _).mono ?_
  rintro e W1 ⟨rfl, rfl⟩
  go_wp2
  exact bodyPost_ret (v := .tuple #[.agg #[.int .i64 0, .int .i64 0], .int .i64 10]) (by simp [results, Tryz.results31, go_sem]) rfl ⟨rfl, (by repeat' (first | assumption | exact Below.refl _ _ | exact Nat.le_refl _ | refine Below.alloc ?_ ?_ _ | (simp; done) | (simp; omega) | omega))⟩

set_option maxRecDepth 100000 in
set_option maxHeartbeats 4000000 in
theorem back_true (i t r v : Int)
    (SU : Hid (∀ w : World, Calls Tryz.prog 29 #[.int .i64 t, .int .i64 r] w fun r' w' => r' = .returned (.tuple #[.int .i64 v, .int .i64 0]) ∧ w' = w))
    (R : Hid (∀ w : World, Cvl.Lens w → Calls Tryz.prog 20 #[.agg #[.int .i64 0, .int .i64 v]] w fun r' w' => r' = .returned (.bool true) ∧ Below w.heap.size w w'))
    (w : World) (hL : Hid (∀ W : World, Below w.heap.size w W → Cvl.Lens W)) :
    Calls Tryz.prog 31 #[.agg #[.int .i64 i, .int .i64 t], .int .i64 r] w fun r' w' => r' = .returned (.tuple #[.agg #[.int .i64 0, .int .i64 v], .int .i64 0]) ∧ Below w.heap.size w w' := by
  have K0 : Hid (BS w [(w.heap.size + 1, [.int .i64 0, .int .i64 0]), (w.heap.size, [.int .i64 i, .int .i64 t])] ((w.alloc (.cells #[.int .i64 i, .int .i64 t] 23)).alloc (.cells #[.int .i64 0, .int .i64 0] 23))) := (((BS.start w).new [.int .i64 i, .int .i64 t] 23 rfl).new [.int .i64 0, .int .i64 0] 23 (by simp))
  go_enter Tryz.func31, Tryz.ntmps31
  go_wp2_with fail
  refine (SU.out _).mono ?_
  rintro e W1 ⟨rfl, rfl⟩
  go_wp2_with fail
  refine (R.out _ (hL.out _ K0.out.1)).mono ?_
  rintro e W2 ⟨rfl, hb⟩
  have K2 := bsb K0 hb
  clear hb K0
  obtain ⟨c2_0_0, c2_0_1⟩ := (bo1 K2).c2
  obtain ⟨z2_0_0, z2_0_1⟩ := (bo1 K2).f2
  obtain ⟨c2_1_0, c2_1_1⟩ := (bo2 K2).c2
  have XF : Hid (Bx (W2.setCells (w.heap.size + 1) 0 [.int .i64 0, .int .i64 v]) (w.heap.size + 1) [.int .i64 0, .int .i64 v]) := (K2.out.at (w.heap.size + 1) [.int .i64 0, .int .i64 0] (by simp)).setAll _ rfl
  have BF : Hid (Below w.heap.size w (W2.setCells (w.heap.size + 1) 0 [.int .i64 0, .int .i64 v])) := below_setCells (by omega) _ _ _ K2.out.1
  have y0 := XF.out.c 0 rfl
  have y1 := XF.out.c 1 rfl
  simp only [World.setCells, Nat.zero_add] at y0 y1
  clear XF
  go_wp2
  exact bodyPost_ret (v := .tuple #[.agg #[.int .i64 0, .int .i64 v], .int .i64 0]) (by simp [results, Tryz.results31, go_sem, y0, y1]) rfl ⟨rfl, BF.out⟩

set_option maxRecDepth 100000 in
set_option maxHeartbeats 4000000 in
theorem back_false (i t r v : Int)
    (SU : Hid (∀ w : World, Calls Tryz.prog 29 #[.int .i64 t, .int .i64 r] w fun r' w' => r' = .returned (.tuple #[.int .i64 v, .int .i64 0]) ∧ w' = w))
    (R : Hid (∀ w : World, Cvl.Lens w → Calls Tryz.prog 20 #[.agg #[.int .i64 0, .int .i64 v]] w fun r' w' => r' = .returned (.bool false) ∧ Below w.heap.size w w'))
    (w : World) (hL : Hid (∀ W : World, Below w.heap.size w W → Cvl.Lens W)) :
    Calls Tryz.prog 31 #[.agg #[.int .i64 i, .int .i64 t], .int .i64 r] w fun r' w' => r' = .returned (.tuple #[.agg #[.int .i64 0, .int .i64 0], .int .i64 10]) ∧ Below w.heap.size w w' := by
  have K0 : Hid (BS w [(w.heap.size + 1, [.int .i64 0, .int .i64 0]), (w.heap.size, [.int .i64 i, .int .i64 t])] ((w.alloc (.cells #[.int .i64 i, .int .i64 t] 23)).alloc (.cells #[.int .i64 0, .int .i64 0] 23))) := (((BS.start w).new [.int .i64 i, .int .i64 t] 23 rfl).new [.int .i64 0, .int .i64 0] 23 (by simp))
  go_enter Tryz.func31, Tryz.ntmps31
  go_wp2_with fail
  refine (SU.out _).mono ?_
  rintro e W1 ⟨rfl, rfl⟩
  go_wp2_with fail
  refine (R.out _ (hL.out _ K0.out.1)).mono ?_
  rintro e W2 ⟨rfl, hb⟩
  have K2 := bsb K0 hb
  clear hb K0
  obtain ⟨c2_0_0, c2_0_1⟩ := (bo1 K2).c2
  obtain ⟨z2_0_0, z2_0_1⟩ := (bo1 K2).f2
  obtain ⟨c2_1_0, c2_1_1⟩ := (bo2 K2).c2
  have XF : Hid (Bx (W2.setCells (w.heap.size + 1) 0 [.int .i64 0, .int .i64 0]) (w.heap.size + 1) [.int .i64 0, .int .i64 0]) := (K2.out.at (w.heap.size + 1) [.int .i64 0, .int .i64 0] (by simp)).setAll _ rfl
  have BF : Hid (Below w.heap.size w (W2.setCells (w.heap.size + 1) 0 [.int .i64 0, .int .i64 0])) := below_setCells (by omega) _ _ _ K2.out.1
  have y0 := XF.out.c 0 rfl
  have y1 := XF.out.c 1 rfl
  simp only [World.setCells, Nat.zero_add] at y0 y1
  clear XF
  go_wp2
  exact bodyPost_ret (v := .tuple #[.agg #[.int .i64 0, .int .i64 0], .int .i64 10]) (by simp [results, Tryz.results31, go_sem, y0, y1]) rfl ⟨rfl, BF.out⟩

set_option maxRecDepth 100000 in
set_option maxHeartbeats 4000000 in
theorem len_0 (j M D U mo us x n : Int) (d1 : -1000000000000 ≤ D + mo) (d2 : D + mo ≤ 1000000000000) (hn : n = 0)
    (SL : Hid (∀ w : World, Calls Tryz.prog 44 #[.int .i64 U] w fun r' w' => r' = .returned (.tuple #[.int .i64 mo, .int .i64 us]) ∧ w' = w))
    (MU : Hid (∀ w : World, Calls Tryz.prog 51 #[.int .i64 (D + mo), .int .i64 86400000000] w fun r' w' => r' = .returned (.tuple #[.int .i64 x, .int .i64 0]) ∧ Below w.heap.size w w'))
    (AD : Hid (∀ w : World, Calls Tryz.prog 52 #[.int .i64 x, .int .i64 us] w fun r' w' => r' = .returned (.tuple #[.int .i64 n, .int .i64 0]) ∧ w' = w))
    (w : World) :
    Calls Tryz.prog 28 #[.agg #[.int .i64 j, .int .i64 M, .int .i64 D, .int .i64 U]] w fun r' w' => r' = .returned (.tuple #[.int .i64 0, .int .i64 11]) ∧ Below w.heap.size w w' := by
  subst hn
  have K0 : Hid (BS w [(w.heap.size, [.int .i64 j, .int .i64 M, .int .i64 D, .int .i64 U])] (w.alloc (.cells #[.int .i64 j, .int .i64 M, .int .i64 D, .int .i64 U] 35))) := ((BS.start w).new [.int .i64 j, .int .i64 M, .int .i64 D, .int .i64 U] 35 rfl)
  go_enter Tryz.func28, Tryz.ntmps28
  go_wp2_with fail
  refine (SL.out _).mono ?_
  rintro e W1 ⟨rfl, rfl⟩
  go_wp2_with fail
  refine (MU.out _).mono ?_
  rintro e W2 ⟨rfl, hb⟩
  have K2 := bsb K0 hb
  clear hb K0
  obtain ⟨c2_0_0, c2_0_1, c2_0_2, c2_0_3⟩ := (bo1 K2).c4
  go_wp2_with fail
  refine (AD.out _).mono ?_
  rintro e W3 ⟨rfl, hw⟩
  rw [hw]
  clear hw W3
  go_wp2
  go_ret2
  exact ⟨rfl, K2.out.1⟩

set_option maxRecDepth 100000 in
set_option maxHeartbeats 4000000 in
theorem len_ok (j M D U mo us x n : Int) (d1 : -1000000000000 ≤ D + mo) (d2 : D + mo ≤ 1000000000000) (hn : 0 < n)
    (SL : Hid (∀ w : World, Calls Tryz.prog 44 #[.int .i64 U] w fun r' w' => r' = .returned (.tuple #[.int .i64 mo, .int .i64 us]) ∧ w' = w))
    (MU : Hid (∀ w : World, Calls Tryz.prog 51 #[.int .i64 (D + mo), .int .i64 86400000000] w fun r' w' => r' = .returned (.tuple #[.int .i64 x, .int .i64 0]) ∧ Below w.heap.size w w'))
    (AD : Hid (∀ w : World, Calls Tryz.prog 52 #[.int .i64 x, .int .i64 us] w fun r' w' => r' = .returned (.tuple #[.int .i64 n, .int .i64 0]) ∧ w' = w))
    (w : World) :
    Calls Tryz.prog 28 #[.agg #[.int .i64 j, .int .i64 M, .int .i64 D, .int .i64 U]] w fun r' w' => r' = .returned (.tuple #[.int .i64 n, .int .i64 0]) ∧ Below w.heap.size w w' := by
  have n1 : ¬ n < 0 := by omega
  have n2 : (n == 0) = false := by simp; omega
  have K0 : Hid (BS w [(w.heap.size, [.int .i64 j, .int .i64 M, .int .i64 D, .int .i64 U])] (w.alloc (.cells #[.int .i64 j, .int .i64 M, .int .i64 D, .int .i64 U] 35))) := ((BS.start w).new [.int .i64 j, .int .i64 M, .int .i64 D, .int .i64 U] 35 rfl)
  go_enter Tryz.func28, Tryz.ntmps28
  go_wp2_with fail
  refine (SL.out _).mono ?_
  rintro e W1 ⟨rfl, rfl⟩
  go_wp2_with fail
  refine (MU.out _).mono ?_
  rintro e W2 ⟨rfl, hb⟩
  have K2 := bsb K0 hb
  clear hb K0
  obtain ⟨c2_0_0, c2_0_1, c2_0_2, c2_0_3⟩ := (bo1 K2).c4
  go_wp2_with fail
  refine (AD.out _).mono ?_
  rintro e W3 ⟨rfl, hw⟩
  rw [hw]
  clear hw W3
  go_wp2
  go_ret2
  exact ⟨rfl, K2.out.1⟩

set_option maxRecDepth 100000 in
set_option maxHeartbeats 4000000 in
theorem bin_ok (D U t q n g r V E : Int)
    (PR : Hid (∀ w : World, Calls Tryz.prog 27 #[.agg #[.int .i64 0, .int .i64 0, .int .i64 D, .int .i64 U]] w fun r' w' => r' = .returned (.bool true) ∧ Below w.heap.size w w'))
    (R1 : Hid (∀ w : World, Cvl.Lens w → Calls Tryz.prog 20 #[.agg #[.int .i64 0, .int .i64 t]] w fun r' w' => r' = .returned (.bool true) ∧ Below w.heap.size w w'))
    (R2 : Hid (∀ w : World, Cvl.Lens w → Calls Tryz.prog 20 #[.agg #[.int .i64 0, .int .i64 q]] w fun r' w' => r' = .returned (.bool true) ∧ Below w.heap.size w w'))
    (LE : Hid (∀ w : World, Calls Tryz.prog 28 #[.agg #[.int .i64 0, .int .i64 0, .int .i64 D, .int .i64 U]] w fun r' w' => r' = .returned (.tuple #[.int .i64 n, .int .i64 0]) ∧ Below w.heap.size w w'))
    (SB : Hid (∀ w : World, Calls Tryz.prog 29 #[.int .i64 t, .int .i64 q] w fun r' w' => r' = .returned (.tuple #[.int .i64 g, .int .i64 0]) ∧ w' = w))
    (MO : Hid (∀ w : World, Calls Tryz.prog 30 #[.int .i64 g, .int .i64 n] w fun r' w' => r' = .returned (.tuple #[.int .i64 r, .int .i64 0]) ∧ w' = w))
    (BK : Hid (∀ w : World, Cvl.Lens w → Calls Tryz.prog 31 #[.agg #[.int .i64 0, .int .i64 t], .int .i64 r] w fun r' w' => r' = .returned (.tuple #[.agg #[.int .i64 0, .int .i64 V], .int .i64 E]) ∧ Below w.heap.size w w'))
    (w : World) (hL : Hid (∀ W : World, Below w.heap.size w W → Cvl.Lens W)) :
    Calls Tryz.prog 12 #[.agg #[.int .i64 0, .int .i64 0, .int .i64 D, .int .i64 U], .agg #[.int .i64 0, .int .i64 t], .agg #[.int .i64 0, .int .i64 q]] w fun r' w' => r' = .returned (.tuple #[.agg #[.int .i64 0, .int .i64 V], .int .i64 E]) ∧ Below w.heap.size w w' := by
  have K0 : Hid (BS w [(w.heap.size + 3, [.int .i64 0, .int .i64 0]), (w.heap.size + 2, [.int .i64 0, .int .i64 q]), (w.heap.size + 1, [.int .i64 0, .int .i64 t]), (w.heap.size, [.int .i64 0, .int .i64 0, .int .i64 D, .int .i64 U])] ((((w.alloc (.cells #[.int .i64 0, .int .i64 0, .int .i64 D, .int .i64 U] 35)).alloc (.cells #[.int .i64 0, .int .i64 t] 23)).alloc (.cells #[.int .i64 0, .int .i64 q] 23)).alloc (.cells #[.int .i64 0, .int .i64 0] 23))) := (((((BS.start w).new [.int .i64 0, .int .i64 0, .int .i64 D, .int .i64 U] 35 rfl).new [.int .i64 0, .int .i64 t] 23 (by simp)).new [.int .i64 0, .int .i64 q] 23 (by simp)).new [.int .i64 0, .int .i64 0] 23 (by simp))
  go_enter Tryz.func12, Tryz.ntmps12
  go_wp2_with fail
  refine (PR.out _).mono ?_
  rintro e W1 ⟨rfl, hb⟩
  have K1 := bsb K0 hb
  clear hb K0
  obtain ⟨c1_0_0, c1_0_1⟩ := (bo1 K1).c2
  obtain ⟨c1_1_0, c1_1_1⟩ := (bo2 K1).c2
  obtain ⟨c1_2_0, c1_2_1⟩ := (bo3 K1).c2
  obtain ⟨c1_3_0, c1_3_1, c1_3_2, c1_3_3⟩ := (bo4 K1).c4
  go_wp2_with fail
  refine (R1.out _ (hL.out _ K1.out.1)).mono ?_
  rintro e W2 ⟨rfl, hb⟩
  have K2 := bsb K1 hb
  clear c1_0_0 c1_0_1 c1_1_0 c1_1_1 c1_2_0 c1_2_1 c1_3_0 c1_3_1 c1_3_2 c1_3_3
  clear hb K1
  obtain ⟨c2_0_0, c2_0_1⟩ := (bo1 K2).c2
  obtain ⟨c2_1_0, c2_1_1⟩ := (bo2 K2).c2
  obtain ⟨c2_2_0, c2_2_1⟩ := (bo3 K2).c2
  obtain ⟨c2_3_0, c2_3_1, c2_3_2, c2_3_3⟩ := (bo4 K2).c4
  go_wp2_with fail
  refine (R2.out _ (hL.out _ K2.out.1)).mono ?_
  rintro e W3 ⟨rfl, hb⟩
  have K3 := bsb K2 hb
  clear c2_0_0 c2_0_1 c2_1_0 c2_1_1 c2_2_0 c2_2_1 c2_3_0 c2_3_1 c2_3_2 c2_3_3
  clear hb K2
  obtain ⟨c3_0_0, c3_0_1⟩ := (bo1 K3).c2
  obtain ⟨c3_1_0, c3_1_1⟩ := (bo2 K3).c2
  obtain ⟨c3_2_0, c3_2_1⟩ := (bo3 K3).c2
  obtain ⟨c3_3_0, c3_3_1, c3_3_2, c3_3_3⟩ := (bo4 K3).c4
  go_wp2_with fail
  refine (LE.out _).mono ?_
  rintro e W4 ⟨rfl, hb⟩
  have K4 := bsb K3 hb
  clear c3_0_0 c3_0_1 c3_1_0 c3_1_1 c3_2_0 c3_2_1 c3_3_0 c3_3_1 c3_3_2 c3_3_3
  clear hb K3
  obtain ⟨c4_0_0, c4_0_1⟩ := (bo1 K4).c2
  obtain ⟨c4_1_0, c4_1_1⟩ := (bo2 K4).c2
  obtain ⟨c4_2_0, c4_2_1⟩ := (bo3 K4).c2
  obtain ⟨c4_3_0, c4_3_1, c4_3_2, c4_3_3⟩ := (bo4 K4).c4
  go_wp2_with fail
  refine (SB.out _).mono ?_
  rintro e W5 ⟨rfl, hw⟩
  rw [hw]
  clear hw W5
  go_wp2_with fail
  refine (MO.out _).mono ?_
  rintro e W6 ⟨rfl, hw⟩
  rw [hw]
  clear hw W6
  go_wp2_with fail
  refine (BK.out _ (hL.out _ K4.out.1)).mono ?_
  rintro e W7 ⟨rfl, hb⟩
  have K7 := bsb K4 hb
  clear c4_0_0 c4_0_1 c4_1_0 c4_1_1 c4_2_0 c4_2_1 c4_3_0 c4_3_1 c4_3_2 c4_3_3
  clear hb K4
  obtain ⟨c7_0_0, c7_0_1⟩ := (bo1 K7).c2
  obtain ⟨z7_0_0, z7_0_1⟩ := (bo1 K7).f2
  obtain ⟨c7_1_0, c7_1_1⟩ := (bo2 K7).c2
  obtain ⟨c7_2_0, c7_2_1⟩ := (bo3 K7).c2
  obtain ⟨c7_3_0, c7_3_1, c7_3_2, c7_3_3⟩ := (bo4 K7).c4
  have XF : Hid (Bx (W7.setCells (w.heap.size + 3) 0 [.int .i64 0, .int .i64 V]) (w.heap.size + 3) [.int .i64 0, .int .i64 V]) := (K7.out.at (w.heap.size + 3) [.int .i64 0, .int .i64 0] (by simp)).setAll _ rfl
  have BF : Hid (Below w.heap.size w (W7.setCells (w.heap.size + 3) 0 [.int .i64 0, .int .i64 V])) := below_setCells (by omega) _ _ _ K7.out.1
  have y0 := XF.out.c 0 rfl
  have y1 := XF.out.c 1 rfl
  simp only [World.setCells, Nat.zero_add] at y0 y1
  clear XF
  go_wp2
  exact bodyPost_ret (v := .tuple #[.agg #[.int .i64 0, .int .i64 V], .int .i64 E]) (by simp [results, Tryz.results12, go_sem, y0, y1]) rfl ⟨rfl, BF.out⟩


end Go.Proofs.YtofmmdfdiaahhaaGreatDoor
