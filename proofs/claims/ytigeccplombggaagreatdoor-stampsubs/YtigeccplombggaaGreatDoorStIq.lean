/- law17: a stamp of a date and a time. -/
import Derived.Test.YtigeccplombggaaGreatDoorStAq
import Derived.Test.YtigeccplombggaaGreatDoorBxCq
namespace Go.Proofs.YtigeccplombggaaGreatDoor
open Go.RowKit
set_option linter.unusedVariables false

set_option maxRecDepth 100000 in
set_option maxHeartbeats 4000000 in
theorem at_run (y m d us v e V f : Int)
    (MK : Hid (∀ w : World, Calls Tryz.prog 80 #[.int .i64 y, .int .i64 m, .int .i64 d] w fun r' w' => r' = .returned (.tuple #[.agg #[.int .i64 0, .int .i64 v], .int .i64 e]) ∧ Below w.heap.size w w'))
    (SM : Hid (∀ w : World, Calls Tryz.prog 81 #[.agg #[.int .i64 0, .int .i64 v], .int .i64 us] w fun r' w' => r' = .returned (.tuple #[.agg #[.int .i64 0, .int .i64 V], .int .i64 f]) ∧ Below w.heap.size w w'))
    (w : World) :
    Calls Tryz.prog 41 #[.int .i64 y, .int .i64 m, .int .i64 d, .int .i64 us] w fun r' w' => r' = .returned (.agg #[.int .i64 0, .int .i64 V]) ∧ Below w.heap.size w w' := by
  have K0 : Hid (BS w [(w.heap.size, [.int .i64 0, .int .i64 0])] (w.alloc (.cells #[.int .i64 0, .int .i64 0] 36))) := ((BS.start w).new [.int .i64 0, .int .i64 0] 36 rfl)
  go_enter Tryz.func41, Tryz.ntmps41
  go_wp2_with fail
  refine (MK.out _).mono ?_
  rintro e W1 ⟨rfl, hb⟩
  have K1 := bsb K0 hb
  clear hb K0
  obtain ⟨c1_0_0, c1_0_1⟩ := (bo1 K1).c2
  have Mz1 := bsn K1 [.int .i64 0, .int .i64 v] 100
  have lt1_0 := (bo1 K1).1
  go_upto_region 2 with fail
  refine bs_to Mz1 ?_
  clear c1_0_0 c1_0_1
  intro W2 K2
  clear Mz1 K1
  obtain ⟨c2_0_0, c2_0_1⟩ := (bo1 K2).c2
  obtain ⟨c2_1_0, c2_1_1⟩ := (bo2 K2).c2
  go_wp2_with fail
  refine (SM.out _).mono ?_
  rintro e W3 ⟨rfl, hb⟩
  have K3 := bsb K2 hb
  clear c2_0_0 c2_0_1 c2_1_0 c2_1_1
  clear hb K2
  obtain ⟨c3_0_0, c3_0_1⟩ := (bo1 K3).c2
  obtain ⟨c3_1_0, c3_1_1⟩ := (bo2 K3).c2
  have Mz3 := bsn K3 [.int .i64 0, .int .i64 V] 36
  have lt3_0 := (bo1 K3).1
  have lt3_1 := (bo2 K3).1
  go_upto_region 3 with fail
  refine bs_to Mz3 ?_
  clear c3_0_0 c3_0_1 c3_1_0 c3_1_1
  intro W4 K4
  clear Mz3 K3
  obtain ⟨c4_0_0, c4_0_1⟩ := (bo1 K4).c2
  obtain ⟨c4_1_0, c4_1_1⟩ := (bo2 K4).c2
  obtain ⟨c4_2_0, c4_2_1⟩ := (bo3 K4).c2
  obtain ⟨z4_2_0, z4_2_1⟩ := (bo3 K4).f2
  have XF : Hid (Bx (W4.setCells (w.heap.size) 0 [.int .i64 0, .int .i64 V]) (w.heap.size) [.int .i64 0, .int .i64 V]) := (K4.out.at (w.heap.size) [.int .i64 0, .int .i64 0] (by simp)).setAll _ rfl
  have BF : Hid (Below w.heap.size w (W4.setCells (w.heap.size) 0 [.int .i64 0, .int .i64 V])) := below_setCells (by omega) _ _ _ K4.out.1
  have y0 := XF.out.c 0 rfl
  have y1 := XF.out.c 1 rfl
  simp only [World.setCells, Nat.zero_add] at y0 y1
  clear XF
  go_wp2
  exact bodyPost_ret (v := .agg #[.int .i64 0, .int .i64 V]) (by simp [results, Tryz.results41, go_sem, y0, y1]) rfl ⟨rfl, BF.out⟩

theorem at_any (y m d us v : Int) (h1 : Dy.mkV y m d = v) (h2 : Dy.stI 0 v us = 0) (V : Int) (h3 : Dy.stV 0 v us = V) (w : World) :
    Calls Tryz.prog 41 #[.int .i64 y, .int .i64 m, .int .i64 d, .int .i64 us] w fun r w' => r = .returned (.agg #[.int .i64 0, .int .i64 V]) ∧ Below w.heap.size w w' := by
  have MK := fun w => Dy.rmake_any y m d w
  rw [h1] at MK
  have SM := fun w => Dy.rstamp_any 0 v us w
  rw [h2, h3] at SM
  exact at_run y m d us v _ V _ MK SM w


end Go.Proofs.YtigeccplombggaaGreatDoor
