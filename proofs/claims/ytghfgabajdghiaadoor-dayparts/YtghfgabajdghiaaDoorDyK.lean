/- What the day laws' fixed calls come to. -/
import Derived.Test.YtghfgabajdghiaaDoorDyG
import Derived.Deep.Cut
namespace Go.Proofs.YtghfgabajdghiaaDoor
open Go.RowKit
set_option linter.unusedVariables false

set_option maxRecDepth 100000 in
set_option maxHeartbeats 4000000 in
theorem known_run 
    (M1 : Hid (∀ w : World, Cvl.Lens w → Calls Tryd.prog 9 #[.int .i64 2024, .int .i64 2, .int .i64 29] w fun r' w' => r' = .returned (.tuple #[.agg #[.int .i64 0, .int .i64 8825], .int .i64 0]) ∧ Below w.heap.size w w'))
    (A1 : Hid (∀ w : World, Cvl.Lens w → Calls Tryd.prog 16 #[.agg #[.int .i64 0, .int .i64 8825], .int .i64 1] w fun r' w' => r' = .returned (.tuple #[.agg #[.int .i64 0, .int .i64 8826], .int .i64 0]) ∧ Below w.heap.size w w'))
    (P1 : Hid (∀ w : World, Cvl.Lens w → Calls Tryd.prog 11 #[.agg #[.int .i64 0, .int .i64 8826]] w fun r' w' => r' = .returned (.tuple #[.int .i64 2024, .int .i64 3, .int .i64 1, .int .i64 0]) ∧ Below w.heap.size w w'))
    (O1 : Hid (∀ w : World, Cvl.Lens w → Calls Tryd.prog 28 #[.agg #[.int .i64 0, .int .i64 (-1)]] w fun r' w' => r' = .returned (.tuple #[.agg #[.int .i64 0, .int .i64 (-1)], .int .i64 86399999999, .int .i64 0]) ∧ Below w.heap.size w w'))
    (M2 : Hid (∀ w : World, Cvl.Lens w → Calls Tryd.prog 9 #[.int .i64 (-4713), .int .i64 1, .int .i64 1] w fun r' w' => r' = .returned (.tuple #[.agg #[.int .i64 0, .int .i64 0], .int .i64 10]) ∧ Below w.heap.size w w'))
    (w : World) (hL : Hid (∀ W : World, Below w.heap.size w W → Cvl.Lens W)) :
    Calls Tryd.prog 15 #[] w fun r' w' => r' = .returned (.bool true) ∧ Below w.heap.size w w' := by
  have K0 : Hid (BS w [] w) := (BS.start w)
  go_enter Tryd.func15, Tryd.ntmps15
  go_wp2_with fail
  refine (M1.out _ (hL.out _ K0.out.1)).mono ?_
  rintro e W1 ⟨rfl, hb⟩
  have K1 : Hid (BS w [] W1) := K0.out.below hb
  clear hb K0
  have Mz1 : Hid (BS w [(W1.heap.size, [.int .i64 0, .int .i64 8825])] (W1.alloc (.cells #[.int .i64 0, .int .i64 8825] 23))) := K1.out.new [.int .i64 0, .int .i64 8825] 23 rfl
  go_upto_region 2 with fail
  refine gen_to (BS w [(W1.heap.size, [.int .i64 0, .int .i64 8825])]) Mz1.out ?_
  intro W2 K2'
  have K2 : Hid (BS w [(W1.heap.size, [.int .i64 0, .int .i64 8825])] W2) := K2'
  clear K2' Mz1 K1
  have c2_0_0 : W2.cell? ⟨W1.heap.size, 0, none⟩ = some (.int .i64 0) := (K2.out.at (W1.heap.size) [.int .i64 0, .int .i64 8825] (by simp)).c 0 rfl
  have c2_0_1 : W2.cell? ⟨W1.heap.size, 1, none⟩ = some (.int .i64 8825) := (K2.out.at (W1.heap.size) [.int .i64 0, .int .i64 8825] (by simp)).c 1 rfl
  go_wp2_with fail
  refine (A1.out _ (hL.out _ K2.out.1)).mono ?_
  rintro e W3 ⟨rfl, hb⟩
  have K3 : Hid (BS w [(W1.heap.size, [.int .i64 0, .int .i64 8825])] W3) := K2.out.below hb
  clear c2_0_0 c2_0_1
  clear hb K2
  have c3_0_0 : W3.cell? ⟨W1.heap.size, 0, none⟩ = some (.int .i64 0) := (K3.out.at (W1.heap.size) [.int .i64 0, .int .i64 8825] (by simp)).c 0 rfl
  have c3_0_1 : W3.cell? ⟨W1.heap.size, 1, none⟩ = some (.int .i64 8825) := (K3.out.at (W1.heap.size) [.int .i64 0, .int .i64 8825] (by simp)).c 1 rfl
  have Mz3 : Hid (BS w [(W3.heap.size, [.int .i64 0, .int .i64 8826]), (W1.heap.size, [.int .i64 0, .int .i64 8825])] (W3.alloc (.cells #[.int .i64 0, .int .i64 8826] 23))) := K3.out.new [.int .i64 0, .int .i64 8826] 23 rfl
  go_upto_region 3 with fail
  refine gen_to (BS w [(W3.heap.size, [.int .i64 0, .int .i64 8826]), (W1.heap.size, [.int .i64 0, .int .i64 8825])]) Mz3.out ?_
  clear c3_0_0 c3_0_1
  intro W4 K4'
  have K4 : Hid (BS w [(W3.heap.size, [.int .i64 0, .int .i64 8826]), (W1.heap.size, [.int .i64 0, .int .i64 8825])] W4) := K4'
  clear K4' Mz3 K3
  have c4_0_0 : W4.cell? ⟨W3.heap.size, 0, none⟩ = some (.int .i64 0) := (K4.out.at (W3.heap.size) [.int .i64 0, .int .i64 8826] (by simp)).c 0 rfl
  have c4_0_1 : W4.cell? ⟨W3.heap.size, 1, none⟩ = some (.int .i64 8826) := (K4.out.at (W3.heap.size) [.int .i64 0, .int .i64 8826] (by simp)).c 1 rfl
  have c4_1_0 : W4.cell? ⟨W1.heap.size, 0, none⟩ = some (.int .i64 0) := (K4.out.at (W1.heap.size) [.int .i64 0, .int .i64 8825] (by simp)).c 0 rfl
  have c4_1_1 : W4.cell? ⟨W1.heap.size, 1, none⟩ = some (.int .i64 8825) := (K4.out.at (W1.heap.size) [.int .i64 0, .int .i64 8825] (by simp)).c 1 rfl
  go_wp2_with fail
  refine (P1.out _ (hL.out _ K4.out.1)).mono ?_
  rintro e W5 ⟨rfl, hb⟩
  have K5 : Hid (BS w [(W3.heap.size, [.int .i64 0, .int .i64 8826]), (W1.heap.size, [.int .i64 0, .int .i64 8825])] W5) := K4.out.below hb
  clear c4_0_0 c4_0_1 c4_1_0 c4_1_1
  clear hb K4
  have c5_0_0 : W5.cell? ⟨W3.heap.size, 0, none⟩ = some (.int .i64 0) := (K5.out.at (W3.heap.size) [.int .i64 0, .int .i64 8826] (by simp)).c 0 rfl
  have c5_0_1 : W5.cell? ⟨W3.heap.size, 1, none⟩ = some (.int .i64 8826) := (K5.out.at (W3.heap.size) [.int .i64 0, .int .i64 8826] (by simp)).c 1 rfl
  have c5_1_0 : W5.cell? ⟨W1.heap.size, 0, none⟩ = some (.int .i64 0) := (K5.out.at (W1.heap.size) [.int .i64 0, .int .i64 8825] (by simp)).c 0 rfl
  have c5_1_1 : W5.cell? ⟨W1.heap.size, 1, none⟩ = some (.int .i64 8825) := (K5.out.at (W1.heap.size) [.int .i64 0, .int .i64 8825] (by simp)).c 1 rfl
  go_wp2_with fail
  refine (O1.out _ (hL.out _ K5.out.1)).mono ?_
  rintro e W6 ⟨rfl, hb⟩
  have K6 : Hid (BS w [(W3.heap.size, [.int .i64 0, .int .i64 8826]), (W1.heap.size, [.int .i64 0, .int .i64 8825])] W6) := K5.out.below hb
  clear c5_0_0 c5_0_1 c5_1_0 c5_1_1
  clear hb K5
  have c6_0_0 : W6.cell? ⟨W3.heap.size, 0, none⟩ = some (.int .i64 0) := (K6.out.at (W3.heap.size) [.int .i64 0, .int .i64 8826] (by simp)).c 0 rfl
  have c6_0_1 : W6.cell? ⟨W3.heap.size, 1, none⟩ = some (.int .i64 8826) := (K6.out.at (W3.heap.size) [.int .i64 0, .int .i64 8826] (by simp)).c 1 rfl
  have c6_1_0 : W6.cell? ⟨W1.heap.size, 0, none⟩ = some (.int .i64 0) := (K6.out.at (W1.heap.size) [.int .i64 0, .int .i64 8825] (by simp)).c 0 rfl
  have c6_1_1 : W6.cell? ⟨W1.heap.size, 1, none⟩ = some (.int .i64 8825) := (K6.out.at (W1.heap.size) [.int .i64 0, .int .i64 8825] (by simp)).c 1 rfl
  have Mz6 : Hid (BS w [(W6.heap.size, [.int .i64 0, .int .i64 (-1)]), (W3.heap.size, [.int .i64 0, .int .i64 8826]), (W1.heap.size, [.int .i64 0, .int .i64 8825])] (W6.alloc (.cells #[.int .i64 0, .int .i64 (-1)] 23))) := K6.out.new [.int .i64 0, .int .i64 (-1)] 23 rfl
  go_upto_region 5 with fail
  refine gen_to (BS w [(W6.heap.size, [.int .i64 0, .int .i64 (-1)]), (W3.heap.size, [.int .i64 0, .int .i64 8826]), (W1.heap.size, [.int .i64 0, .int .i64 8825])]) Mz6.out ?_
  clear c6_0_0 c6_0_1 c6_1_0 c6_1_1
  intro W7 K7'
  have K7 : Hid (BS w [(W6.heap.size, [.int .i64 0, .int .i64 (-1)]), (W3.heap.size, [.int .i64 0, .int .i64 8826]), (W1.heap.size, [.int .i64 0, .int .i64 8825])] W7) := K7'
  clear K7' Mz6 K6
  have c7_0_0 : W7.cell? ⟨W6.heap.size, 0, none⟩ = some (.int .i64 0) := (K7.out.at (W6.heap.size) [.int .i64 0, .int .i64 (-1)] (by simp)).c 0 rfl
  have c7_0_1 : W7.cell? ⟨W6.heap.size, 1, none⟩ = some (.int .i64 (-1)) := (K7.out.at (W6.heap.size) [.int .i64 0, .int .i64 (-1)] (by simp)).c 1 rfl
  have c7_1_0 : W7.cell? ⟨W3.heap.size, 0, none⟩ = some (.int .i64 0) := (K7.out.at (W3.heap.size) [.int .i64 0, .int .i64 8826] (by simp)).c 0 rfl
  have c7_1_1 : W7.cell? ⟨W3.heap.size, 1, none⟩ = some (.int .i64 8826) := (K7.out.at (W3.heap.size) [.int .i64 0, .int .i64 8826] (by simp)).c 1 rfl
  have c7_2_0 : W7.cell? ⟨W1.heap.size, 0, none⟩ = some (.int .i64 0) := (K7.out.at (W1.heap.size) [.int .i64 0, .int .i64 8825] (by simp)).c 0 rfl
  have c7_2_1 : W7.cell? ⟨W1.heap.size, 1, none⟩ = some (.int .i64 8825) := (K7.out.at (W1.heap.size) [.int .i64 0, .int .i64 8825] (by simp)).c 1 rfl
  go_wp2_with fail
  refine (M2.out _ (hL.out _ K7.out.1)).mono ?_
  rintro e W8 ⟨rfl, hb⟩
  have K8 : Hid (BS w [(W6.heap.size, [.int .i64 0, .int .i64 (-1)]), (W3.heap.size, [.int .i64 0, .int .i64 8826]), (W1.heap.size, [.int .i64 0, .int .i64 8825])] W8) := K7.out.below hb
  clear c7_0_0 c7_0_1 c7_1_0 c7_1_1 c7_2_0 c7_2_1
  clear hb K7
  have c8_0_0 : W8.cell? ⟨W6.heap.size, 0, none⟩ = some (.int .i64 0) := (K8.out.at (W6.heap.size) [.int .i64 0, .int .i64 (-1)] (by simp)).c 0 rfl
  have c8_0_1 : W8.cell? ⟨W6.heap.size, 1, none⟩ = some (.int .i64 (-1)) := (K8.out.at (W6.heap.size) [.int .i64 0, .int .i64 (-1)] (by simp)).c 1 rfl
  have c8_1_0 : W8.cell? ⟨W3.heap.size, 0, none⟩ = some (.int .i64 0) := (K8.out.at (W3.heap.size) [.int .i64 0, .int .i64 8826] (by simp)).c 0 rfl
  have c8_1_1 : W8.cell? ⟨W3.heap.size, 1, none⟩ = some (.int .i64 8826) := (K8.out.at (W3.heap.size) [.int .i64 0, .int .i64 8826] (by simp)).c 1 rfl
  have c8_2_0 : W8.cell? ⟨W1.heap.size, 0, none⟩ = some (.int .i64 0) := (K8.out.at (W1.heap.size) [.int .i64 0, .int .i64 8825] (by simp)).c 0 rfl
  have c8_2_1 : W8.cell? ⟨W1.heap.size, 1, none⟩ = some (.int .i64 8825) := (K8.out.at (W1.heap.size) [.int .i64 0, .int .i64 8825] (by simp)).c 1 rfl
  have Mz8 : Hid (BS w [(W8.heap.size, [.int .i64 0, .int .i64 0]), (W6.heap.size, [.int .i64 0, .int .i64 (-1)]), (W3.heap.size, [.int .i64 0, .int .i64 8826]), (W1.heap.size, [.int .i64 0, .int .i64 8825])] (W8.alloc (.cells #[.int .i64 0, .int .i64 0] 23))) := K8.out.new [.int .i64 0, .int .i64 0] 23 rfl
  go_upto_region 6 with fail
  refine gen_to (BS w [(W8.heap.size, [.int .i64 0, .int .i64 0]), (W6.heap.size, [.int .i64 0, .int .i64 (-1)]), (W3.heap.size, [.int .i64 0, .int .i64 8826]), (W1.heap.size, [.int .i64 0, .int .i64 8825])]) Mz8.out ?_
  clear c8_0_0 c8_0_1 c8_1_0 c8_1_1 c8_2_0 c8_2_1
  intro W9 K9'
  have K9 : Hid (BS w [(W8.heap.size, [.int .i64 0, .int .i64 0]), (W6.heap.size, [.int .i64 0, .int .i64 (-1)]), (W3.heap.size, [.int .i64 0, .int .i64 8826]), (W1.heap.size, [.int .i64 0, .int .i64 8825])] W9) := K9'
  clear K9' Mz8 K8
  have c9_0_0 : W9.cell? ⟨W8.heap.size, 0, none⟩ = some (.int .i64 0) := (K9.out.at (W8.heap.size) [.int .i64 0, .int .i64 0] (by simp)).c 0 rfl
  have c9_0_1 : W9.cell? ⟨W8.heap.size, 1, none⟩ = some (.int .i64 0) := (K9.out.at (W8.heap.size) [.int .i64 0, .int .i64 0] (by simp)).c 1 rfl
  have c9_1_0 : W9.cell? ⟨W6.heap.size, 0, none⟩ = some (.int .i64 0) := (K9.out.at (W6.heap.size) [.int .i64 0, .int .i64 (-1)] (by simp)).c 0 rfl
  have c9_1_1 : W9.cell? ⟨W6.heap.size, 1, none⟩ = some (.int .i64 (-1)) := (K9.out.at (W6.heap.size) [.int .i64 0, .int .i64 (-1)] (by simp)).c 1 rfl
  have c9_2_0 : W9.cell? ⟨W3.heap.size, 0, none⟩ = some (.int .i64 0) := (K9.out.at (W3.heap.size) [.int .i64 0, .int .i64 8826] (by simp)).c 0 rfl
  have c9_2_1 : W9.cell? ⟨W3.heap.size, 1, none⟩ = some (.int .i64 8826) := (K9.out.at (W3.heap.size) [.int .i64 0, .int .i64 8826] (by simp)).c 1 rfl
  have c9_3_0 : W9.cell? ⟨W1.heap.size, 0, none⟩ = some (.int .i64 0) := (K9.out.at (W1.heap.size) [.int .i64 0, .int .i64 8825] (by simp)).c 0 rfl
  have c9_3_1 : W9.cell? ⟨W1.heap.size, 1, none⟩ = some (.int .i64 8825) := (K9.out.at (W1.heap.size) [.int .i64 0, .int .i64 8825] (by simp)).c 1 rfl
  go_wp2
  go_ret
  exact ⟨rfl, K9.out.1⟩

theorem known_any (w : World) (hL : Cvl.Lens w) : Calls Tryd.prog 15 #[] w fun r w' => r = .returned (.bool true) ∧ Below w.heap.size w w' := by
  refine known_run (fun w hh => ?_) (fun w hh => ?_) (fun w hh => ?_) (fun w hh => ?_) (fun w hh => ?_) w (lens_of hL)
  · have R := make_any 2024 2 29 w hh
    rw [show mkV 2024 2 29 = 8825 by decide, show mkE 2024 2 29 = 0 by decide] at R
    exact R
  · have R := dadd_any 0 8825 1 (by decide) (by decide) w hh
    rw [show mvI 0 8825 = 0 by decide, show mvV 0 8825 (smV (8825 + 1)) (smE (8825 + 1)) = 8826 by decide, show mvE 0 8825 (smV (8825 + 1)) (smE (8825 + 1)) = 0 by decide] at R
    exact R
  · exact parts_any 0 8826 2024 3 1 0 (.inr (.inr ⟨rfl, by decide, by unfold Cv.Is; decide, rfl⟩)) w hh
  · have R := sof_any 0 (-1) (by decide) (by decide) w hh
    rw [show ofI 0 (-1) = 0 by decide, show ofD 0 (-1) = -1 by decide, show ofU 0 (-1) = 86399999999 by decide, show ofE 0 (-1) = 0 by decide] at R
    exact R
  · have R := make_any (-4713) 1 1 w hh
    rw [show mkV (-4713) 1 1 = 0 by decide, show mkE (-4713) 1 1 = 10 by decide] at R
    exact R


end Go.Proofs.YtghfgabajdghiaaDoor
