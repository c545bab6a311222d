/- An interval's days; its sign; which is the longer one. -/
import Derived.Test.YtpdmndlpgjjopaaGreatDoorSpXq
import Derived.Test.YtpdmndlpgjjopaaGreatDoorBxZq
import Derived.Deep.Cut
import Derived.Deep.CutRange
import Derived.Deep.DeepCutAuto
namespace Go.Proofs.YtpdmndlpgjjopaaGreatDoor.Sp
open Go.RowKit
set_option linter.unusedVariables false

set_option maxRecDepth 100000 in
set_option maxHeartbeats 4000000 in
theorem level_run (i m d u q r : Int) (m1 : -2147483647 ≤ m) (m2 : m ≤ 2147483647) (d1 : -2147483647 ≤ d) (d2 : d ≤ 2147483647) (q1 : -1000000000 ≤ q) (q2 : q ≤ 1000000000)
    (S : Hid (∀ w : World, Calls Tryz.prog 34 #[.int .i64 u] w fun r' w' => r' = .returned (.tuple #[.int .i64 q, .int .i64 r]) ∧ w' = w))
    (w : World) :
    Calls Tryz.prog 61 #[.agg #[.int .i64 i, .int .i64 m, .int .i64 d, .int .i64 u]] w fun r' w' => r' = .returned (.agg #[.int .i64 i, .int .i64 0, .int .i64 (m * 30 + d + q), .int .i64 r]) ∧ Below w.heap.size w w' := by
  have K0 : Hid (BS w [(w.heap.size + 1, [.int .i64 0, .int .i64 0, .int .i64 0, .int .i64 0]), (w.heap.size, [.int .i64 i, .int .i64 m, .int .i64 d, .int .i64 u])] ((w.alloc (.cells #[.int .i64 i, .int .i64 m, .int .i64 d, .int .i64 u] 38)).alloc (.cells #[.int .i64 0, .int .i64 0, .int .i64 0, .int .i64 0] 38))) := (((BS.start w).new [.int .i64 i, .int .i64 m, .int .i64 d, .int .i64 u] 38 rfl).new [.int .i64 0, .int .i64 0, .int .i64 0, .int .i64 0] 38 (by simp))
  go_enter Tryz.func61, Tryz.ntmps61
  go_wp2_with fail
  refine (S.out _).mono ?_
  rintro e W1 ⟨rfl, rfl⟩
  go_wp2
  exact bodyPost_ret (v := .agg #[.int .i64 i, .int .i64 0, .int .i64 (m * 30 + d + q), .int .i64 r]) (by simp [results, Tryz.results61, go_sem]) rfl ⟨rfl, (by repeat' (first | assumption | exact Below.refl _ _ | exact Nat.le_refl _ | refine Below.alloc ?_ ?_ _ | (simp; done) | (simp; omega) | omega))⟩

/-- an interval's days, and what is left of one. -/
def lvD (m d u : Int) : Int := m * 30 + d + u / 86400000000
def lvU (u : Int) : Int := u % 86400000000

theorem level_any (i m d u : Int) (m1 : -2147483647 ≤ m) (m2 : m ≤ 2147483647) (d1 : -2147483647 ≤ d) (d2 : d ≤ 2147483647) (u1 : -9223372036854775808 ≤ u) (u2 : u ≤ 9223372036854775807) (w : World) :
    Calls Tryz.prog 61 #[.agg #[.int .i64 i, .int .i64 m, .int .i64 d, .int .i64 u]] w fun r w' => r = .returned (.agg #[.int .i64 i, .int .i64 0, .int .i64 (lvD m d u), .int .i64 (lvU u)]) ∧ Below w.heap.size w w' :=
  level_run i m d u _ _ m1 m2 d1 d2 (by omega) (by omega) (fun w => split_any u u1 u2 w) w

set_option maxRecDepth 100000 in
set_option maxHeartbeats 4000000 in
theorem psign_no (i m d u : Int)
    (R : Hid (∀ w : World, Calls Tryz.prog 18 #[.agg #[.int .i64 i, .int .i64 m, .int .i64 d, .int .i64 u]] w fun r' w' => r' = .returned (.bool false) ∧ Below w.heap.size w w'))
    (w : World) :
    Calls Tryz.prog 37 #[.agg #[.int .i64 i, .int .i64 m, .int .i64 d, .int .i64 u]] w fun r' w' => r' = .returned (.int .i64 0) ∧ Below w.heap.size w w' := by
  have K0 : Hid (BS w [(w.heap.size, [.int .i64 i, .int .i64 m, .int .i64 d, .int .i64 u])] (w.alloc (.cells #[.int .i64 i, .int .i64 m, .int .i64 d, .int .i64 u] 38))) := ((BS.start w).new [.int .i64 i, .int .i64 m, .int .i64 d, .int .i64 u] 38 rfl)
  go_enter Tryz.func37, Tryz.ntmps37
  go_wp2_with fail
  refine (R.out _).mono ?_
  rintro e W1 ⟨rfl, hb⟩
  have K1 : Hid (BS w [(w.heap.size, [.int .i64 i, .int .i64 m, .int .i64 d, .int .i64 u])] W1) := K0.out.below hb
  clear hb K0
  have c1_0_0 : W1.cell? ⟨w.heap.size, 0, none⟩ = some (.int .i64 i) := (K1.out.at (w.heap.size) [.int .i64 i, .int .i64 m, .int .i64 d, .int .i64 u] (by simp)).c 0 rfl
  have c1_0_1 : W1.cell? ⟨w.heap.size, 1, none⟩ = some (.int .i64 m) := (K1.out.at (w.heap.size) [.int .i64 i, .int .i64 m, .int .i64 d, .int .i64 u] (by simp)).c 1 rfl
  have c1_0_2 : W1.cell? ⟨w.heap.size, 2, none⟩ = some (.int .i64 d) := (K1.out.at (w.heap.size) [.int .i64 i, .int .i64 m, .int .i64 d, .int .i64 u] (by simp)).c 2 rfl
  have c1_0_3 : W1.cell? ⟨w.heap.size, 3, none⟩ = some (.int .i64 u) := (K1.out.at (w.heap.size) [.int .i64 i, .int .i64 m, .int .i64 d, .int .i64 u] (by simp)).c 3 rfl
  go_wp2
  go_ret
  exact ⟨rfl, K1.out.1⟩

set_option maxRecDepth 100000 in
set_option maxHeartbeats 4000000 in
theorem psign_z (m d u : Int) 
    (R : Hid (∀ w : World, Calls Tryz.prog 18 #[.agg #[.int .i64 0, .int .i64 m, .int .i64 d, .int .i64 u]] w fun r' w' => r' = .returned (.bool true) ∧ Below w.heap.size w w'))
    (L : Hid (∀ w : World, Calls Tryz.prog 61 #[.agg #[.int .i64 0, .int .i64 m, .int .i64 d, .int .i64 u]] w fun r' w' => r' = .returned (.agg #[.int .i64 0, .int .i64 0, .int .i64 0, .int .i64 0]) ∧ Below w.heap.size w w'))
    (w : World) :
    Calls Tryz.prog 37 #[.agg #[.int .i64 0, .int .i64 m, .int .i64 d, .int .i64 u]] w fun r' w' => r' = .returned (.int .i64 0) ∧ Below w.heap.size w w' := by
  have K0 : Hid (BS w [(w.heap.size, [.int .i64 0, .int .i64 m, .int .i64 d, .int .i64 u])] (w.alloc (.cells #[.int .i64 0, .int .i64 m, .int .i64 d, .int .i64 u] 38))) := ((BS.start w).new [.int .i64 0, .int .i64 m, .int .i64 d, .int .i64 u] 38 rfl)
  go_enter Tryz.func37, Tryz.ntmps37
  go_wp2_with fail
  refine (R.out _).mono ?_
  rintro e W1 ⟨rfl, hb⟩
  have K1 : Hid (BS w [(w.heap.size, [.int .i64 0, .int .i64 m, .int .i64 d, .int .i64 u])] W1) := K0.out.below hb
  clear hb K0
  have c1_0_0 : W1.cell? ⟨w.heap.size, 0, none⟩ = some (.int .i64 0) := (K1.out.at (w.heap.size) [.int .i64 0, .int .i64 m, .int .i64 d, .int .i64 u] (by simp)).c 0 rfl
  have c1_0_1 : W1.cell? ⟨w.heap.size, 1, none⟩ = some (.int .i64 m) := (K1.out.at (w.heap.size) [.int .i64 0, .int .i64 m, .int .i64 d, .int .i64 u] (by simp)).c 1 rfl
  have c1_0_2 : W1.cell? ⟨w.heap.size, 2, none⟩ = some (.int .i64 d) := (K1.out.at (w.heap.size) [.int .i64 0, .int .i64 m, .int .i64 d, .int .i64 u] (by simp)).c 2 rfl
  have c1_0_3 : W1.cell? ⟨w.heap.size, 3, none⟩ = some (.int .i64 u) := (K1.out.at (w.heap.size) [.int .i64 0, .int .i64 m, .int .i64 d, .int .i64 u] (by simp)).c 3 rfl
  go_wp2_with fail
  refine (L.out _).mono ?_
  rintro e W2 ⟨rfl, hb⟩
  have K2 : Hid (BS w [(w.heap.size, [.int .i64 0, .int .i64 m, .int .i64 d, .int .i64 u])] W2) := K1.out.below hb
  clear c1_0_0 c1_0_1 c1_0_2 c1_0_3
  clear hb K1
  have c2_0_0 : W2.cell? ⟨w.heap.size, 0, none⟩ = some (.int .i64 0) := (K2.out.at (w.heap.size) [.int .i64 0, .int .i64 m, .int .i64 d, .int .i64 u] (by simp)).c 0 rfl
  have z2_0_0 : W2.frozen? ⟨w.heap.size, 0, none⟩ = false := (K2.out.at (w.heap.size) [.int .i64 0, .int .i64 m, .int .i64 d, .int .i64 u] (by simp)).f 0 rfl
  have c2_0_1 : W2.cell? ⟨w.heap.size, 1, none⟩ = some (.int .i64 m) := (K2.out.at (w.heap.size) [.int .i64 0, .int .i64 m, .int .i64 d, .int .i64 u] (by simp)).c 1 rfl
  have z2_0_1 : W2.frozen? ⟨w.heap.size, 1, none⟩ = false := (K2.out.at (w.heap.size) [.int .i64 0, .int .i64 m, .int .i64 d, .int .i64 u] (by simp)).f 1 rfl
  have c2_0_2 : W2.cell? ⟨w.heap.size, 2, none⟩ = some (.int .i64 d) := (K2.out.at (w.heap.size) [.int .i64 0, .int .i64 m, .int .i64 d, .int .i64 u] (by simp)).c 2 rfl
  have z2_0_2 : W2.frozen? ⟨w.heap.size, 2, none⟩ = false := (K2.out.at (w.heap.size) [.int .i64 0, .int .i64 m, .int .i64 d, .int .i64 u] (by simp)).f 2 rfl
  have c2_0_3 : W2.cell? ⟨w.heap.size, 3, none⟩ = some (.int .i64 u) := (K2.out.at (w.heap.size) [.int .i64 0, .int .i64 m, .int .i64 d, .int .i64 u] (by simp)).c 3 rfl
  have z2_0_3 : W2.frozen? ⟨w.heap.size, 3, none⟩ = false := (K2.out.at (w.heap.size) [.int .i64 0, .int .i64 m, .int .i64 d, .int .i64 u] (by simp)).f 3 rfl
  have Mz2 : Hid (BS w [(w.heap.size, [.int .i64 0, .int .i64 0, .int .i64 0, .int .i64 0])] (W2.setCells (w.heap.size) 0 [.int .i64 0, .int .i64 0, .int .i64 0, .int .i64 0])) := K2.out.set [.int .i64 0, .int .i64 0, .int .i64 0, .int .i64 0] rfl (fun x hx => by cases hx)
  go_upto_region 4 with fail
  refine gen_to (BS w [(w.heap.size, [.int .i64 0, .int .i64 0, .int .i64 0, .int .i64 0])]) Mz2.out ?_
  clear c2_0_0 z2_0_0 c2_0_1 z2_0_1 c2_0_2 z2_0_2 c2_0_3 z2_0_3
  intro W3 K3'
  have K3 : Hid (BS w [(w.heap.size, [.int .i64 0, .int .i64 0, .int .i64 0, .int .i64 0])] W3) := K3'
  clear K3' Mz2 K2
  have c3_0_0 : W3.cell? ⟨w.heap.size, 0, none⟩ = some (.int .i64 0) := (K3.out.at (w.heap.size) [.int .i64 0, .int .i64 0, .int .i64 0, .int .i64 0] (by simp)).c 0 rfl
  have c3_0_1 : W3.cell? ⟨w.heap.size, 1, none⟩ = some (.int .i64 0) := (K3.out.at (w.heap.size) [.int .i64 0, .int .i64 0, .int .i64 0, .int .i64 0] (by simp)).c 1 rfl
  have c3_0_2 : W3.cell? ⟨w.heap.size, 2, none⟩ = some (.int .i64 0) := (K3.out.at (w.heap.size) [.int .i64 0, .int .i64 0, .int .i64 0, .int .i64 0] (by simp)).c 2 rfl
  have c3_0_3 : W3.cell? ⟨w.heap.size, 3, none⟩ = some (.int .i64 0) := (K3.out.at (w.heap.size) [.int .i64 0, .int .i64 0, .int .i64 0, .int .i64 0] (by simp)).c 3 rfl
  go_wp2
  go_ret
  exact ⟨rfl, K3.out.1⟩

set_option maxRecDepth 100000 in
set_option maxHeartbeats 4000000 in
theorem psign_m (m d u : Int) 
    (R : Hid (∀ w : World, Calls Tryz.prog 18 #[.agg #[.int .i64 (-1), .int .i64 m, .int .i64 d, .int .i64 u]] w fun r' w' => r' = .returned (.bool true) ∧ Below w.heap.size w w'))
    (L : Hid (∀ w : World, Calls Tryz.prog 61 #[.agg #[.int .i64 (-1), .int .i64 m, .int .i64 d, .int .i64 u]] w fun r' w' => r' = .returned (.agg #[.int .i64 (-1), .int .i64 0, .int .i64 0, .int .i64 0]) ∧ Below w.heap.size w w'))
    (w : World) :
    Calls Tryz.prog 37 #[.agg #[.int .i64 (-1), .int .i64 m, .int .i64 d, .int .i64 u]] w fun r' w' => r' = .returned (.int .i64 (-1)) ∧ Below w.heap.size w w' := by
  have K0 : Hid (BS w [(w.heap.size, [.int .i64 (-1), .int .i64 m, .int .i64 d, .int .i64 u])] (w.alloc (.cells #[.int .i64 (-1), .int .i64 m, .int .i64 d, .int .i64 u] 38))) := ((BS.start w).new [.int .i64 (-1), .int .i64 m, .int .i64 d, .int .i64 u] 38 rfl)
  go_enter Tryz.func37, Tryz.ntmps37
  go_wp2_with fail
  refine (R.out _).mono ?_
  rintro e W1 ⟨rfl, hb⟩
  have K1 : Hid (BS w [(w.heap.size, [.int .i64 (-1), .int .i64 m, .int .i64 d, .int .i64 u])] W1) := K0.out.below hb
  clear hb K0
  have c1_0_0 : W1.cell? ⟨w.heap.size, 0, none⟩ = some (.int .i64 (-1)) := (K1.out.at (w.heap.size) [.int .i64 (-1), .int .i64 m, .int .i64 d, .int .i64 u] (by simp)).c 0 rfl
  have c1_0_1 : W1.cell? ⟨w.heap.size, 1, none⟩ = some (.int .i64 m) := (K1.out.at (w.heap.size) [.int .i64 (-1), .int .i64 m, .int .i64 d, .int .i64 u] (by simp)).c 1 rfl
  have c1_0_2 : W1.cell? ⟨w.heap.size, 2, none⟩ = some (.int .i64 d) := (K1.out.at (w.heap.size) [.int .i64 (-1), .int .i64 m, .int .i64 d, .int .i64 u] (by simp)).c 2 rfl
  have c1_0_3 : W1.cell? ⟨w.heap.size, 3, none⟩ = some (.int .i64 u) := (K1.out.at (w.heap.size) [.int .i64 (-1), .int .i64 m, .int .i64 d, .int .i64 u] (by simp)).c 3 rfl
  go_wp2_with fail
  refine (L.out _).mono ?_
  rintro e W2 ⟨rfl, hb⟩
  have K2 : Hid (BS w [(w.heap.size, [.int .i64 (-1), .int .i64 m, .int .i64 d, .int .i64 u])] W2) := K1.out.below hb
  clear c1_0_0 c1_0_1 c1_0_2 c1_0_3
  clear hb K1
  have c2_0_0 : W2.cell? ⟨w.heap.size, 0, none⟩ = some (.int .i64 (-1)) := (K2.out.at (w.heap.size) [.int .i64 (-1), .int .i64 m, .int .i64 d, .int .i64 u] (by simp)).c 0 rfl
  have z2_0_0 : W2.frozen? ⟨w.heap.size, 0, none⟩ = false := (K2.out.at (w.heap.size) [.int .i64 (-1), .int .i64 m, .int .i64 d, .int .i64 u] (by simp)).f 0 rfl
  have c2_0_1 : W2.cell? ⟨w.heap.size, 1, none⟩ = some (.int .i64 m) := (K2.out.at (w.heap.size) [.int .i64 (-1), .int .i64 m, .int .i64 d, .int .i64 u] (by simp)).c 1 rfl
  have z2_0_1 : W2.frozen? ⟨w.heap.size, 1, none⟩ = false := (K2.out.at (w.heap.size) [.int .i64 (-1), .int .i64 m, .int .i64 d, .int .i64 u] (by simp)).f 1 rfl
  have c2_0_2 : W2.cell? ⟨w.heap.size, 2, none⟩ = some (.int .i64 d) := (K2.out.at (w.heap.size) [.int .i64 (-1), .int .i64 m, .int .i64 d, .int .i64 u] (by simp)).c 2 rfl
  have z2_0_2 : W2.frozen? ⟨w.heap.size, 2, none⟩ = false := (K2.out.at (w.heap.size) [.int .i64 (-1), .int .i64 m, .int .i64 d, .int .i64 u] (by simp)).f 2 rfl
  have c2_0_3 : W2.cell? ⟨w.heap.size, 3, none⟩ = some (.int .i64 u) := (K2.out.at (w.heap.size) [.int .i64 (-1), .int .i64 m, .int .i64 d, .int .i64 u] (by simp)).c 3 rfl
  have z2_0_3 : W2.frozen? ⟨w.heap.size, 3, none⟩ = false := (K2.out.at (w.heap.size) [.int .i64 (-1), .int .i64 m, .int .i64 d, .int .i64 u] (by simp)).f 3 rfl
  have Mz2 : Hid (BS w [(w.heap.size, [.int .i64 (-1), .int .i64 0, .int .i64 0, .int .i64 0])] (W2.setCells (w.heap.size) 0 [.int .i64 (-1), .int .i64 0, .int .i64 0, .int .i64 0])) := K2.out.set [.int .i64 (-1), .int .i64 0, .int .i64 0, .int .i64 0] rfl (fun x hx => by cases hx)
  go_upto_region 4 with fail
  refine gen_to (BS w [(w.heap.size, [.int .i64 (-1), .int .i64 0, .int .i64 0, .int .i64 0])]) Mz2.out ?_
  clear c2_0_0 z2_0_0 c2_0_1 z2_0_1 c2_0_2 z2_0_2 c2_0_3 z2_0_3
  intro W3 K3'
  have K3 : Hid (BS w [(w.heap.size, [.int .i64 (-1), .int .i64 0, .int .i64 0, .int .i64 0])] W3) := K3'
  clear K3' Mz2 K2
  have c3_0_0 : W3.cell? ⟨w.heap.size, 0, none⟩ = some (.int .i64 (-1)) := (K3.out.at (w.heap.size) [.int .i64 (-1), .int .i64 0, .int .i64 0, .int .i64 0] (by simp)).c 0 rfl
  have c3_0_1 : W3.cell? ⟨w.heap.size, 1, none⟩ = some (.int .i64 0) := (K3.out.at (w.heap.size) [.int .i64 (-1), .int .i64 0, .int .i64 0, .int .i64 0] (by simp)).c 1 rfl
  have c3_0_2 : W3.cell? ⟨w.heap.size, 2, none⟩ = some (.int .i64 0) := (K3.out.at (w.heap.size) [.int .i64 (-1), .int .i64 0, .int .i64 0, .int .i64 0] (by simp)).c 2 rfl
  have c3_0_3 : W3.cell? ⟨w.heap.size, 3, none⟩ = some (.int .i64 0) := (K3.out.at (w.heap.size) [.int .i64 (-1), .int .i64 0, .int .i64 0, .int .i64 0] (by simp)).c 3 rfl
  go_wp2
  go_ret
  exact ⟨rfl, K3.out.1⟩

set_option maxRecDepth 100000 in
set_option maxHeartbeats 4000000 in
theorem psign_p (m d u : Int) 
    (R : Hid (∀ w : World, Calls Tryz.prog 18 #[.agg #[.int .i64 1, .int .i64 m, .int .i64 d, .int .i64 u]] w fun r' w' => r' = .returned (.bool true) ∧ Below w.heap.size w w'))
    (L : Hid (∀ w : World, Calls Tryz.prog 61 #[.agg #[.int .i64 1, .int .i64 m, .int .i64 d, .int .i64 u]] w fun r' w' => r' = .returned (.agg #[.int .i64 1, .int .i64 0, .int .i64 0, .int .i64 0]) ∧ Below w.heap.size w w'))
    (w : World) :
    Calls Tryz.prog 37 #[.agg #[.int .i64 1, .int .i64 m, .int .i64 d, .int .i64 u]] w fun r' w' => r' = .returned (.int .i64 1) ∧ Below w.heap.size w w' := by
  have K0 : Hid (BS w [(w.heap.size, [.int .i64 1, .int .i64 m, .int .i64 d, .int .i64 u])] (w.alloc (.cells #[.int .i64 1, .int .i64 m, .int .i64 d, .int .i64 u] 38))) := ((BS.start w).new [.int .i64 1, .int .i64 m, .int .i64 d, .int .i64 u] 38 rfl)
  go_enter Tryz.func37, Tryz.ntmps37
  go_wp2_with fail
  refine (R.out _).mono ?_
  rintro e W1 ⟨rfl, hb⟩
  have K1 : Hid (BS w [(w.heap.size, [.int .i64 1, .int .i64 m, .int .i64 d, .int .i64 u])] W1) := K0.out.below hb
  clear hb K0
  have c1_0_0 : W1.cell? ⟨w.heap.size, 0, none⟩ = some (.int .i64 1) := (K1.out.at (w.heap.size) [.int .i64 1, .int .i64 m, .int .i64 d, .int .i64 u] (by simp)).c 0 rfl
  have c1_0_1 : W1.cell? ⟨w.heap.size, 1, none⟩ = some (.int .i64 m) := (K1.out.at (w.heap.size) [.int .i64 1, .int .i64 m, .int .i64 d, .int .i64 u] (by simp)).c 1 rfl
  have c1_0_2 : W1.cell? ⟨w.heap.size, 2, none⟩ = some (.int .i64 d) := (K1.out.at (w.heap.size) [.int .i64 1, .int .i64 m, .int .i64 d, .int .i64 u] (by simp)).c 2 rfl
  have c1_0_3 : W1.cell? ⟨w.heap.size, 3, none⟩ = some (.int .i64 u) := (K1.out.at (w.heap.size) [.int .i64 1, .int .i64 m, .int .i64 d, .int .i64 u] (by simp)).c 3 rfl
  go_wp2_with fail
  refine (L.out _).mono ?_
  rintro e W2 ⟨rfl, hb⟩
  have K2 : Hid (BS w [(w.heap.size, [.int .i64 1, .int .i64 m, .int .i64 d, .int .i64 u])] W2) := K1.out.below hb
  clear c1_0_0 c1_0_1 c1_0_2 c1_0_3
  clear hb K1
  have c2_0_0 : W2.cell? ⟨w.heap.size, 0, none⟩ = some (.int .i64 1) := (K2.out.at (w.heap.size) [.int .i64 1, .int .i64 m, .int .i64 d, .int .i64 u] (by simp)).c 0 rfl
  have z2_0_0 : W2.frozen? ⟨w.heap.size, 0, none⟩ = false := (K2.out.at (w.heap.size) [.int .i64 1, .int .i64 m, .int .i64 d, .int .i64 u] (by simp)).f 0 rfl
  have c2_0_1 : W2.cell? ⟨w.heap.size, 1, none⟩ = some (.int .i64 m) := (K2.out.at (w.heap.size) [.int .i64 1, .int .i64 m, .int .i64 d, .int .i64 u] (by simp)).c 1 rfl
  have z2_0_1 : W2.frozen? ⟨w.heap.size, 1, none⟩ = false := (K2.out.at (w.heap.size) [.int .i64 1, .int .i64 m, .int .i64 d, .int .i64 u] (by simp)).f 1 rfl
  have c2_0_2 : W2.cell? ⟨w.heap.size, 2, none⟩ = some (.int .i64 d) := (K2.out.at (w.heap.size) [.int .i64 1, .int .i64 m, .int .i64 d, .int .i64 u] (by simp)).c 2 rfl
  have z2_0_2 : W2.frozen? ⟨w.heap.size, 2, none⟩ = false := (K2.out.at (w.heap.size) [.int .i64 1, .int .i64 m, .int .i64 d, .int .i64 u] (by simp)).f 2 rfl
  have c2_0_3 : W2.cell? ⟨w.heap.size, 3, none⟩ = some (.int .i64 u) := (K2.out.at (w.heap.size) [.int .i64 1, .int .i64 m, .int .i64 d, .int .i64 u] (by simp)).c 3 rfl
  have z2_0_3 : W2.frozen? ⟨w.heap.size, 3, none⟩ = false := (K2.out.at (w.heap.size) [.int .i64 1, .int .i64 m, .int .i64 d, .int .i64 u] (by simp)).f 3 rfl
  have Mz2 : Hid (BS w [(w.heap.size, [.int .i64 1, .int .i64 0, .int .i64 0, .int .i64 0])] (W2.setCells (w.heap.size) 0 [.int .i64 1, .int .i64 0, .int .i64 0, .int .i64 0])) := K2.out.set [.int .i64 1, .int .i64 0, .int .i64 0, .int .i64 0] rfl (fun x hx => by cases hx)
  go_upto_region 4 with fail
  refine gen_to (BS w [(w.heap.size, [.int .i64 1, .int .i64 0, .int .i64 0, .int .i64 0])]) Mz2.out ?_
  clear c2_0_0 z2_0_0 c2_0_1 z2_0_1 c2_0_2 z2_0_2 c2_0_3 z2_0_3
  intro W3 K3'
  have K3 : Hid (BS w [(w.heap.size, [.int .i64 1, .int .i64 0, .int .i64 0, .int .i64 0])] W3) := K3'
  clear K3' Mz2 K2
  have c3_0_0 : W3.cell? ⟨w.heap.size, 0, none⟩ = some (.int .i64 1) := (K3.out.at (w.heap.size) [.int .i64 1, .int .i64 0, .int .i64 0, .int .i64 0] (by simp)).c 0 rfl
  have c3_0_1 : W3.cell? ⟨w.heap.size, 1, none⟩ = some (.int .i64 0) := (K3.out.at (w.heap.size) [.int .i64 1, .int .i64 0, .int .i64 0, .int .i64 0] (by simp)).c 1 rfl
  have c3_0_2 : W3.cell? ⟨w.heap.size, 2, none⟩ = some (.int .i64 0) := (K3.out.at (w.heap.size) [.int .i64 1, .int .i64 0, .int .i64 0, .int .i64 0] (by simp)).c 2 rfl
  have c3_0_3 : W3.cell? ⟨w.heap.size, 3, none⟩ = some (.int .i64 0) := (K3.out.at (w.heap.size) [.int .i64 1, .int .i64 0, .int .i64 0, .int .i64 0] (by simp)).c 3 rfl
  go_wp2
  go_ret
  exact ⟨rfl, K3.out.1⟩

set_option maxRecDepth 100000 in
set_option maxHeartbeats 4000000 in
theorem psign_lt (m d u D U : Int) (h : D < 0)
    (R : Hid (∀ w : World, Calls Tryz.prog 18 #[.agg #[.int .i64 0, .int .i64 m, .int .i64 d, .int .i64 u]] w fun r' w' => r' = .returned (.bool true) ∧ Below w.heap.size w w'))
    (L : Hid (∀ w : World, Calls Tryz.prog 61 #[.agg #[.int .i64 0, .int .i64 m, .int .i64 d, .int .i64 u]] w fun r' w' => r' = .returned (.agg #[.int .i64 0, .int .i64 0, .int .i64 D, .int .i64 U]) ∧ Below w.heap.size w w'))
    (w : World) :
    Calls Tryz.prog 37 #[.agg #[.int .i64 0, .int .i64 m, .int .i64 d, .int .i64 u]] w fun r' w' => r' = .returned (.int .i64 (-1)) ∧ Below w.heap.size w w' := by
  have h1 : (D == 0) = false := by simp; omega
  have K0 : Hid (BS w [(w.heap.size, [.int .i64 0, .int .i64 m, .int .i64 d, .int .i64 u])] (w.alloc (.cells #[.int .i64 0, .int .i64 m, .int .i64 d, .int .i64 u] 38))) := ((BS.start w).new [.int .i64 0, .int .i64 m, .int .i64 d, .int .i64 u] 38 rfl)
  go_enter Tryz.func37, Tryz.ntmps37
  go_wp2_with fail
  refine (R.out _).mono ?_
  rintro e W1 ⟨rfl, hb⟩
  have K1 : Hid (BS w [(w.heap.size, [.int .i64 0, .int .i64 m, .int .i64 d, .int .i64 u])] W1) := K0.out.below hb
  clear hb K0
  have c1_0_0 : W1.cell? ⟨w.heap.size, 0, none⟩ = some (.int .i64 0) := (K1.out.at (w.heap.size) [.int .i64 0, .int .i64 m, .int .i64 d, .int .i64 u] (by simp)).c 0 rfl
  have c1_0_1 : W1.cell? ⟨w.heap.size, 1, none⟩ = some (.int .i64 m) := (K1.out.at (w.heap.size) [.int .i64 0, .int .i64 m, .int .i64 d, .int .i64 u] (by simp)).c 1 rfl
  have c1_0_2 : W1.cell? ⟨w.heap.size, 2, none⟩ = some (.int .i64 d) := (K1.out.at (w.heap.size) [.int .i64 0, .int .i64 m, .int .i64 d, .int .i64 u] (by simp)).c 2 rfl
  have c1_0_3 : W1.cell? ⟨w.heap.size, 3, none⟩ = some (.int .i64 u) := (K1.out.at (w.heap.size) [.int .i64 0, .int .i64 m, .int .i64 d, .int .i64 u] (by simp)).c 3 rfl
  go_wp2_with fail
  refine (L.out _).mono ?_
  rintro e W2 ⟨rfl, hb⟩
  have K2 : Hid (BS w [(w.heap.size, [.int .i64 0, .int .i64 m, .int .i64 d, .int .i64 u])] W2) := K1.out.below hb
  clear c1_0_0 c1_0_1 c1_0_2 c1_0_3
  clear hb K1
  have c2_0_0 : W2.cell? ⟨w.heap.size, 0, none⟩ = some (.int .i64 0) := (K2.out.at (w.heap.size) [.int .i64 0, .int .i64 m, .int .i64 d, .int .i64 u] (by simp)).c 0 rfl
  have z2_0_0 : W2.frozen? ⟨w.heap.size, 0, none⟩ = false := (K2.out.at (w.heap.size) [.int .i64 0, .int .i64 m, .int .i64 d, .int .i64 u] (by simp)).f 0 rfl
  have c2_0_1 : W2.cell? ⟨w.heap.size, 1, none⟩ = some (.int .i64 m) := (K2.out.at (w.heap.size) [.int .i64 0, .int .i64 m, .int .i64 d, .int .i64 u] (by simp)).c 1 rfl
  have z2_0_1 : W2.frozen? ⟨w.heap.size, 1, none⟩ = false := (K2.out.at (w.heap.size) [.int .i64 0, .int .i64 m, .int .i64 d, .int .i64 u] (by simp)).f 1 rfl
  have c2_0_2 : W2.cell? ⟨w.heap.size, 2, none⟩ = some (.int .i64 d) := (K2.out.at (w.heap.size) [.int .i64 0, .int .i64 m, .int .i64 d, .int .i64 u] (by simp)).c 2 rfl
  have z2_0_2 : W2.frozen? ⟨w.heap.size, 2, none⟩ = false := (K2.out.at (w.heap.size) [.int .i64 0, .int .i64 m, .int .i64 d, .int .i64 u] (by simp)).f 2 rfl
  have c2_0_3 : W2.cell? ⟨w.heap.size, 3, none⟩ = some (.int .i64 u) := (K2.out.at (w.heap.size) [.int .i64 0, .int .i64 m, .int .i64 d, .int .i64 u] (by simp)).c 3 rfl
  have z2_0_3 : W2.frozen? ⟨w.heap.size, 3, none⟩ = false := (K2.out.at (w.heap.size) [.int .i64 0, .int .i64 m, .int .i64 d, .int .i64 u] (by simp)).f 3 rfl
  have Mz2 : Hid (BS w [(w.heap.size, [.int .i64 0, .int .i64 0, .int .i64 D, .int .i64 U])] (W2.setCells (w.heap.size) 0 [.int .i64 0, .int .i64 0, .int .i64 D, .int .i64 U])) := K2.out.set [.int .i64 0, .int .i64 0, .int .i64 D, .int .i64 U] rfl (fun x hx => by cases hx)
  go_upto_region 4 with fail
  refine gen_to (BS w [(w.heap.size, [.int .i64 0, .int .i64 0, .int .i64 D, .int .i64 U])]) Mz2.out ?_
  clear c2_0_0 z2_0_0 c2_0_1 z2_0_1 c2_0_2 z2_0_2 c2_0_3 z2_0_3
  intro W3 K3'
  have K3 : Hid (BS w [(w.heap.size, [.int .i64 0, .int .i64 0, .int .i64 D, .int .i64 U])] W3) := K3'
  clear K3' Mz2 K2
  have c3_0_0 : W3.cell? ⟨w.heap.size, 0, none⟩ = some (.int .i64 0) := (K3.out.at (w.heap.size) [.int .i64 0, .int .i64 0, .int .i64 D, .int .i64 U] (by simp)).c 0 rfl
  have c3_0_1 : W3.cell? ⟨w.heap.size, 1, none⟩ = some (.int .i64 0) := (K3.out.at (w.heap.size) [.int .i64 0, .int .i64 0, .int .i64 D, .int .i64 U] (by simp)).c 1 rfl
  have c3_0_2 : W3.cell? ⟨w.heap.size, 2, none⟩ = some (.int .i64 D) := (K3.out.at (w.heap.size) [.int .i64 0, .int .i64 0, .int .i64 D, .int .i64 U] (by simp)).c 2 rfl
  have c3_0_3 : W3.cell? ⟨w.heap.size, 3, none⟩ = some (.int .i64 U) := (K3.out.at (w.heap.size) [.int .i64 0, .int .i64 0, .int .i64 D, .int .i64 U] (by simp)).c 3 rfl
  go_wp2
  go_ret
  exact ⟨rfl, K3.out.1⟩

set_option maxRecDepth 100000 in
set_option maxHeartbeats 4000000 in
theorem psign_gt (m d u D U : Int) (h : 0 < D)
    (R : Hid (∀ w : World, Calls Tryz.prog 18 #[.agg #[.int .i64 0, .int .i64 m, .int .i64 d, .int .i64 u]] w fun r' w' => r' = .returned (.bool true) ∧ Below w.heap.size w w'))
    (L : Hid (∀ w : World, Calls Tryz.prog 61 #[.agg #[.int .i64 0, .int .i64 m, .int .i64 d, .int .i64 u]] w fun r' w' => r' = .returned (.agg #[.int .i64 0, .int .i64 0, .int .i64 D, .int .i64 U]) ∧ Below w.heap.size w w'))
    (w : World) :
    Calls Tryz.prog 37 #[.agg #[.int .i64 0, .int .i64 m, .int .i64 d, .int .i64 u]] w fun r' w' => r' = .returned (.int .i64 1) ∧ Below w.heap.size w w' := by
  have h1 : (D == 0) = false := by simp; omega
  have h2 : ¬ D < 0 := by omega
  have K0 : Hid (BS w [(w.heap.size, [.int .i64 0, .int .i64 m, .int .i64 d, .int .i64 u])] (w.alloc (.cells #[.int .i64 0, .int .i64 m, .int .i64 d, .int .i64 u] 38))) := ((BS.start w).new [.int .i64 0, .int .i64 m, .int .i64 d, .int .i64 u] 38 rfl)
  go_enter Tryz.func37, Tryz.ntmps37
  go_wp2_with fail
  refine (R.out _).mono ?_
  rintro e W1 ⟨rfl, hb⟩
  have K1 : Hid (BS w [(w.heap.size, [.int .i64 0, .int .i64 m, .int .i64 d, .int .i64 u])] W1) := K0.out.below hb
  clear hb K0
  have c1_0_0 : W1.cell? ⟨w.heap.size, 0, none⟩ = some (.int .i64 0) := (K1.out.at (w.heap.size) [.int .i64 0, .int .i64 m, .int .i64 d, .int .i64 u] (by simp)).c 0 rfl
  have c1_0_1 : W1.cell? ⟨w.heap.size, 1, none⟩ = some (.int .i64 m) := (K1.out.at (w.heap.size) [.int .i64 0, .int .i64 m, .int .i64 d, .int .i64 u] (by simp)).c 1 rfl
  have c1_0_2 : W1.cell? ⟨w.heap.size, 2, none⟩ = some (.int .i64 d) := (K1.out.at (w.heap.size) [.int .i64 0, .int .i64 m, .int .i64 d, .int .i64 u] (by simp)).c 2 rfl
  have c1_0_3 : W1.cell? ⟨w.heap.size, 3, none⟩ = some (.int .i64 u) := (K1.out.at (w.heap.size) [.int .i64 0, .int .i64 m, .int .i64 d, .int .i64 u] (by simp)).c 3 rfl
  go_wp2_with fail
  refine (L.out _).mono ?_
  rintro e W2 ⟨rfl, hb⟩
  have K2 : Hid (BS w [(w.heap.size, [.int .i64 0, .int .i64 m, .int .i64 d, .int .i64 u])] W2) := K1.out.below hb
  clear c1_0_0 c1_0_1 c1_0_2 c1_0_3
  clear hb K1
  have c2_0_0 : W2.cell? ⟨w.heap.size, 0, none⟩ = some (.int .i64 0) := (K2.out.at (w.heap.size) [.int .i64 0, .int .i64 m, .int .i64 d, .int .i64 u] (by simp)).c 0 rfl
  have z2_0_0 : W2.frozen? ⟨w.heap.size, 0, none⟩ = false := (K2.out.at (w.heap.size) [.int .i64 0, .int .i64 m, .int .i64 d, .int .i64 u] (by simp)).f 0 rfl
  have c2_0_1 : W2.cell? ⟨w.heap.size, 1, none⟩ = some (.int .i64 m) := (K2.out.at (w.heap.size) [.int .i64 0, .int .i64 m, .int .i64 d, .int .i64 u] (by simp)).c 1 rfl
  have z2_0_1 : W2.frozen? ⟨w.heap.size, 1, none⟩ = false := (K2.out.at (w.heap.size) [.int .i64 0, .int .i64 m, .int .i64 d, .int .i64 u] (by simp)).f 1 rfl
  have c2_0_2 : W2.cell? ⟨w.heap.size, 2, none⟩ = some (.int .i64 d) := (K2.out.at (w.heap.size) [.int .i64 0, .int .i64 m, .int .i64 d, .int .i64 u] (by simp)).c 2 rfl
  have z2_0_2 : W2.frozen? ⟨w.heap.size, 2, none⟩ = false := (K2.out.at (w.heap.size) [.int .i64 0, .int .i64 m, .int .i64 d, .int .i64 u] (by simp)).f 2 rfl
  have c2_0_3 : W2.cell? ⟨w.heap.size, 3, none⟩ = some (.int .i64 u) := (K2.out.at (w.heap.size) [.int .i64 0, .int .i64 m, .int .i64 d, .int .i64 u] (by simp)).c 3 rfl
  have z2_0_3 : W2.frozen? ⟨w.heap.size, 3, none⟩ = false := (K2.out.at (w.heap.size) [.int .i64 0, .int .i64 m, .int .i64 d, .int .i64 u] (by simp)).f 3 rfl
  have Mz2 : Hid (BS w [(w.heap.size, [.int .i64 0, .int .i64 0, .int .i64 D, .int .i64 U])] (W2.setCells (w.heap.size) 0 [.int .i64 0, .int .i64 0, .int .i64 D, .int .i64 U])) := K2.out.set [.int .i64 0, .int .i64 0, .int .i64 D, .int .i64 U] rfl (fun x hx => by cases hx)
  go_upto_region 4 with fail
  refine gen_to (BS w [(w.heap.size, [.int .i64 0, .int .i64 0, .int .i64 D, .int .i64 U])]) Mz2.out ?_
  clear c2_0_0 z2_0_0 c2_0_1 z2_0_1 c2_0_2 z2_0_2 c2_0_3 z2_0_3
  intro W3 K3'
  have K3 : Hid (BS w [(w.heap.size, [.int .i64 0, .int .i64 0, .int .i64 D, .int .i64 U])] W3) := K3'
  clear K3' Mz2 K2
  have c3_0_0 : W3.cell? ⟨w.heap.size, 0, none⟩ = some (.int .i64 0) := (K3.out.at (w.heap.size) [.int .i64 0, .int .i64 0, .int .i64 D, .int .i64 U] (by simp)).c 0 rfl
  have c3_0_1 : W3.cell? ⟨w.heap.size, 1, none⟩ = some (.int .i64 0) := (K3.out.at (w.heap.size) [.int .i64 0, .int .i64 0, .int .i64 D, .int .i64 U] (by simp)).c 1 rfl
  have c3_0_2 : W3.cell? ⟨w.heap.size, 2, none⟩ = some (.int .i64 D) := (K3.out.at (w.heap.size) [.int .i64 0, .int .i64 0, .int .i64 D, .int .i64 U] (by simp)).c 2 rfl
  have c3_0_3 : W3.cell? ⟨w.heap.size, 3, none⟩ = some (.int .i64 U) := (K3.out.at (w.heap.size) [.int .i64 0, .int .i64 0, .int .i64 D, .int .i64 U] (by simp)).c 3 rfl
  go_wp2
  go_ret
  exact ⟨rfl, K3.out.1⟩

set_option maxRecDepth 100000 in
set_option maxHeartbeats 4000000 in
theorem psign_u (m d u U : Int) (h : U ≠ 0)
    (R : Hid (∀ w : World, Calls Tryz.prog 18 #[.agg #[.int .i64 0, .int .i64 m, .int .i64 d, .int .i64 u]] w fun r' w' => r' = .returned (.bool true) ∧ Below w.heap.size w w'))
    (L : Hid (∀ w : World, Calls Tryz.prog 61 #[.agg #[.int .i64 0, .int .i64 m, .int .i64 d, .int .i64 u]] w fun r' w' => r' = .returned (.agg #[.int .i64 0, .int .i64 0, .int .i64 0, .int .i64 U]) ∧ Below w.heap.size w w'))
    (w : World) :
    Calls Tryz.prog 37 #[.agg #[.int .i64 0, .int .i64 m, .int .i64 d, .int .i64 u]] w fun r' w' => r' = .returned (.int .i64 1) ∧ Below w.heap.size w w' := by
  have h1 : (U == 0) = false := by simpa using h
  have K0 : Hid (BS w [(w.heap.size, [.int .i64 0, .int .i64 m, .int .i64 d, .int .i64 u])] (w.alloc (.cells #[.int .i64 0, .int .i64 m, .int .i64 d, .int .i64 u] 38))) := ((BS.start w).new [.int .i64 0, .int .i64 m, .int .i64 d, .int .i64 u] 38 rfl)
  go_enter Tryz.func37, Tryz.ntmps37
  go_wp2_with fail
  refine (R.out _).mono ?_
  rintro e W1 ⟨rfl, hb⟩
  have K1 : Hid (BS w [(w.heap.size, [.int .i64 0, .int .i64 m, .int .i64 d, .int .i64 u])] W1) := K0.out.below hb
  clear hb K0
  have c1_0_0 : W1.cell? ⟨w.heap.size, 0, none⟩ = some (.int .i64 0) := (K1.out.at (w.heap.size) [.int .i64 0, .int .i64 m, .int .i64 d, .int .i64 u] (by simp)).c 0 rfl
  have c1_0_1 : W1.cell? ⟨w.heap.size, 1, none⟩ = some (.int .i64 m) := (K1.out.at (w.heap.size) [.int .i64 0, .int .i64 m, .int .i64 d, .int .i64 u] (by simp)).c 1 rfl
  have c1_0_2 : W1.cell? ⟨w.heap.size, 2, none⟩ = some (.int .i64 d) := (K1.out.at (w.heap.size) [.int .i64 0, .int .i64 m, .int .i64 d, .int .i64 u] (by simp)).c 2 rfl
  have c1_0_3 : W1.cell? ⟨w.heap.size, 3, none⟩ = some (.int .i64 u) := (K1.out.at (w.heap.size) [.int .i64 0, .int .i64 m, .int .i64 d, .int .i64 u] (by simp)).c 3 rfl
  go_wp2_with fail
  refine (L.out _).mono ?_
  rintro e W2 ⟨rfl, hb⟩
  have K2 : Hid (BS w [(w.heap.size, [.int .i64 0, .int .i64 m, .int .i64 d, .int .i64 u])] W2) := K1.out.below hb
  clear c1_0_0 c1_0_1 c1_0_2 c1_0_3
  clear hb K1
  have c2_0_0 : W2.cell? ⟨w.heap.size, 0, none⟩ = some (.int .i64 0) := (K2.out.at (w.heap.size) [.int .i64 0, .int .i64 m, .int .i64 d, .int .i64 u] (by simp)).c 0 rfl
  have z2_0_0 : W2.frozen? ⟨w.heap.size, 0, none⟩ = false := (K2.out.at (w.heap.size) [.int .i64 0, .int .i64 m, .int .i64 d, .int .i64 u] (by simp)).f 0 rfl
  have c2_0_1 : W2.cell? ⟨w.heap.size, 1, none⟩ = some (.int .i64 m) := (K2.out.at (w.heap.size) [.int .i64 0, .int .i64 m, .int .i64 d, .int .i64 u] (by simp)).c 1 rfl
  have z2_0_1 : W2.frozen? ⟨w.heap.size, 1, none⟩ = false := (K2.out.at (w.heap.size) [.int .i64 0, .int .i64 m, .int .i64 d, .int .i64 u] (by simp)).f 1 rfl
  have c2_0_2 : W2.cell? ⟨w.heap.size, 2, none⟩ = some (.int .i64 d) := (K2.out.at (w.heap.size) [.int .i64 0, .int .i64 m, .int .i64 d, .int .i64 u] (by simp)).c 2 rfl
  have z2_0_2 : W2.frozen? ⟨w.heap.size, 2, none⟩ = false := (K2.out.at (w.heap.size) [.int .i64 0, .int .i64 m, .int .i64 d, .int .i64 u] (by simp)).f 2 rfl
  have c2_0_3 : W2.cell? ⟨w.heap.size, 3, none⟩ = some (.int .i64 u) := (K2.out.at (w.heap.size) [.int .i64 0, .int .i64 m, .int .i64 d, .int .i64 u] (by simp)).c 3 rfl
  have z2_0_3 : W2.frozen? ⟨w.heap.size, 3, none⟩ = false := (K2.out.at (w.heap.size) [.int .i64 0, .int .i64 m, .int .i64 d, .int .i64 u] (by simp)).f 3 rfl
  have Mz2 : Hid (BS w [(w.heap.size, [.int .i64 0, .int .i64 0, .int .i64 0, .int .i64 U])] (W2.setCells (w.heap.size) 0 [.int .i64 0, .int .i64 0, .int .i64 0, .int .i64 U])) := K2.out.set [.int .i64 0, .int .i64 0, .int .i64 0, .int .i64 U] rfl (fun x hx => by cases hx)
  go_upto_region 4 with fail
  refine gen_to (BS w [(w.heap.size, [.int .i64 0, .int .i64 0, .int .i64 0, .int .i64 U])]) Mz2.out ?_
  clear c2_0_0 z2_0_0 c2_0_1 z2_0_1 c2_0_2 z2_0_2 c2_0_3 z2_0_3
  intro W3 K3'
  have K3 : Hid (BS w [(w.heap.size, [.int .i64 0, .int .i64 0, .int .i64 0, .int .i64 U])] W3) := K3'
  clear K3' Mz2 K2
  have c3_0_0 : W3.cell? ⟨w.heap.size, 0, none⟩ = some (.int .i64 0) := (K3.out.at (w.heap.size) [.int .i64 0, .int .i64 0, .int .i64 0, .int .i64 U] (by simp)).c 0 rfl
  have c3_0_1 : W3.cell? ⟨w.heap.size, 1, none⟩ = some (.int .i64 0) := (K3.out.at (w.heap.size) [.int .i64 0, .int .i64 0, .int .i64 0, .int .i64 U] (by simp)).c 1 rfl
  have c3_0_2 : W3.cell? ⟨w.heap.size, 2, none⟩ = some (.int .i64 0) := (K3.out.at (w.heap.size) [.int .i64 0, .int .i64 0, .int .i64 0, .int .i64 U] (by simp)).c 2 rfl
  have c3_0_3 : W3.cell? ⟨w.heap.size, 3, none⟩ = some (.int .i64 U) := (K3.out.at (w.heap.size) [.int .i64 0, .int .i64 0, .int .i64 0, .int .i64 U] (by simp)).c 3 rfl
  go_wp2
  go_ret
  exact ⟨rfl, K3.out.1⟩

/-- below nought, nought, above? -/
def sgA (i m d u : Int) : Int := if pR i m d u = true then (if i = 0 then (if lvD m d u = 0 ∧ lvU u = 0 then 0 else if lvD m d u < 0 then -1 else 1) else i) else 0

theorem psign_any (i m d u : Int) (u1 : -9223372036854775808 ≤ u) (u2 : u ≤ 9223372036854775807) (w : World) :
    Calls Tryz.prog 37 #[.agg #[.int .i64 i, .int .i64 m, .int .i64 d, .int .i64 u]] w fun r w' => r = .returned (.int .i64 (sgA i m d u)) ∧ Below w.heap.size w w' := by
  unfold sgA
  cases h : pR i m d u
  · rw [if_neg (by decide)]; exact psign_no i m d u (fun w => by rw [← h]; exact pr_any i m d u u1 u2 w) w
  · rw [if_pos rfl]
    have R : ∀ w : World, Calls Tryz.prog 18 #[.agg #[.int .i64 i, .int .i64 m, .int .i64 d, .int .i64 u]] w fun r' w' => r' = .returned (.bool true) ∧ Below w.heap.size w w' := fun w => by rw [← h]; exact pr_any i m d u u1 u2 w
    have q := pR_yes h
    have L := fun w => level_any i m d u (by omega) (by omega) (by omega) (by omega) u1 u2 w
    by_cases h0 : i = 0
    · subst h0
      rw [if_pos rfl]
      by_cases k : lvD m d u = 0 ∧ lvU u = 0
      · rw [if_pos k]; rw [k.1, k.2] at L; exact psign_z m d u R L w
      · rw [if_neg k]
        by_cases l : lvD m d u < 0
        · rw [if_pos l]; exact psign_lt m d u _ _ l R L w
        · rw [if_neg l]
          by_cases z : lvD m d u = 0
          · rw [z] at L; exact psign_u m d u _ (fun e => k ⟨z, e⟩) R L w
          · exact psign_gt m d u _ _ (by omega) R L w
    · rw [if_neg h0]
      rcases q with q | ⟨q, rfl, rfl, rfl⟩
      · exact absurd q.1 h0
      · rw [show lvD 0 0 0 = 0 by decide, show lvU 0 = 0 by decide] at L
        rcases q with rfl | rfl
        · exact psign_m 0 0 0 R L w
        · exact psign_p 0 0 0 R L w

end Go.Proofs.YtpdmndlpgjjopaaGreatDoor.Sp
