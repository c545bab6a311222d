/- An interval's days; its sign; which is the longer one. -/
import Derived.Test.YtghfgabajdghiacSpB
import Derived.Test.YtghfgabajdghiacBxB
import Derived.Deep.Cut
import Derived.Deep.CutRange
import Derived.Deep.DeepCutAuto
namespace Go.Proofs.Ytghfgabajdghiac
open Go.RowKit
set_option linter.unusedVariables false

theorem gen_anyH {P : Program} {md : Region.Mode} {ops : Array Oper} {Q : Exit → Act → World → Prop} {S : World → Prop} {fuel : Nat} {listed : Array Bool} {a : Act} {w1 : World} (T : World → Prop) (h : T w1)
    (k : ∀ w2, T w2 → wpAnyH P md ops Q S fuel listed a w2) : wpAnyH P md ops Q S fuel listed a w1 := k _ h

set_option maxRecDepth 100000 in
set_option maxHeartbeats 4000000 in
theorem level_run (i m d u q r : Int) (m1 : -2147483647 ≤ m) (m2 : m ≤ 2147483647) (d1 : -2147483647 ≤ d) (d2 : d ≤ 2147483647) (q1 : -1000000000 ≤ q) (q2 : q ≤ 1000000000)
    (S : Hid (∀ w : World, Calls Try.prog 28 #[.int .i64 u] w fun r' w' => r' = .returned (.tuple #[.int .i64 q, .int .i64 r]) ∧ w' = w))
    (w : World) :
    Calls Try.prog 21 #[.agg #[.int .i64 i, .int .i64 m, .int .i64 d, .int .i64 u]] w fun r' w' => r' = .returned (.agg #[.int .i64 i, .int .i64 0, .int .i64 (m * 30 + d + q), .int .i64 r]) ∧ Below w.heap.size w w' := by
  have K0 : Hid (BS w [(w.heap.size + 1, [.int .i64 0, .int .i64 0, .int .i64 0, .int .i64 0]), (w.heap.size, [.int .i64 i, .int .i64 m, .int .i64 d, .int .i64 u])] ((w.alloc (.cells #[.int .i64 i, .int .i64 m, .int .i64 d, .int .i64 u] 23)).alloc (.cells #[.int .i64 0, .int .i64 0, .int .i64 0, .int .i64 0] 23))) := (((BS.start w).new [.int .i64 i, .int .i64 m, .int .i64 d, .int .i64 u] 23 rfl).new [.int .i64 0, .int .i64 0, .int .i64 0, .int .i64 0] 23 (by simp))
  go_enter Try.func21, Try.ntmps21
  go_wp2_with fail
  refine (S.out _).mono ?_
  rintro e W1 ⟨rfl, rfl⟩
  go_wp2
  exact bodyPost_ret (v := .agg #[.int .i64 i, .int .i64 0, .int .i64 (m * 30 + d + q), .int .i64 r]) (by simp [results, Try.results21, go_sem]) rfl ⟨rfl, (by repeat' (first | assumption | exact Below.refl _ _ | exact Nat.le_refl _ | refine Below.alloc ?_ ?_ _ | (simp; done) | (simp; omega) | omega))⟩

/-- an interval's days, and what is left of one. -/
def lvD (m d u : Int) : Int := m * 30 + d + u / 86400000000
def lvU (u : Int) : Int := u % 86400000000

theorem level_any (i m d u : Int) (m1 : -2147483647 ≤ m) (m2 : m ≤ 2147483647) (d1 : -2147483647 ≤ d) (d2 : d ≤ 2147483647) (u1 : -9223372036854775808 ≤ u) (u2 : u ≤ 9223372036854775807) (w : World) :
    Calls Try.prog 21 #[.agg #[.int .i64 i, .int .i64 m, .int .i64 d, .int .i64 u]] w fun r w' => r = .returned (.agg #[.int .i64 i, .int .i64 0, .int .i64 (lvD m d u), .int .i64 (lvU u)]) ∧ Below w.heap.size w w' :=
  level_run i m d u _ _ m1 m2 d1 d2 (by omega) (by omega) (fun w => split_any u u1 u2 w) w

set_option maxRecDepth 100000 in
set_option maxHeartbeats 4000000 in
theorem psign_no (i m d u : Int)
    (R : Hid (∀ w : World, Calls Try.prog 13 #[.agg #[.int .i64 i, .int .i64 m, .int .i64 d, .int .i64 u]] w fun r' w' => r' = .returned (.bool false) ∧ Below w.heap.size w w'))
    (w : World) :
    Calls Try.prog 18 #[.agg #[.int .i64 i, .int .i64 m, .int .i64 d, .int .i64 u]] w fun r' w' => r' = .returned (.int .i64 0) ∧ Below w.heap.size w w' := by
  have K0 : Hid (BS w [(w.heap.size, [.int .i64 i, .int .i64 m, .int .i64 d, .int .i64 u])] (w.alloc (.cells #[.int .i64 i, .int .i64 m, .int .i64 d, .int .i64 u] 23))) := ((BS.start w).new [.int .i64 i, .int .i64 m, .int .i64 d, .int .i64 u] 23 rfl)
  go_enter Try.func18, Try.ntmps18
  go_wp2_with fail
  refine (R.out _).mono ?_
  rintro e W1 ⟨rfl, hb⟩
  have K1 : Hid (BS w [(w.heap.size, [.int .i64 i, .int .i64 m, .int .i64 d, .int .i64 u])] W1) := K0.out.below hb
  clear hb K0
  have c1_0_0 : W1.cell? ⟨w.heap.size, 0, none⟩ = some (.int .i64 i) := (K1.out.at (w.heap.size) [.int .i64 i, .int .i64 m, .int .i64 d, .int .i64 u] (by simp)).c 0 rfl
  have c1_0_1 : W1.cell? ⟨w.heap.size, 1, none⟩ = some (.int .i64 m) := (K1.out.at (w.heap.size) [.int .i64 i, .int .i64 m, .int .i64 d, .int .i64 u] (by simp)).c 1 rfl
  have c1_0_2 : W1.cell? ⟨w.heap.size, 2, none⟩ = some (.int .i64 d) := (K1.out.at (w.heap.size) [.int .i64 i, .int .i64 m, .int .i64 d, .int .i64 u] (by simp)).c 2 rfl
  have c1_0_3 : W1.cell? ⟨w.heap.size, 3, none⟩ = some (.int .i64 u) := (K1.out.at (w.heap.size) [.int .i64 i, .int .i64 m, .int .i64 d, .int .i64 u] (by simp)).c 3 rfl
  go_wp2
  go_ret
  exact ⟨rfl, K1.out.1⟩

set_option maxRecDepth 100000 in
set_option maxHeartbeats 4000000 in
theorem psign_z (m d u : Int) 
    (R : Hid (∀ w : World, Calls Try.prog 13 #[.agg #[.int .i64 0, .int .i64 m, .int .i64 d, .int .i64 u]] w fun r' w' => r' = .returned (.bool true) ∧ Below w.heap.size w w'))
    (L : Hid (∀ w : World, Calls Try.prog 21 #[.agg #[.int .i64 0, .int .i64 m, .int .i64 d, .int .i64 u]] w fun r' w' => r' = .returned (.agg #[.int .i64 0, .int .i64 0, .int .i64 0, .int .i64 0]) ∧ Below w.heap.size w w'))
    (w : World) :
    Calls Try.prog 18 #[.agg #[.int .i64 0, .int .i64 m, .int .i64 d, .int .i64 u]] w fun r' w' => r' = .returned (.int .i64 0) ∧ Below w.heap.size w w' := by
  have K0 : Hid (BS w [(w.heap.size, [.int .i64 0, .int .i64 m, .int .i64 d, .int .i64 u])] (w.alloc (.cells #[.int .i64 0, .int .i64 m, .int .i64 d, .int .i64 u] 23))) := ((BS.start w).new [.int .i64 0, .int .i64 m, .int .i64 d, .int .i64 u] 23 rfl)
  go_enter Try.func18, Try.ntmps18
  go_wp2_with fail
  refine (R.out _).mono ?_
  rintro e W1 ⟨rfl, hb⟩
  have K1 : Hid (BS w [(w.heap.size, [.int .i64 0, .int .i64 m, .int .i64 d, .int .i64 u])] W1) := K0.out.below hb
  clear hb K0
  have c1_0_0 : W1.cell? ⟨w.heap.size, 0, none⟩ = some (.int .i64 0) := (K1.out.at (w.heap.size) [.int .i64 0, .int .i64 m, .int .i64 d, .int .i64 u] (by simp)).c 0 rfl
  have c1_0_1 : W1.cell? ⟨w.heap.size, 1, none⟩ = some (.int .i64 m) := (K1.out.at (w.heap.size) [.int .i64 0, .int .i64 m, .int .i64 d, .int .i64 u] (by simp)).c 1 rfl
  have c1_0_2 : W1.cell? ⟨w.heap.size, 2, none⟩ = some (.int .i64 d) := (K1.out.at (w.heap.size) [.int .i64 0, .int .i64 m, .int .i64 d, .int .i64 u] (by simp)).c 2 rfl
  have c1_0_3 : W1.cell? ⟨w.heap.size, 3, none⟩ = some (.int .i64 u) := (K1.out.at (w.heap.size) [.int .i64 0, .int .i64 m, .int .i64 d, .int .i64 u] (by simp)).c 3 rfl
  go_wp2_with fail
  refine (L.out _).mono ?_
  rintro e W2 ⟨rfl, hb⟩
  have K2 : Hid (BS w [(w.heap.size, [.int .i64 0, .int .i64 m, .int .i64 d, .int .i64 u])] W2) := K1.out.below hb
  clear c1_0_0 c1_0_1 c1_0_2 c1_0_3
  clear hb K1
  have c2_0_0 : W2.cell? ⟨w.heap.size, 0, none⟩ = some (.int .i64 0) := (K2.out.at (w.heap.size) [.int .i64 0, .int .i64 m, .int .i64 d, .int .i64 u] (by simp)).c 0 rfl
  have z2_0_0 : W2.frozen? ⟨w.heap.size, 0, none⟩ = false := (K2.out.at (w.heap.size) [.int .i64 0, .int .i64 m, .int .i64 d, .int .i64 u] (by simp)).f 0 rfl
  have c2_0_1 : W2.cell? ⟨w.heap.size, 1, none⟩ = some (.int .i64 m) := (K2.out.at (w.heap.size) [.int .i64 0, .int .i64 m, .int .i64 d, .int .i64 u] (by simp)).c 1 rfl
  have z2_0_1 : W2.frozen? ⟨w.heap.size, 1, none⟩ = false := (K2.out.at (w.heap.size) [.int .i64 0, .int .i64 m, .int .i64 d, .int .i64 u] (by simp)).f 1 rfl
  have c2_0_2 : W2.cell? ⟨w.heap.size, 2, none⟩ = some (.int .i64 d) := (K2.out.at (w.heap.size) [.int .i64 0, .int .i64 m, .int .i64 d, .int .i64 u] (by simp)).c 2 rfl
  have z2_0_2 : W2.frozen? ⟨w.heap.size, 2, none⟩ = false := (K2.out.at (w.heap.size) [.int .i64 0, .int .i64 m, .int .i64 d, .int .i64 u] (by simp)).f 2 rfl
  have c2_0_3 : W2.cell? ⟨w.heap.size, 3, none⟩ = some (.int .i64 u) := (K2.out.at (w.heap.size) [.int .i64 0, .int .i64 m, .int .i64 d, .int .i64 u] (by simp)).c 3 rfl
  have z2_0_3 : W2.frozen? ⟨w.heap.size, 3, none⟩ = false := (K2.out.at (w.heap.size) [.int .i64 0, .int .i64 m, .int .i64 d, .int .i64 u] (by simp)).f 3 rfl
  have Mz2 : Hid (BS w [(w.heap.size, [.int .i64 0, .int .i64 0, .int .i64 0, .int .i64 0])] (W2.setCells (w.heap.size) 0 [.int .i64 0, .int .i64 0, .int .i64 0, .int .i64 0])) := K2.out.set [.int .i64 0, .int .i64 0, .int .i64 0, .int .i64 0] rfl (fun x hx => by cases hx)
  go_upto_region 4 with fail
  refine gen_to (BS w [(w.heap.size, [.int .i64 0, .int .i64 0, .int .i64 0, .int .i64 0])]) Mz2.out ?_
  clear c2_0_0 z2_0_0 c2_0_1 z2_0_1 c2_0_2 z2_0_2 c2_0_3 z2_0_3
  intro W3 K3'
  have K3 : Hid (BS w [(w.heap.size, [.int .i64 0, .int .i64 0, .int .i64 0, .int .i64 0])] W3) := K3'
  clear K3' Mz2 K2
  have c3_0_0 : W3.cell? ⟨w.heap.size, 0, none⟩ = some (.int .i64 0) := (K3.out.at (w.heap.size) [.int .i64 0, .int .i64 0, .int .i64 0, .int .i64 0] (by simp)).c 0 rfl
  have c3_0_1 : W3.cell? ⟨w.heap.size, 1, none⟩ = some (.int .i64 0) := (K3.out.at (w.heap.size) [.int .i64 0, .int .i64 0, .int .i64 0, .int .i64 0] (by simp)).c 1 rfl
  have c3_0_2 : W3.cell? ⟨w.heap.size, 2, none⟩ = some (.int .i64 0) := (K3.out.at (w.heap.size) [.int .i64 0, .int .i64 0, .int .i64 0, .int .i64 0] (by simp)).c 2 rfl
  have c3_0_3 : W3.cell? ⟨w.heap.size, 3, none⟩ = some (.int .i64 0) := (K3.out.at (w.heap.size) [.int .i64 0, .int .i64 0, .int .i64 0, .int .i64 0] (by simp)).c 3 rfl
  go_wp2
  go_ret
  exact ⟨rfl, K3.out.1⟩

set_option maxRecDepth 100000 in
set_option maxHeartbeats 4000000 in
theorem psign_m (m d u : Int) 
    (R : Hid (∀ w : World, Calls Try.prog 13 #[.agg #[.int .i64 (-1), .int .i64 m, .int .i64 d, .int .i64 u]] w fun r' w' => r' = .returned (.bool true) ∧ Below w.heap.size w w'))
    (L : Hid (∀ w : World, Calls Try.prog 21 #[.agg #[.int .i64 (-1), .int .i64 m, .int .i64 d, .int .i64 u]] w fun r' w' => r' = .returned (.agg #[.int .i64 (-1), .int .i64 0, .int .i64 0, .int .i64 0]) ∧ Below w.heap.size w w'))
    (w : World) :
    Calls Try.prog 18 #[.agg #[.int .i64 (-1), .int .i64 m, .int .i64 d, .int .i64 u]] w fun r' w' => r' = .returned (.int .i64 (-1)) ∧ Below w.heap.size w w' := by
  have K0 : Hid (BS w [(w.heap.size, [.int .i64 (-1), .int .i64 m, .int .i64 d, .int .i64 u])] (w.alloc (.cells #[.int .i64 (-1), .int .i64 m, .int .i64 d, .int .i64 u] 23))) := ((BS.start w).new [.int .i64 (-1), .int .i64 m, .int .i64 d, .int .i64 u] 23 rfl)
  go_enter Try.func18, Try.ntmps18
  go_wp2_with fail
  refine (R.out _).mono ?_
  rintro e W1 ⟨rfl, hb⟩
  have K1 : Hid (BS w [(w.heap.size, [.int .i64 (-1), .int .i64 m, .int .i64 d, .int .i64 u])] W1) := K0.out.below hb
  clear hb K0
  have c1_0_0 : W1.cell? ⟨w.heap.size, 0, none⟩ = some (.int .i64 (-1)) := (K1.out.at (w.heap.size) [.int .i64 (-1), .int .i64 m, .int .i64 d, .int .i64 u] (by simp)).c 0 rfl
  have c1_0_1 : W1.cell? ⟨w.heap.size, 1, none⟩ = some (.int .i64 m) := (K1.out.at (w.heap.size) [.int .i64 (-1), .int .i64 m, .int .i64 d, .int .i64 u] (by simp)).c 1 rfl
  have c1_0_2 : W1.cell? ⟨w.heap.size, 2, none⟩ = some (.int .i64 d) := (K1.out.at (w.heap.size) [.int .i64 (-1), .int .i64 m, .int .i64 d, .int .i64 u] (by simp)).c 2 rfl
  have c1_0_3 : W1.cell? ⟨w.heap.size, 3, none⟩ = some (.int .i64 u) := (K1.out.at (w.heap.size) [.int .i64 (-1), .int .i64 m, .int .i64 d, .int .i64 u] (by simp)).c 3 rfl
  go_wp2_with fail
  refine (L.out _).mono ?_
  rintro e W2 ⟨rfl, hb⟩
  have K2 : Hid (BS w [(w.heap.size, [.int .i64 (-1), .int .i64 m, .int .i64 d, .int .i64 u])] W2) := K1.out.below hb
  clear c1_0_0 c1_0_1 c1_0_2 c1_0_3
  clear hb K1
  have c2_0_0 : W2.cell? ⟨w.heap.size, 0, none⟩ = some (.int .i64 (-1)) := (K2.out.at (w.heap.size) [.int .i64 (-1), .int .i64 m, .int .i64 d, .int .i64 u] (by simp)).c 0 rfl
  have z2_0_0 : W2.frozen? ⟨w.heap.size, 0, none⟩ = false := (K2.out.at (w.heap.size) [.int .i64 (-1), .int .i64 m, .int .i64 d, .int .i64 u] (by simp)).f 0 rfl
  have c2_0_1 : W2.cell? ⟨w.heap.size, 1, none⟩ = some (.int .i64 m) := (K2.out.at (w.heap.size) [.int .i64 (-1), .int .i64 m, .int .i64 d, .int .i64 u] (by simp)).c 1 rfl
  have z2_0_1 : W2.frozen? ⟨w.heap.size, 1, none⟩ = false := (K2.out.at (w.heap.size) [.int .i64 (-1), .int .i64 m, .int .i64 d, .int .i64 u] (by simp)).f 1 rfl
  have c2_0_2 : W2.cell? ⟨w.heap.size, 2, none⟩ = some (.int .i64 d) := (K2.out.at (w.heap.size) [.int .i64 (-1), .int .i64 m, .int .i64 d, .int .i64 u] (by simp)).c 2 rfl
  have z2_0_2 : W2.frozen? ⟨w.heap.size, 2, none⟩ = false := (K2.out.at (w.heap.size) [.int .i64 (-1), .int .i64 m, .int .i64 d, .int .i64 u] (by simp)).f 2 rfl
  have c2_0_3 : W2.cell? ⟨w.heap.size, 3, none⟩ = some (.int .i64 u) := (K2.out.at (w.heap.size) [.int .i64 (-1), .int .i64 m, .int .i64 d, .int .i64 u] (by simp)).c 3 rfl
  have z2_0_3 : W2.frozen? ⟨w.heap.size, 3, none⟩ = false := (K2.out.at (w.heap.size) [.int .i64 (-1), .int .i64 m, .int .i64 d, .int .i64 u] (by simp)).f 3 rfl
  have Mz2 : Hid (BS w [(w.heap.size, [.int .i64 (-1), .int .i64 0, .int .i64 0, .int .i64 0])] (W2.setCells (w.heap.size) 0 [.int .i64 (-1), .int .i64 0, .int .i64 0, .int .i64 0])) := K2.out.set [.int .i64 (-1), .int .i64 0, .int .i64 0, .int .i64 0] rfl (fun x hx => by cases hx)
  go_upto_region 4 with fail
  refine gen_to (BS w [(w.heap.size, [.int .i64 (-1), .int .i64 0, .int .i64 0, .int .i64 0])]) Mz2.out ?_
  clear c2_0_0 z2_0_0 c2_0_1 z2_0_1 c2_0_2 z2_0_2 c2_0_3 z2_0_3
  intro W3 K3'
  have K3 : Hid (BS w [(w.heap.size, [.int .i64 (-1), .int .i64 0, .int .i64 0, .int .i64 0])] W3) := K3'
  clear K3' Mz2 K2
  have c3_0_0 : W3.cell? ⟨w.heap.size, 0, none⟩ = some (.int .i64 (-1)) := (K3.out.at (w.heap.size) [.int .i64 (-1), .int .i64 0, .int .i64 0, .int .i64 0] (by simp)).c 0 rfl
  have c3_0_1 : W3.cell? ⟨w.heap.size, 1, none⟩ = some (.int .i64 0) := (K3.out.at (w.heap.size) [.int .i64 (-1), .int .i64 0, .int .i64 0, .int .i64 0] (by simp)).c 1 rfl
  have c3_0_2 : W3.cell? ⟨w.heap.size, 2, none⟩ = some (.int .i64 0) := (K3.out.at (w.heap.size) [.int .i64 (-1), .int .i64 0, .int .i64 0, .int .i64 0] (by simp)).c 2 rfl
  have c3_0_3 : W3.cell? ⟨w.heap.size, 3, none⟩ = some (.int .i64 0) := (K3.out.at (w.heap.size) [.int .i64 (-1), .int .i64 0, .int .i64 0, .int .i64 0] (by simp)).c 3 rfl
  go_wp2
  go_ret
  exact ⟨rfl, K3.out.1⟩

set_option maxRecDepth 100000 in
set_option maxHeartbeats 4000000 in
theorem psign_p (m d u : Int) 
    (R : Hid (∀ w : World, Calls Try.prog 13 #[.agg #[.int .i64 1, .int .i64 m, .int .i64 d, .int .i64 u]] w fun r' w' => r' = .returned (.bool true) ∧ Below w.heap.size w w'))
    (L : Hid (∀ w : World, Calls Try.prog 21 #[.agg #[.int .i64 1, .int .i64 m, .int .i64 d, .int .i64 u]] w fun r' w' => r' = .returned (.agg #[.int .i64 1, .int .i64 0, .int .i64 0, .int .i64 0]) ∧ Below w.heap.size w w'))
    (w : World) :
    Calls Try.prog 18 #[.agg #[.int .i64 1, .int .i64 m, .int .i64 d, .int .i64 u]] w fun r' w' => r' = .returned (.int .i64 1) ∧ Below w.heap.size w w' := by
  have K0 : Hid (BS w [(w.heap.size, [.int .i64 1, .int .i64 m, .int .i64 d, .int .i64 u])] (w.alloc (.cells #[.int .i64 1, .int .i64 m, .int .i64 d, .int .i64 u] 23))) := ((BS.start w).new [.int .i64 1, .int .i64 m, .int .i64 d, .int .i64 u] 23 rfl)
  go_enter Try.func18, Try.ntmps18
  go_wp2_with fail
  refine (R.out _).mono ?_
  rintro e W1 ⟨rfl, hb⟩
  have K1 : Hid (BS w [(w.heap.size, [.int .i64 1, .int .i64 m, .int .i64 d, .int .i64 u])] W1) := K0.out.below hb
  clear hb K0
  have c1_0_0 : W1.cell? ⟨w.heap.size, 0, none⟩ = some (.int .i64 1) := (K1.out.at (w.heap.size) [.int .i64 1, .int .i64 m, .int .i64 d, .int .i64 u] (by simp)).c 0 rfl
  have c1_0_1 : W1.cell? ⟨w.heap.size, 1, none⟩ = some (.int .i64 m) := (K1.out.at (w.heap.size) [.int .i64 1, .int .i64 m, .int .i64 d, .int .i64 u] (by simp)).c 1 rfl
  have c1_0_2 : W1.cell? ⟨w.heap.size, 2, none⟩ = some (.int .i64 d) := (K1.out.at (w.heap.size) [.int .i64 1, .int .i64 m, .int .i64 d, .int .i64 u] (by simp)).c 2 rfl
  have c1_0_3 : W1.cell? ⟨w.heap.size, 3, none⟩ = some (.int .i64 u) := (K1.out.at (w.heap.size) [.int .i64 1, .int .i64 m, .int .i64 d, .int .i64 u] (by simp)).c 3 rfl
  go_wp2_with fail
  refine (L.out _).mono ?_
  rintro e W2 ⟨rfl, hb⟩
  have K2 : Hid (BS w [(w.heap.size, [.int .i64 1, .int .i64 m, .int .i64 d, .int .i64 u])] W2) := K1.out.below hb
  clear c1_0_0 c1_0_1 c1_0_2 c1_0_3
  clear hb K1
  have c2_0_0 : W2.cell? ⟨w.heap.size, 0, none⟩ = some (.int .i64 1) := (K2.out.at (w.heap.size) [.int .i64 1, .int .i64 m, .int .i64 d, .int .i64 u] (by simp)).c 0 rfl
  have z2_0_0 : W2.frozen? ⟨w.heap.size, 0, none⟩ = false := (K2.out.at (w.heap.size) [.int .i64 1, .int .i64 m, .int .i64 d, .int .i64 u] (by simp)).f 0 rfl
  have c2_0_1 : W2.cell? ⟨w.heap.size, 1, none⟩ = some (.int .i64 m) := (K2.out.at (w.heap.size) [.int .i64 1, .int .i64 m, .int .i64 d, .int .i64 u] (by simp)).c 1 rfl
  have z2_0_1 : W2.frozen? ⟨w.heap.size, 1, none⟩ = false := (K2.out.at (w.heap.size) [.int .i64 1, .int .i64 m, .int .i64 d, .int .i64 u] (by simp)).f 1 rfl
  have c2_0_2 : W2.cell? ⟨w.heap.size, 2, none⟩ = some (.int .i64 d) := (K2.out.at (w.heap.size) [.int .i64 1, .int .i64 m, .int .i64 d, .int .i64 u] (by simp)).c 2 rfl
  have z2_0_2 : W2.frozen? ⟨w.heap.size, 2, none⟩ = false := (K2.out.at (w.heap.size) [.int .i64 1, .int .i64 m, .int .i64 d, .int .i64 u] (by simp)).f 2 rfl
  have c2_0_3 : W2.cell? ⟨w.heap.size, 3, none⟩ = some (.int .i64 u) := (K2.out.at (w.heap.size) [.int .i64 1, .int .i64 m, .int .i64 d, .int .i64 u] (by simp)).c 3 rfl
  have z2_0_3 : W2.frozen? ⟨w.heap.size, 3, none⟩ = false := (K2.out.at (w.heap.size) [.int .i64 1, .int .i64 m, .int .i64 d, .int .i64 u] (by simp)).f 3 rfl
  have Mz2 : Hid (BS w [(w.heap.size, [.int .i64 1, .int .i64 0, .int .i64 0, .int .i64 0])] (W2.setCells (w.heap.size) 0 [.int .i64 1, .int .i64 0, .int .i64 0, .int .i64 0])) := K2.out.set [.int .i64 1, .int .i64 0, .int .i64 0, .int .i64 0] rfl (fun x hx => by cases hx)
  go_upto_region 4 with fail
  refine gen_to (BS w [(w.heap.size, [.int .i64 1, .int .i64 0, .int .i64 0, .int .i64 0])]) Mz2.out ?_
  clear c2_0_0 z2_0_0 c2_0_1 z2_0_1 c2_0_2 z2_0_2 c2_0_3 z2_0_3
  intro W3 K3'
  have K3 : Hid (BS w [(w.heap.size, [.int .i64 1, .int .i64 0, .int .i64 0, .int .i64 0])] W3) := K3'
  clear K3' Mz2 K2
  have c3_0_0 : W3.cell? ⟨w.heap.size, 0, none⟩ = some (.int .i64 1) := (K3.out.at (w.heap.size) [.int .i64 1, .int .i64 0, .int .i64 0, .int .i64 0] (by simp)).c 0 rfl
  have c3_0_1 : W3.cell? ⟨w.heap.size, 1, none⟩ = some (.int .i64 0) := (K3.out.at (w.heap.size) [.int .i64 1, .int .i64 0, .int .i64 0, .int .i64 0] (by simp)).c 1 rfl
  have c3_0_2 : W3.cell? ⟨w.heap.size, 2, none⟩ = some (.int .i64 0) := (K3.out.at (w.heap.size) [.int .i64 1, .int .i64 0, .int .i64 0, .int .i64 0] (by simp)).c 2 rfl
  have c3_0_3 : W3.cell? ⟨w.heap.size, 3, none⟩ = some (.int .i64 0) := (K3.out.at (w.heap.size) [.int .i64 1, .int .i64 0, .int .i64 0, .int .i64 0] (by simp)).c 3 rfl
  go_wp2
  go_ret
  exact ⟨rfl, K3.out.1⟩

set_option maxRecDepth 100000 in
set_option maxHeartbeats 4000000 in
theorem psign_lt (m d u D U : Int) (h : D < 0)
    (R : Hid (∀ w : World, Calls Try.prog 13 #[.agg #[.int .i64 0, .int .i64 m, .int .i64 d, .int .i64 u]] w fun r' w' => r' = .returned (.bool true) ∧ Below w.heap.size w w'))
    (L : Hid (∀ w : World, Calls Try.prog 21 #[.agg #[.int .i64 0, .int .i64 m, .int .i64 d, .int .i64 u]] w fun r' w' => r' = .returned (.agg #[.int .i64 0, .int .i64 0, .int .i64 D, .int .i64 U]) ∧ Below w.heap.size w w'))
    (w : World) :
    Calls Try.prog 18 #[.agg #[.int .i64 0, .int .i64 m, .int .i64 d, .int .i64 u]] w fun r' w' => r' = .returned (.int .i64 (-1)) ∧ Below w.heap.size w w' := by
  have h1 : (D == 0) = false := by simp; omega
  have K0 : Hid (BS w [(w.heap.size, [.int .i64 0, .int .i64 m, .int .i64 d, .int .i64 u])] (w.alloc (.cells #[.int .i64 0, .int .i64 m, .int .i64 d, .int .i64 u] 23))) := ((BS.start w).new [.int .i64 0, .int .i64 m, .int .i64 d, .int .i64 u] 23 rfl)
  go_enter Try.func18, Try.ntmps18
  go_wp2_with fail
  refine (R.out _).mono ?_
  rintro e W1 ⟨rfl, hb⟩
  have K1 : Hid (BS w [(w.heap.size, [.int .i64 0, .int .i64 m, .int .i64 d, .int .i64 u])] W1) := K0.out.below hb
  clear hb K0
  have c1_0_0 : W1.cell? ⟨w.heap.size, 0, none⟩ = some (.int .i64 0) := (K1.out.at (w.heap.size) [.int .i64 0, .int .i64 m, .int .i64 d, .int .i64 u] (by simp)).c 0 rfl
  have c1_0_1 : W1.cell? ⟨w.heap.size, 1, none⟩ = some (.int .i64 m) := (K1.out.at (w.heap.size) [.int .i64 0, .int .i64 m, .int .i64 d, .int .i64 u] (by simp)).c 1 rfl
  have c1_0_2 : W1.cell? ⟨w.heap.size, 2, none⟩ = some (.int .i64 d) := (K1.out.at (w.heap.size) [.int .i64 0, .int .i64 m, .int .i64 d, .int .i64 u] (by simp)).c 2 rfl
  have c1_0_3 : W1.cell? ⟨w.heap.size, 3, none⟩ = some (.int .i64 u) := (K1.out.at (w.heap.size) [.int .i64 0, .int .i64 m, .int .i64 d, .int .i64 u] (by simp)).c 3 rfl
  go_wp2_with fail
  refine (L.out _).mono ?_
  rintro e W2 ⟨rfl, hb⟩
  have K2 : Hid (BS w [(w.heap.size, [.int .i64 0, .int .i64 m, .int .i64 d, .int .i64 u])] W2) := K1.out.below hb
  clear c1_0_0 c1_0_1 c1_0_2 c1_0_3
  clear hb K1
  have c2_0_0 : W2.cell? ⟨w.heap.size, 0, none⟩ = some (.int .i64 0) := (K2.out.at (w.heap.size) [.int .i64 0, .int .i64 m, .int .i64 d, .int .i64 u] (by simp)).c 0 rfl
  have z2_0_0 : W2.frozen? ⟨w.heap.size, 0, none⟩ = false := (K2.out.at (w.heap.size) [.int .i64 0, .int .i64 m, .int .i64 d, .int .i64 u] (by simp)).f 0 rfl
  have c2_0_1 : W2.cell? ⟨w.heap.size, 1, none⟩ = some (.int .i64 m) := (K2.out.at (w.heap.size) [.int .i64 0, .int .i64 m, .int .i64 d, .int .i64 u] (by simp)).c 1 rfl
  have z2_0_1 : W2.frozen? ⟨w.heap.size, 1, none⟩ = false := (K2.out.at (w.heap.size) [.int .i64 0, .int .i64 m, .int .i64 d, .int .i64 u] (by simp)).f 1 rfl
  have c2_0_2 : W2.cell? ⟨w.heap.size, 2, none⟩ = some (.int .i64 d) := (K2.out.at (w.heap.size) [.int .i64 0, .int .i64 m, .int .i64 d, .int .i64 u] (by simp)).c 2 rfl
  have z2_0_2 : W2.frozen? ⟨w.heap.size, 2, none⟩ = false := (K2.out.at (w.heap.size) [.int .i64 0, .int .i64 m, .int .i64 d, .int .i64 u] (by simp)).f 2 rfl
  have c2_0_3 : W2.cell? ⟨w.heap.size, 3, none⟩ = some (.int .i64 u) := (K2.out.at (w.heap.size) [.int .i64 0, .int .i64 m, .int .i64 d, .int .i64 u] (by simp)).c 3 rfl
  have z2_0_3 : W2.frozen? ⟨w.heap.size, 3, none⟩ = false := (K2.out.at (w.heap.size) [.int .i64 0, .int .i64 m, .int .i64 d, .int .i64 u] (by simp)).f 3 rfl
  have Mz2 : Hid (BS w [(w.heap.size, [.int .i64 0, .int .i64 0, .int .i64 D, .int .i64 U])] (W2.setCells (w.heap.size) 0 [.int .i64 0, .int .i64 0, .int .i64 D, .int .i64 U])) := K2.out.set [.int .i64 0, .int .i64 0, .int .i64 D, .int .i64 U] rfl (fun x hx => by cases hx)
  go_upto_region 4 with fail
  refine gen_to (BS w [(w.heap.size, [.int .i64 0, .int .i64 0, .int .i64 D, .int .i64 U])]) Mz2.out ?_
  clear c2_0_0 z2_0_0 c2_0_1 z2_0_1 c2_0_2 z2_0_2 c2_0_3 z2_0_3
  intro W3 K3'
  have K3 : Hid (BS w [(w.heap.size, [.int .i64 0, .int .i64 0, .int .i64 D, .int .i64 U])] W3) := K3'
  clear K3' Mz2 K2
  have c3_0_0 : W3.cell? ⟨w.heap.size, 0, none⟩ = some (.int .i64 0) := (K3.out.at (w.heap.size) [.int .i64 0, .int .i64 0, .int .i64 D, .int .i64 U] (by simp)).c 0 rfl
  have c3_0_1 : W3.cell? ⟨w.heap.size, 1, none⟩ = some (.int .i64 0) := (K3.out.at (w.heap.size) [.int .i64 0, .int .i64 0, .int .i64 D, .int .i64 U] (by simp)).c 1 rfl
  have c3_0_2 : W3.cell? ⟨w.heap.size, 2, none⟩ = some (.int .i64 D) := (K3.out.at (w.heap.size) [.int .i64 0, .int .i64 0, .int .i64 D, .int .i64 U] (by simp)).c 2 rfl
  have c3_0_3 : W3.cell? ⟨w.heap.size, 3, none⟩ = some (.int .i64 U) := (K3.out.at (w.heap.size) [.int .i64 0, .int .i64 0, .int .i64 D, .int .i64 U] (by simp)).c 3 rfl
  go_wp2
  go_ret
  exact ⟨rfl, K3.out.1⟩

set_option maxRecDepth 100000 in
set_option maxHeartbeats 4000000 in
theorem psign_gt (m d u D U : Int) (h : 0 < D)
    (R : Hid (∀ w : World, Calls Try.prog 13 #[.agg #[.int .i64 0, .int .i64 m, .int .i64 d, .int .i64 u]] w fun r' w' => r' = .returned (.bool true) ∧ Below w.heap.size w w'))
    (L : Hid (∀ w : World, Calls Try.prog 21 #[.agg #[.int .i64 0, .int .i64 m, .int .i64 d, .int .i64 u]] w fun r' w' => r' = .returned (.agg #[.int .i64 0, .int .i64 0, .int .i64 D, .int .i64 U]) ∧ Below w.heap.size w w'))
    (w : World) :
    Calls Try.prog 18 #[.agg #[.int .i64 0, .int .i64 m, .int .i64 d, .int .i64 u]] w fun r' w' => r' = .returned (.int .i64 1) ∧ Below w.heap.size w w' := by
  have h1 : (D == 0) = false := by simp; omega
  have h2 : ¬ D < 0 := by omega
  have K0 : Hid (BS w [(w.heap.size, [.int .i64 0, .int .i64 m, .int .i64 d, .int .i64 u])] (w.alloc (.cells #[.int .i64 0, .int .i64 m, .int .i64 d, .int .i64 u] 23))) := ((BS.start w).new [.int .i64 0, .int .i64 m, .int .i64 d, .int .i64 u] 23 rfl)
  go_enter Try.func18, Try.ntmps18
  go_wp2_with fail
  refine (R.out _).mono ?_
  rintro e W1 ⟨rfl, hb⟩
  have K1 : Hid (BS w [(w.heap.size, [.int .i64 0, .int .i64 m, .int .i64 d, .int .i64 u])] W1) := K0.out.below hb
  clear hb K0
  have c1_0_0 : W1.cell? ⟨w.heap.size, 0, none⟩ = some (.int .i64 0) := (K1.out.at (w.heap.size) [.int .i64 0, .int .i64 m, .int .i64 d, .int .i64 u] (by simp)).c 0 rfl
  have c1_0_1 : W1.cell? ⟨w.heap.size, 1, none⟩ = some (.int .i64 m) := (K1.out.at (w.heap.size) [.int .i64 0, .int .i64 m, .int .i64 d, .int .i64 u] (by simp)).c 1 rfl
  have c1_0_2 : W1.cell? ⟨w.heap.size, 2, none⟩ = some (.int .i64 d) := (K1.out.at (w.heap.size) [.int .i64 0, .int .i64 m, .int .i64 d, .int .i64 u] (by simp)).c 2 rfl
  have c1_0_3 : W1.cell? ⟨w.heap.size, 3, none⟩ = some (.int .i64 u) := (K1.out.at (w.heap.size) [.int .i64 0, .int .i64 m, .int .i64 d, .int .i64 u] (by simp)).c 3 rfl
  go_wp2_with fail
  refine (L.out _).mono ?_
  rintro e W2 ⟨rfl, hb⟩
  have K2 : Hid (BS w [(w.heap.size, [.int .i64 0, .int .i64 m, .int .i64 d, .int .i64 u])] W2) := K1.out.below hb
  clear c1_0_0 c1_0_1 c1_0_2 c1_0_3
  clear hb K1
  have c2_0_0 : W2.cell? ⟨w.heap.size, 0, none⟩ = some (.int .i64 0) := (K2.out.at (w.heap.size) [.int .i64 0, .int .i64 m, .int .i64 d, .int .i64 u] (by simp)).c 0 rfl
  have z2_0_0 : W2.frozen? ⟨w.heap.size, 0, none⟩ = false := (K2.out.at (w.heap.size) [.int .i64 0, .int .i64 m, .int .i64 d, .int .i64 u] (by simp)).f 0 rfl
  have c2_0_1 : W2.cell? ⟨w.heap.size, 1, none⟩ = some (.int .i64 m) := (K2.out.at (w.heap.size) [.int .i64 0, .int .i64 m, .int .i64 d, .int .i64 u] (by simp)).c 1 rfl
  have z2_0_1 : W2.frozen? ⟨w.heap.size, 1, none⟩ = false := (K2.out.at (w.heap.size) [.int .i64 0, .int .i64 m, .int .i64 d, .int .i64 u] (by simp)).f 1 rfl
  have c2_0_2 : W2.cell? ⟨w.heap.size, 2, none⟩ = some (.int .i64 d) := (K2.out.at (w.heap.size) [.int .i64 0, .int .i64 m, .int .i64 d, .int .i64 u] (by simp)).c 2 rfl
  have z2_0_2 : W2.frozen? ⟨w.heap.size, 2, none⟩ = false := (K2.out.at (w.heap.size) [.int .i64 0, .int .i64 m, .int .i64 d, .int .i64 u] (by simp)).f 2 rfl
  have c2_0_3 : W2.cell? ⟨w.heap.size, 3, none⟩ = some (.int .i64 u) := (K2.out.at (w.heap.size) [.int .i64 0, .int .i64 m, .int .i64 d, .int .i64 u] (by simp)).c 3 rfl
  have z2_0_3 : W2.frozen? ⟨w.heap.size, 3, none⟩ = false := (K2.out.at (w.heap.size) [.int .i64 0, .int .i64 m, .int .i64 d, .int .i64 u] (by simp)).f 3 rfl
  have Mz2 : Hid (BS w [(w.heap.size, [.int .i64 0, .int .i64 0, .int .i64 D, .int .i64 U])] (W2.setCells (w.heap.size) 0 [.int .i64 0, .int .i64 0, .int .i64 D, .int .i64 U])) := K2.out.set [.int .i64 0, .int .i64 0, .int .i64 D, .int .i64 U] rfl (fun x hx => by cases hx)
  go_upto_region 4 with fail
  refine gen_to (BS w [(w.heap.size, [.int .i64 0, .int .i64 0, .int .i64 D, .int .i64 U])]) Mz2.out ?_
  clear c2_0_0 z2_0_0 c2_0_1 z2_0_1 c2_0_2 z2_0_2 c2_0_3 z2_0_3
  intro W3 K3'
  have K3 : Hid (BS w [(w.heap.size, [.int .i64 0, .int .i64 0, .int .i64 D, .int .i64 U])] W3) := K3'
  clear K3' Mz2 K2
  have c3_0_0 : W3.cell? ⟨w.heap.size, 0, none⟩ = some (.int .i64 0) := (K3.out.at (w.heap.size) [.int .i64 0, .int .i64 0, .int .i64 D, .int .i64 U] (by simp)).c 0 rfl
  have c3_0_1 : W3.cell? ⟨w.heap.size, 1, none⟩ = some (.int .i64 0) := (K3.out.at (w.heap.size) [.int .i64 0, .int .i64 0, .int .i64 D, .int .i64 U] (by simp)).c 1 rfl
  have c3_0_2 : W3.cell? ⟨w.heap.size, 2, none⟩ = some (.int .i64 D) := (K3.out.at (w.heap.size) [.int .i64 0, .int .i64 0, .int .i64 D, .int .i64 U] (by simp)).c 2 rfl
  have c3_0_3 : W3.cell? ⟨w.heap.size, 3, none⟩ = some (.int .i64 U) := (K3.out.at (w.heap.size) [.int .i64 0, .int .i64 0, .int .i64 D, .int .i64 U] (by simp)).c 3 rfl
  go_wp2
  go_ret
  exact ⟨rfl, K3.out.1⟩

set_option maxRecDepth 100000 in
set_option maxHeartbeats 4000000 in
theorem psign_u (m d u U : Int) (h : U ≠ 0)
    (R : Hid (∀ w : World, Calls Try.prog 13 #[.agg #[.int .i64 0, .int .i64 m, .int .i64 d, .int .i64 u]] w fun r' w' => r' = .returned (.bool true) ∧ Below w.heap.size w w'))
    (L : Hid (∀ w : World, Calls Try.prog 21 #[.agg #[.int .i64 0, .int .i64 m, .int .i64 d, .int .i64 u]] w fun r' w' => r' = .returned (.agg #[.int .i64 0, .int .i64 0, .int .i64 0, .int .i64 U]) ∧ Below w.heap.size w w'))
    (w : World) :
    Calls Try.prog 18 #[.agg #[.int .i64 0, .int .i64 m, .int .i64 d, .int .i64 u]] w fun r' w' => r' = .returned (.int .i64 1) ∧ Below w.heap.size w w' := by
  have h1 : (U == 0) = false := by simpa using h
  have K0 : Hid (BS w [(w.heap.size, [.int .i64 0, .int .i64 m, .int .i64 d, .int .i64 u])] (w.alloc (.cells #[.int .i64 0, .int .i64 m, .int .i64 d, .int .i64 u] 23))) := ((BS.start w).new [.int .i64 0, .int .i64 m, .int .i64 d, .int .i64 u] 23 rfl)
  go_enter Try.func18, Try.ntmps18
  go_wp2_with fail
  refine (R.out _).mono ?_
  rintro e W1 ⟨rfl, hb⟩
  have K1 : Hid (BS w [(w.heap.size, [.int .i64 0, .int .i64 m, .int .i64 d, .int .i64 u])] W1) := K0.out.below hb
  clear hb K0
  have c1_0_0 : W1.cell? ⟨w.heap.size, 0, none⟩ = some (.int .i64 0) := (K1.out.at (w.heap.size) [.int .i64 0, .int .i64 m, .int .i64 d, .int .i64 u] (by simp)).c 0 rfl
  have c1_0_1 : W1.cell? ⟨w.heap.size, 1, none⟩ = some (.int .i64 m) := (K1.out.at (w.heap.size) [.int .i64 0, .int .i64 m, .int .i64 d, .int .i64 u] (by simp)).c 1 rfl
  have c1_0_2 : W1.cell? ⟨w.heap.size, 2, none⟩ = some (.int .i64 d) := (K1.out.at (w.heap.size) [.int .i64 0, .int .i64 m, .int .i64 d, .int .i64 u] (by simp)).c 2 rfl
  have c1_0_3 : W1.cell? ⟨w.heap.size, 3, none⟩ = some (.int .i64 u) := (K1.out.at (w.heap.size) [.int .i64 0, .int .i64 m, .int .i64 d, .int .i64 u] (by simp)).c 3 rfl
  go_wp2_with fail
  refine (L.out _).mono ?_
  rintro e W2 ⟨rfl, hb⟩
  have K2 : Hid (BS w [(w.heap.size, [.int .i64 0, .int .i64 m, .int .i64 d, .int .i64 u])] W2) := K1.out.below hb
  clear c1_0_0 c1_0_1 c1_0_2 c1_0_3
  clear hb K1
  have c2_0_0 : W2.cell? ⟨w.heap.size, 0, none⟩ = some (.int .i64 0) := (K2.out.at (w.heap.size) [.int .i64 0, .int .i64 m, .int .i64 d, .int .i64 u] (by simp)).c 0 rfl
  have z2_0_0 : W2.frozen? ⟨w.heap.size, 0, none⟩ = false := (K2.out.at (w.heap.size) [.int .i64 0, .int .i64 m, .int .i64 d, .int .i64 u] (by simp)).f 0 rfl
  have c2_0_1 : W2.cell? ⟨w.heap.size, 1, none⟩ = some (.int .i64 m) := (K2.out.at (w.heap.size) [.int .i64 0, .int .i64 m, .int .i64 d, .int .i64 u] (by simp)).c 1 rfl
  have z2_0_1 : W2.frozen? ⟨w.heap.size, 1, none⟩ = false := (K2.out.at (w.heap.size) [.int .i64 0, .int .i64 m, .int .i64 d, .int .i64 u] (by simp)).f 1 rfl
  have c2_0_2 : W2.cell? ⟨w.heap.size, 2, none⟩ = some (.int .i64 d) := (K2.out.at (w.heap.size) [.int .i64 0, .int .i64 m, .int .i64 d, .int .i64 u] (by simp)).c 2 rfl
  have z2_0_2 : W2.frozen? ⟨w.heap.size, 2, none⟩ = false := (K2.out.at (w.heap.size) [.int .i64 0, .int .i64 m, .int .i64 d, .int .i64 u] (by simp)).f 2 rfl
  have c2_0_3 : W2.cell? ⟨w.heap.size, 3, none⟩ = some (.int .i64 u) := (K2.out.at (w.heap.size) [.int .i64 0, .int .i64 m, .int .i64 d, .int .i64 u] (by simp)).c 3 rfl
  have z2_0_3 : W2.frozen? ⟨w.heap.size, 3, none⟩ = false := (K2.out.at (w.heap.size) [.int .i64 0, .int .i64 m, .int .i64 d, .int .i64 u] (by simp)).f 3 rfl
  have Mz2 : Hid (BS w [(w.heap.size, [.int .i64 0, .int .i64 0, .int .i64 0, .int .i64 U])] (W2.setCells (w.heap.size) 0 [.int .i64 0, .int .i64 0, .int .i64 0, .int .i64 U])) := K2.out.set [.int .i64 0, .int .i64 0, .int .i64 0, .int .i64 U] rfl (fun x hx => by cases hx)
  go_upto_region 4 with fail
  refine gen_to (BS w [(w.heap.size, [.int .i64 0, .int .i64 0, .int .i64 0, .int .i64 U])]) Mz2.out ?_
  clear c2_0_0 z2_0_0 c2_0_1 z2_0_1 c2_0_2 z2_0_2 c2_0_3 z2_0_3
  intro W3 K3'
  have K3 : Hid (BS w [(w.heap.size, [.int .i64 0, .int .i64 0, .int .i64 0, .int .i64 U])] W3) := K3'
  clear K3' Mz2 K2
  have c3_0_0 : W3.cell? ⟨w.heap.size, 0, none⟩ = some (.int .i64 0) := (K3.out.at (w.heap.size) [.int .i64 0, .int .i64 0, .int .i64 0, .int .i64 U] (by simp)).c 0 rfl
  have c3_0_1 : W3.cell? ⟨w.heap.size, 1, none⟩ = some (.int .i64 0) := (K3.out.at (w.heap.size) [.int .i64 0, .int .i64 0, .int .i64 0, .int .i64 U] (by simp)).c 1 rfl
  have c3_0_2 : W3.cell? ⟨w.heap.size, 2, none⟩ = some (.int .i64 0) := (K3.out.at (w.heap.size) [.int .i64 0, .int .i64 0, .int .i64 0, .int .i64 U] (by simp)).c 2 rfl
  have c3_0_3 : W3.cell? ⟨w.heap.size, 3, none⟩ = some (.int .i64 U) := (K3.out.at (w.heap.size) [.int .i64 0, .int .i64 0, .int .i64 0, .int .i64 U] (by simp)).c 3 rfl
  go_wp2
  go_ret
  exact ⟨rfl, K3.out.1⟩

/-- below nought, nought, above? -/
def sgA (i m d u : Int) : Int := if pR i m d u = true then (if i = 0 then (if lvD m d u = 0 ∧ lvU u = 0 then 0 else if lvD m d u < 0 then -1 else 1) else i) else 0

theorem psign_any (i m d u : Int) (u1 : -9223372036854775808 ≤ u) (u2 : u ≤ 9223372036854775807) (w : World) :
    Calls Try.prog 18 #[.agg #[.int .i64 i, .int .i64 m, .int .i64 d, .int .i64 u]] w fun r w' => r = .returned (.int .i64 (sgA i m d u)) ∧ Below w.heap.size w w' := by
  unfold sgA
  cases h : pR i m d u
  · rw [if_neg (by decide)]; exact psign_no i m d u (fun w => by rw [← h]; exact pr_any i m d u u1 u2 w) w
  · rw [if_pos rfl]
    have R : ∀ w : World, Calls Try.prog 13 #[.agg #[.int .i64 i, .int .i64 m, .int .i64 d, .int .i64 u]] w fun r' w' => r' = .returned (.bool true) ∧ Below w.heap.size w w' := fun w => by rw [← h]; exact pr_any i m d u u1 u2 w
    have q := pR_yes h
    have L := fun w => level_any i m d u (by omega) (by omega) (by omega) (by omega) u1 u2 w
    by_cases h0 : i = 0
    · subst h0
      rw [if_pos rfl]
      by_cases k : lvD m d u = 0 ∧ lvU u = 0
      · rw [if_pos k]; rw [k.1, k.2] at L; exact psign_z m d u R L w
      · rw [if_neg k]
        by_cases l : lvD m d u < 0
        · rw [if_pos l]; exact psign_lt m d u _ _ l R L w
        · rw [if_neg l]
          by_cases z : lvD m d u = 0
          · rw [z] at L; exact psign_u m d u _ (fun e => k ⟨z, e⟩) R L w
          · exact psign_gt m d u _ _ (by omega) R L w
    · rw [if_neg h0]
      rcases q with q | ⟨q, rfl, rfl, rfl⟩
      · exact absurd q.1 h0
      · rw [show lvD 0 0 0 = 0 by decide, show lvU 0 = 0 by decide] at L
        rcases q with rfl | rfl
        · exact psign_m 0 0 0 R L w
        · exact psign_p 0 0 0 R L w

set_option maxRecDepth 100000 in
set_option maxHeartbeats 4000000 in
theorem pcmp_no1 (i m d u j n e v : Int)
    (X : Hid (∀ w : World, Calls Try.prog 13 #[.agg #[.int .i64 i, .int .i64 m, .int .i64 d, .int .i64 u]] w fun r' w' => r' = .returned (.bool false) ∧ Below w.heap.size w w'))
    (w : World) :
    Calls Try.prog 12 #[.agg #[.int .i64 i, .int .i64 m, .int .i64 d, .int .i64 u], .agg #[.int .i64 j, .int .i64 n, .int .i64 e, .int .i64 v]] w fun r' w' => r' = .returned (.int .i64 0) ∧ Below w.heap.size w w' := by
  have K0 : Hid (BS w [(w.heap.size + 1, [.int .i64 j, .int .i64 n, .int .i64 e, .int .i64 v]), (w.heap.size, [.int .i64 i, .int .i64 m, .int .i64 d, .int .i64 u])] ((w.alloc (.cells #[.int .i64 i, .int .i64 m, .int .i64 d, .int .i64 u] 23)).alloc (.cells #[.int .i64 j, .int .i64 n, .int .i64 e, .int .i64 v] 23))) := (((BS.start w).new [.int .i64 i, .int .i64 m, .int .i64 d, .int .i64 u] 23 rfl).new [.int .i64 j, .int .i64 n, .int .i64 e, .int .i64 v] 23 (by simp))
  go_enter Try.func12, Try.ntmps12
  go_wp2_with fail
  refine (X.out _).mono ?_
  rintro e W1 ⟨rfl, hb⟩
  have K1 : Hid (BS w [(w.heap.size + 1, [.int .i64 j, .int .i64 n, .int .i64 e, .int .i64 v]), (w.heap.size, [.int .i64 i, .int .i64 m, .int .i64 d, .int .i64 u])] W1) := K0.out.below hb
  clear hb K0
  have c1_0_0 : W1.cell? ⟨w.heap.size + 1, 0, none⟩ = some (.int .i64 j) := (K1.out.at (w.heap.size + 1) [.int .i64 j, .int .i64 n, .int .i64 e, .int .i64 v] (by simp)).c 0 rfl
  have c1_0_1 : W1.cell? ⟨w.heap.size + 1, 1, none⟩ = some (.int .i64 n) := (K1.out.at (w.heap.size + 1) [.int .i64 j, .int .i64 n, .int .i64 e, .int .i64 v] (by simp)).c 1 rfl
  have c1_0_2 : W1.cell? ⟨w.heap.size + 1, 2, none⟩ = some (.int .i64 e) := (K1.out.at (w.heap.size + 1) [.int .i64 j, .int .i64 n, .int .i64 e, .int .i64 v] (by simp)).c 2 rfl
  have c1_0_3 : W1.cell? ⟨w.heap.size + 1, 3, none⟩ = some (.int .i64 v) := (K1.out.at (w.heap.size + 1) [.int .i64 j, .int .i64 n, .int .i64 e, .int .i64 v] (by simp)).c 3 rfl
  have c1_1_0 : W1.cell? ⟨w.heap.size, 0, none⟩ = some (.int .i64 i) := (K1.out.at (w.heap.size) [.int .i64 i, .int .i64 m, .int .i64 d, .int .i64 u] (by simp)).c 0 rfl
  have c1_1_1 : W1.cell? ⟨w.heap.size, 1, none⟩ = some (.int .i64 m) := (K1.out.at (w.heap.size) [.int .i64 i, .int .i64 m, .int .i64 d, .int .i64 u] (by simp)).c 1 rfl
  have c1_1_2 : W1.cell? ⟨w.heap.size, 2, none⟩ = some (.int .i64 d) := (K1.out.at (w.heap.size) [.int .i64 i, .int .i64 m, .int .i64 d, .int .i64 u] (by simp)).c 2 rfl
  have c1_1_3 : W1.cell? ⟨w.heap.size, 3, none⟩ = some (.int .i64 u) := (K1.out.at (w.heap.size) [.int .i64 i, .int .i64 m, .int .i64 d, .int .i64 u] (by simp)).c 3 rfl
  go_wp2
  go_ret
  exact ⟨rfl, K1.out.1⟩

set_option maxRecDepth 100000 in
set_option maxHeartbeats 4000000 in
theorem pcmp_no2 (i m d u j n e v : Int)
    (X : Hid (∀ w : World, Calls Try.prog 13 #[.agg #[.int .i64 i, .int .i64 m, .int .i64 d, .int .i64 u]] w fun r' w' => r' = .returned (.bool true) ∧ Below w.heap.size w w'))
    (Y : Hid (∀ w : World, Calls Try.prog 13 #[.agg #[.int .i64 j, .int .i64 n, .int .i64 e, .int .i64 v]] w fun r' w' => r' = .returned (.bool false) ∧ Below w.heap.size w w'))
    (w : World) :
    Calls Try.prog 12 #[.agg #[.int .i64 i, .int .i64 m, .int .i64 d, .int .i64 u], .agg #[.int .i64 j, .int .i64 n, .int .i64 e, .int .i64 v]] w fun r' w' => r' = .returned (.int .i64 0) ∧ Below w.heap.size w w' := by
  have K0 : Hid (BS w [(w.heap.size + 1, [.int .i64 j, .int .i64 n, .int .i64 e, .int .i64 v]), (w.heap.size, [.int .i64 i, .int .i64 m, .int .i64 d, .int .i64 u])] ((w.alloc (.cells #[.int .i64 i, .int .i64 m, .int .i64 d, .int .i64 u] 23)).alloc (.cells #[.int .i64 j, .int .i64 n, .int .i64 e, .int .i64 v] 23))) := (((BS.start w).new [.int .i64 i, .int .i64 m, .int .i64 d, .int .i64 u] 23 rfl).new [.int .i64 j, .int .i64 n, .int .i64 e, .int .i64 v] 23 (by simp))
  go_enter Try.func12, Try.ntmps12
  go_wp2_with fail
  refine (X.out _).mono ?_
  rintro e W1 ⟨rfl, hb⟩
  have K1 : Hid (BS w [(w.heap.size + 1, [.int .i64 j, .int .i64 n, .int .i64 e, .int .i64 v]), (w.heap.size, [.int .i64 i, .int .i64 m, .int .i64 d, .int .i64 u])] W1) := K0.out.below hb
  clear hb K0
  have c1_0_0 : W1.cell? ⟨w.heap.size + 1, 0, none⟩ = some (.int .i64 j) := (K1.out.at (w.heap.size + 1) [.int .i64 j, .int .i64 n, .int .i64 e, .int .i64 v] (by simp)).c 0 rfl
  have c1_0_1 : W1.cell? ⟨w.heap.size + 1, 1, none⟩ = some (.int .i64 n) := (K1.out.at (w.heap.size + 1) [.int .i64 j, .int .i64 n, .int .i64 e, .int .i64 v] (by simp)).c 1 rfl
  have c1_0_2 : W1.cell? ⟨w.heap.size + 1, 2, none⟩ = some (.int .i64 e) := (K1.out.at (w.heap.size + 1) [.int .i64 j, .int .i64 n, .int .i64 e, .int .i64 v] (by simp)).c 2 rfl
  have c1_0_3 : W1.cell? ⟨w.heap.size + 1, 3, none⟩ = some (.int .i64 v) := (K1.out.at (w.heap.size + 1) [.int .i64 j, .int .i64 n, .int .i64 e, .int .i64 v] (by simp)).c 3 rfl
  have c1_1_0 : W1.cell? ⟨w.heap.size, 0, none⟩ = some (.int .i64 i) := (K1.out.at (w.heap.size) [.int .i64 i, .int .i64 m, .int .i64 d, .int .i64 u] (by simp)).c 0 rfl
  have c1_1_1 : W1.cell? ⟨w.heap.size, 1, none⟩ = some (.int .i64 m) := (K1.out.at (w.heap.size) [.int .i64 i, .int .i64 m, .int .i64 d, .int .i64 u] (by simp)).c 1 rfl
  have c1_1_2 : W1.cell? ⟨w.heap.size, 2, none⟩ = some (.int .i64 d) := (K1.out.at (w.heap.size) [.int .i64 i, .int .i64 m, .int .i64 d, .int .i64 u] (by simp)).c 2 rfl
  have c1_1_3 : W1.cell? ⟨w.heap.size, 3, none⟩ = some (.int .i64 u) := (K1.out.at (w.heap.size) [.int .i64 i, .int .i64 m, .int .i64 d, .int .i64 u] (by simp)).c 3 rfl
  go_wp2_with fail
  refine (Y.out _).mono ?_
  rintro e W2 ⟨rfl, hb⟩
  have K2 : Hid (BS w [(w.heap.size + 1, [.int .i64 j, .int .i64 n, .int .i64 e, .int .i64 v]), (w.heap.size, [.int .i64 i, .int .i64 m, .int .i64 d, .int .i64 u])] W2) := K1.out.below hb
  clear c1_0_0 c1_0_1 c1_0_2 c1_0_3 c1_1_0 c1_1_1 c1_1_2 c1_1_3
  clear hb K1
  have c2_0_0 : W2.cell? ⟨w.heap.size + 1, 0, none⟩ = some (.int .i64 j) := (K2.out.at (w.heap.size + 1) [.int .i64 j, .int .i64 n, .int .i64 e, .int .i64 v] (by simp)).c 0 rfl
  have c2_0_1 : W2.cell? ⟨w.heap.size + 1, 1, none⟩ = some (.int .i64 n) := (K2.out.at (w.heap.size + 1) [.int .i64 j, .int .i64 n, .int .i64 e, .int .i64 v] (by simp)).c 1 rfl
  have c2_0_2 : W2.cell? ⟨w.heap.size + 1, 2, none⟩ = some (.int .i64 e) := (K2.out.at (w.heap.size + 1) [.int .i64 j, .int .i64 n, .int .i64 e, .int .i64 v] (by simp)).c 2 rfl
  have c2_0_3 : W2.cell? ⟨w.heap.size + 1, 3, none⟩ = some (.int .i64 v) := (K2.out.at (w.heap.size + 1) [.int .i64 j, .int .i64 n, .int .i64 e, .int .i64 v] (by simp)).c 3 rfl
  have c2_1_0 : W2.cell? ⟨w.heap.size, 0, none⟩ = some (.int .i64 i) := (K2.out.at (w.heap.size) [.int .i64 i, .int .i64 m, .int .i64 d, .int .i64 u] (by simp)).c 0 rfl
  have c2_1_1 : W2.cell? ⟨w.heap.size, 1, none⟩ = some (.int .i64 m) := (K2.out.at (w.heap.size) [.int .i64 i, .int .i64 m, .int .i64 d, .int .i64 u] (by simp)).c 1 rfl
  have c2_1_2 : W2.cell? ⟨w.heap.size, 2, none⟩ = some (.int .i64 d) := (K2.out.at (w.heap.size) [.int .i64 i, .int .i64 m, .int .i64 d, .int .i64 u] (by simp)).c 2 rfl
  have c2_1_3 : W2.cell? ⟨w.heap.size, 3, none⟩ = some (.int .i64 u) := (K2.out.at (w.heap.size) [.int .i64 i, .int .i64 m, .int .i64 d, .int .i64 u] (by simp)).c 3 rfl
  go_wp2
  go_ret
  exact ⟨rfl, K2.out.1⟩

set_option maxRecDepth 100000 in
set_option maxHeartbeats 4000000 in
theorem pcmp_run (i m d u j n e v D U F V a b c : Int)
    (X : Hid (∀ w : World, Calls Try.prog 13 #[.agg #[.int .i64 i, .int .i64 m, .int .i64 d, .int .i64 u]] w fun r' w' => r' = .returned (.bool true) ∧ Below w.heap.size w w'))
    (Y : Hid (∀ w : World, Calls Try.prog 13 #[.agg #[.int .i64 j, .int .i64 n, .int .i64 e, .int .i64 v]] w fun r' w' => r' = .returned (.bool true) ∧ Below w.heap.size w w'))
    (L1 : Hid (∀ w : World, Calls Try.prog 21 #[.agg #[.int .i64 i, .int .i64 m, .int .i64 d, .int .i64 u]] w fun r' w' => r' = .returned (.agg #[.int .i64 i, .int .i64 0, .int .i64 D, .int .i64 U]) ∧ Below w.heap.size w w'))
    (L2 : Hid (∀ w : World, Calls Try.prog 21 #[.agg #[.int .i64 j, .int .i64 n, .int .i64 e, .int .i64 v]] w fun r' w' => r' = .returned (.agg #[.int .i64 j, .int .i64 0, .int .i64 F, .int .i64 V]) ∧ Below w.heap.size w w'))
    (C1 : Hid (∀ w : World, Calls Try.prog 23 #[.int .i64 i, .int .i64 j] w fun r' w' => r' = .returned (.int .i64 a) ∧ w' = w))
    (C2 : Hid (∀ w : World, Calls Try.prog 19 #[.int .i64 D, .int .i64 F] w fun r' w' => r' = .returned (.int .i64 b) ∧ w' = w))
    (C3 : Hid (∀ w : World, Calls Try.prog 19 #[.int .i64 U, .int .i64 V] w fun r' w' => r' = .returned (.int .i64 c) ∧ w' = w))
    (w : World) :
    Calls Try.prog 12 #[.agg #[.int .i64 i, .int .i64 m, .int .i64 d, .int .i64 u], .agg #[.int .i64 j, .int .i64 n, .int .i64 e, .int .i64 v]] w fun r' w' => r' = .returned (.int .i64 (orV a b c)) ∧ Below w.heap.size w w' := by
  have K0 : Hid (BS w [(w.heap.size + 1, [.int .i64 j, .int .i64 n, .int .i64 e, .int .i64 v]), (w.heap.size, [.int .i64 i, .int .i64 m, .int .i64 d, .int .i64 u])] ((w.alloc (.cells #[.int .i64 i, .int .i64 m, .int .i64 d, .int .i64 u] 23)).alloc (.cells #[.int .i64 j, .int .i64 n, .int .i64 e, .int .i64 v] 23))) := (((BS.start w).new [.int .i64 i, .int .i64 m, .int .i64 d, .int .i64 u] 23 rfl).new [.int .i64 j, .int .i64 n, .int .i64 e, .int .i64 v] 23 (by simp))
  go_enter Try.func12, Try.ntmps12
  go_wp2_with fail
  refine (X.out _).mono ?_
  rintro e W1 ⟨rfl, hb⟩
  have K1 : Hid (BS w [(w.heap.size + 1, [.int .i64 j, .int .i64 n, .int .i64 e, .int .i64 v]), (w.heap.size, [.int .i64 i, .int .i64 m, .int .i64 d, .int .i64 u])] W1) := K0.out.below hb
  clear hb K0
  have c1_0_0 : W1.cell? ⟨w.heap.size + 1, 0, none⟩ = some (.int .i64 j) := (K1.out.at (w.heap.size + 1) [.int .i64 j, .int .i64 n, .int .i64 e, .int .i64 v] (by simp)).c 0 rfl
  have c1_0_1 : W1.cell? ⟨w.heap.size + 1, 1, none⟩ = some (.int .i64 n) := (K1.out.at (w.heap.size + 1) [.int .i64 j, .int .i64 n, .int .i64 e, .int .i64 v] (by simp)).c 1 rfl
  have c1_0_2 : W1.cell? ⟨w.heap.size + 1, 2, none⟩ = some (.int .i64 e) := (K1.out.at (w.heap.size + 1) [.int .i64 j, .int .i64 n, .int .i64 e, .int .i64 v] (by simp)).c 2 rfl
  have c1_0_3 : W1.cell? ⟨w.heap.size + 1, 3, none⟩ = some (.int .i64 v) := (K1.out.at (w.heap.size + 1) [.int .i64 j, .int .i64 n, .int .i64 e, .int .i64 v] (by simp)).c 3 rfl
  have c1_1_0 : W1.cell? ⟨w.heap.size, 0, none⟩ = some (.int .i64 i) := (K1.out.at (w.heap.size) [.int .i64 i, .int .i64 m, .int .i64 d, .int .i64 u] (by simp)).c 0 rfl
  have c1_1_1 : W1.cell? ⟨w.heap.size, 1, none⟩ = some (.int .i64 m) := (K1.out.at (w.heap.size) [.int .i64 i, .int .i64 m, .int .i64 d, .int .i64 u] (by simp)).c 1 rfl
  have c1_1_2 : W1.cell? ⟨w.heap.size, 2, none⟩ = some (.int .i64 d) := (K1.out.at (w.heap.size) [.int .i64 i, .int .i64 m, .int .i64 d, .int .i64 u] (by simp)).c 2 rfl
  have c1_1_3 : W1.cell? ⟨w.heap.size, 3, none⟩ = some (.int .i64 u) := (K1.out.at (w.heap.size) [.int .i64 i, .int .i64 m, .int .i64 d, .int .i64 u] (by simp)).c 3 rfl
  go_wp2_with fail
  refine (Y.out _).mono ?_
  rintro e W2 ⟨rfl, hb⟩
  have K2 : Hid (BS w [(w.heap.size + 1, [.int .i64 j, .int .i64 n, .int .i64 e, .int .i64 v]), (w.heap.size, [.int .i64 i, .int .i64 m, .int .i64 d, .int .i64 u])] W2) := K1.out.below hb
  clear c1_0_0 c1_0_1 c1_0_2 c1_0_3 c1_1_0 c1_1_1 c1_1_2 c1_1_3
  clear hb K1
  have c2_0_0 : W2.cell? ⟨w.heap.size + 1, 0, none⟩ = some (.int .i64 j) := (K2.out.at (w.heap.size + 1) [.int .i64 j, .int .i64 n, .int .i64 e, .int .i64 v] (by simp)).c 0 rfl
  have c2_0_1 : W2.cell? ⟨w.heap.size + 1, 1, none⟩ = some (.int .i64 n) := (K2.out.at (w.heap.size + 1) [.int .i64 j, .int .i64 n, .int .i64 e, .int .i64 v] (by simp)).c 1 rfl
  have c2_0_2 : W2.cell? ⟨w.heap.size + 1, 2, none⟩ = some (.int .i64 e) := (K2.out.at (w.heap.size + 1) [.int .i64 j, .int .i64 n, .int .i64 e, .int .i64 v] (by simp)).c 2 rfl
  have c2_0_3 : W2.cell? ⟨w.heap.size + 1, 3, none⟩ = some (.int .i64 v) := (K2.out.at (w.heap.size + 1) [.int .i64 j, .int .i64 n, .int .i64 e, .int .i64 v] (by simp)).c 3 rfl
  have c2_1_0 : W2.cell? ⟨w.heap.size, 0, none⟩ = some (.int .i64 i) := (K2.out.at (w.heap.size) [.int .i64 i, .int .i64 m, .int .i64 d, .int .i64 u] (by simp)).c 0 rfl
  have c2_1_1 : W2.cell? ⟨w.heap.size, 1, none⟩ = some (.int .i64 m) := (K2.out.at (w.heap.size) [.int .i64 i, .int .i64 m, .int .i64 d, .int .i64 u] (by simp)).c 1 rfl
  have c2_1_2 : W2.cell? ⟨w.heap.size, 2, none⟩ = some (.int .i64 d) := (K2.out.at (w.heap.size) [.int .i64 i, .int .i64 m, .int .i64 d, .int .i64 u] (by simp)).c 2 rfl
  have c2_1_3 : W2.cell? ⟨w.heap.size, 3, none⟩ = some (.int .i64 u) := (K2.out.at (w.heap.size) [.int .i64 i, .int .i64 m, .int .i64 d, .int .i64 u] (by simp)).c 3 rfl
  go_wp2_with fail
  clear c2_0_0 c2_0_1 c2_0_2 c2_0_3 c2_1_0 c2_1_1 c2_1_2 c2_1_3
  have KK := K2
  go_cut [] from 13 to 16 (fun wx => BS w [(w.heap.size + 1, [.int .i64 j, .int .i64 0, .int .i64 F, .int .i64 V]), (w.heap.size, [.int .i64 i, .int .i64 0, .int .i64 D, .int .i64 U])] wx)
  case first =>
    refine wp_region_held_drew (S := BW w) (by kernel_rfl) (BW.drew K2.out.1) (fun hHeld => ?_)
    refine wpAnyH_ready (rs := [0, 2]) (by kernel_rfl) (by simp) (AllReadyH.cons (o := { dst := some 13, op := _, type := _, pos := _, after := _, guard := none }) rfl (fun K hK => ?_) (AllReadyH.cons (o := { dst := some 15, op := _, type := _, pos := _, after := _, guard := none }) rfl (fun K hK => ?_) AllReadyH.nil))
    ·
      have l_0 := (KK.out.at (w.heap.size) [.int .i64 i, .int .i64 m, .int .i64 d, .int .i64 u] (by simp)).c 0 rfl
      have l_1 := (KK.out.at (w.heap.size) [.int .i64 i, .int .i64 m, .int .i64 d, .int .i64 u] (by simp)).c 1 rfl
      have l_2 := (KK.out.at (w.heap.size) [.int .i64 i, .int .i64 m, .int .i64 d, .int .i64 u] (by simp)).c 2 rfl
      have l_3 := (KK.out.at (w.heap.size) [.int .i64 i, .int .i64 m, .int .i64 d, .int .i64 u] (by simp)).c 3 rfl
      go_simp
      refine hK.out _ _ hHeld (fun hHeld => ?_)
      clear hK K l_0 l_1 l_2 l_3
      refine wpAnyH_ready (rs := [1, 2]) (by kernel_rfl) (by simp) (AllReadyH.cons (o := { dst := some 14, op := _, type := _, pos := _, after := _, guard := none }) rfl (fun K hK => ?_) (AllReadyH.cons (o := { dst := some 15, op := _, type := _, pos := _, after := _, guard := none }) rfl (fun K hK => ?_) AllReadyH.nil))
      ·
        go_simp
        refine (L1.out _).mono ?_
        rintro e v2 ⟨rfl, hb2⟩
        refine hK.out _ _ (hHeld.below hb2) (fun hHeld => ?_)
        replace KK : Hid (BS w [(w.heap.size + 1, [.int .i64 j, .int .i64 n, .int .i64 e, .int .i64 v]), (w.heap.size, [.int .i64 i, .int .i64 m, .int .i64 d, .int .i64 u])] v2) := by first | exact KK.out.below hb2 | exact KK.out.drew.below hb2
        clear hK K hb2
        refine wpAnyH_ready (rs := [2]) (by kernel_rfl) (by simp) (AllReadyH.cons (o := { dst := some 15, op := _, type := _, pos := _, after := _, guard := none }) rfl (fun K hK => ?_) AllReadyH.nil)
        have l_0 := (KK.out.at (w.heap.size + 1) [.int .i64 j, .int .i64 n, .int .i64 e, .int .i64 v] (by simp)).c 0 rfl
        have l_1 := (KK.out.at (w.heap.size + 1) [.int .i64 j, .int .i64 n, .int .i64 e, .int .i64 v] (by simp)).c 1 rfl
        have l_2 := (KK.out.at (w.heap.size + 1) [.int .i64 j, .int .i64 n, .int .i64 e, .int .i64 v] (by simp)).c 2 rfl
        have l_3 := (KK.out.at (w.heap.size + 1) [.int .i64 j, .int .i64 n, .int .i64 e, .int .i64 v] (by simp)).c 3 rfl
        go_simp
        refine hK.out _ _ hHeld (fun hHeld => ?_)
        clear hK K l_0 l_1 l_2 l_3
        refine wpAnyH_ready (rs := [3]) (by kernel_rfl) (by simp) (AllReadyH.cons (o := { dst := some 16, op := _, type := _, pos := _, after := _, guard := none }) rfl (fun K hK => ?_) AllReadyH.nil)
        go_simp
        refine (L2.out _).mono ?_
        rintro e v4 ⟨rfl, hb4⟩
        refine hK.out _ _ (hHeld.below hb4) (fun hHeld => ?_)
        replace KK : Hid (BS w [(w.heap.size + 1, [.int .i64 j, .int .i64 n, .int .i64 e, .int .i64 v]), (w.heap.size, [.int .i64 i, .int .i64 m, .int .i64 d, .int .i64 u])] v4) := by first | exact KK.out.below hb4 | exact KK.out.drew.below hb4
        clear hK K hb4
        refine wpAnyH_ready (rs := [4]) (by kernel_rfl) (by simp) (AllReadyH.cons (o := { dst := none, op := _, type := _, pos := _, after := _, guard := none }) rfl (fun K hK => ?_) AllReadyH.nil)
        have l_0 := KK.out.swap.first.c 0 rfl
        have l_1 := KK.out.swap.first.c 1 rfl
        have l_2 := KK.out.swap.first.c 2 rfl
        have l_3 := KK.out.swap.first.c 3 rfl
        have z_0 := KK.out.swap.first.f 0 rfl
        have z_1 := KK.out.swap.first.f 1 rfl
        have z_2 := KK.out.swap.first.f 2 rfl
        have z_3 := KK.out.swap.first.f 3 rfl
        go_simp
        refine hK.out _ _ (KK.out.swap.set [.int .i64 i, .int .i64 0, .int .i64 D, .int .i64 U] rfl (by intro x hx; simp only [List.mem_singleton] at hx; subst hx; simp)).1 (fun hHeld => ?_)
        refine gen_anyH (BS w [(w.heap.size, [.int .i64 i, .int .i64 0, .int .i64 D, .int .i64 U]), (w.heap.size + 1, [.int .i64 j, .int .i64 n, .int .i64 e, .int .i64 v])]) (KK.out.swap.set [.int .i64 i, .int .i64 0, .int .i64 D, .int .i64 U] rfl (by intro x hx; simp only [List.mem_singleton] at hx; subst hx; simp)) ?_
        clear hHeld hK K KK l_0 z_0 l_1 z_1 l_2 z_2 l_3 z_3
        intro v5 KK'
        have KK : Hid (BS w [(w.heap.size, [.int .i64 i, .int .i64 0, .int .i64 D, .int .i64 U]), (w.heap.size + 1, [.int .i64 j, .int .i64 n, .int .i64 e, .int .i64 v])] v5) := KK'
        have hHeld : BW w v5 := KK'.1
        clear KK'
        refine wpAnyH_ready (rs := [5]) (by kernel_rfl) (by simp) (AllReadyH.cons (o := { dst := none, op := _, type := _, pos := _, after := _, guard := none }) rfl (fun K hK => ?_) AllReadyH.nil)
        have l_0 := KK.out.swap.first.c 0 rfl
        have l_1 := KK.out.swap.first.c 1 rfl
        have l_2 := KK.out.swap.first.c 2 rfl
        have l_3 := KK.out.swap.first.c 3 rfl
        have z_0 := KK.out.swap.first.f 0 rfl
        have z_1 := KK.out.swap.first.f 1 rfl
        have z_2 := KK.out.swap.first.f 2 rfl
        have z_3 := KK.out.swap.first.f 3 rfl
        go_simp
        refine hK.out _ _ (KK.out.swap.set [.int .i64 j, .int .i64 0, .int .i64 F, .int .i64 V] rfl (by intro x hx; simp only [List.mem_singleton] at hx; subst hx; simp)).1 (fun hHeld => ?_)
        refine gen_anyH (BS w [(w.heap.size + 1, [.int .i64 j, .int .i64 0, .int .i64 F, .int .i64 V]), (w.heap.size, [.int .i64 i, .int .i64 0, .int .i64 D, .int .i64 U])]) (KK.out.swap.set [.int .i64 j, .int .i64 0, .int .i64 F, .int .i64 V] rfl (by intro x hx; simp only [List.mem_singleton] at hx; subst hx; simp)) ?_
        clear hHeld hK K KK l_0 z_0 l_1 z_1 l_2 z_2 l_3 z_3
        intro v6 KK'
        have KK : Hid (BS w [(w.heap.size + 1, [.int .i64 j, .int .i64 0, .int .i64 F, .int .i64 V]), (w.heap.size, [.int .i64 i, .int .i64 0, .int .i64 D, .int .i64 U])] v6) := KK'
        have hHeld : BW w v6 := KK'.1
        clear KK'
        refine wpAnyH_done (by kernel_rfl) ?_ _
        go_wp2_with fail
        go_meet
        case rel => exact KK.out
      ·
        have l_0 := (KK.out.at (w.heap.size + 1) [.int .i64 j, .int .i64 n, .int .i64 e, .int .i64 v] (by simp)).c 0 rfl
        have l_1 := (KK.out.at (w.heap.size + 1) [.int .i64 j, .int .i64 n, .int .i64 e, .int .i64 v] (by simp)).c 1 rfl
        have l_2 := (KK.out.at (w.heap.size + 1) [.int .i64 j, .int .i64 n, .int .i64 e, .int .i64 v] (by simp)).c 2 rfl
        have l_3 := (KK.out.at (w.heap.size + 1) [.int .i64 j, .int .i64 n, .int .i64 e, .int .i64 v] (by simp)).c 3 rfl
        go_simp
        refine hK.out _ _ hHeld (fun hHeld => ?_)
        clear hK K l_0 l_1 l_2 l_3
        refine wpAnyH_ready (rs := [1]) (by kernel_rfl) (by simp) (AllReadyH.cons (o := { dst := some 14, op := _, type := _, pos := _, after := _, guard := none }) rfl (fun K hK => ?_) AllReadyH.nil)
        go_simp
        refine (L1.out _).mono ?_
        rintro e v8 ⟨rfl, hb8⟩
        refine hK.out _ _ (hHeld.below hb8) (fun hHeld => ?_)
        replace KK : Hid (BS w [(w.heap.size + 1, [.int .i64 j, .int .i64 n, .int .i64 e, .int .i64 v]), (w.heap.size, [.int .i64 i, .int .i64 m, .int .i64 d, .int .i64 u])] v8) := by first | exact KK.out.below hb8 | exact KK.out.drew.below hb8
        clear hK K hb8
        refine wpAnyH_ready (rs := [3]) (by kernel_rfl) (by simp) (AllReadyH.cons (o := { dst := some 16, op := _, type := _, pos := _, after := _, guard := none }) rfl (fun K hK => ?_) AllReadyH.nil)
        go_simp
        refine (L2.out _).mono ?_
        rintro e v9 ⟨rfl, hb9⟩
        refine hK.out _ _ (hHeld.below hb9) (fun hHeld => ?_)
        replace KK : Hid (BS w [(w.heap.size + 1, [.int .i64 j, .int .i64 n, .int .i64 e, .int .i64 v]), (w.heap.size, [.int .i64 i, .int .i64 m, .int .i64 d, .int .i64 u])] v9) := by first | exact KK.out.below hb9 | exact KK.out.drew.below hb9
        clear hK K hb9
        refine wpAnyH_ready (rs := [4]) (by kernel_rfl) (by simp) (AllReadyH.cons (o := { dst := none, op := _, type := _, pos := _, after := _, guard := none }) rfl (fun K hK => ?_) AllReadyH.nil)
        have l_0 := KK.out.swap.first.c 0 rfl
        have l_1 := KK.out.swap.first.c 1 rfl
        have l_2 := KK.out.swap.first.c 2 rfl
        have l_3 := KK.out.swap.first.c 3 rfl
        have z_0 := KK.out.swap.first.f 0 rfl
        have z_1 := KK.out.swap.first.f 1 rfl
        have z_2 := KK.out.swap.first.f 2 rfl
        have z_3 := KK.out.swap.first.f 3 rfl
        go_simp
        refine hK.out _ _ (KK.out.swap.set [.int .i64 i, .int .i64 0, .int .i64 D, .int .i64 U] rfl (by intro x hx; simp only [List.mem_singleton] at hx; subst hx; simp)).1 (fun hHeld => ?_)
        refine gen_anyH (BS w [(w.heap.size, [.int .i64 i, .int .i64 0, .int .i64 D, .int .i64 U]), (w.heap.size + 1, [.int .i64 j, .int .i64 n, .int .i64 e, .int .i64 v])]) (KK.out.swap.set [.int .i64 i, .int .i64 0, .int .i64 D, .int .i64 U] rfl (by intro x hx; simp only [List.mem_singleton] at hx; subst hx; simp)) ?_
        clear hHeld hK K KK l_0 z_0 l_1 z_1 l_2 z_2 l_3 z_3
        intro v10 KK'
        have KK : Hid (BS w [(w.heap.size, [.int .i64 i, .int .i64 0, .int .i64 D, .int .i64 U]), (w.heap.size + 1, [.int .i64 j, .int .i64 n, .int .i64 e, .int .i64 v])] v10) := KK'
        have hHeld : BW w v10 := KK'.1
        clear KK'
        refine wpAnyH_ready (rs := [5]) (by kernel_rfl) (by simp) (AllReadyH.cons (o := { dst := none, op := _, type := _, pos := _, after := _, guard := none }) rfl (fun K hK => ?_) AllReadyH.nil)
        have l_0 := KK.out.swap.first.c 0 rfl
        have l_1 := KK.out.swap.first.c 1 rfl
        have l_2 := KK.out.swap.first.c 2 rfl
        have l_3 := KK.out.swap.first.c 3 rfl
        have z_0 := KK.out.swap.first.f 0 rfl
        have z_1 := KK.out.swap.first.f 1 rfl
        have z_2 := KK.out.swap.first.f 2 rfl
        have z_3 := KK.out.swap.first.f 3 rfl
        go_simp
        refine hK.out _ _ (KK.out.swap.set [.int .i64 j, .int .i64 0, .int .i64 F, .int .i64 V] rfl (by intro x hx; simp only [List.mem_singleton] at hx; subst hx; simp)).1 (fun hHeld => ?_)
        refine gen_anyH (BS w [(w.heap.size + 1, [.int .i64 j, .int .i64 0, .int .i64 F, .int .i64 V]), (w.heap.size, [.int .i64 i, .int .i64 0, .int .i64 D, .int .i64 U])]) (KK.out.swap.set [.int .i64 j, .int .i64 0, .int .i64 F, .int .i64 V] rfl (by intro x hx; simp only [List.mem_singleton] at hx; subst hx; simp)) ?_
        clear hHeld hK K KK l_0 z_0 l_1 z_1 l_2 z_2 l_3 z_3
        intro v11 KK'
        have KK : Hid (BS w [(w.heap.size + 1, [.int .i64 j, .int .i64 0, .int .i64 F, .int .i64 V]), (w.heap.size, [.int .i64 i, .int .i64 0, .int .i64 D, .int .i64 U])] v11) := KK'
        have hHeld : BW w v11 := KK'.1
        clear KK'
        refine wpAnyH_done (by kernel_rfl) ?_ _
        go_wp2_with fail
        go_meet
        case rel => exact KK.out
    ·
      have l_0 := (KK.out.at (w.heap.size + 1) [.int .i64 j, .int .i64 n, .int .i64 e, .int .i64 v] (by simp)).c 0 rfl
      have l_1 := (KK.out.at (w.heap.size + 1) [.int .i64 j, .int .i64 n, .int .i64 e, .int .i64 v] (by simp)).c 1 rfl
      have l_2 := (KK.out.at (w.heap.size + 1) [.int .i64 j, .int .i64 n, .int .i64 e, .int .i64 v] (by simp)).c 2 rfl
      have l_3 := (KK.out.at (w.heap.size + 1) [.int .i64 j, .int .i64 n, .int .i64 e, .int .i64 v] (by simp)).c 3 rfl
      go_simp
      refine hK.out _ _ hHeld (fun hHeld => ?_)
      clear hK K l_0 l_1 l_2 l_3
      refine wpAnyH_ready (rs := [0]) (by kernel_rfl) (by simp) (AllReadyH.cons (o := { dst := some 13, op := _, type := _, pos := _, after := _, guard := none }) rfl (fun K hK => ?_) AllReadyH.nil)
      have l_0 := (KK.out.at (w.heap.size) [.int .i64 i, .int .i64 m, .int .i64 d, .int .i64 u] (by simp)).c 0 rfl
      have l_1 := (KK.out.at (w.heap.size) [.int .i64 i, .int .i64 m, .int .i64 d, .int .i64 u] (by simp)).c 1 rfl
      have l_2 := (KK.out.at (w.heap.size) [.int .i64 i, .int .i64 m, .int .i64 d, .int .i64 u] (by simp)).c 2 rfl
      have l_3 := (KK.out.at (w.heap.size) [.int .i64 i, .int .i64 m, .int .i64 d, .int .i64 u] (by simp)).c 3 rfl
      go_simp
      refine hK.out _ _ hHeld (fun hHeld => ?_)
      clear hK K l_0 l_1 l_2 l_3
      refine wpAnyH_ready (rs := [1]) (by kernel_rfl) (by simp) (AllReadyH.cons (o := { dst := some 14, op := _, type := _, pos := _, after := _, guard := none }) rfl (fun K hK => ?_) AllReadyH.nil)
      go_simp
      refine (L1.out _).mono ?_
      rintro e v14 ⟨rfl, hb14⟩
      refine hK.out _ _ (hHeld.below hb14) (fun hHeld => ?_)
      replace KK : Hid (BS w [(w.heap.size + 1, [.int .i64 j, .int .i64 n, .int .i64 e, .int .i64 v]), (w.heap.size, [.int .i64 i, .int .i64 m, .int .i64 d, .int .i64 u])] v14) := by first | exact KK.out.below hb14 | exact KK.out.drew.below hb14
      clear hK K hb14
      refine wpAnyH_ready (rs := [3]) (by kernel_rfl) (by simp) (AllReadyH.cons (o := { dst := some 16, op := _, type := _, pos := _, after := _, guard := none }) rfl (fun K hK => ?_) AllReadyH.nil)
      go_simp
      refine (L2.out _).mono ?_
      rintro e v15 ⟨rfl, hb15⟩
      refine hK.out _ _ (hHeld.below hb15) (fun hHeld => ?_)
      replace KK : Hid (BS w [(w.heap.size + 1, [.int .i64 j, .int .i64 n, .int .i64 e, .int .i64 v]), (w.heap.size, [.int .i64 i, .int .i64 m, .int .i64 d, .int .i64 u])] v15) := by first | exact KK.out.below hb15 | exact KK.out.drew.below hb15
      clear hK K hb15
      refine wpAnyH_ready (rs := [4]) (by kernel_rfl) (by simp) (AllReadyH.cons (o := { dst := none, op := _, type := _, pos := _, after := _, guard := none }) rfl (fun K hK => ?_) AllReadyH.nil)
      have l_0 := KK.out.swap.first.c 0 rfl
      have l_1 := KK.out.swap.first.c 1 rfl
      have l_2 := KK.out.swap.first.c 2 rfl
      have l_3 := KK.out.swap.first.c 3 rfl
      have z_0 := KK.out.swap.first.f 0 rfl
      have z_1 := KK.out.swap.first.f 1 rfl
      have z_2 := KK.out.swap.first.f 2 rfl
      have z_3 := KK.out.swap.first.f 3 rfl
      go_simp
      refine hK.out _ _ (KK.out.swap.set [.int .i64 i, .int .i64 0, .int .i64 D, .int .i64 U] rfl (by intro x hx; simp only [List.mem_singleton] at hx; subst hx; simp)).1 (fun hHeld => ?_)
      refine gen_anyH (BS w [(w.heap.size, [.int .i64 i, .int .i64 0, .int .i64 D, .int .i64 U]), (w.heap.size + 1, [.int .i64 j, .int .i64 n, .int .i64 e, .int .i64 v])]) (KK.out.swap.set [.int .i64 i, .int .i64 0, .int .i64 D, .int .i64 U] rfl (by intro x hx; simp only [List.mem_singleton] at hx; subst hx; simp)) ?_
      clear hHeld hK K KK l_0 z_0 l_1 z_1 l_2 z_2 l_3 z_3
      intro v16 KK'
      have KK : Hid (BS w [(w.heap.size, [.int .i64 i, .int .i64 0, .int .i64 D, .int .i64 U]), (w.heap.size + 1, [.int .i64 j, .int .i64 n, .int .i64 e, .int .i64 v])] v16) := KK'
      have hHeld : BW w v16 := KK'.1
      clear KK'
      refine wpAnyH_ready (rs := [5]) (by kernel_rfl) (by simp) (AllReadyH.cons (o := { dst := none, op := _, type := _, pos := _, after := _, guard := none }) rfl (fun K hK => ?_) AllReadyH.nil)
      have l_0 := KK.out.swap.first.c 0 rfl
      have l_1 := KK.out.swap.first.c 1 rfl
      have l_2 := KK.out.swap.first.c 2 rfl
      have l_3 := KK.out.swap.first.c 3 rfl
      have z_0 := KK.out.swap.first.f 0 rfl
      have z_1 := KK.out.swap.first.f 1 rfl
      have z_2 := KK.out.swap.first.f 2 rfl
      have z_3 := KK.out.swap.first.f 3 rfl
      go_simp
      refine hK.out _ _ (KK.out.swap.set [.int .i64 j, .int .i64 0, .int .i64 F, .int .i64 V] rfl (by intro x hx; simp only [List.mem_singleton] at hx; subst hx; simp)).1 (fun hHeld => ?_)
      refine gen_anyH (BS w [(w.heap.size + 1, [.int .i64 j, .int .i64 0, .int .i64 F, .int .i64 V]), (w.heap.size, [.int .i64 i, .int .i64 0, .int .i64 D, .int .i64 U])]) (KK.out.swap.set [.int .i64 j, .int .i64 0, .int .i64 F, .int .i64 V] rfl (by intro x hx; simp only [List.mem_singleton] at hx; subst hx; simp)) ?_
      clear hHeld hK K KK l_0 z_0 l_1 z_1 l_2 z_2 l_3 z_3
      intro v17 KK'
      have KK : Hid (BS w [(w.heap.size + 1, [.int .i64 j, .int .i64 0, .int .i64 F, .int .i64 V]), (w.heap.size, [.int .i64 i, .int .i64 0, .int .i64 D, .int .i64 U])] v17) := KK'
      have hHeld : BW w v17 := KK'.1
      clear KK'
      refine wpAnyH_done (by kernel_rfl) ?_ _
      go_wp2_with fail
      go_meet
      case rel => exact KK.out
  case rest =>
    have KZ : Hid (BS w [(w.heap.size + 1, [.int .i64 j, .int .i64 0, .int .i64 F, .int .i64 V]), (w.heap.size, [.int .i64 i, .int .i64 0, .int .i64 D, .int .i64 U])] _) := hcut
    clear hcut KK K2
    go_wp2_with fail
    refine wp_region_held_drew (S := BS w [(w.heap.size + 1, [.int .i64 j, .int .i64 0, .int .i64 F, .int .i64 V]), (w.heap.size, [.int .i64 i, .int .i64 0, .int .i64 D, .int .i64 U])]) (by kernel_rfl) KZ.out.drew (fun hHeld => ?_)
    refine wpAnyH_take (i := 0) (v := ?_) (oi := { dst := some 17, op := _, type := _, pos := _, after := _, guard := none }) rfl (by kernel_rfl) (by kernel_rfl) (by kernel_rfl) (fun _ _ _ h => h) (Or.inl ⟨by kernel_rfl, ?_⟩) (by assumption) ?_
    case refine_2 => (intro w9 hSw; clear hSw; go_simp; try with_reducible rfl)
    simp only [Act.put, List.setIfInBounds_toArray, List.set_cons_zero, List.set_cons_succ]
    refine wpAnyH_take (i := 1) (v := ?_) (oi := { dst := some 18, op := _, type := _, pos := _, after := _, guard := none }) rfl (by kernel_rfl) (by kernel_rfl) (by kernel_rfl) (fun _ _ _ h => h) (Or.inl ⟨by kernel_rfl, ?_⟩) (by assumption) ?_
    case refine_2 => (intro w9 hSw; have l0_0 := (hSw.at (w.heap.size + 1) [.int .i64 j, .int .i64 0, .int .i64 F, .int .i64 V] (by simp)).c 0 rfl; have l0_1 := (hSw.at (w.heap.size + 1) [.int .i64 j, .int .i64 0, .int .i64 F, .int .i64 V] (by simp)).c 1 rfl; have l0_2 := (hSw.at (w.heap.size + 1) [.int .i64 j, .int .i64 0, .int .i64 F, .int .i64 V] (by simp)).c 2 rfl; have l0_3 := (hSw.at (w.heap.size + 1) [.int .i64 j, .int .i64 0, .int .i64 F, .int .i64 V] (by simp)).c 3 rfl; have l1_0 := (hSw.at (w.heap.size) [.int .i64 i, .int .i64 0, .int .i64 D, .int .i64 U] (by simp)).c 0 rfl; have l1_1 := (hSw.at (w.heap.size) [.int .i64 i, .int .i64 0, .int .i64 D, .int .i64 U] (by simp)).c 1 rfl; have l1_2 := (hSw.at (w.heap.size) [.int .i64 i, .int .i64 0, .int .i64 D, .int .i64 U] (by simp)).c 2 rfl; have l1_3 := (hSw.at (w.heap.size) [.int .i64 i, .int .i64 0, .int .i64 D, .int .i64 U] (by simp)).c 3 rfl; clear hSw; go_simp; try with_reducible rfl)
    simp only [Act.put, List.setIfInBounds_toArray, List.set_cons_zero, List.set_cons_succ]
    refine wpAnyH_take (i := 2) (v := ?_) (oi := { dst := some 19, op := _, type := _, pos := _, after := _, guard := none }) rfl (by kernel_rfl) (by kernel_rfl) (by kernel_rfl) (fun _ _ _ h => h) (Or.inl ⟨by kernel_rfl, ?_⟩) (by assumption) ?_
    case refine_2 => (intro w9 hSw; clear hSw; go_simp; try with_reducible rfl)
    simp only [Act.put, List.setIfInBounds_toArray, List.set_cons_zero, List.set_cons_succ]
    refine wpAnyH_take (i := 3) (v := ?_) (oi := { dst := some 20, op := _, type := _, pos := _, after := _, guard := none }) rfl (by kernel_rfl) (by kernel_rfl) (by kernel_rfl) (fun _ _ _ h => h) (Or.inl ⟨by kernel_rfl, ?_⟩) (by assumption) ?_
    case refine_2 => (intro w9 hSw; have l0_0 := (hSw.at (w.heap.size + 1) [.int .i64 j, .int .i64 0, .int .i64 F, .int .i64 V] (by simp)).c 0 rfl; have l0_1 := (hSw.at (w.heap.size + 1) [.int .i64 j, .int .i64 0, .int .i64 F, .int .i64 V] (by simp)).c 1 rfl; have l0_2 := (hSw.at (w.heap.size + 1) [.int .i64 j, .int .i64 0, .int .i64 F, .int .i64 V] (by simp)).c 2 rfl; have l0_3 := (hSw.at (w.heap.size + 1) [.int .i64 j, .int .i64 0, .int .i64 F, .int .i64 V] (by simp)).c 3 rfl; have l1_0 := (hSw.at (w.heap.size) [.int .i64 i, .int .i64 0, .int .i64 D, .int .i64 U] (by simp)).c 0 rfl; have l1_1 := (hSw.at (w.heap.size) [.int .i64 i, .int .i64 0, .int .i64 D, .int .i64 U] (by simp)).c 1 rfl; have l1_2 := (hSw.at (w.heap.size) [.int .i64 i, .int .i64 0, .int .i64 D, .int .i64 U] (by simp)).c 2 rfl; have l1_3 := (hSw.at (w.heap.size) [.int .i64 i, .int .i64 0, .int .i64 D, .int .i64 U] (by simp)).c 3 rfl; clear hSw; go_simp; try with_reducible rfl)
    simp only [Act.put, List.setIfInBounds_toArray, List.set_cons_zero, List.set_cons_succ]
    refine wpAnyH_take (i := 5) (v := ?_) (oi := { dst := some 22, op := _, type := _, pos := _, after := _, guard := none }) rfl (by kernel_rfl) (by kernel_rfl) (by kernel_rfl) (fun _ _ _ h => h) (Or.inl ⟨by kernel_rfl, ?_⟩) (by assumption) ?_
    case refine_2 => (intro w9 hSw; clear hSw; go_simp; try with_reducible rfl)
    simp only [Act.put, List.setIfInBounds_toArray, List.set_cons_zero, List.set_cons_succ]
    refine wpAnyH_take (i := 6) (v := ?_) (oi := { dst := some 23, op := _, type := _, pos := _, after := _, guard := none }) rfl (by kernel_rfl) (by kernel_rfl) (by kernel_rfl) (fun _ _ _ h => h) (Or.inl ⟨by kernel_rfl, ?_⟩) (by assumption) ?_
    case refine_2 => (intro w9 hSw; have l0_0 := (hSw.at (w.heap.size + 1) [.int .i64 j, .int .i64 0, .int .i64 F, .int .i64 V] (by simp)).c 0 rfl; have l0_1 := (hSw.at (w.heap.size + 1) [.int .i64 j, .int .i64 0, .int .i64 F, .int .i64 V] (by simp)).c 1 rfl; have l0_2 := (hSw.at (w.heap.size + 1) [.int .i64 j, .int .i64 0, .int .i64 F, .int .i64 V] (by simp)).c 2 rfl; have l0_3 := (hSw.at (w.heap.size + 1) [.int .i64 j, .int .i64 0, .int .i64 F, .int .i64 V] (by simp)).c 3 rfl; have l1_0 := (hSw.at (w.heap.size) [.int .i64 i, .int .i64 0, .int .i64 D, .int .i64 U] (by simp)).c 0 rfl; have l1_1 := (hSw.at (w.heap.size) [.int .i64 i, .int .i64 0, .int .i64 D, .int .i64 U] (by simp)).c 1 rfl; have l1_2 := (hSw.at (w.heap.size) [.int .i64 i, .int .i64 0, .int .i64 D, .int .i64 U] (by simp)).c 2 rfl; have l1_3 := (hSw.at (w.heap.size) [.int .i64 i, .int .i64 0, .int .i64 D, .int .i64 U] (by simp)).c 3 rfl; clear hSw; go_simp; try with_reducible rfl)
    simp only [Act.put, List.setIfInBounds_toArray, List.set_cons_zero, List.set_cons_succ]
    refine wpAnyH_take (i := 7) (v := ?_) (oi := { dst := some 24, op := _, type := _, pos := _, after := _, guard := none }) rfl (by kernel_rfl) (by kernel_rfl) (by kernel_rfl) (fun _ _ _ h => h) (Or.inl ⟨by kernel_rfl, ?_⟩) (by assumption) ?_
    case refine_2 => (intro w9 hSw; clear hSw; go_simp; try with_reducible rfl)
    simp only [Act.put, List.setIfInBounds_toArray, List.set_cons_zero, List.set_cons_succ]
    refine wpAnyH_take (i := 8) (v := ?_) (oi := { dst := some 25, op := _, type := _, pos := _, after := _, guard := none }) rfl (by kernel_rfl) (by kernel_rfl) (by kernel_rfl) (fun _ _ _ h => h) (Or.inl ⟨by kernel_rfl, ?_⟩) (by assumption) ?_
    case refine_2 => (intro w9 hSw; have l0_0 := (hSw.at (w.heap.size + 1) [.int .i64 j, .int .i64 0, .int .i64 F, .int .i64 V] (by simp)).c 0 rfl; have l0_1 := (hSw.at (w.heap.size + 1) [.int .i64 j, .int .i64 0, .int .i64 F, .int .i64 V] (by simp)).c 1 rfl; have l0_2 := (hSw.at (w.heap.size + 1) [.int .i64 j, .int .i64 0, .int .i64 F, .int .i64 V] (by simp)).c 2 rfl; have l0_3 := (hSw.at (w.heap.size + 1) [.int .i64 j, .int .i64 0, .int .i64 F, .int .i64 V] (by simp)).c 3 rfl; have l1_0 := (hSw.at (w.heap.size) [.int .i64 i, .int .i64 0, .int .i64 D, .int .i64 U] (by simp)).c 0 rfl; have l1_1 := (hSw.at (w.heap.size) [.int .i64 i, .int .i64 0, .int .i64 D, .int .i64 U] (by simp)).c 1 rfl; have l1_2 := (hSw.at (w.heap.size) [.int .i64 i, .int .i64 0, .int .i64 D, .int .i64 U] (by simp)).c 2 rfl; have l1_3 := (hSw.at (w.heap.size) [.int .i64 i, .int .i64 0, .int .i64 D, .int .i64 U] (by simp)).c 3 rfl; clear hSw; go_simp; try with_reducible rfl)
    simp only [Act.put, List.setIfInBounds_toArray, List.set_cons_zero, List.set_cons_succ]
    refine wpAnyH_take (i := 10) (v := ?_) (oi := { dst := some 27, op := _, type := _, pos := _, after := _, guard := none }) rfl (by kernel_rfl) (by kernel_rfl) (by kernel_rfl) (fun _ _ _ h => h) (Or.inl ⟨by kernel_rfl, ?_⟩) (by assumption) ?_
    case refine_2 => (intro w9 hSw; clear hSw; go_simp; try with_reducible rfl)
    simp only [Act.put, List.setIfInBounds_toArray, List.set_cons_zero, List.set_cons_succ]
    refine wpAnyH_take (i := 11) (v := ?_) (oi := { dst := some 28, op := _, type := _, pos := _, after := _, guard := none }) rfl (by kernel_rfl) (by kernel_rfl) (by kernel_rfl) (fun _ _ _ h => h) (Or.inl ⟨by kernel_rfl, ?_⟩) (by assumption) ?_
    case refine_2 => (intro w9 hSw; have l0_0 := (hSw.at (w.heap.size + 1) [.int .i64 j, .int .i64 0, .int .i64 F, .int .i64 V] (by simp)).c 0 rfl; have l0_1 := (hSw.at (w.heap.size + 1) [.int .i64 j, .int .i64 0, .int .i64 F, .int .i64 V] (by simp)).c 1 rfl; have l0_2 := (hSw.at (w.heap.size + 1) [.int .i64 j, .int .i64 0, .int .i64 F, .int .i64 V] (by simp)).c 2 rfl; have l0_3 := (hSw.at (w.heap.size + 1) [.int .i64 j, .int .i64 0, .int .i64 F, .int .i64 V] (by simp)).c 3 rfl; have l1_0 := (hSw.at (w.heap.size) [.int .i64 i, .int .i64 0, .int .i64 D, .int .i64 U] (by simp)).c 0 rfl; have l1_1 := (hSw.at (w.heap.size) [.int .i64 i, .int .i64 0, .int .i64 D, .int .i64 U] (by simp)).c 1 rfl; have l1_2 := (hSw.at (w.heap.size) [.int .i64 i, .int .i64 0, .int .i64 D, .int .i64 U] (by simp)).c 2 rfl; have l1_3 := (hSw.at (w.heap.size) [.int .i64 i, .int .i64 0, .int .i64 D, .int .i64 U] (by simp)).c 3 rfl; clear hSw; go_simp; try with_reducible rfl)
    simp only [Act.put, List.setIfInBounds_toArray, List.set_cons_zero, List.set_cons_succ]
    refine wpAnyH_take (i := 12) (v := ?_) (oi := { dst := some 29, op := _, type := _, pos := _, after := _, guard := none }) rfl (by kernel_rfl) (by kernel_rfl) (by kernel_rfl) (fun _ _ _ h => h) (Or.inl ⟨by kernel_rfl, ?_⟩) (by assumption) ?_
    case refine_2 => (intro w9 hSw; clear hSw; go_simp; try with_reducible rfl)
    simp only [Act.put, List.setIfInBounds_toArray, List.set_cons_zero, List.set_cons_succ]
    refine wpAnyH_take (i := 13) (v := ?_) (oi := { dst := some 30, op := _, type := _, pos := _, after := _, guard := none }) rfl (by kernel_rfl) (by kernel_rfl) (by kernel_rfl) (fun _ _ _ h => h) (Or.inl ⟨by kernel_rfl, ?_⟩) (by assumption) ?_
    case refine_2 => (intro w9 hSw; have l0_0 := (hSw.at (w.heap.size + 1) [.int .i64 j, .int .i64 0, .int .i64 F, .int .i64 V] (by simp)).c 0 rfl; have l0_1 := (hSw.at (w.heap.size + 1) [.int .i64 j, .int .i64 0, .int .i64 F, .int .i64 V] (by simp)).c 1 rfl; have l0_2 := (hSw.at (w.heap.size + 1) [.int .i64 j, .int .i64 0, .int .i64 F, .int .i64 V] (by simp)).c 2 rfl; have l0_3 := (hSw.at (w.heap.size + 1) [.int .i64 j, .int .i64 0, .int .i64 F, .int .i64 V] (by simp)).c 3 rfl; have l1_0 := (hSw.at (w.heap.size) [.int .i64 i, .int .i64 0, .int .i64 D, .int .i64 U] (by simp)).c 0 rfl; have l1_1 := (hSw.at (w.heap.size) [.int .i64 i, .int .i64 0, .int .i64 D, .int .i64 U] (by simp)).c 1 rfl; have l1_2 := (hSw.at (w.heap.size) [.int .i64 i, .int .i64 0, .int .i64 D, .int .i64 U] (by simp)).c 2 rfl; have l1_3 := (hSw.at (w.heap.size) [.int .i64 i, .int .i64 0, .int .i64 D, .int .i64 U] (by simp)).c 3 rfl; clear hSw; go_simp; try with_reducible rfl)
    simp only [Act.put, List.setIfInBounds_toArray, List.set_cons_zero, List.set_cons_succ]
    refine wpAnyH_ready (rs := [4]) (by kernel_rfl) (by simp) (AllReadyH.cons (o := { dst := some 21, op := _, type := _, pos := _, after := _, guard := none }) rfl (fun K hK => ?_) AllReadyH.nil)
    go_simp
    refine (C1.out _).mono ?_
    rintro e v1 ⟨rfl, hw⟩
    rw [hw]
    refine hK.out _ _ hHeld (fun hHeld => ?_)
    clear hK K hw v1
    refine wpAnyH_ready (rs := [9]) (by kernel_rfl) (by simp) (AllReadyH.cons (o := { dst := some 26, op := _, type := _, pos := _, after := _, guard := none }) rfl (fun K hK => ?_) AllReadyH.nil)
    go_simp
    refine (C2.out _).mono ?_
    rintro e v2 ⟨rfl, hw⟩
    rw [hw]
    refine hK.out _ _ hHeld (fun hHeld => ?_)
    clear hK K hw v2
    refine wpAnyH_ready (rs := [14]) (by kernel_rfl) (by simp) (AllReadyH.cons (o := { dst := some 31, op := _, type := _, pos := _, after := _, guard := none }) rfl (fun K hK => ?_) AllReadyH.nil)
    go_simp
    refine (C3.out _).mono ?_
    rintro e v3 ⟨rfl, hw⟩
    rw [hw]
    refine hK.out _ _ hHeld (fun hHeld => ?_)
    clear hK K hw v3
    refine wpAnyH_ready (rs := [15]) (by kernel_rfl) (by simp) (AllReadyH.cons (o := { dst := some 32, op := _, type := _, pos := _, after := _, guard := none }) rfl (fun K hK => ?_) AllReadyH.nil)
    have NX := hHeld.new [.int .i64 a, .int .i64 b, .int .i64 c] 3 rfl
    go_simp
    refine hK.out _ _ (hHeld.alloc _) (fun hHeld => ?_)
    clear hK K
    refine wpAnyH_ready (rs := [16]) (by kernel_rfl) (by simp) (AllReadyH.cons (o := { dst := some 33, op := _, type := _, pos := _, after := _, guard := none }) rfl (fun K hK => ?_) AllReadyH.nil)
    go_simp
    refine (orI_any a b c _ _ (NX.first.c 0 rfl) (NX.first.c 1 rfl) (NX.first.c 2 rfl)).mono ?_
    rintro e v5 ⟨rfl, hw⟩
    rw [hw]
    refine hK.out _ _ hHeld (fun hHeld => ?_)
    clear hK K hw v5 NX
    refine wpAnyH_take (i := 17) (v := ?_) (oi := { dst := some 4, op := _, type := _, pos := _, after := _, guard := none }) rfl (by kernel_rfl) (by kernel_rfl) (by kernel_rfl) (fun _ _ _ h => h) (Or.inl ⟨by kernel_rfl, ?_⟩) (by assumption) ?_
    case refine_2 => (intro w9 hSw; clear hSw; go_simp; try with_reducible rfl)
    simp only [Act.put, List.setIfInBounds_toArray, List.set_cons_zero, List.set_cons_succ]
    refine wpAnyH_done (by kernel_rfl) ?_ _
    have HB : Hid (Below w.heap.size w _) := hHeld.1
    clear hHeld
    go_wp2
    go_ret
    exact ⟨rfl, HB.out⟩

/-- which is the longer one. -/
def cmA (i m d u j n e v : Int) : Int := if pR i m d u = true ∧ pR j n e v = true then orV (sgnC i j) (sgnC (lvD m d u) (lvD n e v)) (sgnC (lvU u) (lvU v)) else 0

theorem pcmp_any (i m d u j n e v : Int) (u1 : -9223372036854775808 ≤ u) (u2 : u ≤ 9223372036854775807) (v1 : -9223372036854775808 ≤ v) (v2 : v ≤ 9223372036854775807) (w : World) :
    Calls Try.prog 12 #[.agg #[.int .i64 i, .int .i64 m, .int .i64 d, .int .i64 u], .agg #[.int .i64 j, .int .i64 n, .int .i64 e, .int .i64 v]] w fun r w' => r = .returned (.int .i64 (cmA i m d u j n e v)) ∧ Below w.heap.size w w' := by
  unfold cmA
  have XX : ∀ c, pR i m d u = c → ∀ w : World, Calls Try.prog 13 #[.agg #[.int .i64 i, .int .i64 m, .int .i64 d, .int .i64 u]] w fun r' w' => r' = .returned (.bool c) ∧ Below w.heap.size w w' := fun c h w => by rw [← h]; exact pr_any i m d u u1 u2 w
  have YY : ∀ c, pR j n e v = c → ∀ w : World, Calls Try.prog 13 #[.agg #[.int .i64 j, .int .i64 n, .int .i64 e, .int .i64 v]] w fun r' w' => r' = .returned (.bool c) ∧ Below w.heap.size w w' := fun c h w => by rw [← h]; exact pr_any j n e v v1 v2 w
  cases h : pR i m d u
  · rw [if_neg (fun k => absurd k.1 (by decide))]; exact pcmp_no1 i m d u j n e v (XX false h) w
  · cases k : pR j n e v
    · rw [if_neg (fun k => absurd k.2 (by decide))]; exact pcmp_no2 i m d u j n e v (XX true h) (YY false k) w
    · rw [if_pos ⟨rfl, rfl⟩]
      have p := pR_yes h
      have q := pR_yes k
      exact pcmp_run i m d u j n e v _ _ _ _ _ _ _ (XX true h) (YY true k) (fun w => level_any i m d u (by omega) (by omega) (by omega) (by omega) u1 u2 w) (fun w => level_any j n e v (by omega) (by omega) (by omega) (by omega) v1 v2 w) (fun w => cmp_int_any i j w) (fun w => cmp_int64_any _ _ w) (fun w => cmp_int64_any _ _ w) w


end Go.Proofs.Ytghfgabajdghiac
