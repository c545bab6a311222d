/- The reference's Justify: way by way. -/
import Derived.Test.YtghfgabajdghiabSpI
import Derived.Deep.Cut
import Derived.Deep.CutRange
import Derived.Deep.DeepCutAuto
namespace Go.Proofs.Ytghfgabajdghiab
open Go.RowKit
set_option linter.unusedVariables false

set_option maxRecDepth 100000 in
set_option maxHeartbeats 4000000 in
theorem rpjus_AA (m d u D1 U1 M1 D2 L l I M D U E : Int) (m1 : -2147483647 ≤ m) (m2 : m ≤ 2147483647) (d1 : -2147483647 ≤ d) (d2 : d ≤ 2147483647) (q1 : -1000000000 ≤ u.tdiv 86400000000) (q2 : u.tdiv 86400000000 ≤ 1000000000) (hd : d + u.tdiv 86400000000 = D1) (hu : u.tmod 86400000000 = U1) (hm : m + D1.tdiv 30 = M1) (he : D1.tmod 30 = D2) (q3 : -100000000 ≤ D1.tdiv 30) (q4 : D1.tdiv 30 ≤ 100000000) (e1 : -30 < D2) (e2 : D2 < 30) (f1 : -86400000000 < U1) (f2 : U1 < 86400000000) (g1 : 0 < M1) (g2 : l < 0) (k1 : 0 < D2 + 30) (k2 : U1 < 0)
    (R : Hid (∀ w : World, Calls Try.prog 16 #[.agg #[.int .i64 0, .int .i64 m, .int .i64 d, .int .i64 u]] w fun r' w' => r' = .returned (.bool true) ∧ Below w.heap.size w w'))
    (C : Hid (∀ w : World, Calls Try.prog 34 #[.int .i64 D1, .int .i64 2147483647] w fun r' w' => r' = .returned (.bool true) ∧ w' = w))
    (LG : Hid (∀ (w : World), Calls Try.prog 43 #[.agg #[.int .i64 0, .int .i64 0, .int .i64 D2, .int .i64 U1]] w fun r' w' => ∃ v', r' = .returned v' ∧ IsW w' v' (L) ∧ Below w.heap.size w w'))
    (SG : Hid (∀ (y : Value) (w : World), IsW w y L → Calls Try.prog 41 #[y] w fun r' w' => r' = .returned (.int .i64 l) ∧ Below w.heap.size w w'))
    (MK : Hid (∀ w : World, Calls Try.prog 21 #[.int .i64 (M1 - 1), .int .i64 (D2 + 30 - 1), .int .i64 (U1 + 86400000000)] w fun r' w' => r' = .returned (.tuple #[.agg #[.int .i64 I, .int .i64 M, .int .i64 D, .int .i64 U], .int .i64 E]) ∧ Below w.heap.size w w'))
    (w : World) :
    Calls Try.prog 27 #[.agg #[.int .i64 0, .int .i64 m, .int .i64 d, .int .i64 u]] w fun r' w' => r' = .returned (.tuple #[.agg #[.int .i64 I, .int .i64 M, .int .i64 D, .int .i64 U], .int .i64 E]) ∧ Below w.heap.size w w' := by
  have w1 : IntKind.i64.wrap (u.tdiv 86400000000) = u.tdiv 86400000000 := by rw [IntKind.wrap_i64]; omega
  have w2 : IntKind.i64.wrap (d + u.tdiv 86400000000) = D1 := by rw [IntKind.wrap_i64]; omega
  have w3 : IntKind.i64.wrap (D1.tdiv 30) = D1.tdiv 30 := by rw [IntKind.wrap_i64]; omega
  have w4 : IntKind.i64.wrap (m + D1.tdiv 30) = M1 := by rw [IntKind.wrap_i64]; omega
  have g3 : ¬ M1 - 1 < 0 := by omega
  have k3 : ¬ D2 + 30 - 1 < 0 := by omega
  have K0 : Hid (BS w [(w.heap.size + 1, [.int .i64 0, .int .i64 0, .int .i64 0, .int .i64 0]), (w.heap.size, [.int .i64 0, .int .i64 m, .int .i64 d, .int .i64 u])] ((w.alloc (.cells #[.int .i64 0, .int .i64 m, .int .i64 d, .int .i64 u] 23)).alloc (.cells #[.int .i64 0, .int .i64 0, .int .i64 0, .int .i64 0] 23))) := (((BS.start w).new [.int .i64 0, .int .i64 m, .int .i64 d, .int .i64 u] 23 rfl).new [.int .i64 0, .int .i64 0, .int .i64 0, .int .i64 0] 23 (by simp))
  go_enter Try.func27, Try.ntmps27
  go_wp2_with fail
  refine (R.out _).mono ?_
  rintro e W1 ⟨rfl, hb⟩
  have K1 : Hid (BS w [(w.heap.size + 1, [.int .i64 0, .int .i64 0, .int .i64 0, .int .i64 0]), (w.heap.size, [.int .i64 0, .int .i64 m, .int .i64 d, .int .i64 u])] W1) := K0.out.below hb
  clear hb K0
  have c1_0_0 : W1.cell? ⟨w.heap.size + 1, 0, none⟩ = some (.int .i64 0) := (K1.out.at (w.heap.size + 1) [.int .i64 0, .int .i64 0, .int .i64 0, .int .i64 0] (by simp)).c 0 rfl
  have z1_0_0 : W1.frozen? ⟨w.heap.size + 1, 0, none⟩ = false := (K1.out.at (w.heap.size + 1) [.int .i64 0, .int .i64 0, .int .i64 0, .int .i64 0] (by simp)).f 0 rfl
  have c1_0_1 : W1.cell? ⟨w.heap.size + 1, 1, none⟩ = some (.int .i64 0) := (K1.out.at (w.heap.size + 1) [.int .i64 0, .int .i64 0, .int .i64 0, .int .i64 0] (by simp)).c 1 rfl
  have z1_0_1 : W1.frozen? ⟨w.heap.size + 1, 1, none⟩ = false := (K1.out.at (w.heap.size + 1) [.int .i64 0, .int .i64 0, .int .i64 0, .int .i64 0] (by simp)).f 1 rfl
  have c1_0_2 : W1.cell? ⟨w.heap.size + 1, 2, none⟩ = some (.int .i64 0) := (K1.out.at (w.heap.size + 1) [.int .i64 0, .int .i64 0, .int .i64 0, .int .i64 0] (by simp)).c 2 rfl
  have z1_0_2 : W1.frozen? ⟨w.heap.size + 1, 2, none⟩ = false := (K1.out.at (w.heap.size + 1) [.int .i64 0, .int .i64 0, .int .i64 0, .int .i64 0] (by simp)).f 2 rfl
  have c1_0_3 : W1.cell? ⟨w.heap.size + 1, 3, none⟩ = some (.int .i64 0) := (K1.out.at (w.heap.size + 1) [.int .i64 0, .int .i64 0, .int .i64 0, .int .i64 0] (by simp)).c 3 rfl
  have z1_0_3 : W1.frozen? ⟨w.heap.size + 1, 3, none⟩ = false := (K1.out.at (w.heap.size + 1) [.int .i64 0, .int .i64 0, .int .i64 0, .int .i64 0] (by simp)).f 3 rfl
  have c1_1_0 : W1.cell? ⟨w.heap.size, 0, none⟩ = some (.int .i64 0) := (K1.out.at (w.heap.size) [.int .i64 0, .int .i64 m, .int .i64 d, .int .i64 u] (by simp)).c 0 rfl
  have c1_1_1 : W1.cell? ⟨w.heap.size, 1, none⟩ = some (.int .i64 m) := (K1.out.at (w.heap.size) [.int .i64 0, .int .i64 m, .int .i64 d, .int .i64 u] (by simp)).c 1 rfl
  have c1_1_2 : W1.cell? ⟨w.heap.size, 2, none⟩ = some (.int .i64 d) := (K1.out.at (w.heap.size) [.int .i64 0, .int .i64 m, .int .i64 d, .int .i64 u] (by simp)).c 2 rfl
  have c1_1_3 : W1.cell? ⟨w.heap.size, 3, none⟩ = some (.int .i64 u) := (K1.out.at (w.heap.size) [.int .i64 0, .int .i64 m, .int .i64 d, .int .i64 u] (by simp)).c 3 rfl
  go_wp2_with fail
  refine (C.out _).mono ?_
  rintro e W2 ⟨rfl, hw⟩
  rw [hw]
  clear hw W2
  go_wp2_with fail
  refine (LG.out _).mono ?_
  rintro e W3 ⟨y, rfl, hv, hb⟩
  have K3 : Hid (BS w [(w.heap.size + 1, [.int .i64 0, .int .i64 0, .int .i64 0, .int .i64 0]), (w.heap.size, [.int .i64 0, .int .i64 m, .int .i64 d, .int .i64 u])] W3) := K1.out.below hb
  have hv' : Hid (IsW _ _ _) := hv
  clear c1_0_0 z1_0_0 c1_0_1 z1_0_1 c1_0_2 z1_0_2 c1_0_3 z1_0_3 c1_1_0 c1_1_1 c1_1_2 c1_1_3
  clear hb hv K1
  have c3_0_0 : W3.cell? ⟨w.heap.size + 1, 0, none⟩ = some (.int .i64 0) := (K3.out.at (w.heap.size + 1) [.int .i64 0, .int .i64 0, .int .i64 0, .int .i64 0] (by simp)).c 0 rfl
  have z3_0_0 : W3.frozen? ⟨w.heap.size + 1, 0, none⟩ = false := (K3.out.at (w.heap.size + 1) [.int .i64 0, .int .i64 0, .int .i64 0, .int .i64 0] (by simp)).f 0 rfl
  have c3_0_1 : W3.cell? ⟨w.heap.size + 1, 1, none⟩ = some (.int .i64 0) := (K3.out.at (w.heap.size + 1) [.int .i64 0, .int .i64 0, .int .i64 0, .int .i64 0] (by simp)).c 1 rfl
  have z3_0_1 : W3.frozen? ⟨w.heap.size + 1, 1, none⟩ = false := (K3.out.at (w.heap.size + 1) [.int .i64 0, .int .i64 0, .int .i64 0, .int .i64 0] (by simp)).f 1 rfl
  have c3_0_2 : W3.cell? ⟨w.heap.size + 1, 2, none⟩ = some (.int .i64 0) := (K3.out.at (w.heap.size + 1) [.int .i64 0, .int .i64 0, .int .i64 0, .int .i64 0] (by simp)).c 2 rfl
  have z3_0_2 : W3.frozen? ⟨w.heap.size + 1, 2, none⟩ = false := (K3.out.at (w.heap.size + 1) [.int .i64 0, .int .i64 0, .int .i64 0, .int .i64 0] (by simp)).f 2 rfl
  have c3_0_3 : W3.cell? ⟨w.heap.size + 1, 3, none⟩ = some (.int .i64 0) := (K3.out.at (w.heap.size + 1) [.int .i64 0, .int .i64 0, .int .i64 0, .int .i64 0] (by simp)).c 3 rfl
  have z3_0_3 : W3.frozen? ⟨w.heap.size + 1, 3, none⟩ = false := (K3.out.at (w.heap.size + 1) [.int .i64 0, .int .i64 0, .int .i64 0, .int .i64 0] (by simp)).f 3 rfl
  have c3_1_0 : W3.cell? ⟨w.heap.size, 0, none⟩ = some (.int .i64 0) := (K3.out.at (w.heap.size) [.int .i64 0, .int .i64 m, .int .i64 d, .int .i64 u] (by simp)).c 0 rfl
  have c3_1_1 : W3.cell? ⟨w.heap.size, 1, none⟩ = some (.int .i64 m) := (K3.out.at (w.heap.size) [.int .i64 0, .int .i64 m, .int .i64 d, .int .i64 u] (by simp)).c 1 rfl
  have c3_1_2 : W3.cell? ⟨w.heap.size, 2, none⟩ = some (.int .i64 d) := (K3.out.at (w.heap.size) [.int .i64 0, .int .i64 m, .int .i64 d, .int .i64 u] (by simp)).c 2 rfl
  have c3_1_3 : W3.cell? ⟨w.heap.size, 3, none⟩ = some (.int .i64 u) := (K3.out.at (w.heap.size) [.int .i64 0, .int .i64 m, .int .i64 d, .int .i64 u] (by simp)).c 3 rfl
  go_wp2_with fail
  refine (SG.out _ _ hv'.out).mono ?_
  rintro e W4 ⟨rfl, hb⟩
  have K4 : Hid (BS w [(w.heap.size + 1, [.int .i64 0, .int .i64 0, .int .i64 0, .int .i64 0]), (w.heap.size, [.int .i64 0, .int .i64 m, .int .i64 d, .int .i64 u])] W4) := K3.out.below hb
  clear c3_0_0 z3_0_0 c3_0_1 z3_0_1 c3_0_2 z3_0_2 c3_0_3 z3_0_3 c3_1_0 c3_1_1 c3_1_2 c3_1_3
  clear hb hv' K3
  have c4_0_0 : W4.cell? ⟨w.heap.size + 1, 0, none⟩ = some (.int .i64 0) := (K4.out.at (w.heap.size + 1) [.int .i64 0, .int .i64 0, .int .i64 0, .int .i64 0] (by simp)).c 0 rfl
  have z4_0_0 : W4.frozen? ⟨w.heap.size + 1, 0, none⟩ = false := (K4.out.at (w.heap.size + 1) [.int .i64 0, .int .i64 0, .int .i64 0, .int .i64 0] (by simp)).f 0 rfl
  have c4_0_1 : W4.cell? ⟨w.heap.size + 1, 1, none⟩ = some (.int .i64 0) := (K4.out.at (w.heap.size + 1) [.int .i64 0, .int .i64 0, .int .i64 0, .int .i64 0] (by simp)).c 1 rfl
  have z4_0_1 : W4.frozen? ⟨w.heap.size + 1, 1, none⟩ = false := (K4.out.at (w.heap.size + 1) [.int .i64 0, .int .i64 0, .int .i64 0, .int .i64 0] (by simp)).f 1 rfl
  have c4_0_2 : W4.cell? ⟨w.heap.size + 1, 2, none⟩ = some (.int .i64 0) := (K4.out.at (w.heap.size + 1) [.int .i64 0, .int .i64 0, .int .i64 0, .int .i64 0] (by simp)).c 2 rfl
  have z4_0_2 : W4.frozen? ⟨w.heap.size + 1, 2, none⟩ = false := (K4.out.at (w.heap.size + 1) [.int .i64 0, .int .i64 0, .int .i64 0, .int .i64 0] (by simp)).f 2 rfl
  have c4_0_3 : W4.cell? ⟨w.heap.size + 1, 3, none⟩ = some (.int .i64 0) := (K4.out.at (w.heap.size + 1) [.int .i64 0, .int .i64 0, .int .i64 0, .int .i64 0] (by simp)).c 3 rfl
  have z4_0_3 : W4.frozen? ⟨w.heap.size + 1, 3, none⟩ = false := (K4.out.at (w.heap.size + 1) [.int .i64 0, .int .i64 0, .int .i64 0, .int .i64 0] (by simp)).f 3 rfl
  have c4_1_0 : W4.cell? ⟨w.heap.size, 0, none⟩ = some (.int .i64 0) := (K4.out.at (w.heap.size) [.int .i64 0, .int .i64 m, .int .i64 d, .int .i64 u] (by simp)).c 0 rfl
  have c4_1_1 : W4.cell? ⟨w.heap.size, 1, none⟩ = some (.int .i64 m) := (K4.out.at (w.heap.size) [.int .i64 0, .int .i64 m, .int .i64 d, .int .i64 u] (by simp)).c 1 rfl
  have c4_1_2 : W4.cell? ⟨w.heap.size, 2, none⟩ = some (.int .i64 d) := (K4.out.at (w.heap.size) [.int .i64 0, .int .i64 m, .int .i64 d, .int .i64 u] (by simp)).c 2 rfl
  have c4_1_3 : W4.cell? ⟨w.heap.size, 3, none⟩ = some (.int .i64 u) := (K4.out.at (w.heap.size) [.int .i64 0, .int .i64 m, .int .i64 d, .int .i64 u] (by simp)).c 3 rfl
  go_wp2_with fail
  refine (MK.out _).mono ?_
  rintro e W5 ⟨rfl, hb⟩
  have K5 : Hid (BS w [(w.heap.size + 1, [.int .i64 0, .int .i64 0, .int .i64 0, .int .i64 0]), (w.heap.size, [.int .i64 0, .int .i64 m, .int .i64 d, .int .i64 u])] W5) := K4.out.below hb
  clear c4_0_0 z4_0_0 c4_0_1 z4_0_1 c4_0_2 z4_0_2 c4_0_3 z4_0_3 c4_1_0 c4_1_1 c4_1_2 c4_1_3
  clear hb K4
  have c5_0_0 : W5.cell? ⟨w.heap.size + 1, 0, none⟩ = some (.int .i64 0) := (K5.out.at (w.heap.size + 1) [.int .i64 0, .int .i64 0, .int .i64 0, .int .i64 0] (by simp)).c 0 rfl
  have z5_0_0 : W5.frozen? ⟨w.heap.size + 1, 0, none⟩ = false := (K5.out.at (w.heap.size + 1) [.int .i64 0, .int .i64 0, .int .i64 0, .int .i64 0] (by simp)).f 0 rfl
  have c5_0_1 : W5.cell? ⟨w.heap.size + 1, 1, none⟩ = some (.int .i64 0) := (K5.out.at (w.heap.size + 1) [.int .i64 0, .int .i64 0, .int .i64 0, .int .i64 0] (by simp)).c 1 rfl
  have z5_0_1 : W5.frozen? ⟨w.heap.size + 1, 1, none⟩ = false := (K5.out.at (w.heap.size + 1) [.int .i64 0, .int .i64 0, .int .i64 0, .int .i64 0] (by simp)).f 1 rfl
  have c5_0_2 : W5.cell? ⟨w.heap.size + 1, 2, none⟩ = some (.int .i64 0) := (K5.out.at (w.heap.size + 1) [.int .i64 0, .int .i64 0, .int .i64 0, .int .i64 0] (by simp)).c 2 rfl
  have z5_0_2 : W5.frozen? ⟨w.heap.size + 1, 2, none⟩ = false := (K5.out.at (w.heap.size + 1) [.int .i64 0, .int .i64 0, .int .i64 0, .int .i64 0] (by simp)).f 2 rfl
  have c5_0_3 : W5.cell? ⟨w.heap.size + 1, 3, none⟩ = some (.int .i64 0) := (K5.out.at (w.heap.size + 1) [.int .i64 0, .int .i64 0, .int .i64 0, .int .i64 0] (by simp)).c 3 rfl
  have z5_0_3 : W5.frozen? ⟨w.heap.size + 1, 3, none⟩ = false := (K5.out.at (w.heap.size + 1) [.int .i64 0, .int .i64 0, .int .i64 0, .int .i64 0] (by simp)).f 3 rfl
  have c5_1_0 : W5.cell? ⟨w.heap.size, 0, none⟩ = some (.int .i64 0) := (K5.out.at (w.heap.size) [.int .i64 0, .int .i64 m, .int .i64 d, .int .i64 u] (by simp)).c 0 rfl
  have c5_1_1 : W5.cell? ⟨w.heap.size, 1, none⟩ = some (.int .i64 m) := (K5.out.at (w.heap.size) [.int .i64 0, .int .i64 m, .int .i64 d, .int .i64 u] (by simp)).c 1 rfl
  have c5_1_2 : W5.cell? ⟨w.heap.size, 2, none⟩ = some (.int .i64 d) := (K5.out.at (w.heap.size) [.int .i64 0, .int .i64 m, .int .i64 d, .int .i64 u] (by simp)).c 2 rfl
  have c5_1_3 : W5.cell? ⟨w.heap.size, 3, none⟩ = some (.int .i64 u) := (K5.out.at (w.heap.size) [.int .i64 0, .int .i64 m, .int .i64 d, .int .i64 u] (by simp)).c 3 rfl
  have XF : Hid (Bx (W5.setCells (w.heap.size + 1) 0 [.int .i64 I, .int .i64 M, .int .i64 D, .int .i64 U]) (w.heap.size + 1) [.int .i64 I, .int .i64 M, .int .i64 D, .int .i64 U]) := (K5.out.at (w.heap.size + 1) [.int .i64 0, .int .i64 0, .int .i64 0, .int .i64 0] (by simp)).setAll _ rfl
  have BF : Hid (Below w.heap.size w (W5.setCells (w.heap.size + 1) 0 [.int .i64 I, .int .i64 M, .int .i64 D, .int .i64 U])) := below_setCells (by omega) _ _ _ K5.out.1
  have y0 := XF.out.c 0 rfl
  have y1 := XF.out.c 1 rfl
  have y2 := XF.out.c 2 rfl
  have y3 := XF.out.c 3 rfl
  simp only [World.setCells, Nat.zero_add, Nat.reduceAdd] at y0 y1 y2 y3
  clear XF
  go_wp2
  exact bodyPost_ret (v := .tuple #[.agg #[.int .i64 I, .int .i64 M, .int .i64 D, .int .i64 U], .int .i64 E]) (by simp [results, Try.results27, go_sem, y0, y1, y2, y3]) rfl ⟨rfl, BF.out⟩

set_option maxRecDepth 100000 in
set_option maxHeartbeats 4000000 in
theorem rpjus_AB (m d u D1 U1 M1 D2 L l I M D U E : Int) (m1 : -2147483647 ≤ m) (m2 : m ≤ 2147483647) (d1 : -2147483647 ≤ d) (d2 : d ≤ 2147483647) (q1 : -1000000000 ≤ u.tdiv 86400000000) (q2 : u.tdiv 86400000000 ≤ 1000000000) (hd : d + u.tdiv 86400000000 = D1) (hu : u.tmod 86400000000 = U1) (hm : m + D1.tdiv 30 = M1) (he : D1.tmod 30 = D2) (q3 : -100000000 ≤ D1.tdiv 30) (q4 : D1.tdiv 30 ≤ 100000000) (e1 : -30 < D2) (e2 : D2 < 30) (f1 : -86400000000 < U1) (f2 : U1 < 86400000000) (g1 : 0 < M1) (g2 : l < 0) (k1 : 0 < D2 + 30) (k2 : ¬ U1 < 0)
    (R : Hid (∀ w : World, Calls Try.prog 16 #[.agg #[.int .i64 0, .int .i64 m, .int .i64 d, .int .i64 u]] w fun r' w' => r' = .returned (.bool true) ∧ Below w.heap.size w w'))
    (C : Hid (∀ w : World, Calls Try.prog 34 #[.int .i64 D1, .int .i64 2147483647] w fun r' w' => r' = .returned (.bool true) ∧ w' = w))
    (LG : Hid (∀ (w : World), Calls Try.prog 43 #[.agg #[.int .i64 0, .int .i64 0, .int .i64 D2, .int .i64 U1]] w fun r' w' => ∃ v', r' = .returned v' ∧ IsW w' v' (L) ∧ Below w.heap.size w w'))
    (SG : Hid (∀ (y : Value) (w : World), IsW w y L → Calls Try.prog 41 #[y] w fun r' w' => r' = .returned (.int .i64 l) ∧ Below w.heap.size w w'))
    (MK : Hid (∀ w : World, Calls Try.prog 21 #[.int .i64 (M1 - 1), .int .i64 (D2 + 30), .int .i64 U1] w fun r' w' => r' = .returned (.tuple #[.agg #[.int .i64 I, .int .i64 M, .int .i64 D, .int .i64 U], .int .i64 E]) ∧ Below w.heap.size w w'))
    (w : World) :
    Calls Try.prog 27 #[.agg #[.int .i64 0, .int .i64 m, .int .i64 d, .int .i64 u]] w fun r' w' => r' = .returned (.tuple #[.agg #[.int .i64 I, .int .i64 M, .int .i64 D, .int .i64 U], .int .i64 E]) ∧ Below w.heap.size w w' := by
  have w1 : IntKind.i64.wrap (u.tdiv 86400000000) = u.tdiv 86400000000 := by rw [IntKind.wrap_i64]; omega
  have w2 : IntKind.i64.wrap (d + u.tdiv 86400000000) = D1 := by rw [IntKind.wrap_i64]; omega
  have w3 : IntKind.i64.wrap (D1.tdiv 30) = D1.tdiv 30 := by rw [IntKind.wrap_i64]; omega
  have w4 : IntKind.i64.wrap (m + D1.tdiv 30) = M1 := by rw [IntKind.wrap_i64]; omega
  have g3 : ¬ M1 - 1 < 0 := by omega
  have k3 : ¬ D2 + 30 < 0 := by omega
  have K0 : Hid (BS w [(w.heap.size + 1, [.int .i64 0, .int .i64 0, .int .i64 0, .int .i64 0]), (w.heap.size, [.int .i64 0, .int .i64 m, .int .i64 d, .int .i64 u])] ((w.alloc (.cells #[.int .i64 0, .int .i64 m, .int .i64 d, .int .i64 u] 23)).alloc (.cells #[.int .i64 0, .int .i64 0, .int .i64 0, .int .i64 0] 23))) := (((BS.start w).new [.int .i64 0, .int .i64 m, .int .i64 d, .int .i64 u] 23 rfl).new [.int .i64 0, .int .i64 0, .int .i64 0, .int .i64 0] 23 (by simp))
  go_enter Try.func27, Try.ntmps27
  go_wp2_with fail
  refine (R.out _).mono ?_
  rintro e W1 ⟨rfl, hb⟩
  have K1 : Hid (BS w [(w.heap.size + 1, [.int .i64 0, .int .i64 0, .int .i64 0, .int .i64 0]), (w.heap.size, [.int .i64 0, .int .i64 m, .int .i64 d, .int .i64 u])] W1) := K0.out.below hb
  clear hb K0
  have c1_0_0 : W1.cell? ⟨w.heap.size + 1, 0, none⟩ = some (.int .i64 0) := (K1.out.at (w.heap.size + 1) [.int .i64 0, .int .i64 0, .int .i64 0, .int .i64 0] (by simp)).c 0 rfl
  have z1_0_0 : W1.frozen? ⟨w.heap.size + 1, 0, none⟩ = false := (K1.out.at (w.heap.size + 1) [.int .i64 0, .int .i64 0, .int .i64 0, .int .i64 0] (by simp)).f 0 rfl
  have c1_0_1 : W1.cell? ⟨w.heap.size + 1, 1, none⟩ = some (.int .i64 0) := (K1.out.at (w.heap.size + 1) [.int .i64 0, .int .i64 0, .int .i64 0, .int .i64 0] (by simp)).c 1 rfl
  have z1_0_1 : W1.frozen? ⟨w.heap.size + 1, 1, none⟩ = false := (K1.out.at (w.heap.size + 1) [.int .i64 0, .int .i64 0, .int .i64 0, .int .i64 0] (by simp)).f 1 rfl
  have c1_0_2 : W1.cell? ⟨w.heap.size + 1, 2, none⟩ = some (.int .i64 0) := (K1.out.at (w.heap.size + 1) [.int .i64 0, .int .i64 0, .int .i64 0, .int .i64 0] (by simp)).c 2 rfl
  have z1_0_2 : W1.frozen? ⟨w.heap.size + 1, 2, none⟩ = false := (K1.out.at (w.heap.size + 1) [.int .i64 0, .int .i64 0, .int .i64 0, .int .i64 0] (by simp)).f 2 rfl
  have c1_0_3 : W1.cell? ⟨w.heap.size + 1, 3, none⟩ = some (.int .i64 0) := (K1.out.at (w.heap.size + 1) [.int .i64 0, .int .i64 0, .int .i64 0, .int .i64 0] (by simp)).c 3 rfl
  have z1_0_3 : W1.frozen? ⟨w.heap.size + 1, 3, none⟩ = false := (K1.out.at (w.heap.size + 1) [.int .i64 0, .int .i64 0, .int .i64 0, .int .i64 0] (by simp)).f 3 rfl
  have c1_1_0 : W1.cell? ⟨w.heap.size, 0, none⟩ = some (.int .i64 0) := (K1.out.at (w.heap.size) [.int .i64 0, .int .i64 m, .int .i64 d, .int .i64 u] (by simp)).c 0 rfl
  have c1_1_1 : W1.cell? ⟨w.heap.size, 1, none⟩ = some (.int .i64 m) := (K1.out.at (w.heap.size) [.int .i64 0, .int .i64 m, .int .i64 d, .int .i64 u] (by simp)).c 1 rfl
  have c1_1_2 : W1.cell? ⟨w.heap.size, 2, none⟩ = some (.int .i64 d) := (K1.out.at (w.heap.size) [.int .i64 0, .int .i64 m, .int .i64 d, .int .i64 u] (by simp)).c 2 rfl
  have c1_1_3 : W1.cell? ⟨w.heap.size, 3, none⟩ = some (.int .i64 u) := (K1.out.at (w.heap.size) [.int .i64 0, .int .i64 m, .int .i64 d, .int .i64 u] (by simp)).c 3 rfl
  go_wp2_with fail
  refine (C.out _).mono ?_
  rintro e W2 ⟨rfl, hw⟩
  rw [hw]
  clear hw W2
  go_wp2_with fail
  refine (LG.out _).mono ?_
  rintro e W3 ⟨y, rfl, hv, hb⟩
  have K3 : Hid (BS w [(w.heap.size + 1, [.int .i64 0, .int .i64 0, .int .i64 0, .int .i64 0]), (w.heap.size, [.int .i64 0, .int .i64 m, .int .i64 d, .int .i64 u])] W3) := K1.out.below hb
  have hv' : Hid (IsW _ _ _) := hv
  clear c1_0_0 z1_0_0 c1_0_1 z1_0_1 c1_0_2 z1_0_2 c1_0_3 z1_0_3 c1_1_0 c1_1_1 c1_1_2 c1_1_3
  clear hb hv K1
  have c3_0_0 : W3.cell? ⟨w.heap.size + 1, 0, none⟩ = some (.int .i64 0) := (K3.out.at (w.heap.size + 1) [.int .i64 0, .int .i64 0, .int .i64 0, .int .i64 0] (by simp)).c 0 rfl
  have z3_0_0 : W3.frozen? ⟨w.heap.size + 1, 0, none⟩ = false := (K3.out.at (w.heap.size + 1) [.int .i64 0, .int .i64 0, .int .i64 0, .int .i64 0] (by simp)).f 0 rfl
  have c3_0_1 : W3.cell? ⟨w.heap.size + 1, 1, none⟩ = some (.int .i64 0) := (K3.out.at (w.heap.size + 1) [.int .i64 0, .int .i64 0, .int .i64 0, .int .i64 0] (by simp)).c 1 rfl
  have z3_0_1 : W3.frozen? ⟨w.heap.size + 1, 1, none⟩ = false := (K3.out.at (w.heap.size + 1) [.int .i64 0, .int .i64 0, .int .i64 0, .int .i64 0] (by simp)).f 1 rfl
  have c3_0_2 : W3.cell? ⟨w.heap.size + 1, 2, none⟩ = some (.int .i64 0) := (K3.out.at (w.heap.size + 1) [.int .i64 0, .int .i64 0, .int .i64 0, .int .i64 0] (by simp)).c 2 rfl
  have z3_0_2 : W3.frozen? ⟨w.heap.size + 1, 2, none⟩ = false := (K3.out.at (w.heap.size + 1) [.int .i64 0, .int .i64 0, .int .i64 0, .int .i64 0] (by simp)).f 2 rfl
  have c3_0_3 : W3.cell? ⟨w.heap.size + 1, 3, none⟩ = some (.int .i64 0) := (K3.out.at (w.heap.size + 1) [.int .i64 0, .int .i64 0, .int .i64 0, .int .i64 0] (by simp)).c 3 rfl
  have z3_0_3 : W3.frozen? ⟨w.heap.size + 1, 3, none⟩ = false := (K3.out.at (w.heap.size + 1) [.int .i64 0, .int .i64 0, .int .i64 0, .int .i64 0] (by simp)).f 3 rfl
  have c3_1_0 : W3.cell? ⟨w.heap.size, 0, none⟩ = some (.int .i64 0) := (K3.out.at (w.heap.size) [.int .i64 0, .int .i64 m, .int .i64 d, .int .i64 u] (by simp)).c 0 rfl
  have c3_1_1 : W3.cell? ⟨w.heap.size, 1, none⟩ = some (.int .i64 m) := (K3.out.at (w.heap.size) [.int .i64 0, .int .i64 m, .int .i64 d, .int .i64 u] (by simp)).c 1 rfl
  have c3_1_2 : W3.cell? ⟨w.heap.size, 2, none⟩ = some (.int .i64 d) := (K3.out.at (w.heap.size) [.int .i64 0, .int .i64 m, .int .i64 d, .int .i64 u] (by simp)).c 2 rfl
  have c3_1_3 : W3.cell? ⟨w.heap.size, 3, none⟩ = some (.int .i64 u) := (K3.out.at (w.heap.size) [.int .i64 0, .int .i64 m, .int .i64 d, .int .i64 u] (by simp)).c 3 rfl
  go_wp2_with fail
  refine (SG.out _ _ hv'.out).mono ?_
  rintro e W4 ⟨rfl, hb⟩
  have K4 : Hid (BS w [(w.heap.size + 1, [.int .i64 0, .int .i64 0, .int .i64 0, .int .i64 0]), (w.heap.size, [.int .i64 0, .int .i64 m, .int .i64 d, .int .i64 u])] W4) := K3.out.below hb
  clear c3_0_0 z3_0_0 c3_0_1 z3_0_1 c3_0_2 z3_0_2 c3_0_3 z3_0_3 c3_1_0 c3_1_1 c3_1_2 c3_1_3
  clear hb hv' K3
  have c4_0_0 : W4.cell? ⟨w.heap.size + 1, 0, none⟩ = some (.int .i64 0) := (K4.out.at (w.heap.size + 1) [.int .i64 0, .int .i64 0, .int .i64 0, .int .i64 0] (by simp)).c 0 rfl
  have z4_0_0 : W4.frozen? ⟨w.heap.size + 1, 0, none⟩ = false := (K4.out.at (w.heap.size + 1) [.int .i64 0, .int .i64 0, .int .i64 0, .int .i64 0] (by simp)).f 0 rfl
  have c4_0_1 : W4.cell? ⟨w.heap.size + 1, 1, none⟩ = some (.int .i64 0) := (K4.out.at (w.heap.size + 1) [.int .i64 0, .int .i64 0, .int .i64 0, .int .i64 0] (by simp)).c 1 rfl
  have z4_0_1 : W4.frozen? ⟨w.heap.size + 1, 1, none⟩ = false := (K4.out.at (w.heap.size + 1) [.int .i64 0, .int .i64 0, .int .i64 0, .int .i64 0] (by simp)).f 1 rfl
  have c4_0_2 : W4.cell? ⟨w.heap.size + 1, 2, none⟩ = some (.int .i64 0) := (K4.out.at (w.heap.size + 1) [.int .i64 0, .int .i64 0, .int .i64 0, .int .i64 0] (by simp)).c 2 rfl
  have z4_0_2 : W4.frozen? ⟨w.heap.size + 1, 2, none⟩ = false := (K4.out.at (w.heap.size + 1) [.int .i64 0, .int .i64 0, .int .i64 0, .int .i64 0] (by simp)).f 2 rfl
  have c4_0_3 : W4.cell? ⟨w.heap.size + 1, 3, none⟩ = some (.int .i64 0) := (K4.out.at (w.heap.size + 1) [.int .i64 0, .int .i64 0, .int .i64 0, .int .i64 0] (by simp)).c 3 rfl
  have z4_0_3 : W4.frozen? ⟨w.heap.size + 1, 3, none⟩ = false := (K4.out.at (w.heap.size + 1) [.int .i64 0, .int .i64 0, .int .i64 0, .int .i64 0] (by simp)).f 3 rfl
  have c4_1_0 : W4.cell? ⟨w.heap.size, 0, none⟩ = some (.int .i64 0) := (K4.out.at (w.heap.size) [.int .i64 0, .int .i64 m, .int .i64 d, .int .i64 u] (by simp)).c 0 rfl
  have c4_1_1 : W4.cell? ⟨w.heap.size, 1, none⟩ = some (.int .i64 m) := (K4.out.at (w.heap.size) [.int .i64 0, .int .i64 m, .int .i64 d, .int .i64 u] (by simp)).c 1 rfl
  have c4_1_2 : W4.cell? ⟨w.heap.size, 2, none⟩ = some (.int .i64 d) := (K4.out.at (w.heap.size) [.int .i64 0, .int .i64 m, .int .i64 d, .int .i64 u] (by simp)).c 2 rfl
  have c4_1_3 : W4.cell? ⟨w.heap.size, 3, none⟩ = some (.int .i64 u) := (K4.out.at (w.heap.size) [.int .i64 0, .int .i64 m, .int .i64 d, .int .i64 u] (by simp)).c 3 rfl
  go_wp2_with fail
  refine (MK.out _).mono ?_
  rintro e W5 ⟨rfl, hb⟩
  have K5 : Hid (BS w [(w.heap.size + 1, [.int .i64 0, .int .i64 0, .int .i64 0, .int .i64 0]), (w.heap.size, [.int .i64 0, .int .i64 m, .int .i64 d, .int .i64 u])] W5) := K4.out.below hb
  clear c4_0_0 z4_0_0 c4_0_1 z4_0_1 c4_0_2 z4_0_2 c4_0_3 z4_0_3 c4_1_0 c4_1_1 c4_1_2 c4_1_3
  clear hb K4
  have c5_0_0 : W5.cell? ⟨w.heap.size + 1, 0, none⟩ = some (.int .i64 0) := (K5.out.at (w.heap.size + 1) [.int .i64 0, .int .i64 0, .int .i64 0, .int .i64 0] (by simp)).c 0 rfl
  have z5_0_0 : W5.frozen? ⟨w.heap.size + 1, 0, none⟩ = false := (K5.out.at (w.heap.size + 1) [.int .i64 0, .int .i64 0, .int .i64 0, .int .i64 0] (by simp)).f 0 rfl
  have c5_0_1 : W5.cell? ⟨w.heap.size + 1, 1, none⟩ = some (.int .i64 0) := (K5.out.at (w.heap.size + 1) [.int .i64 0, .int .i64 0, .int .i64 0, .int .i64 0] (by simp)).c 1 rfl
  have z5_0_1 : W5.frozen? ⟨w.heap.size + 1, 1, none⟩ = false := (K5.out.at (w.heap.size + 1) [.int .i64 0, .int .i64 0, .int .i64 0, .int .i64 0] (by simp)).f 1 rfl
  have c5_0_2 : W5.cell? ⟨w.heap.size + 1, 2, none⟩ = some (.int .i64 0) := (K5.out.at (w.heap.size + 1) [.int .i64 0, .int .i64 0, .int .i64 0, .int .i64 0] (by simp)).c 2 rfl
  have z5_0_2 : W5.frozen? ⟨w.heap.size + 1, 2, none⟩ = false := (K5.out.at (w.heap.size + 1) [.int .i64 0, .int .i64 0, .int .i64 0, .int .i64 0] (by simp)).f 2 rfl
  have c5_0_3 : W5.cell? ⟨w.heap.size + 1, 3, none⟩ = some (.int .i64 0) := (K5.out.at (w.heap.size + 1) [.int .i64 0, .int .i64 0, .int .i64 0, .int .i64 0] (by simp)).c 3 rfl
  have z5_0_3 : W5.frozen? ⟨w.heap.size + 1, 3, none⟩ = false := (K5.out.at (w.heap.size + 1) [.int .i64 0, .int .i64 0, .int .i64 0, .int .i64 0] (by simp)).f 3 rfl
  have c5_1_0 : W5.cell? ⟨w.heap.size, 0, none⟩ = some (.int .i64 0) := (K5.out.at (w.heap.size) [.int .i64 0, .int .i64 m, .int .i64 d, .int .i64 u] (by simp)).c 0 rfl
  have c5_1_1 : W5.cell? ⟨w.heap.size, 1, none⟩ = some (.int .i64 m) := (K5.out.at (w.heap.size) [.int .i64 0, .int .i64 m, .int .i64 d, .int .i64 u] (by simp)).c 1 rfl
  have c5_1_2 : W5.cell? ⟨w.heap.size, 2, none⟩ = some (.int .i64 d) := (K5.out.at (w.heap.size) [.int .i64 0, .int .i64 m, .int .i64 d, .int .i64 u] (by simp)).c 2 rfl
  have c5_1_3 : W5.cell? ⟨w.heap.size, 3, none⟩ = some (.int .i64 u) := (K5.out.at (w.heap.size) [.int .i64 0, .int .i64 m, .int .i64 d, .int .i64 u] (by simp)).c 3 rfl
  have XF : Hid (Bx (W5.setCells (w.heap.size + 1) 0 [.int .i64 I, .int .i64 M, .int .i64 D, .int .i64 U]) (w.heap.size + 1) [.int .i64 I, .int .i64 M, .int .i64 D, .int .i64 U]) := (K5.out.at (w.heap.size + 1) [.int .i64 0, .int .i64 0, .int .i64 0, .int .i64 0] (by simp)).setAll _ rfl
  have BF : Hid (Below w.heap.size w (W5.setCells (w.heap.size + 1) 0 [.int .i64 I, .int .i64 M, .int .i64 D, .int .i64 U])) := below_setCells (by omega) _ _ _ K5.out.1
  have y0 := XF.out.c 0 rfl
  have y1 := XF.out.c 1 rfl
  have y2 := XF.out.c 2 rfl
  have y3 := XF.out.c 3 rfl
  simp only [World.setCells, Nat.zero_add, Nat.reduceAdd] at y0 y1 y2 y3
  clear XF
  go_wp2
  exact bodyPost_ret (v := .tuple #[.agg #[.int .i64 I, .int .i64 M, .int .i64 D, .int .i64 U], .int .i64 E]) (by simp [results, Try.results27, go_sem, y0, y1, y2, y3]) rfl ⟨rfl, BF.out⟩

set_option maxRecDepth 100000 in
set_option maxHeartbeats 4000000 in
theorem rpjus_BA (m d u D1 U1 M1 D2 L l I M D U E : Int) (m1 : -2147483647 ≤ m) (m2 : m ≤ 2147483647) (d1 : -2147483647 ≤ d) (d2 : d ≤ 2147483647) (q1 : -1000000000 ≤ u.tdiv 86400000000) (q2 : u.tdiv 86400000000 ≤ 1000000000) (hd : d + u.tdiv 86400000000 = D1) (hu : u.tmod 86400000000 = U1) (hm : m + D1.tdiv 30 = M1) (he : D1.tmod 30 = D2) (q3 : -100000000 ≤ D1.tdiv 30) (q4 : D1.tdiv 30 ≤ 100000000) (e1 : -30 < D2) (e2 : D2 < 30) (f1 : -86400000000 < U1) (f2 : U1 < 86400000000) (g1 : 0 < M1) (g2 : ¬ l < 0) (k1 : 0 < D2) (k2 : U1 < 0)
    (R : Hid (∀ w : World, Calls Try.prog 16 #[.agg #[.int .i64 0, .int .i64 m, .int .i64 d, .int .i64 u]] w fun r' w' => r' = .returned (.bool true) ∧ Below w.heap.size w w'))
    (C : Hid (∀ w : World, Calls Try.prog 34 #[.int .i64 D1, .int .i64 2147483647] w fun r' w' => r' = .returned (.bool true) ∧ w' = w))
    (LG : Hid (∀ (w : World), Calls Try.prog 43 #[.agg #[.int .i64 0, .int .i64 0, .int .i64 D2, .int .i64 U1]] w fun r' w' => ∃ v', r' = .returned v' ∧ IsW w' v' (L) ∧ Below w.heap.size w w'))
    (SG : Hid (∀ (y : Value) (w : World), IsW w y L → Calls Try.prog 41 #[y] w fun r' w' => r' = .returned (.int .i64 l) ∧ Below w.heap.size w w'))
    (MK : Hid (∀ w : World, Calls Try.prog 21 #[.int .i64 M1, .int .i64 (D2 - 1), .int .i64 (U1 + 86400000000)] w fun r' w' => r' = .returned (.tuple #[.agg #[.int .i64 I, .int .i64 M, .int .i64 D, .int .i64 U], .int .i64 E]) ∧ Below w.heap.size w w'))
    (w : World) :
    Calls Try.prog 27 #[.agg #[.int .i64 0, .int .i64 m, .int .i64 d, .int .i64 u]] w fun r' w' => r' = .returned (.tuple #[.agg #[.int .i64 I, .int .i64 M, .int .i64 D, .int .i64 U], .int .i64 E]) ∧ Below w.heap.size w w' := by
  have w1 : IntKind.i64.wrap (u.tdiv 86400000000) = u.tdiv 86400000000 := by rw [IntKind.wrap_i64]; omega
  have w2 : IntKind.i64.wrap (d + u.tdiv 86400000000) = D1 := by rw [IntKind.wrap_i64]; omega
  have w3 : IntKind.i64.wrap (D1.tdiv 30) = D1.tdiv 30 := by rw [IntKind.wrap_i64]; omega
  have w4 : IntKind.i64.wrap (m + D1.tdiv 30) = M1 := by rw [IntKind.wrap_i64]; omega
  have g3 : ¬ M1 < 0 := by omega
  have k3 : ¬ D2 - 1 < 0 := by omega
  have K0 : Hid (BS w [(w.heap.size + 1, [.int .i64 0, .int .i64 0, .int .i64 0, .int .i64 0]), (w.heap.size, [.int .i64 0, .int .i64 m, .int .i64 d, .int .i64 u])] ((w.alloc (.cells #[.int .i64 0, .int .i64 m, .int .i64 d, .int .i64 u] 23)).alloc (.cells #[.int .i64 0, .int .i64 0, .int .i64 0, .int .i64 0] 23))) := (((BS.start w).new [.int .i64 0, .int .i64 m, .int .i64 d, .int .i64 u] 23 rfl).new [.int .i64 0, .int .i64 0, .int .i64 0, .int .i64 0] 23 (by simp))
  go_enter Try.func27, Try.ntmps27
  go_wp2_with fail
  refine (R.out _).mono ?_
  rintro e W1 ⟨rfl, hb⟩
  have K1 : Hid (BS w [(w.heap.size + 1, [.int .i64 0, .int .i64 0, .int .i64 0, .int .i64 0]), (w.heap.size, [.int .i64 0, .int .i64 m, .int .i64 d, .int .i64 u])] W1) := K0.out.below hb
  clear hb K0
  have c1_0_0 : W1.cell? ⟨w.heap.size + 1, 0, none⟩ = some (.int .i64 0) := (K1.out.at (w.heap.size + 1) [.int .i64 0, .int .i64 0, .int .i64 0, .int .i64 0] (by simp)).c 0 rfl
  have z1_0_0 : W1.frozen? ⟨w.heap.size + 1, 0, none⟩ = false := (K1.out.at (w.heap.size + 1) [.int .i64 0, .int .i64 0, .int .i64 0, .int .i64 0] (by simp)).f 0 rfl
  have c1_0_1 : W1.cell? ⟨w.heap.size + 1, 1, none⟩ = some (.int .i64 0) := (K1.out.at (w.heap.size + 1) [.int .i64 0, .int .i64 0, .int .i64 0, .int .i64 0] (by simp)).c 1 rfl
  have z1_0_1 : W1.frozen? ⟨w.heap.size + 1, 1, none⟩ = false := (K1.out.at (w.heap.size + 1) [.int .i64 0, .int .i64 0, .int .i64 0, .int .i64 0] (by simp)).f 1 rfl
  have c1_0_2 : W1.cell? ⟨w.heap.size + 1, 2, none⟩ = some (.int .i64 0) := (K1.out.at (w.heap.size + 1) [.int .i64 0, .int .i64 0, .int .i64 0, .int .i64 0] (by simp)).c 2 rfl
  have z1_0_2 : W1.frozen? ⟨w.heap.size + 1, 2, none⟩ = false := (K1.out.at (w.heap.size + 1) [.int .i64 0, .int .i64 0, .int .i64 0, .int .i64 0] (by simp)).f 2 rfl
  have c1_0_3 : W1.cell? ⟨w.heap.size + 1, 3, none⟩ = some (.int .i64 0) := (K1.out.at (w.heap.size + 1) [.int .i64 0, .int .i64 0, .int .i64 0, .int .i64 0] (by simp)).c 3 rfl
  have z1_0_3 : W1.frozen? ⟨w.heap.size + 1, 3, none⟩ = false := (K1.out.at (w.heap.size + 1) [.int .i64 0, .int .i64 0, .int .i64 0, .int .i64 0] (by simp)).f 3 rfl
  have c1_1_0 : W1.cell? ⟨w.heap.size, 0, none⟩ = some (.int .i64 0) := (K1.out.at (w.heap.size) [.int .i64 0, .int .i64 m, .int .i64 d, .int .i64 u] (by simp)).c 0 rfl
  have c1_1_1 : W1.cell? ⟨w.heap.size, 1, none⟩ = some (.int .i64 m) := (K1.out.at (w.heap.size) [.int .i64 0, .int .i64 m, .int .i64 d, .int .i64 u] (by simp)).c 1 rfl
  have c1_1_2 : W1.cell? ⟨w.heap.size, 2, none⟩ = some (.int .i64 d) := (K1.out.at (w.heap.size) [.int .i64 0, .int .i64 m, .int .i64 d, .int .i64 u] (by simp)).c 2 rfl
  have c1_1_3 : W1.cell? ⟨w.heap.size, 3, none⟩ = some (.int .i64 u) := (K1.out.at (w.heap.size) [.int .i64 0, .int .i64 m, .int .i64 d, .int .i64 u] (by simp)).c 3 rfl
  go_wp2_with fail
  refine (C.out _).mono ?_
  rintro e W2 ⟨rfl, hw⟩
  rw [hw]
  clear hw W2
  go_wp2_with fail
  refine (LG.out _).mono ?_
  rintro e W3 ⟨y, rfl, hv, hb⟩
  have K3 : Hid (BS w [(w.heap.size + 1, [.int .i64 0, .int .i64 0, .int .i64 0, .int .i64 0]), (w.heap.size, [.int .i64 0, .int .i64 m, .int .i64 d, .int .i64 u])] W3) := K1.out.below hb
  have hv' : Hid (IsW _ _ _) := hv
  clear c1_0_0 z1_0_0 c1_0_1 z1_0_1 c1_0_2 z1_0_2 c1_0_3 z1_0_3 c1_1_0 c1_1_1 c1_1_2 c1_1_3
  clear hb hv K1
  have c3_0_0 : W3.cell? ⟨w.heap.size + 1, 0, none⟩ = some (.int .i64 0) := (K3.out.at (w.heap.size + 1) [.int .i64 0, .int .i64 0, .int .i64 0, .int .i64 0] (by simp)).c 0 rfl
  have z3_0_0 : W3.frozen? ⟨w.heap.size + 1, 0, none⟩ = false := (K3.out.at (w.heap.size + 1) [.int .i64 0, .int .i64 0, .int .i64 0, .int .i64 0] (by simp)).f 0 rfl
  have c3_0_1 : W3.cell? ⟨w.heap.size + 1, 1, none⟩ = some (.int .i64 0) := (K3.out.at (w.heap.size + 1) [.int .i64 0, .int .i64 0, .int .i64 0, .int .i64 0] (by simp)).c 1 rfl
  have z3_0_1 : W3.frozen? ⟨w.heap.size + 1, 1, none⟩ = false := (K3.out.at (w.heap.size + 1) [.int .i64 0, .int .i64 0, .int .i64 0, .int .i64 0] (by simp)).f 1 rfl
  have c3_0_2 : W3.cell? ⟨w.heap.size + 1, 2, none⟩ = some (.int .i64 0) := (K3.out.at (w.heap.size + 1) [.int .i64 0, .int .i64 0, .int .i64 0, .int .i64 0] (by simp)).c 2 rfl
  have z3_0_2 : W3.frozen? ⟨w.heap.size + 1, 2, none⟩ = false := (K3.out.at (w.heap.size + 1) [.int .i64 0, .int .i64 0, .int .i64 0, .int .i64 0] (by simp)).f 2 rfl
  have c3_0_3 : W3.cell? ⟨w.heap.size + 1, 3, none⟩ = some (.int .i64 0) := (K3.out.at (w.heap.size + 1) [.int .i64 0, .int .i64 0, .int .i64 0, .int .i64 0] (by simp)).c 3 rfl
  have z3_0_3 : W3.frozen? ⟨w.heap.size + 1, 3, none⟩ = false := (K3.out.at (w.heap.size + 1) [.int .i64 0, .int .i64 0, .int .i64 0, .int .i64 0] (by simp)).f 3 rfl
  have c3_1_0 : W3.cell? ⟨w.heap.size, 0, none⟩ = some (.int .i64 0) := (K3.out.at (w.heap.size) [.int .i64 0, .int .i64 m, .int .i64 d, .int .i64 u] (by simp)).c 0 rfl
  have c3_1_1 : W3.cell? ⟨w.heap.size, 1, none⟩ = some (.int .i64 m) := (K3.out.at (w.heap.size) [.int .i64 0, .int .i64 m, .int .i64 d, .int .i64 u] (by simp)).c 1 rfl
  have c3_1_2 : W3.cell? ⟨w.heap.size, 2, none⟩ = some (.int .i64 d) := (K3.out.at (w.heap.size) [.int .i64 0, .int .i64 m, .int .i64 d, .int .i64 u] (by simp)).c 2 rfl
  have c3_1_3 : W3.cell? ⟨w.heap.size, 3, none⟩ = some (.int .i64 u) := (K3.out.at (w.heap.size) [.int .i64 0, .int .i64 m, .int .i64 d, .int .i64 u] (by simp)).c 3 rfl
  go_wp2_with fail
  refine (SG.out _ _ hv'.out).mono ?_
  rintro e W4 ⟨rfl, hb⟩
  have K4 : Hid (BS w [(w.heap.size + 1, [.int .i64 0, .int .i64 0, .int .i64 0, .int .i64 0]), (w.heap.size, [.int .i64 0, .int .i64 m, .int .i64 d, .int .i64 u])] W4) := K3.out.below hb
  clear c3_0_0 z3_0_0 c3_0_1 z3_0_1 c3_0_2 z3_0_2 c3_0_3 z3_0_3 c3_1_0 c3_1_1 c3_1_2 c3_1_3
  clear hb hv' K3
  have c4_0_0 : W4.cell? ⟨w.heap.size + 1, 0, none⟩ = some (.int .i64 0) := (K4.out.at (w.heap.size + 1) [.int .i64 0, .int .i64 0, .int .i64 0, .int .i64 0] (by simp)).c 0 rfl
  have z4_0_0 : W4.frozen? ⟨w.heap.size + 1, 0, none⟩ = false := (K4.out.at (w.heap.size + 1) [.int .i64 0, .int .i64 0, .int .i64 0, .int .i64 0] (by simp)).f 0 rfl
  have c4_0_1 : W4.cell? ⟨w.heap.size + 1, 1, none⟩ = some (.int .i64 0) := (K4.out.at (w.heap.size + 1) [.int .i64 0, .int .i64 0, .int .i64 0, .int .i64 0] (by simp)).c 1 rfl
  have z4_0_1 : W4.frozen? ⟨w.heap.size + 1, 1, none⟩ = false := (K4.out.at (w.heap.size + 1) [.int .i64 0, .int .i64 0, .int .i64 0, .int .i64 0] (by simp)).f 1 rfl
  have c4_0_2 : W4.cell? ⟨w.heap.size + 1, 2, none⟩ = some (.int .i64 0) := (K4.out.at (w.heap.size + 1) [.int .i64 0, .int .i64 0, .int .i64 0, .int .i64 0] (by simp)).c 2 rfl
  have z4_0_2 : W4.frozen? ⟨w.heap.size + 1, 2, none⟩ = false := (K4.out.at (w.heap.size + 1) [.int .i64 0, .int .i64 0, .int .i64 0, .int .i64 0] (by simp)).f 2 rfl
  have c4_0_3 : W4.cell? ⟨w.heap.size + 1, 3, none⟩ = some (.int .i64 0) := (K4.out.at (w.heap.size + 1) [.int .i64 0, .int .i64 0, .int .i64 0, .int .i64 0] (by simp)).c 3 rfl
  have z4_0_3 : W4.frozen? ⟨w.heap.size + 1, 3, none⟩ = false := (K4.out.at (w.heap.size + 1) [.int .i64 0, .int .i64 0, .int .i64 0, .int .i64 0] (by simp)).f 3 rfl
  have c4_1_0 : W4.cell? ⟨w.heap.size, 0, none⟩ = some (.int .i64 0) := (K4.out.at (w.heap.size) [.int .i64 0, .int .i64 m, .int .i64 d, .int .i64 u] (by simp)).c 0 rfl
  have c4_1_1 : W4.cell? ⟨w.heap.size, 1, none⟩ = some (.int .i64 m) := (K4.out.at (w.heap.size) [.int .i64 0, .int .i64 m, .int .i64 d, .int .i64 u] (by simp)).c 1 rfl
  have c4_1_2 : W4.cell? ⟨w.heap.size, 2, none⟩ = some (.int .i64 d) := (K4.out.at (w.heap.size) [.int .i64 0, .int .i64 m, .int .i64 d, .int .i64 u] (by simp)).c 2 rfl
  have c4_1_3 : W4.cell? ⟨w.heap.size, 3, none⟩ = some (.int .i64 u) := (K4.out.at (w.heap.size) [.int .i64 0, .int .i64 m, .int .i64 d, .int .i64 u] (by simp)).c 3 rfl
  go_wp2_with fail
  refine (MK.out _).mono ?_
  rintro e W5 ⟨rfl, hb⟩
  have K5 : Hid (BS w [(w.heap.size + 1, [.int .i64 0, .int .i64 0, .int .i64 0, .int .i64 0]), (w.heap.size, [.int .i64 0, .int .i64 m, .int .i64 d, .int .i64 u])] W5) := K4.out.below hb
  clear c4_0_0 z4_0_0 c4_0_1 z4_0_1 c4_0_2 z4_0_2 c4_0_3 z4_0_3 c4_1_0 c4_1_1 c4_1_2 c4_1_3
  clear hb K4
  have c5_0_0 : W5.cell? ⟨w.heap.size + 1, 0, none⟩ = some (.int .i64 0) := (K5.out.at (w.heap.size + 1) [.int .i64 0, .int .i64 0, .int .i64 0, .int .i64 0] (by simp)).c 0 rfl
  have z5_0_0 : W5.frozen? ⟨w.heap.size + 1, 0, none⟩ = false := (K5.out.at (w.heap.size + 1) [.int .i64 0, .int .i64 0, .int .i64 0, .int .i64 0] (by simp)).f 0 rfl
  have c5_0_1 : W5.cell? ⟨w.heap.size + 1, 1, none⟩ = some (.int .i64 0) := (K5.out.at (w.heap.size + 1) [.int .i64 0, .int .i64 0, .int .i64 0, .int .i64 0] (by simp)).c 1 rfl
  have z5_0_1 : W5.frozen? ⟨w.heap.size + 1, 1, none⟩ = false := (K5.out.at (w.heap.size + 1) [.int .i64 0, .int .i64 0, .int .i64 0, .int .i64 0] (by simp)).f 1 rfl
  have c5_0_2 : W5.cell? ⟨w.heap.size + 1, 2, none⟩ = some (.int .i64 0) := (K5.out.at (w.heap.size + 1) [.int .i64 0, .int .i64 0, .int .i64 0, .int .i64 0] (by simp)).c 2 rfl
  have z5_0_2 : W5.frozen? ⟨w.heap.size + 1, 2, none⟩ = false := (K5.out.at (w.heap.size + 1) [.int .i64 0, .int .i64 0, .int .i64 0, .int .i64 0] (by simp)).f 2 rfl
  have c5_0_3 : W5.cell? ⟨w.heap.size + 1, 3, none⟩ = some (.int .i64 0) := (K5.out.at (w.heap.size + 1) [.int .i64 0, .int .i64 0, .int .i64 0, .int .i64 0] (by simp)).c 3 rfl
  have z5_0_3 : W5.frozen? ⟨w.heap.size + 1, 3, none⟩ = false := (K5.out.at (w.heap.size + 1) [.int .i64 0, .int .i64 0, .int .i64 0, .int .i64 0] (by simp)).f 3 rfl
  have c5_1_0 : W5.cell? ⟨w.heap.size, 0, none⟩ = some (.int .i64 0) := (K5.out.at (w.heap.size) [.int .i64 0, .int .i64 m, .int .i64 d, .int .i64 u] (by simp)).c 0 rfl
  have c5_1_1 : W5.cell? ⟨w.heap.size, 1, none⟩ = some (.int .i64 m) := (K5.out.at (w.heap.size) [.int .i64 0, .int .i64 m, .int .i64 d, .int .i64 u] (by simp)).c 1 rfl
  have c5_1_2 : W5.cell? ⟨w.heap.size, 2, none⟩ = some (.int .i64 d) := (K5.out.at (w.heap.size) [.int .i64 0, .int .i64 m, .int .i64 d, .int .i64 u] (by simp)).c 2 rfl
  have c5_1_3 : W5.cell? ⟨w.heap.size, 3, none⟩ = some (.int .i64 u) := (K5.out.at (w.heap.size) [.int .i64 0, .int .i64 m, .int .i64 d, .int .i64 u] (by simp)).c 3 rfl
  have XF : Hid (Bx (W5.setCells (w.heap.size + 1) 0 [.int .i64 I, .int .i64 M, .int .i64 D, .int .i64 U]) (w.heap.size + 1) [.int .i64 I, .int .i64 M, .int .i64 D, .int .i64 U]) := (K5.out.at (w.heap.size + 1) [.int .i64 0, .int .i64 0, .int .i64 0, .int .i64 0] (by simp)).setAll _ rfl
  have BF : Hid (Below w.heap.size w (W5.setCells (w.heap.size + 1) 0 [.int .i64 I, .int .i64 M, .int .i64 D, .int .i64 U])) := below_setCells (by omega) _ _ _ K5.out.1
  have y0 := XF.out.c 0 rfl
  have y1 := XF.out.c 1 rfl
  have y2 := XF.out.c 2 rfl
  have y3 := XF.out.c 3 rfl
  simp only [World.setCells, Nat.zero_add, Nat.reduceAdd] at y0 y1 y2 y3
  clear XF
  go_wp2
  exact bodyPost_ret (v := .tuple #[.agg #[.int .i64 I, .int .i64 M, .int .i64 D, .int .i64 U], .int .i64 E]) (by simp [results, Try.results27, go_sem, y0, y1, y2, y3]) rfl ⟨rfl, BF.out⟩

set_option maxRecDepth 100000 in
set_option maxHeartbeats 4000000 in
theorem rpjus_BB (m d u D1 U1 M1 D2 L l I M D U E : Int) (m1 : -2147483647 ≤ m) (m2 : m ≤ 2147483647) (d1 : -2147483647 ≤ d) (d2 : d ≤ 2147483647) (q1 : -1000000000 ≤ u.tdiv 86400000000) (q2 : u.tdiv 86400000000 ≤ 1000000000) (hd : d + u.tdiv 86400000000 = D1) (hu : u.tmod 86400000000 = U1) (hm : m + D1.tdiv 30 = M1) (he : D1.tmod 30 = D2) (q3 : -100000000 ≤ D1.tdiv 30) (q4 : D1.tdiv 30 ≤ 100000000) (e1 : -30 < D2) (e2 : D2 < 30) (f1 : -86400000000 < U1) (f2 : U1 < 86400000000) (g1 : 0 < M1) (g2 : ¬ l < 0) (k1 : 0 < D2) (k2 : ¬ U1 < 0)
    (R : Hid (∀ w : World, Calls Try.prog 16 #[.agg #[.int .i64 0, .int .i64 m, .int .i64 d, .int .i64 u]] w fun r' w' => r' = .returned (.bool true) ∧ Below w.heap.size w w'))
    (C : Hid (∀ w : World, Calls Try.prog 34 #[.int .i64 D1, .int .i64 2147483647] w fun r' w' => r' = .returned (.bool true) ∧ w' = w))
    (LG : Hid (∀ (w : World), Calls Try.prog 43 #[.agg #[.int .i64 0, .int .i64 0, .int .i64 D2, .int .i64 U1]] w fun r' w' => ∃ v', r' = .returned v' ∧ IsW w' v' (L) ∧ Below w.heap.size w w'))
    (SG : Hid (∀ (y : Value) (w : World), IsW w y L → Calls Try.prog 41 #[y] w fun r' w' => r' = .returned (.int .i64 l) ∧ Below w.heap.size w w'))
    (MK : Hid (∀ w : World, Calls Try.prog 21 #[.int .i64 M1, .int .i64 D2, .int .i64 U1] w fun r' w' => r' = .returned (.tuple #[.agg #[.int .i64 I, .int .i64 M, .int .i64 D, .int .i64 U], .int .i64 E]) ∧ Below w.heap.size w w'))
    (w : World) :
    Calls Try.prog 27 #[.agg #[.int .i64 0, .int .i64 m, .int .i64 d, .int .i64 u]] w fun r' w' => r' = .returned (.tuple #[.agg #[.int .i64 I, .int .i64 M, .int .i64 D, .int .i64 U], .int .i64 E]) ∧ Below w.heap.size w w' := by
  have w1 : IntKind.i64.wrap (u.tdiv 86400000000) = u.tdiv 86400000000 := by rw [IntKind.wrap_i64]; omega
  have w2 : IntKind.i64.wrap (d + u.tdiv 86400000000) = D1 := by rw [IntKind.wrap_i64]; omega
  have w3 : IntKind.i64.wrap (D1.tdiv 30) = D1.tdiv 30 := by rw [IntKind.wrap_i64]; omega
  have w4 : IntKind.i64.wrap (m + D1.tdiv 30) = M1 := by rw [IntKind.wrap_i64]; omega
  have g3 : ¬ M1 < 0 := by omega
  have k3 : ¬ D2 < 0 := by omega
  have K0 : Hid (BS w [(w.heap.size + 1, [.int .i64 0, .int .i64 0, .int .i64 0, .int .i64 0]), (w.heap.size, [.int .i64 0, .int .i64 m, .int .i64 d, .int .i64 u])] ((w.alloc (.cells #[.int .i64 0, .int .i64 m, .int .i64 d, .int .i64 u] 23)).alloc (.cells #[.int .i64 0, .int .i64 0, .int .i64 0, .int .i64 0] 23))) := (((BS.start w).new [.int .i64 0, .int .i64 m, .int .i64 d, .int .i64 u] 23 rfl).new [.int .i64 0, .int .i64 0, .int .i64 0, .int .i64 0] 23 (by simp))
  go_enter Try.func27, Try.ntmps27
  go_wp2_with fail
  refine (R.out _).mono ?_
  rintro e W1 ⟨rfl, hb⟩
  have K1 : Hid (BS w [(w.heap.size + 1, [.int .i64 0, .int .i64 0, .int .i64 0, .int .i64 0]), (w.heap.size, [.int .i64 0, .int .i64 m, .int .i64 d, .int .i64 u])] W1) := K0.out.below hb
  clear hb K0
  have c1_0_0 : W1.cell? ⟨w.heap.size + 1, 0, none⟩ = some (.int .i64 0) := (K1.out.at (w.heap.size + 1) [.int .i64 0, .int .i64 0, .int .i64 0, .int .i64 0] (by simp)).c 0 rfl
  have z1_0_0 : W1.frozen? ⟨w.heap.size + 1, 0, none⟩ = false := (K1.out.at (w.heap.size + 1) [.int .i64 0, .int .i64 0, .int .i64 0, .int .i64 0] (by simp)).f 0 rfl
  have c1_0_1 : W1.cell? ⟨w.heap.size + 1, 1, none⟩ = some (.int .i64 0) := (K1.out.at (w.heap.size + 1) [.int .i64 0, .int .i64 0, .int .i64 0, .int .i64 0] (by simp)).c 1 rfl
  have z1_0_1 : W1.frozen? ⟨w.heap.size + 1, 1, none⟩ = false := (K1.out.at (w.heap.size + 1) [.int .i64 0, .int .i64 0, .int .i64 0, .int .i64 0] (by simp)).f 1 rfl
  have c1_0_2 : W1.cell? ⟨w.heap.size + 1, 2, none⟩ = some (.int .i64 0) := (K1.out.at (w.heap.size + 1) [.int .i64 0, .int .i64 0, .int .i64 0, .int .i64 0] (by simp)).c 2 rfl
  have z1_0_2 : W1.frozen? ⟨w.heap.size + 1, 2, none⟩ = false := (K1.out.at (w.heap.size + 1) [.int .i64 0, .int .i64 0, .int .i64 0, .int .i64 0] (by simp)).f 2 rfl
  have c1_0_3 : W1.cell? ⟨w.heap.size + 1, 3, none⟩ = some (.int .i64 0) := (K1.out.at (w.heap.size + 1) [.int .i64 0, .int .i64 0, .int .i64 0, .int .i64 0] (by simp)).c 3 rfl
  have z1_0_3 : W1.frozen? ⟨w.heap.size + 1, 3, none⟩ = false := (K1.out.at (w.heap.size + 1) [.int .i64 0, .int .i64 0, .int .i64 0, .int .i64 0] (by simp)).f 3 rfl
  have c1_1_0 : W1.cell? ⟨w.heap.size, 0, none⟩ = some (.int .i64 0) := (K1.out.at (w.heap.size) [.int .i64 0, .int .i64 m, .int .i64 d, .int .i64 u] (by simp)).c 0 rfl
  have c1_1_1 : W1.cell? ⟨w.heap.size, 1, none⟩ = some (.int .i64 m) := (K1.out.at (w.heap.size) [.int .i64 0, .int .i64 m, .int .i64 d, .int .i64 u] (by simp)).c 1 rfl
  have c1_1_2 : W1.cell? ⟨w.heap.size, 2, none⟩ = some (.int .i64 d) := (K1.out.at (w.heap.size) [.int .i64 0, .int .i64 m, .int .i64 d, .int .i64 u] (by simp)).c 2 rfl
  have c1_1_3 : W1.cell? ⟨w.heap.size, 3, none⟩ = some (.int .i64 u) := (K1.out.at (w.heap.size) [.int .i64 0, .int .i64 m, .int .i64 d, .int .i64 u] (by simp)).c 3 rfl
  go_wp2_with fail
  refine (C.out _).mono ?_
  rintro e W2 ⟨rfl, hw⟩
  rw [hw]
  clear hw W2
  go_wp2_with fail
  refine (LG.out _).mono ?_
  rintro e W3 ⟨y, rfl, hv, hb⟩
  have K3 : Hid (BS w [(w.heap.size + 1, [.int .i64 0, .int .i64 0, .int .i64 0, .int .i64 0]), (w.heap.size, [.int .i64 0, .int .i64 m, .int .i64 d, .int .i64 u])] W3) := K1.out.below hb
  have hv' : Hid (IsW _ _ _) := hv
  clear c1_0_0 z1_0_0 c1_0_1 z1_0_1 c1_0_2 z1_0_2 c1_0_3 z1_0_3 c1_1_0 c1_1_1 c1_1_2 c1_1_3
  clear hb hv K1
  have c3_0_0 : W3.cell? ⟨w.heap.size + 1, 0, none⟩ = some (.int .i64 0) := (K3.out.at (w.heap.size + 1) [.int .i64 0, .int .i64 0, .int .i64 0, .int .i64 0] (by simp)).c 0 rfl
  have z3_0_0 : W3.frozen? ⟨w.heap.size + 1, 0, none⟩ = false := (K3.out.at (w.heap.size + 1) [.int .i64 0, .int .i64 0, .int .i64 0, .int .i64 0] (by simp)).f 0 rfl
  have c3_0_1 : W3.cell? ⟨w.heap.size + 1, 1, none⟩ = some (.int .i64 0) := (K3.out.at (w.heap.size + 1) [.int .i64 0, .int .i64 0, .int .i64 0, .int .i64 0] (by simp)).c 1 rfl
  have z3_0_1 : W3.frozen? ⟨w.heap.size + 1, 1, none⟩ = false := (K3.out.at (w.heap.size + 1) [.int .i64 0, .int .i64 0, .int .i64 0, .int .i64 0] (by simp)).f 1 rfl
  have c3_0_2 : W3.cell? ⟨w.heap.size + 1, 2, none⟩ = some (.int .i64 0) := (K3.out.at (w.heap.size + 1) [.int .i64 0, .int .i64 0, .int .i64 0, .int .i64 0] (by simp)).c 2 rfl
  have z3_0_2 : W3.frozen? ⟨w.heap.size + 1, 2, none⟩ = false := (K3.out.at (w.heap.size + 1) [.int .i64 0, .int .i64 0, .int .i64 0, .int .i64 0] (by simp)).f 2 rfl
  have c3_0_3 : W3.cell? ⟨w.heap.size + 1, 3, none⟩ = some (.int .i64 0) := (K3.out.at (w.heap.size + 1) [.int .i64 0, .int .i64 0, .int .i64 0, .int .i64 0] (by simp)).c 3 rfl
  have z3_0_3 : W3.frozen? ⟨w.heap.size + 1, 3, none⟩ = false := (K3.out.at (w.heap.size + 1) [.int .i64 0, .int .i64 0, .int .i64 0, .int .i64 0] (by simp)).f 3 rfl
  have c3_1_0 : W3.cell? ⟨w.heap.size, 0, none⟩ = some (.int .i64 0) := (K3.out.at (w.heap.size) [.int .i64 0, .int .i64 m, .int .i64 d, .int .i64 u] (by simp)).c 0 rfl
  have c3_1_1 : W3.cell? ⟨w.heap.size, 1, none⟩ = some (.int .i64 m) := (K3.out.at (w.heap.size) [.int .i64 0, .int .i64 m, .int .i64 d, .int .i64 u] (by simp)).c 1 rfl
  have c3_1_2 : W3.cell? ⟨w.heap.size, 2, none⟩ = some (.int .i64 d) := (K3.out.at (w.heap.size) [.int .i64 0, .int .i64 m, .int .i64 d, .int .i64 u] (by simp)).c 2 rfl
  have c3_1_3 : W3.cell? ⟨w.heap.size, 3, none⟩ = some (.int .i64 u) := (K3.out.at (w.heap.size) [.int .i64 0, .int .i64 m, .int .i64 d, .int .i64 u] (by simp)).c 3 rfl
  go_wp2_with fail
  refine (SG.out _ _ hv'.out).mono ?_
  rintro e W4 ⟨rfl, hb⟩
  have K4 : Hid (BS w [(w.heap.size + 1, [.int .i64 0, .int .i64 0, .int .i64 0, .int .i64 0]), (w.heap.size, [.int .i64 0, .int .i64 m, .int .i64 d, .int .i64 u])] W4) := K3.out.below hb
  clear c3_0_0 z3_0_0 c3_0_1 z3_0_1 c3_0_2 z3_0_2 c3_0_3 z3_0_3 c3_1_0 c3_1_1 c3_1_2 c3_1_3
  clear hb hv' K3
  have c4_0_0 : W4.cell? ⟨w.heap.size + 1, 0, none⟩ = some (.int .i64 0) := (K4.out.at (w.heap.size + 1) [.int .i64 0, .int .i64 0, .int .i64 0, .int .i64 0] (by simp)).c 0 rfl
  have z4_0_0 : W4.frozen? ⟨w.heap.size + 1, 0, none⟩ = false := (K4.out.at (w.heap.size + 1) [.int .i64 0, .int .i64 0, .int .i64 0, .int .i64 0] (by simp)).f 0 rfl
  have c4_0_1 : W4.cell? ⟨w.heap.size + 1, 1, none⟩ = some (.int .i64 0) := (K4.out.at (w.heap.size + 1) [.int .i64 0, .int .i64 0, .int .i64 0, .int .i64 0] (by simp)).c 1 rfl
  have z4_0_1 : W4.frozen? ⟨w.heap.size + 1, 1, none⟩ = false := (K4.out.at (w.heap.size + 1) [.int .i64 0, .int .i64 0, .int .i64 0, .int .i64 0] (by simp)).f 1 rfl
  have c4_0_2 : W4.cell? ⟨w.heap.size + 1, 2, none⟩ = some (.int .i64 0) := (K4.out.at (w.heap.size + 1) [.int .i64 0, .int .i64 0, .int .i64 0, .int .i64 0] (by simp)).c 2 rfl
  have z4_0_2 : W4.frozen? ⟨w.heap.size + 1, 2, none⟩ = false := (K4.out.at (w.heap.size + 1) [.int .i64 0, .int .i64 0, .int .i64 0, .int .i64 0] (by simp)).f 2 rfl
  have c4_0_3 : W4.cell? ⟨w.heap.size + 1, 3, none⟩ = some (.int .i64 0) := (K4.out.at (w.heap.size + 1) [.int .i64 0, .int .i64 0, .int .i64 0, .int .i64 0] (by simp)).c 3 rfl
  have z4_0_3 : W4.frozen? ⟨w.heap.size + 1, 3, none⟩ = false := (K4.out.at (w.heap.size + 1) [.int .i64 0, .int .i64 0, .int .i64 0, .int .i64 0] (by simp)).f 3 rfl
  have c4_1_0 : W4.cell? ⟨w.heap.size, 0, none⟩ = some (.int .i64 0) := (K4.out.at (w.heap.size) [.int .i64 0, .int .i64 m, .int .i64 d, .int .i64 u] (by simp)).c 0 rfl
  have c4_1_1 : W4.cell? ⟨w.heap.size, 1, none⟩ = some (.int .i64 m) := (K4.out.at (w.heap.size) [.int .i64 0, .int .i64 m, .int .i64 d, .int .i64 u] (by simp)).c 1 rfl
  have c4_1_2 : W4.cell? ⟨w.heap.size, 2, none⟩ = some (.int .i64 d) := (K4.out.at (w.heap.size) [.int .i64 0, .int .i64 m, .int .i64 d, .int .i64 u] (by simp)).c 2 rfl
  have c4_1_3 : W4.cell? ⟨w.heap.size, 3, none⟩ = some (.int .i64 u) := (K4.out.at (w.heap.size) [.int .i64 0, .int .i64 m, .int .i64 d, .int .i64 u] (by simp)).c 3 rfl
  go_wp2_with fail
  refine (MK.out _).mono ?_
  rintro e W5 ⟨rfl, hb⟩
  have K5 : Hid (BS w [(w.heap.size + 1, [.int .i64 0, .int .i64 0, .int .i64 0, .int .i64 0]), (w.heap.size, [.int .i64 0, .int .i64 m, .int .i64 d, .int .i64 u])] W5) := K4.out.below hb
  clear c4_0_0 z4_0_0 c4_0_1 z4_0_1 c4_0_2 z4_0_2 c4_0_3 z4_0_3 c4_1_0 c4_1_1 c4_1_2 c4_1_3
  clear hb K4
  have c5_0_0 : W5.cell? ⟨w.heap.size + 1, 0, none⟩ = some (.int .i64 0) := (K5.out.at (w.heap.size + 1) [.int .i64 0, .int .i64 0, .int .i64 0, .int .i64 0] (by simp)).c 0 rfl
  have z5_0_0 : W5.frozen? ⟨w.heap.size + 1, 0, none⟩ = false := (K5.out.at (w.heap.size + 1) [.int .i64 0, .int .i64 0, .int .i64 0, .int .i64 0] (by simp)).f 0 rfl
  have c5_0_1 : W5.cell? ⟨w.heap.size + 1, 1, none⟩ = some (.int .i64 0) := (K5.out.at (w.heap.size + 1) [.int .i64 0, .int .i64 0, .int .i64 0, .int .i64 0] (by simp)).c 1 rfl
  have z5_0_1 : W5.frozen? ⟨w.heap.size + 1, 1, none⟩ = false := (K5.out.at (w.heap.size + 1) [.int .i64 0, .int .i64 0, .int .i64 0, .int .i64 0] (by simp)).f 1 rfl
  have c5_0_2 : W5.cell? ⟨w.heap.size + 1, 2, none⟩ = some (.int .i64 0) := (K5.out.at (w.heap.size + 1) [.int .i64 0, .int .i64 0, .int .i64 0, .int .i64 0] (by simp)).c 2 rfl
  have z5_0_2 : W5.frozen? ⟨w.heap.size + 1, 2, none⟩ = false := (K5.out.at (w.heap.size + 1) [.int .i64 0, .int .i64 0, .int .i64 0, .int .i64 0] (by simp)).f 2 rfl
  have c5_0_3 : W5.cell? ⟨w.heap.size + 1, 3, none⟩ = some (.int .i64 0) := (K5.out.at (w.heap.size + 1) [.int .i64 0, .int .i64 0, .int .i64 0, .int .i64 0] (by simp)).c 3 rfl
  have z5_0_3 : W5.frozen? ⟨w.heap.size + 1, 3, none⟩ = false := (K5.out.at (w.heap.size + 1) [.int .i64 0, .int .i64 0, .int .i64 0, .int .i64 0] (by simp)).f 3 rfl
  have c5_1_0 : W5.cell? ⟨w.heap.size, 0, none⟩ = some (.int .i64 0) := (K5.out.at (w.heap.size) [.int .i64 0, .int .i64 m, .int .i64 d, .int .i64 u] (by simp)).c 0 rfl
  have c5_1_1 : W5.cell? ⟨w.heap.size, 1, none⟩ = some (.int .i64 m) := (K5.out.at (w.heap.size) [.int .i64 0, .int .i64 m, .int .i64 d, .int .i64 u] (by simp)).c 1 rfl
  have c5_1_2 : W5.cell? ⟨w.heap.size, 2, none⟩ = some (.int .i64 d) := (K5.out.at (w.heap.size) [.int .i64 0, .int .i64 m, .int .i64 d, .int .i64 u] (by simp)).c 2 rfl
  have c5_1_3 : W5.cell? ⟨w.heap.size, 3, none⟩ = some (.int .i64 u) := (K5.out.at (w.heap.size) [.int .i64 0, .int .i64 m, .int .i64 d, .int .i64 u] (by simp)).c 3 rfl
  have XF : Hid (Bx (W5.setCells (w.heap.size + 1) 0 [.int .i64 I, .int .i64 M, .int .i64 D, .int .i64 U]) (w.heap.size + 1) [.int .i64 I, .int .i64 M, .int .i64 D, .int .i64 U]) := (K5.out.at (w.heap.size + 1) [.int .i64 0, .int .i64 0, .int .i64 0, .int .i64 0] (by simp)).setAll _ rfl
  have BF : Hid (Below w.heap.size w (W5.setCells (w.heap.size + 1) 0 [.int .i64 I, .int .i64 M, .int .i64 D, .int .i64 U])) := below_setCells (by omega) _ _ _ K5.out.1
  have y0 := XF.out.c 0 rfl
  have y1 := XF.out.c 1 rfl
  have y2 := XF.out.c 2 rfl
  have y3 := XF.out.c 3 rfl
  simp only [World.setCells, Nat.zero_add, Nat.reduceAdd] at y0 y1 y2 y3
  clear XF
  go_wp2
  exact bodyPost_ret (v := .tuple #[.agg #[.int .i64 I, .int .i64 M, .int .i64 D, .int .i64 U], .int .i64 E]) (by simp [results, Try.results27, go_sem, y0, y1, y2, y3]) rfl ⟨rfl, BF.out⟩

set_option maxRecDepth 100000 in
set_option maxHeartbeats 4000000 in
theorem rpjus_BC (m d u D1 U1 M1 D2 L l I M D U E : Int) (m1 : -2147483647 ≤ m) (m2 : m ≤ 2147483647) (d1 : -2147483647 ≤ d) (d2 : d ≤ 2147483647) (q1 : -1000000000 ≤ u.tdiv 86400000000) (q2 : u.tdiv 86400000000 ≤ 1000000000) (hd : d + u.tdiv 86400000000 = D1) (hu : u.tmod 86400000000 = U1) (hm : m + D1.tdiv 30 = M1) (he : D1.tmod 30 = D2) (q3 : -100000000 ≤ D1.tdiv 30) (q4 : D1.tdiv 30 ≤ 100000000) (e1 : -30 < D2) (e2 : D2 < 30) (f1 : -86400000000 < U1) (f2 : U1 < 86400000000) (g1 : 0 < M1) (g2 : ¬ l < 0) (k1 : D2 < 0) (k2 : 0 < U1)
    (R : Hid (∀ w : World, Calls Try.prog 16 #[.agg #[.int .i64 0, .int .i64 m, .int .i64 d, .int .i64 u]] w fun r' w' => r' = .returned (.bool true) ∧ Below w.heap.size w w'))
    (C : Hid (∀ w : World, Calls Try.prog 34 #[.int .i64 D1, .int .i64 2147483647] w fun r' w' => r' = .returned (.bool true) ∧ w' = w))
    (LG : Hid (∀ (w : World), Calls Try.prog 43 #[.agg #[.int .i64 0, .int .i64 0, .int .i64 D2, .int .i64 U1]] w fun r' w' => ∃ v', r' = .returned v' ∧ IsW w' v' (L) ∧ Below w.heap.size w w'))
    (SG : Hid (∀ (y : Value) (w : World), IsW w y L → Calls Try.prog 41 #[y] w fun r' w' => r' = .returned (.int .i64 l) ∧ Below w.heap.size w w'))
    (MK : Hid (∀ w : World, Calls Try.prog 21 #[.int .i64 M1, .int .i64 (D2 + 1), .int .i64 (U1 - 86400000000)] w fun r' w' => r' = .returned (.tuple #[.agg #[.int .i64 I, .int .i64 M, .int .i64 D, .int .i64 U], .int .i64 E]) ∧ Below w.heap.size w w'))
    (w : World) :
    Calls Try.prog 27 #[.agg #[.int .i64 0, .int .i64 m, .int .i64 d, .int .i64 u]] w fun r' w' => r' = .returned (.tuple #[.agg #[.int .i64 I, .int .i64 M, .int .i64 D, .int .i64 U], .int .i64 E]) ∧ Below w.heap.size w w' := by
  have w1 : IntKind.i64.wrap (u.tdiv 86400000000) = u.tdiv 86400000000 := by rw [IntKind.wrap_i64]; omega
  have w2 : IntKind.i64.wrap (d + u.tdiv 86400000000) = D1 := by rw [IntKind.wrap_i64]; omega
  have w3 : IntKind.i64.wrap (D1.tdiv 30) = D1.tdiv 30 := by rw [IntKind.wrap_i64]; omega
  have w4 : IntKind.i64.wrap (m + D1.tdiv 30) = M1 := by rw [IntKind.wrap_i64]; omega
  have g3 : ¬ M1 < 0 := by omega
  have k3 : ¬ 0 < D2 := by omega
  have K0 : Hid (BS w [(w.heap.size + 1, [.int .i64 0, .int .i64 0, .int .i64 0, .int .i64 0]), (w.heap.size, [.int .i64 0, .int .i64 m, .int .i64 d, .int .i64 u])] ((w.alloc (.cells #[.int .i64 0, .int .i64 m, .int .i64 d, .int .i64 u] 23)).alloc (.cells #[.int .i64 0, .int .i64 0, .int .i64 0, .int .i64 0] 23))) := (((BS.start w).new [.int .i64 0, .int .i64 m, .int .i64 d, .int .i64 u] 23 rfl).new [.int .i64 0, .int .i64 0, .int .i64 0, .int .i64 0] 23 (by simp))
  go_enter Try.func27, Try.ntmps27
  go_wp2_with fail
  refine (R.out _).mono ?_
  rintro e W1 ⟨rfl, hb⟩
  have K1 : Hid (BS w [(w.heap.size + 1, [.int .i64 0, .int .i64 0, .int .i64 0, .int .i64 0]), (w.heap.size, [.int .i64 0, .int .i64 m, .int .i64 d, .int .i64 u])] W1) := K0.out.below hb
  clear hb K0
  have c1_0_0 : W1.cell? ⟨w.heap.size + 1, 0, none⟩ = some (.int .i64 0) := (K1.out.at (w.heap.size + 1) [.int .i64 0, .int .i64 0, .int .i64 0, .int .i64 0] (by simp)).c 0 rfl
  have z1_0_0 : W1.frozen? ⟨w.heap.size + 1, 0, none⟩ = false := (K1.out.at (w.heap.size + 1) [.int .i64 0, .int .i64 0, .int .i64 0, .int .i64 0] (by simp)).f 0 rfl
  have c1_0_1 : W1.cell? ⟨w.heap.size + 1, 1, none⟩ = some (.int .i64 0) := (K1.out.at (w.heap.size + 1) [.int .i64 0, .int .i64 0, .int .i64 0, .int .i64 0] (by simp)).c 1 rfl
  have z1_0_1 : W1.frozen? ⟨w.heap.size + 1, 1, none⟩ = false := (K1.out.at (w.heap.size + 1) [.int .i64 0, .int .i64 0, .int .i64 0, .int .i64 0] (by simp)).f 1 rfl
  have c1_0_2 : W1.cell? ⟨w.heap.size + 1, 2, none⟩ = some (.int .i64 0) := (K1.out.at (w.heap.size + 1) [.int .i64 0, .int .i64 0, .int .i64 0, .int .i64 0] (by simp)).c 2 rfl
  have z1_0_2 : W1.frozen? ⟨w.heap.size + 1, 2, none⟩ = false := (K1.out.at (w.heap.size + 1) [.int .i64 0, .int .i64 0, .int .i64 0, .int .i64 0] (by simp)).f 2 rfl
  have c1_0_3 : W1.cell? ⟨w.heap.size + 1, 3, none⟩ = some (.int .i64 0) := (K1.out.at (w.heap.size + 1) [.int .i64 0, .int .i64 0, .int .i64 0, .int .i64 0] (by simp)).c 3 rfl
  have z1_0_3 : W1.frozen? ⟨w.heap.size + 1, 3, none⟩ = false := (K1.out.at (w.heap.size + 1) [.int .i64 0, .int .i64 0, .int .i64 0, .int .i64 0] (by simp)).f 3 rfl
  have c1_1_0 : W1.cell? ⟨w.heap.size, 0, none⟩ = some (.int .i64 0) := (K1.out.at (w.heap.size) [.int .i64 0, .int .i64 m, .int .i64 d, .int .i64 u] (by simp)).c 0 rfl
  have c1_1_1 : W1.cell? ⟨w.heap.size, 1, none⟩ = some (.int .i64 m) := (K1.out.at (w.heap.size) [.int .i64 0, .int .i64 m, .int .i64 d, .int .i64 u] (by simp)).c 1 rfl
  have c1_1_2 : W1.cell? ⟨w.heap.size, 2, none⟩ = some (.int .i64 d) := (K1.out.at (w.heap.size) [.int .i64 0, .int .i64 m, .int .i64 d, .int .i64 u] (by simp)).c 2 rfl
  have c1_1_3 : W1.cell? ⟨w.heap.size, 3, none⟩ = some (.int .i64 u) := (K1.out.at (w.heap.size) [.int .i64 0, .int .i64 m, .int .i64 d, .int .i64 u] (by simp)).c 3 rfl
  go_wp2_with fail
  refine (C.out _).mono ?_
  rintro e W2 ⟨rfl, hw⟩
  rw [hw]
  clear hw W2
  go_wp2_with fail
  refine (LG.out _).mono ?_
  rintro e W3 ⟨y, rfl, hv, hb⟩
  have K3 : Hid (BS w [(w.heap.size + 1, [.int .i64 0, .int .i64 0, .int .i64 0, .int .i64 0]), (w.heap.size, [.int .i64 0, .int .i64 m, .int .i64 d, .int .i64 u])] W3) := K1.out.below hb
  have hv' : Hid (IsW _ _ _) := hv
  clear c1_0_0 z1_0_0 c1_0_1 z1_0_1 c1_0_2 z1_0_2 c1_0_3 z1_0_3 c1_1_0 c1_1_1 c1_1_2 c1_1_3
  clear hb hv K1
  have c3_0_0 : W3.cell? ⟨w.heap.size + 1, 0, none⟩ = some (.int .i64 0) := (K3.out.at (w.heap.size + 1) [.int .i64 0, .int .i64 0, .int .i64 0, .int .i64 0] (by simp)).c 0 rfl
  have z3_0_0 : W3.frozen? ⟨w.heap.size + 1, 0, none⟩ = false := (K3.out.at (w.heap.size + 1) [.int .i64 0, .int .i64 0, .int .i64 0, .int .i64 0] (by simp)).f 0 rfl
  have c3_0_1 : W3.cell? ⟨w.heap.size + 1, 1, none⟩ = some (.int .i64 0) := (K3.out.at (w.heap.size + 1) [.int .i64 0, .int .i64 0, .int .i64 0, .int .i64 0] (by simp)).c 1 rfl
  have z3_0_1 : W3.frozen? ⟨w.heap.size + 1, 1, none⟩ = false := (K3.out.at (w.heap.size + 1) [.int .i64 0, .int .i64 0, .int .i64 0, .int .i64 0] (by simp)).f 1 rfl
  have c3_0_2 : W3.cell? ⟨w.heap.size + 1, 2, none⟩ = some (.int .i64 0) := (K3.out.at (w.heap.size + 1) [.int .i64 0, .int .i64 0, .int .i64 0, .int .i64 0] (by simp)).c 2 rfl
  have z3_0_2 : W3.frozen? ⟨w.heap.size + 1, 2, none⟩ = false := (K3.out.at (w.heap.size + 1) [.int .i64 0, .int .i64 0, .int .i64 0, .int .i64 0] (by simp)).f 2 rfl
  have c3_0_3 : W3.cell? ⟨w.heap.size + 1, 3, none⟩ = some (.int .i64 0) := (K3.out.at (w.heap.size + 1) [.int .i64 0, .int .i64 0, .int .i64 0, .int .i64 0] (by simp)).c 3 rfl
  have z3_0_3 : W3.frozen? ⟨w.heap.size + 1, 3, none⟩ = false := (K3.out.at (w.heap.size + 1) [.int .i64 0, .int .i64 0, .int .i64 0, .int .i64 0] (by simp)).f 3 rfl
  have c3_1_0 : W3.cell? ⟨w.heap.size, 0, none⟩ = some (.int .i64 0) := (K3.out.at (w.heap.size) [.int .i64 0, .int .i64 m, .int .i64 d, .int .i64 u] (by simp)).c 0 rfl
  have c3_1_1 : W3.cell? ⟨w.heap.size, 1, none⟩ = some (.int .i64 m) := (K3.out.at (w.heap.size) [.int .i64 0, .int .i64 m, .int .i64 d, .int .i64 u] (by simp)).c 1 rfl
  have c3_1_2 : W3.cell? ⟨w.heap.size, 2, none⟩ = some (.int .i64 d) := (K3.out.at (w.heap.size) [.int .i64 0, .int .i64 m, .int .i64 d, .int .i64 u] (by simp)).c 2 rfl
  have c3_1_3 : W3.cell? ⟨w.heap.size, 3, none⟩ = some (.int .i64 u) := (K3.out.at (w.heap.size) [.int .i64 0, .int .i64 m, .int .i64 d, .int .i64 u] (by simp)).c 3 rfl
  go_wp2_with fail
  refine (SG.out _ _ hv'.out).mono ?_
  rintro e W4 ⟨rfl, hb⟩
  have K4 : Hid (BS w [(w.heap.size + 1, [.int .i64 0, .int .i64 0, .int .i64 0, .int .i64 0]), (w.heap.size, [.int .i64 0, .int .i64 m, .int .i64 d, .int .i64 u])] W4) := K3.out.below hb
  clear c3_0_0 z3_0_0 c3_0_1 z3_0_1 c3_0_2 z3_0_2 c3_0_3 z3_0_3 c3_1_0 c3_1_1 c3_1_2 c3_1_3
  clear hb hv' K3
  have c4_0_0 : W4.cell? ⟨w.heap.size + 1, 0, none⟩ = some (.int .i64 0) := (K4.out.at (w.heap.size + 1) [.int .i64 0, .int .i64 0, .int .i64 0, .int .i64 0] (by simp)).c 0 rfl
  have z4_0_0 : W4.frozen? ⟨w.heap.size + 1, 0, none⟩ = false := (K4.out.at (w.heap.size + 1) [.int .i64 0, .int .i64 0, .int .i64 0, .int .i64 0] (by simp)).f 0 rfl
  have c4_0_1 : W4.cell? ⟨w.heap.size + 1, 1, none⟩ = some (.int .i64 0) := (K4.out.at (w.heap.size + 1) [.int .i64 0, .int .i64 0, .int .i64 0, .int .i64 0] (by simp)).c 1 rfl
  have z4_0_1 : W4.frozen? ⟨w.heap.size + 1, 1, none⟩ = false := (K4.out.at (w.heap.size + 1) [.int .i64 0, .int .i64 0, .int .i64 0, .int .i64 0] (by simp)).f 1 rfl
  have c4_0_2 : W4.cell? ⟨w.heap.size + 1, 2, none⟩ = some (.int .i64 0) := (K4.out.at (w.heap.size + 1) [.int .i64 0, .int .i64 0, .int .i64 0, .int .i64 0] (by simp)).c 2 rfl
  have z4_0_2 : W4.frozen? ⟨w.heap.size + 1, 2, none⟩ = false := (K4.out.at (w.heap.size + 1) [.int .i64 0, .int .i64 0, .int .i64 0, .int .i64 0] (by simp)).f 2 rfl
  have c4_0_3 : W4.cell? ⟨w.heap.size + 1, 3, none⟩ = some (.int .i64 0) := (K4.out.at (w.heap.size + 1) [.int .i64 0, .int .i64 0, .int .i64 0, .int .i64 0] (by simp)).c 3 rfl
  have z4_0_3 : W4.frozen? ⟨w.heap.size + 1, 3, none⟩ = false := (K4.out.at (w.heap.size + 1) [.int .i64 0, .int .i64 0, .int .i64 0, .int .i64 0] (by simp)).f 3 rfl
  have c4_1_0 : W4.cell? ⟨w.heap.size, 0, none⟩ = some (.int .i64 0) := (K4.out.at (w.heap.size) [.int .i64 0, .int .i64 m, .int .i64 d, .int .i64 u] (by simp)).c 0 rfl
  have c4_1_1 : W4.cell? ⟨w.heap.size, 1, none⟩ = some (.int .i64 m) := (K4.out.at (w.heap.size) [.int .i64 0, .int .i64 m, .int .i64 d, .int .i64 u] (by simp)).c 1 rfl
  have c4_1_2 : W4.cell? ⟨w.heap.size, 2, none⟩ = some (.int .i64 d) := (K4.out.at (w.heap.size) [.int .i64 0, .int .i64 m, .int .i64 d, .int .i64 u] (by simp)).c 2 rfl
  have c4_1_3 : W4.cell? ⟨w.heap.size, 3, none⟩ = some (.int .i64 u) := (K4.out.at (w.heap.size) [.int .i64 0, .int .i64 m, .int .i64 d, .int .i64 u] (by simp)).c 3 rfl
  go_wp2_with fail
  refine (MK.out _).mono ?_
  rintro e W5 ⟨rfl, hb⟩
  have K5 : Hid (BS w [(w.heap.size + 1, [.int .i64 0, .int .i64 0, .int .i64 0, .int .i64 0]), (w.heap.size, [.int .i64 0, .int .i64 m, .int .i64 d, .int .i64 u])] W5) := K4.out.below hb
  clear c4_0_0 z4_0_0 c4_0_1 z4_0_1 c4_0_2 z4_0_2 c4_0_3 z4_0_3 c4_1_0 c4_1_1 c4_1_2 c4_1_3
  clear hb K4
  have c5_0_0 : W5.cell? ⟨w.heap.size + 1, 0, none⟩ = some (.int .i64 0) := (K5.out.at (w.heap.size + 1) [.int .i64 0, .int .i64 0, .int .i64 0, .int .i64 0] (by simp)).c 0 rfl
  have z5_0_0 : W5.frozen? ⟨w.heap.size + 1, 0, none⟩ = false := (K5.out.at (w.heap.size + 1) [.int .i64 0, .int .i64 0, .int .i64 0, .int .i64 0] (by simp)).f 0 rfl
  have c5_0_1 : W5.cell? ⟨w.heap.size + 1, 1, none⟩ = some (.int .i64 0) := (K5.out.at (w.heap.size + 1) [.int .i64 0, .int .i64 0, .int .i64 0, .int .i64 0] (by simp)).c 1 rfl
  have z5_0_1 : W5.frozen? ⟨w.heap.size + 1, 1, none⟩ = false := (K5.out.at (w.heap.size + 1) [.int .i64 0, .int .i64 0, .int .i64 0, .int .i64 0] (by simp)).f 1 rfl
  have c5_0_2 : W5.cell? ⟨w.heap.size + 1, 2, none⟩ = some (.int .i64 0) := (K5.out.at (w.heap.size + 1) [.int .i64 0, .int .i64 0, .int .i64 0, .int .i64 0] (by simp)).c 2 rfl
  have z5_0_2 : W5.frozen? ⟨w.heap.size + 1, 2, none⟩ = false := (K5.out.at (w.heap.size + 1) [.int .i64 0, .int .i64 0, .int .i64 0, .int .i64 0] (by simp)).f 2 rfl
  have c5_0_3 : W5.cell? ⟨w.heap.size + 1, 3, none⟩ = some (.int .i64 0) := (K5.out.at (w.heap.size + 1) [.int .i64 0, .int .i64 0, .int .i64 0, .int .i64 0] (by simp)).c 3 rfl
  have z5_0_3 : W5.frozen? ⟨w.heap.size + 1, 3, none⟩ = false := (K5.out.at (w.heap.size + 1) [.int .i64 0, .int .i64 0, .int .i64 0, .int .i64 0] (by simp)).f 3 rfl
  have c5_1_0 : W5.cell? ⟨w.heap.size, 0, none⟩ = some (.int .i64 0) := (K5.out.at (w.heap.size) [.int .i64 0, .int .i64 m, .int .i64 d, .int .i64 u] (by simp)).c 0 rfl
  have c5_1_1 : W5.cell? ⟨w.heap.size, 1, none⟩ = some (.int .i64 m) := (K5.out.at (w.heap.size) [.int .i64 0, .int .i64 m, .int .i64 d, .int .i64 u] (by simp)).c 1 rfl
  have c5_1_2 : W5.cell? ⟨w.heap.size, 2, none⟩ = some (.int .i64 d) := (K5.out.at (w.heap.size) [.int .i64 0, .int .i64 m, .int .i64 d, .int .i64 u] (by simp)).c 2 rfl
  have c5_1_3 : W5.cell? ⟨w.heap.size, 3, none⟩ = some (.int .i64 u) := (K5.out.at (w.heap.size) [.int .i64 0, .int .i64 m, .int .i64 d, .int .i64 u] (by simp)).c 3 rfl
  have XF : Hid (Bx (W5.setCells (w.heap.size + 1) 0 [.int .i64 I, .int .i64 M, .int .i64 D, .int .i64 U]) (w.heap.size + 1) [.int .i64 I, .int .i64 M, .int .i64 D, .int .i64 U]) := (K5.out.at (w.heap.size + 1) [.int .i64 0, .int .i64 0, .int .i64 0, .int .i64 0] (by simp)).setAll _ rfl
  have BF : Hid (Below w.heap.size w (W5.setCells (w.heap.size + 1) 0 [.int .i64 I, .int .i64 M, .int .i64 D, .int .i64 U])) := below_setCells (by omega) _ _ _ K5.out.1
  have y0 := XF.out.c 0 rfl
  have y1 := XF.out.c 1 rfl
  have y2 := XF.out.c 2 rfl
  have y3 := XF.out.c 3 rfl
  simp only [World.setCells, Nat.zero_add, Nat.reduceAdd] at y0 y1 y2 y3
  clear XF
  go_wp2
  exact bodyPost_ret (v := .tuple #[.agg #[.int .i64 I, .int .i64 M, .int .i64 D, .int .i64 U], .int .i64 E]) (by simp [results, Try.results27, go_sem, y0, y1, y2, y3]) rfl ⟨rfl, BF.out⟩

set_option maxRecDepth 100000 in
set_option maxHeartbeats 4000000 in
theorem rpjus_BD (m d u D1 U1 M1 D2 L l I M D U E : Int) (m1 : -2147483647 ≤ m) (m2 : m ≤ 2147483647) (d1 : -2147483647 ≤ d) (d2 : d ≤ 2147483647) (q1 : -1000000000 ≤ u.tdiv 86400000000) (q2 : u.tdiv 86400000000 ≤ 1000000000) (hd : d + u.tdiv 86400000000 = D1) (hu : u.tmod 86400000000 = U1) (hm : m + D1.tdiv 30 = M1) (he : D1.tmod 30 = D2) (q3 : -100000000 ≤ D1.tdiv 30) (q4 : D1.tdiv 30 ≤ 100000000) (e1 : -30 < D2) (e2 : D2 < 30) (f1 : -86400000000 < U1) (f2 : U1 < 86400000000) (g1 : 0 < M1) (g2 : ¬ l < 0) (k1 : D2 < 0) (k2 : ¬ 0 < U1)
    (R : Hid (∀ w : World, Calls Try.prog 16 #[.agg #[.int .i64 0, .int .i64 m, .int .i64 d, .int .i64 u]] w fun r' w' => r' = .returned (.bool true) ∧ Below w.heap.size w w'))
    (C : Hid (∀ w : World, Calls Try.prog 34 #[.int .i64 D1, .int .i64 2147483647] w fun r' w' => r' = .returned (.bool true) ∧ w' = w))
    (LG : Hid (∀ (w : World), Calls Try.prog 43 #[.agg #[.int .i64 0, .int .i64 0, .int .i64 D2, .int .i64 U1]] w fun r' w' => ∃ v', r' = .returned v' ∧ IsW w' v' (L) ∧ Below w.heap.size w w'))
    (SG : Hid (∀ (y : Value) (w : World), IsW w y L → Calls Try.prog 41 #[y] w fun r' w' => r' = .returned (.int .i64 l) ∧ Below w.heap.size w w'))
    (MK : Hid (∀ w : World, Calls Try.prog 21 #[.int .i64 M1, .int .i64 D2, .int .i64 U1] w fun r' w' => r' = .returned (.tuple #[.agg #[.int .i64 I, .int .i64 M, .int .i64 D, .int .i64 U], .int .i64 E]) ∧ Below w.heap.size w w'))
    (w : World) :
    Calls Try.prog 27 #[.agg #[.int .i64 0, .int .i64 m, .int .i64 d, .int .i64 u]] w fun r' w' => r' = .returned (.tuple #[.agg #[.int .i64 I, .int .i64 M, .int .i64 D, .int .i64 U], .int .i64 E]) ∧ Below w.heap.size w w' := by
  have w1 : IntKind.i64.wrap (u.tdiv 86400000000) = u.tdiv 86400000000 := by rw [IntKind.wrap_i64]; omega
  have w2 : IntKind.i64.wrap (d + u.tdiv 86400000000) = D1 := by rw [IntKind.wrap_i64]; omega
  have w3 : IntKind.i64.wrap (D1.tdiv 30) = D1.tdiv 30 := by rw [IntKind.wrap_i64]; omega
  have w4 : IntKind.i64.wrap (m + D1.tdiv 30) = M1 := by rw [IntKind.wrap_i64]; omega
  have g3 : ¬ M1 < 0 := by omega
  have k3 : ¬ 0 < D2 := by omega
  have K0 : Hid (BS w [(w.heap.size + 1, [.int .i64 0, .int .i64 0, .int .i64 0, .int .i64 0]), (w.heap.size, [.int .i64 0, .int .i64 m, .int .i64 d, .int .i64 u])] ((w.alloc (.cells #[.int .i64 0, .int .i64 m, .int .i64 d, .int .i64 u] 23)).alloc (.cells #[.int .i64 0, .int .i64 0, .int .i64 0, .int .i64 0] 23))) := (((BS.start w).new [.int .i64 0, .int .i64 m, .int .i64 d, .int .i64 u] 23 rfl).new [.int .i64 0, .int .i64 0, .int .i64 0, .int .i64 0] 23 (by simp))
  go_enter Try.func27, Try.ntmps27
  go_wp2_with fail
  refine (R.out _).mono ?_
  rintro e W1 ⟨rfl, hb⟩
  have K1 : Hid (BS w [(w.heap.size + 1, [.int .i64 0, .int .i64 0, .int .i64 0, .int .i64 0]), (w.heap.size, [.int .i64 0, .int .i64 m, .int .i64 d, .int .i64 u])] W1) := K0.out.below hb
  clear hb K0
  have c1_0_0 : W1.cell? ⟨w.heap.size + 1, 0, none⟩ = some (.int .i64 0) := (K1.out.at (w.heap.size + 1) [.int .i64 0, .int .i64 0, .int .i64 0, .int .i64 0] (by simp)).c 0 rfl
  have z1_0_0 : W1.frozen? ⟨w.heap.size + 1, 0, none⟩ = false := (K1.out.at (w.heap.size + 1) [.int .i64 0, .int .i64 0, .int .i64 0, .int .i64 0] (by simp)).f 0 rfl
  have c1_0_1 : W1.cell? ⟨w.heap.size + 1, 1, none⟩ = some (.int .i64 0) := (K1.out.at (w.heap.size + 1) [.int .i64 0, .int .i64 0, .int .i64 0, .int .i64 0] (by simp)).c 1 rfl
  have z1_0_1 : W1.frozen? ⟨w.heap.size + 1, 1, none⟩ = false := (K1.out.at (w.heap.size + 1) [.int .i64 0, .int .i64 0, .int .i64 0, .int .i64 0] (by simp)).f 1 rfl
  have c1_0_2 : W1.cell? ⟨w.heap.size + 1, 2, none⟩ = some (.int .i64 0) := (K1.out.at (w.heap.size + 1) [.int .i64 0, .int .i64 0, .int .i64 0, .int .i64 0] (by simp)).c 2 rfl
  have z1_0_2 : W1.frozen? ⟨w.heap.size + 1, 2, none⟩ = false := (K1.out.at (w.heap.size + 1) [.int .i64 0, .int .i64 0, .int .i64 0, .int .i64 0] (by simp)).f 2 rfl
  have c1_0_3 : W1.cell? ⟨w.heap.size + 1, 3, none⟩ = some (.int .i64 0) := (K1.out.at (w.heap.size + 1) [.int .i64 0, .int .i64 0, .int .i64 0, .int .i64 0] (by simp)).c 3 rfl
  have z1_0_3 : W1.frozen? ⟨w.heap.size + 1, 3, none⟩ = false := (K1.out.at (w.heap.size + 1) [.int .i64 0, .int .i64 0, .int .i64 0, .int .i64 0] (by simp)).f 3 rfl
  have c1_1_0 : W1.cell? ⟨w.heap.size, 0, none⟩ = some (.int .i64 0) := (K1.out.at (w.heap.size) [.int .i64 0, .int .i64 m, .int .i64 d, .int .i64 u] (by simp)).c 0 rfl
  have c1_1_1 : W1.cell? ⟨w.heap.size, 1, none⟩ = some (.int .i64 m) := (K1.out.at (w.heap.size) [.int .i64 0, .int .i64 m, .int .i64 d, .int .i64 u] (by simp)).c 1 rfl
  have c1_1_2 : W1.cell? ⟨w.heap.size, 2, none⟩ = some (.int .i64 d) := (K1.out.at (w.heap.size) [.int .i64 0, .int .i64 m, .int .i64 d, .int .i64 u] (by simp)).c 2 rfl
  have c1_1_3 : W1.cell? ⟨w.heap.size, 3, none⟩ = some (.int .i64 u) := (K1.out.at (w.heap.size) [.int .i64 0, .int .i64 m, .int .i64 d, .int .i64 u] (by simp)).c 3 rfl
  go_wp2_with fail
  refine (C.out _).mono ?_
  rintro e W2 ⟨rfl, hw⟩
  rw [hw]
  clear hw W2
  go_wp2_with fail
  refine (LG.out _).mono ?_
  rintro e W3 ⟨y, rfl, hv, hb⟩
  have K3 : Hid (BS w [(w.heap.size + 1, [.int .i64 0, .int .i64 0, .int .i64 0, .int .i64 0]), (w.heap.size, [.int .i64 0, .int .i64 m, .int .i64 d, .int .i64 u])] W3) := K1.out.below hb
  have hv' : Hid (IsW _ _ _) := hv
  clear c1_0_0 z1_0_0 c1_0_1 z1_0_1 c1_0_2 z1_0_2 c1_0_3 z1_0_3 c1_1_0 c1_1_1 c1_1_2 c1_1_3
  clear hb hv K1
  have c3_0_0 : W3.cell? ⟨w.heap.size + 1, 0, none⟩ = some (.int .i64 0) := (K3.out.at (w.heap.size + 1) [.int .i64 0, .int .i64 0, .int .i64 0, .int .i64 0] (by simp)).c 0 rfl
  have z3_0_0 : W3.frozen? ⟨w.heap.size + 1, 0, none⟩ = false := (K3.out.at (w.heap.size + 1) [.int .i64 0, .int .i64 0, .int .i64 0, .int .i64 0] (by simp)).f 0 rfl
  have c3_0_1 : W3.cell? ⟨w.heap.size + 1, 1, none⟩ = some (.int .i64 0) := (K3.out.at (w.heap.size + 1) [.int .i64 0, .int .i64 0, .int .i64 0, .int .i64 0] (by simp)).c 1 rfl
  have z3_0_1 : W3.frozen? ⟨w.heap.size + 1, 1, none⟩ = false := (K3.out.at (w.heap.size + 1) [.int .i64 0, .int .i64 0, .int .i64 0, .int .i64 0] (by simp)).f 1 rfl
  have c3_0_2 : W3.cell? ⟨w.heap.size + 1, 2, none⟩ = some (.int .i64 0) := (K3.out.at (w.heap.size + 1) [.int .i64 0, .int .i64 0, .int .i64 0, .int .i64 0] (by simp)).c 2 rfl
  have z3_0_2 : W3.frozen? ⟨w.heap.size + 1, 2, none⟩ = false := (K3.out.at (w.heap.size + 1) [.int .i64 0, .int .i64 0, .int .i64 0, .int .i64 0] (by simp)).f 2 rfl
  have c3_0_3 : W3.cell? ⟨w.heap.size + 1, 3, none⟩ = some (.int .i64 0) := (K3.out.at (w.heap.size + 1) [.int .i64 0, .int .i64 0, .int .i64 0, .int .i64 0] (by simp)).c 3 rfl
  have z3_0_3 : W3.frozen? ⟨w.heap.size + 1, 3, none⟩ = false := (K3.out.at (w.heap.size + 1) [.int .i64 0, .int .i64 0, .int .i64 0, .int .i64 0] (by simp)).f 3 rfl
  have c3_1_0 : W3.cell? ⟨w.heap.size, 0, none⟩ = some (.int .i64 0) := (K3.out.at (w.heap.size) [.int .i64 0, .int .i64 m, .int .i64 d, .int .i64 u] (by simp)).c 0 rfl
  have c3_1_1 : W3.cell? ⟨w.heap.size, 1, none⟩ = some (.int .i64 m) := (K3.out.at (w.heap.size) [.int .i64 0, .int .i64 m, .int .i64 d, .int .i64 u] (by simp)).c 1 rfl
  have c3_1_2 : W3.cell? ⟨w.heap.size, 2, none⟩ = some (.int .i64 d) := (K3.out.at (w.heap.size) [.int .i64 0, .int .i64 m, .int .i64 d, .int .i64 u] (by simp)).c 2 rfl
  have c3_1_3 : W3.cell? ⟨w.heap.size, 3, none⟩ = some (.int .i64 u) := (K3.out.at (w.heap.size) [.int .i64 0, .int .i64 m, .int .i64 d, .int .i64 u] (by simp)).c 3 rfl
  go_wp2_with fail
  refine (SG.out _ _ hv'.out).mono ?_
  rintro e W4 ⟨rfl, hb⟩
  have K4 : Hid (BS w [(w.heap.size + 1, [.int .i64 0, .int .i64 0, .int .i64 0, .int .i64 0]), (w.heap.size, [.int .i64 0, .int .i64 m, .int .i64 d, .int .i64 u])] W4) := K3.out.below hb
  clear c3_0_0 z3_0_0 c3_0_1 z3_0_1 c3_0_2 z3_0_2 c3_0_3 z3_0_3 c3_1_0 c3_1_1 c3_1_2 c3_1_3
  clear hb hv' K3
  have c4_0_0 : W4.cell? ⟨w.heap.size + 1, 0, none⟩ = some (.int .i64 0) := (K4.out.at (w.heap.size + 1) [.int .i64 0, .int .i64 0, .int .i64 0, .int .i64 0] (by simp)).c 0 rfl
  have z4_0_0 : W4.frozen? ⟨w.heap.size + 1, 0, none⟩ = false := (K4.out.at (w.heap.size + 1) [.int .i64 0, .int .i64 0, .int .i64 0, .int .i64 0] (by simp)).f 0 rfl
  have c4_0_1 : W4.cell? ⟨w.heap.size + 1, 1, none⟩ = some (.int .i64 0) := (K4.out.at (w.heap.size + 1) [.int .i64 0, .int .i64 0, .int .i64 0, .int .i64 0] (by simp)).c 1 rfl
  have z4_0_1 : W4.frozen? ⟨w.heap.size + 1, 1, none⟩ = false := (K4.out.at (w.heap.size + 1) [.int .i64 0, .int .i64 0, .int .i64 0, .int .i64 0] (by simp)).f 1 rfl
  have c4_0_2 : W4.cell? ⟨w.heap.size + 1, 2, none⟩ = some (.int .i64 0) := (K4.out.at (w.heap.size + 1) [.int .i64 0, .int .i64 0, .int .i64 0, .int .i64 0] (by simp)).c 2 rfl
  have z4_0_2 : W4.frozen? ⟨w.heap.size + 1, 2, none⟩ = false := (K4.out.at (w.heap.size + 1) [.int .i64 0, .int .i64 0, .int .i64 0, .int .i64 0] (by simp)).f 2 rfl
  have c4_0_3 : W4.cell? ⟨w.heap.size + 1, 3, none⟩ = some (.int .i64 0) := (K4.out.at (w.heap.size + 1) [.int .i64 0, .int .i64 0, .int .i64 0, .int .i64 0] (by simp)).c 3 rfl
  have z4_0_3 : W4.frozen? ⟨w.heap.size + 1, 3, none⟩ = false := (K4.out.at (w.heap.size + 1) [.int .i64 0, .int .i64 0, .int .i64 0, .int .i64 0] (by simp)).f 3 rfl
  have c4_1_0 : W4.cell? ⟨w.heap.size, 0, none⟩ = some (.int .i64 0) := (K4.out.at (w.heap.size) [.int .i64 0, .int .i64 m, .int .i64 d, .int .i64 u] (by simp)).c 0 rfl
  have c4_1_1 : W4.cell? ⟨w.heap.size, 1, none⟩ = some (.int .i64 m) := (K4.out.at (w.heap.size) [.int .i64 0, .int .i64 m, .int .i64 d, .int .i64 u] (by simp)).c 1 rfl
  have c4_1_2 : W4.cell? ⟨w.heap.size, 2, none⟩ = some (.int .i64 d) := (K4.out.at (w.heap.size) [.int .i64 0, .int .i64 m, .int .i64 d, .int .i64 u] (by simp)).c 2 rfl
  have c4_1_3 : W4.cell? ⟨w.heap.size, 3, none⟩ = some (.int .i64 u) := (K4.out.at (w.heap.size) [.int .i64 0, .int .i64 m, .int .i64 d, .int .i64 u] (by simp)).c 3 rfl
  go_wp2_with fail
  refine (MK.out _).mono ?_
  rintro e W5 ⟨rfl, hb⟩
  have K5 : Hid (BS w [(w.heap.size + 1, [.int .i64 0, .int .i64 0, .int .i64 0, .int .i64 0]), (w.heap.size, [.int .i64 0, .int .i64 m, .int .i64 d, .int .i64 u])] W5) := K4.out.below hb
  clear c4_0_0 z4_0_0 c4_0_1 z4_0_1 c4_0_2 z4_0_2 c4_0_3 z4_0_3 c4_1_0 c4_1_1 c4_1_2 c4_1_3
  clear hb K4
  have c5_0_0 : W5.cell? ⟨w.heap.size + 1, 0, none⟩ = some (.int .i64 0) := (K5.out.at (w.heap.size + 1) [.int .i64 0, .int .i64 0, .int .i64 0, .int .i64 0] (by simp)).c 0 rfl
  have z5_0_0 : W5.frozen? ⟨w.heap.size + 1, 0, none⟩ = false := (K5.out.at (w.heap.size + 1) [.int .i64 0, .int .i64 0, .int .i64 0, .int .i64 0] (by simp)).f 0 rfl
  have c5_0_1 : W5.cell? ⟨w.heap.size + 1, 1, none⟩ = some (.int .i64 0) := (K5.out.at (w.heap.size + 1) [.int .i64 0, .int .i64 0, .int .i64 0, .int .i64 0] (by simp)).c 1 rfl
  have z5_0_1 : W5.frozen? ⟨w.heap.size + 1, 1, none⟩ = false := (K5.out.at (w.heap.size + 1) [.int .i64 0, .int .i64 0, .int .i64 0, .int .i64 0] (by simp)).f 1 rfl
  have c5_0_2 : W5.cell? ⟨w.heap.size + 1, 2, none⟩ = some (.int .i64 0) := (K5.out.at (w.heap.size + 1) [.int .i64 0, .int .i64 0, .int .i64 0, .int .i64 0] (by simp)).c 2 rfl
  have z5_0_2 : W5.frozen? ⟨w.heap.size + 1, 2, none⟩ = false := (K5.out.at (w.heap.size + 1) [.int .i64 0, .int .i64 0, .int .i64 0, .int .i64 0] (by simp)).f 2 rfl
  have c5_0_3 : W5.cell? ⟨w.heap.size + 1, 3, none⟩ = some (.int .i64 0) := (K5.out.at (w.heap.size + 1) [.int .i64 0, .int .i64 0, .int .i64 0, .int .i64 0] (by simp)).c 3 rfl
  have z5_0_3 : W5.frozen? ⟨w.heap.size + 1, 3, none⟩ = false := (K5.out.at (w.heap.size + 1) [.int .i64 0, .int .i64 0, .int .i64 0, .int .i64 0] (by simp)).f 3 rfl
  have c5_1_0 : W5.cell? ⟨w.heap.size, 0, none⟩ = some (.int .i64 0) := (K5.out.at (w.heap.size) [.int .i64 0, .int .i64 m, .int .i64 d, .int .i64 u] (by simp)).c 0 rfl
  have c5_1_1 : W5.cell? ⟨w.heap.size, 1, none⟩ = some (.int .i64 m) := (K5.out.at (w.heap.size) [.int .i64 0, .int .i64 m, .int .i64 d, .int .i64 u] (by simp)).c 1 rfl
  have c5_1_2 : W5.cell? ⟨w.heap.size, 2, none⟩ = some (.int .i64 d) := (K5.out.at (w.heap.size) [.int .i64 0, .int .i64 m, .int .i64 d, .int .i64 u] (by simp)).c 2 rfl
  have c5_1_3 : W5.cell? ⟨w.heap.size, 3, none⟩ = some (.int .i64 u) := (K5.out.at (w.heap.size) [.int .i64 0, .int .i64 m, .int .i64 d, .int .i64 u] (by simp)).c 3 rfl
  have XF : Hid (Bx (W5.setCells (w.heap.size + 1) 0 [.int .i64 I, .int .i64 M, .int .i64 D, .int .i64 U]) (w.heap.size + 1) [.int .i64 I, .int .i64 M, .int .i64 D, .int .i64 U]) := (K5.out.at (w.heap.size + 1) [.int .i64 0, .int .i64 0, .int .i64 0, .int .i64 0] (by simp)).setAll _ rfl
  have BF : Hid (Below w.heap.size w (W5.setCells (w.heap.size + 1) 0 [.int .i64 I, .int .i64 M, .int .i64 D, .int .i64 U])) := below_setCells (by omega) _ _ _ K5.out.1
  have y0 := XF.out.c 0 rfl
  have y1 := XF.out.c 1 rfl
  have y2 := XF.out.c 2 rfl
  have y3 := XF.out.c 3 rfl
  simp only [World.setCells, Nat.zero_add, Nat.reduceAdd] at y0 y1 y2 y3
  clear XF
  go_wp2
  exact bodyPost_ret (v := .tuple #[.agg #[.int .i64 I, .int .i64 M, .int .i64 D, .int .i64 U], .int .i64 E]) (by simp [results, Try.results27, go_sem, y0, y1, y2, y3]) rfl ⟨rfl, BF.out⟩

set_option maxRecDepth 100000 in
set_option maxHeartbeats 4000000 in
theorem rpjus_BE (m d u D1 U1 M1 D2 L l I M D U E : Int) (m1 : -2147483647 ≤ m) (m2 : m ≤ 2147483647) (d1 : -2147483647 ≤ d) (d2 : d ≤ 2147483647) (q1 : -1000000000 ≤ u.tdiv 86400000000) (q2 : u.tdiv 86400000000 ≤ 1000000000) (hd : d + u.tdiv 86400000000 = D1) (hu : u.tmod 86400000000 = U1) (hm : m + D1.tdiv 30 = M1) (he : D1.tmod 30 = D2) (q3 : -100000000 ≤ D1.tdiv 30) (q4 : D1.tdiv 30 ≤ 100000000) (e1 : -30 < D2) (e2 : D2 < 30) (f1 : -86400000000 < U1) (f2 : U1 < 86400000000) (g1 : 0 < M1) (g2 : ¬ l < 0) (k1 : ¬ 0 < D2) (k2 : ¬ D2 < 0)
    (R : Hid (∀ w : World, Calls Try.prog 16 #[.agg #[.int .i64 0, .int .i64 m, .int .i64 d, .int .i64 u]] w fun r' w' => r' = .returned (.bool true) ∧ Below w.heap.size w w'))
    (C : Hid (∀ w : World, Calls Try.prog 34 #[.int .i64 D1, .int .i64 2147483647] w fun r' w' => r' = .returned (.bool true) ∧ w' = w))
    (LG : Hid (∀ (w : World), Calls Try.prog 43 #[.agg #[.int .i64 0, .int .i64 0, .int .i64 D2, .int .i64 U1]] w fun r' w' => ∃ v', r' = .returned v' ∧ IsW w' v' (L) ∧ Below w.heap.size w w'))
    (SG : Hid (∀ (y : Value) (w : World), IsW w y L → Calls Try.prog 41 #[y] w fun r' w' => r' = .returned (.int .i64 l) ∧ Below w.heap.size w w'))
    (MK : Hid (∀ w : World, Calls Try.prog 21 #[.int .i64 M1, .int .i64 D2, .int .i64 U1] w fun r' w' => r' = .returned (.tuple #[.agg #[.int .i64 I, .int .i64 M, .int .i64 D, .int .i64 U], .int .i64 E]) ∧ Below w.heap.size w w'))
    (w : World) :
    Calls Try.prog 27 #[.agg #[.int .i64 0, .int .i64 m, .int .i64 d, .int .i64 u]] w fun r' w' => r' = .returned (.tuple #[.agg #[.int .i64 I, .int .i64 M, .int .i64 D, .int .i64 U], .int .i64 E]) ∧ Below w.heap.size w w' := by
  have w1 : IntKind.i64.wrap (u.tdiv 86400000000) = u.tdiv 86400000000 := by rw [IntKind.wrap_i64]; omega
  have w2 : IntKind.i64.wrap (d + u.tdiv 86400000000) = D1 := by rw [IntKind.wrap_i64]; omega
  have w3 : IntKind.i64.wrap (D1.tdiv 30) = D1.tdiv 30 := by rw [IntKind.wrap_i64]; omega
  have w4 : IntKind.i64.wrap (m + D1.tdiv 30) = M1 := by rw [IntKind.wrap_i64]; omega
  have g3 : ¬ M1 < 0 := by omega
  have K0 : Hid (BS w [(w.heap.size + 1, [.int .i64 0, .int .i64 0, .int .i64 0, .int .i64 0]), (w.heap.size, [.int .i64 0, .int .i64 m, .int .i64 d, .int .i64 u])] ((w.alloc (.cells #[.int .i64 0, .int .i64 m, .int .i64 d, .int .i64 u] 23)).alloc (.cells #[.int .i64 0, .int .i64 0, .int .i64 0, .int .i64 0] 23))) := (((BS.start w).new [.int .i64 0, .int .i64 m, .int .i64 d, .int .i64 u] 23 rfl).new [.int .i64 0, .int .i64 0, .int .i64 0, .int .i64 0] 23 (by simp))
  go_enter Try.func27, Try.ntmps27
  go_wp2_with fail
  refine (R.out _).mono ?_
  rintro e W1 ⟨rfl, hb⟩
  have K1 : Hid (BS w [(w.heap.size + 1, [.int .i64 0, .int .i64 0, .int .i64 0, .int .i64 0]), (w.heap.size, [.int .i64 0, .int .i64 m, .int .i64 d, .int .i64 u])] W1) := K0.out.below hb
  clear hb K0
  have c1_0_0 : W1.cell? ⟨w.heap.size + 1, 0, none⟩ = some (.int .i64 0) := (K1.out.at (w.heap.size + 1) [.int .i64 0, .int .i64 0, .int .i64 0, .int .i64 0] (by simp)).c 0 rfl
  have z1_0_0 : W1.frozen? ⟨w.heap.size + 1, 0, none⟩ = false := (K1.out.at (w.heap.size + 1) [.int .i64 0, .int .i64 0, .int .i64 0, .int .i64 0] (by simp)).f 0 rfl
  have c1_0_1 : W1.cell? ⟨w.heap.size + 1, 1, none⟩ = some (.int .i64 0) := (K1.out.at (w.heap.size + 1) [.int .i64 0, .int .i64 0, .int .i64 0, .int .i64 0] (by simp)).c 1 rfl
  have z1_0_1 : W1.frozen? ⟨w.heap.size + 1, 1, none⟩ = false := (K1.out.at (w.heap.size + 1) [.int .i64 0, .int .i64 0, .int .i64 0, .int .i64 0] (by simp)).f 1 rfl
  have c1_0_2 : W1.cell? ⟨w.heap.size + 1, 2, none⟩ = some (.int .i64 0) := (K1.out.at (w.heap.size + 1) [.int .i64 0, .int .i64 0, .int .i64 0, .int .i64 0] (by simp)).c 2 rfl
  have z1_0_2 : W1.frozen? ⟨w.heap.size + 1, 2, none⟩ = false := (K1.out.at (w.heap.size + 1) [.int .i64 0, .int .i64 0, .int .i64 0, .int .i64 0] (by simp)).f 2 rfl
  have c1_0_3 : W1.cell? ⟨w.heap.size + 1, 3, none⟩ = some (.int .i64 0) := (K1.out.at (w.heap.size + 1) [.int .i64 0, .int .i64 0, .int .i64 0, .int .i64 0] (by simp)).c 3 rfl
  have z1_0_3 : W1.frozen? ⟨w.heap.size + 1, 3, none⟩ = false := (K1.out.at (w.heap.size + 1) [.int .i64 0, .int .i64 0, .int .i64 0, .int .i64 0] (by simp)).f 3 rfl
  have c1_1_0 : W1.cell? ⟨w.heap.size, 0, none⟩ = some (.int .i64 0) := (K1.out.at (w.heap.size) [.int .i64 0, .int .i64 m, .int .i64 d, .int .i64 u] (by simp)).c 0 rfl
  have c1_1_1 : W1.cell? ⟨w.heap.size, 1, none⟩ = some (.int .i64 m) := (K1.out.at (w.heap.size) [.int .i64 0, .int .i64 m, .int .i64 d, .int .i64 u] (by simp)).c 1 rfl
  have c1_1_2 : W1.cell? ⟨w.heap.size, 2, none⟩ = some (.int .i64 d) := (K1.out.at (w.heap.size) [.int .i64 0, .int .i64 m, .int .i64 d, .int .i64 u] (by simp)).c 2 rfl
  have c1_1_3 : W1.cell? ⟨w.heap.size, 3, none⟩ = some (.int .i64 u) := (K1.out.at (w.heap.size) [.int .i64 0, .int .i64 m, .int .i64 d, .int .i64 u] (by simp)).c 3 rfl
  go_wp2_with fail
  refine (C.out _).mono ?_
  rintro e W2 ⟨rfl, hw⟩
  rw [hw]
  clear hw W2
  go_wp2_with fail
  refine (LG.out _).mono ?_
  rintro e W3 ⟨y, rfl, hv, hb⟩
  have K3 : Hid (BS w [(w.heap.size + 1, [.int .i64 0, .int .i64 0, .int .i64 0, .int .i64 0]), (w.heap.size, [.int .i64 0, .int .i64 m, .int .i64 d, .int .i64 u])] W3) := K1.out.below hb
  have hv' : Hid (IsW _ _ _) := hv
  clear c1_0_0 z1_0_0 c1_0_1 z1_0_1 c1_0_2 z1_0_2 c1_0_3 z1_0_3 c1_1_0 c1_1_1 c1_1_2 c1_1_3
  clear hb hv K1
  have c3_0_0 : W3.cell? ⟨w.heap.size + 1, 0, none⟩ = some (.int .i64 0) := (K3.out.at (w.heap.size + 1) [.int .i64 0, .int .i64 0, .int .i64 0, .int .i64 0] (by simp)).c 0 rfl
  have z3_0_0 : W3.frozen? ⟨w.heap.size + 1, 0, none⟩ = false := (K3.out.at (w.heap.size + 1) [.int .i64 0, .int .i64 0, .int .i64 0, .int .i64 0] (by simp)).f 0 rfl
  have c3_0_1 : W3.cell? ⟨w.heap.size + 1, 1, none⟩ = some (.int .i64 0) := (K3.out.at (w.heap.size + 1) [.int .i64 0, .int .i64 0, .int .i64 0, .int .i64 0] (by simp)).c 1 rfl
  have z3_0_1 : W3.frozen? ⟨w.heap.size + 1, 1, none⟩ = false := (K3.out.at (w.heap.size + 1) [.int .i64 0, .int .i64 0, .int .i64 0, .int .i64 0] (by simp)).f 1 rfl
  have c3_0_2 : W3.cell? ⟨w.heap.size + 1, 2, none⟩ = some (.int .i64 0) := (K3.out.at (w.heap.size + 1) [.int .i64 0, .int .i64 0, .int .i64 0, .int .i64 0] (by simp)).c 2 rfl
  have z3_0_2 : W3.frozen? ⟨w.heap.size + 1, 2, none⟩ = false := (K3.out.at (w.heap.size + 1) [.int .i64 0, .int .i64 0, .int .i64 0, .int .i64 0] (by simp)).f 2 rfl
  have c3_0_3 : W3.cell? ⟨w.heap.size + 1, 3, none⟩ = some (.int .i64 0) := (K3.out.at (w.heap.size + 1) [.int .i64 0, .int .i64 0, .int .i64 0, .int .i64 0] (by simp)).c 3 rfl
  have z3_0_3 : W3.frozen? ⟨w.heap.size + 1, 3, none⟩ = false := (K3.out.at (w.heap.size + 1) [.int .i64 0, .int .i64 0, .int .i64 0, .int .i64 0] (by simp)).f 3 rfl
  have c3_1_0 : W3.cell? ⟨w.heap.size, 0, none⟩ = some (.int .i64 0) := (K3.out.at (w.heap.size) [.int .i64 0, .int .i64 m, .int .i64 d, .int .i64 u] (by simp)).c 0 rfl
  have c3_1_1 : W3.cell? ⟨w.heap.size, 1, none⟩ = some (.int .i64 m) := (K3.out.at (w.heap.size) [.int .i64 0, .int .i64 m, .int .i64 d, .int .i64 u] (by simp)).c 1 rfl
  have c3_1_2 : W3.cell? ⟨w.heap.size, 2, none⟩ = some (.int .i64 d) := (K3.out.at (w.heap.size) [.int .i64 0, .int .i64 m, .int .i64 d, .int .i64 u] (by simp)).c 2 rfl
  have c3_1_3 : W3.cell? ⟨w.heap.size, 3, none⟩ = some (.int .i64 u) := (K3.out.at (w.heap.size) [.int .i64 0, .int .i64 m, .int .i64 d, .int .i64 u] (by simp)).c 3 rfl
  go_wp2_with fail
  refine (SG.out _ _ hv'.out).mono ?_
  rintro e W4 ⟨rfl, hb⟩
  have K4 : Hid (BS w [(w.heap.size + 1, [.int .i64 0, .int .i64 0, .int .i64 0, .int .i64 0]), (w.heap.size, [.int .i64 0, .int .i64 m, .int .i64 d, .int .i64 u])] W4) := K3.out.below hb
  clear c3_0_0 z3_0_0 c3_0_1 z3_0_1 c3_0_2 z3_0_2 c3_0_3 z3_0_3 c3_1_0 c3_1_1 c3_1_2 c3_1_3
  clear hb hv' K3
  have c4_0_0 : W4.cell? ⟨w.heap.size + 1, 0, none⟩ = some (.int .i64 0) := (K4.out.at (w.heap.size + 1) [.int .i64 0, .int .i64 0, .int .i64 0, .int .i64 0] (by simp)).c 0 rfl
  have z4_0_0 : W4.frozen? ⟨w.heap.size + 1, 0, none⟩ = false := (K4.out.at (w.heap.size + 1) [.int .i64 0, .int .i64 0, .int .i64 0, .int .i64 0] (by simp)).f 0 rfl
  have c4_0_1 : W4.cell? ⟨w.heap.size + 1, 1, none⟩ = some (.int .i64 0) := (K4.out.at (w.heap.size + 1) [.int .i64 0, .int .i64 0, .int .i64 0, .int .i64 0] (by simp)).c 1 rfl
  have z4_0_1 : W4.frozen? ⟨w.heap.size + 1, 1, none⟩ = false := (K4.out.at (w.heap.size + 1) [.int .i64 0, .int .i64 0, .int .i64 0, .int .i64 0] (by simp)).f 1 rfl
  have c4_0_2 : W4.cell? ⟨w.heap.size + 1, 2, none⟩ = some (.int .i64 0) := (K4.out.at (w.heap.size + 1) [.int .i64 0, .int .i64 0, .int .i64 0, .int .i64 0] (by simp)).c 2 rfl
  have z4_0_2 : W4.frozen? ⟨w.heap.size + 1, 2, none⟩ = false := (K4.out.at (w.heap.size + 1) [.int .i64 0, .int .i64 0, .int .i64 0, .int .i64 0] (by simp)).f 2 rfl
  have c4_0_3 : W4.cell? ⟨w.heap.size + 1, 3, none⟩ = some (.int .i64 0) := (K4.out.at (w.heap.size + 1) [.int .i64 0, .int .i64 0, .int .i64 0, .int .i64 0] (by simp)).c 3 rfl
  have z4_0_3 : W4.frozen? ⟨w.heap.size + 1, 3, none⟩ = false := (K4.out.at (w.heap.size + 1) [.int .i64 0, .int .i64 0, .int .i64 0, .int .i64 0] (by simp)).f 3 rfl
  have c4_1_0 : W4.cell? ⟨w.heap.size, 0, none⟩ = some (.int .i64 0) := (K4.out.at (w.heap.size) [.int .i64 0, .int .i64 m, .int .i64 d, .int .i64 u] (by simp)).c 0 rfl
  have c4_1_1 : W4.cell? ⟨w.heap.size, 1, none⟩ = some (.int .i64 m) := (K4.out.at (w.heap.size) [.int .i64 0, .int .i64 m, .int .i64 d, .int .i64 u] (by simp)).c 1 rfl
  have c4_1_2 : W4.cell? ⟨w.heap.size, 2, none⟩ = some (.int .i64 d) := (K4.out.at (w.heap.size) [.int .i64 0, .int .i64 m, .int .i64 d, .int .i64 u] (by simp)).c 2 rfl
  have c4_1_3 : W4.cell? ⟨w.heap.size, 3, none⟩ = some (.int .i64 u) := (K4.out.at (w.heap.size) [.int .i64 0, .int .i64 m, .int .i64 d, .int .i64 u] (by simp)).c 3 rfl
  go_wp2_with fail
  refine (MK.out _).mono ?_
  rintro e W5 ⟨rfl, hb⟩
  have K5 : Hid (BS w [(w.heap.size + 1, [.int .i64 0, .int .i64 0, .int .i64 0, .int .i64 0]), (w.heap.size, [.int .i64 0, .int .i64 m, .int .i64 d, .int .i64 u])] W5) := K4.out.below hb
  clear c4_0_0 z4_0_0 c4_0_1 z4_0_1 c4_0_2 z4_0_2 c4_0_3 z4_0_3 c4_1_0 c4_1_1 c4_1_2 c4_1_3
  clear hb K4
  have c5_0_0 : W5.cell? ⟨w.heap.size + 1, 0, none⟩ = some (.int .i64 0) := (K5.out.at (w.heap.size + 1) [.int .i64 0, .int .i64 0, .int .i64 0, .int .i64 0] (by simp)).c 0 rfl
  have z5_0_0 : W5.frozen? ⟨w.heap.size + 1, 0, none⟩ = false := (K5.out.at (w.heap.size + 1) [.int .i64 0, .int .i64 0, .int .i64 0, .int .i64 0] (by simp)).f 0 rfl
  have c5_0_1 : W5.cell? ⟨w.heap.size + 1, 1, none⟩ = some (.int .i64 0) := (K5.out.at (w.heap.size + 1) [.int .i64 0, .int .i64 0, .int .i64 0, .int .i64 0] (by simp)).c 1 rfl
  have z5_0_1 : W5.frozen? ⟨w.heap.size + 1, 1, none⟩ = false := (K5.out.at (w.heap.size + 1) [.int .i64 0, .int .i64 0, .int .i64 0, .int .i64 0] (by simp)).f 1 rfl
  have c5_0_2 : W5.cell? ⟨w.heap.size + 1, 2, none⟩ = some (.int .i64 0) := (K5.out.at (w.heap.size + 1) [.int .i64 0, .int .i64 0, .int .i64 0, .int .i64 0] (by simp)).c 2 rfl
  have z5_0_2 : W5.frozen? ⟨w.heap.size + 1, 2, none⟩ = false := (K5.out.at (w.heap.size + 1) [.int .i64 0, .int .i64 0, .int .i64 0, .int .i64 0] (by simp)).f 2 rfl
  have c5_0_3 : W5.cell? ⟨w.heap.size + 1, 3, none⟩ = some (.int .i64 0) := (K5.out.at (w.heap.size + 1) [.int .i64 0, .int .i64 0, .int .i64 0, .int .i64 0] (by simp)).c 3 rfl
  have z5_0_3 : W5.frozen? ⟨w.heap.size + 1, 3, none⟩ = false := (K5.out.at (w.heap.size + 1) [.int .i64 0, .int .i64 0, .int .i64 0, .int .i64 0] (by simp)).f 3 rfl
  have c5_1_0 : W5.cell? ⟨w.heap.size, 0, none⟩ = some (.int .i64 0) := (K5.out.at (w.heap.size) [.int .i64 0, .int .i64 m, .int .i64 d, .int .i64 u] (by simp)).c 0 rfl
  have c5_1_1 : W5.cell? ⟨w.heap.size, 1, none⟩ = some (.int .i64 m) := (K5.out.at (w.heap.size) [.int .i64 0, .int .i64 m, .int .i64 d, .int .i64 u] (by simp)).c 1 rfl
  have c5_1_2 : W5.cell? ⟨w.heap.size, 2, none⟩ = some (.int .i64 d) := (K5.out.at (w.heap.size) [.int .i64 0, .int .i64 m, .int .i64 d, .int .i64 u] (by simp)).c 2 rfl
  have c5_1_3 : W5.cell? ⟨w.heap.size, 3, none⟩ = some (.int .i64 u) := (K5.out.at (w.heap.size) [.int .i64 0, .int .i64 m, .int .i64 d, .int .i64 u] (by simp)).c 3 rfl
  have XF : Hid (Bx (W5.setCells (w.heap.size + 1) 0 [.int .i64 I, .int .i64 M, .int .i64 D, .int .i64 U]) (w.heap.size + 1) [.int .i64 I, .int .i64 M, .int .i64 D, .int .i64 U]) := (K5.out.at (w.heap.size + 1) [.int .i64 0, .int .i64 0, .int .i64 0, .int .i64 0] (by simp)).setAll _ rfl
  have BF : Hid (Below w.heap.size w (W5.setCells (w.heap.size + 1) 0 [.int .i64 I, .int .i64 M, .int .i64 D, .int .i64 U])) := below_setCells (by omega) _ _ _ K5.out.1
  have y0 := XF.out.c 0 rfl
  have y1 := XF.out.c 1 rfl
  have y2 := XF.out.c 2 rfl
  have y3 := XF.out.c 3 rfl
  simp only [World.setCells, Nat.zero_add, Nat.reduceAdd] at y0 y1 y2 y3
  clear XF
  go_wp2
  exact bodyPost_ret (v := .tuple #[.agg #[.int .i64 I, .int .i64 M, .int .i64 D, .int .i64 U], .int .i64 E]) (by simp [results, Try.results27, go_sem, y0, y1, y2, y3]) rfl ⟨rfl, BF.out⟩

set_option maxRecDepth 100000 in
set_option maxHeartbeats 4000000 in
theorem rpjus_CC (m d u D1 U1 M1 D2 L l I M D U E : Int) (m1 : -2147483647 ≤ m) (m2 : m ≤ 2147483647) (d1 : -2147483647 ≤ d) (d2 : d ≤ 2147483647) (q1 : -1000000000 ≤ u.tdiv 86400000000) (q2 : u.tdiv 86400000000 ≤ 1000000000) (hd : d + u.tdiv 86400000000 = D1) (hu : u.tmod 86400000000 = U1) (hm : m + D1.tdiv 30 = M1) (he : D1.tmod 30 = D2) (q3 : -100000000 ≤ D1.tdiv 30) (q4 : D1.tdiv 30 ≤ 100000000) (e1 : -30 < D2) (e2 : D2 < 30) (f1 : -86400000000 < U1) (f2 : U1 < 86400000000) (g1 : M1 < 0) (g2 : 0 < l) (k1 : D2 - 30 < 0) (k2 : 0 < U1)
    (R : Hid (∀ w : World, Calls Try.prog 16 #[.agg #[.int .i64 0, .int .i64 m, .int .i64 d, .int .i64 u]] w fun r' w' => r' = .returned (.bool true) ∧ Below w.heap.size w w'))
    (C : Hid (∀ w : World, Calls Try.prog 34 #[.int .i64 D1, .int .i64 2147483647] w fun r' w' => r' = .returned (.bool true) ∧ w' = w))
    (LG : Hid (∀ (w : World), Calls Try.prog 43 #[.agg #[.int .i64 0, .int .i64 0, .int .i64 D2, .int .i64 U1]] w fun r' w' => ∃ v', r' = .returned v' ∧ IsW w' v' (L) ∧ Below w.heap.size w w'))
    (SG : Hid (∀ (y : Value) (w : World), IsW w y L → Calls Try.prog 41 #[y] w fun r' w' => r' = .returned (.int .i64 l) ∧ Below w.heap.size w w'))
    (MK : Hid (∀ w : World, Calls Try.prog 21 #[.int .i64 (M1 + 1), .int .i64 (D2 - 30 + 1), .int .i64 (U1 - 86400000000)] w fun r' w' => r' = .returned (.tuple #[.agg #[.int .i64 I, .int .i64 M, .int .i64 D, .int .i64 U], .int .i64 E]) ∧ Below w.heap.size w w'))
    (w : World) :
    Calls Try.prog 27 #[.agg #[.int .i64 0, .int .i64 m, .int .i64 d, .int .i64 u]] w fun r' w' => r' = .returned (.tuple #[.agg #[.int .i64 I, .int .i64 M, .int .i64 D, .int .i64 U], .int .i64 E]) ∧ Below w.heap.size w w' := by
  have w1 : IntKind.i64.wrap (u.tdiv 86400000000) = u.tdiv 86400000000 := by rw [IntKind.wrap_i64]; omega
  have w2 : IntKind.i64.wrap (d + u.tdiv 86400000000) = D1 := by rw [IntKind.wrap_i64]; omega
  have w3 : IntKind.i64.wrap (D1.tdiv 30) = D1.tdiv 30 := by rw [IntKind.wrap_i64]; omega
  have w4 : IntKind.i64.wrap (m + D1.tdiv 30) = M1 := by rw [IntKind.wrap_i64]; omega
  have g3 : ¬ 0 < M1 := by omega
  have k3 : ¬ 0 < D2 - 30 := by omega
  have K0 : Hid (BS w [(w.heap.size + 1, [.int .i64 0, .int .i64 0, .int .i64 0, .int .i64 0]), (w.heap.size, [.int .i64 0, .int .i64 m, .int .i64 d, .int .i64 u])] ((w.alloc (.cells #[.int .i64 0, .int .i64 m, .int .i64 d, .int .i64 u] 23)).alloc (.cells #[.int .i64 0, .int .i64 0, .int .i64 0, .int .i64 0] 23))) := (((BS.start w).new [.int .i64 0, .int .i64 m, .int .i64 d, .int .i64 u] 23 rfl).new [.int .i64 0, .int .i64 0, .int .i64 0, .int .i64 0] 23 (by simp))
  go_enter Try.func27, Try.ntmps27
  go_wp2_with fail
  refine (R.out _).mono ?_
  rintro e W1 ⟨rfl, hb⟩
  have K1 : Hid (BS w [(w.heap.size + 1, [.int .i64 0, .int .i64 0, .int .i64 0, .int .i64 0]), (w.heap.size, [.int .i64 0, .int .i64 m, .int .i64 d, .int .i64 u])] W1) := K0.out.below hb
  clear hb K0
  have c1_0_0 : W1.cell? ⟨w.heap.size + 1, 0, none⟩ = some (.int .i64 0) := (K1.out.at (w.heap.size + 1) [.int .i64 0, .int .i64 0, .int .i64 0, .int .i64 0] (by simp)).c 0 rfl
  have z1_0_0 : W1.frozen? ⟨w.heap.size + 1, 0, none⟩ = false := (K1.out.at (w.heap.size + 1) [.int .i64 0, .int .i64 0, .int .i64 0, .int .i64 0] (by simp)).f 0 rfl
  have c1_0_1 : W1.cell? ⟨w.heap.size + 1, 1, none⟩ = some (.int .i64 0) := (K1.out.at (w.heap.size + 1) [.int .i64 0, .int .i64 0, .int .i64 0, .int .i64 0] (by simp)).c 1 rfl
  have z1_0_1 : W1.frozen? ⟨w.heap.size + 1, 1, none⟩ = false := (K1.out.at (w.heap.size + 1) [.int .i64 0, .int .i64 0, .int .i64 0, .int .i64 0] (by simp)).f 1 rfl
  have c1_0_2 : W1.cell? ⟨w.heap.size + 1, 2, none⟩ = some (.int .i64 0) := (K1.out.at (w.heap.size + 1) [.int .i64 0, .int .i64 0, .int .i64 0, .int .i64 0] (by simp)).c 2 rfl
  have z1_0_2 : W1.frozen? ⟨w.heap.size + 1, 2, none⟩ = false := (K1.out.at (w.heap.size + 1) [.int .i64 0, .int .i64 0, .int .i64 0, .int .i64 0] (by simp)).f 2 rfl
  have c1_0_3 : W1.cell? ⟨w.heap.size + 1, 3, none⟩ = some (.int .i64 0) := (K1.out.at (w.heap.size + 1) [.int .i64 0, .int .i64 0, .int .i64 0, .int .i64 0] (by simp)).c 3 rfl
  have z1_0_3 : W1.frozen? ⟨w.heap.size + 1, 3, none⟩ = false := (K1.out.at (w.heap.size + 1) [.int .i64 0, .int .i64 0, .int .i64 0, .int .i64 0] (by simp)).f 3 rfl
  have c1_1_0 : W1.cell? ⟨w.heap.size, 0, none⟩ = some (.int .i64 0) := (K1.out.at (w.heap.size) [.int .i64 0, .int .i64 m, .int .i64 d, .int .i64 u] (by simp)).c 0 rfl
  have c1_1_1 : W1.cell? ⟨w.heap.size, 1, none⟩ = some (.int .i64 m) := (K1.out.at (w.heap.size) [.int .i64 0, .int .i64 m, .int .i64 d, .int .i64 u] (by simp)).c 1 rfl
  have c1_1_2 : W1.cell? ⟨w.heap.size, 2, none⟩ = some (.int .i64 d) := (K1.out.at (w.heap.size) [.int .i64 0, .int .i64 m, .int .i64 d, .int .i64 u] (by simp)).c 2 rfl
  have c1_1_3 : W1.cell? ⟨w.heap.size, 3, none⟩ = some (.int .i64 u) := (K1.out.at (w.heap.size) [.int .i64 0, .int .i64 m, .int .i64 d, .int .i64 u] (by simp)).c 3 rfl
  go_wp2_with fail
  refine (C.out _).mono ?_
  rintro e W2 ⟨rfl, hw⟩
  rw [hw]
  clear hw W2
  go_wp2_with fail
  refine (LG.out _).mono ?_
  rintro e W3 ⟨y, rfl, hv, hb⟩
  have K3 : Hid (BS w [(w.heap.size + 1, [.int .i64 0, .int .i64 0, .int .i64 0, .int .i64 0]), (w.heap.size, [.int .i64 0, .int .i64 m, .int .i64 d, .int .i64 u])] W3) := K1.out.below hb
  have hv' : Hid (IsW _ _ _) := hv
  clear c1_0_0 z1_0_0 c1_0_1 z1_0_1 c1_0_2 z1_0_2 c1_0_3 z1_0_3 c1_1_0 c1_1_1 c1_1_2 c1_1_3
  clear hb hv K1
  have c3_0_0 : W3.cell? ⟨w.heap.size + 1, 0, none⟩ = some (.int .i64 0) := (K3.out.at (w.heap.size + 1) [.int .i64 0, .int .i64 0, .int .i64 0, .int .i64 0] (by simp)).c 0 rfl
  have z3_0_0 : W3.frozen? ⟨w.heap.size + 1, 0, none⟩ = false := (K3.out.at (w.heap.size + 1) [.int .i64 0, .int .i64 0, .int .i64 0, .int .i64 0] (by simp)).f 0 rfl
  have c3_0_1 : W3.cell? ⟨w.heap.size + 1, 1, none⟩ = some (.int .i64 0) := (K3.out.at (w.heap.size + 1) [.int .i64 0, .int .i64 0, .int .i64 0, .int .i64 0] (by simp)).c 1 rfl
  have z3_0_1 : W3.frozen? ⟨w.heap.size + 1, 1, none⟩ = false := (K3.out.at (w.heap.size + 1) [.int .i64 0, .int .i64 0, .int .i64 0, .int .i64 0] (by simp)).f 1 rfl
  have c3_0_2 : W3.cell? ⟨w.heap.size + 1, 2, none⟩ = some (.int .i64 0) := (K3.out.at (w.heap.size + 1) [.int .i64 0, .int .i64 0, .int .i64 0, .int .i64 0] (by simp)).c 2 rfl
  have z3_0_2 : W3.frozen? ⟨w.heap.size + 1, 2, none⟩ = false := (K3.out.at (w.heap.size + 1) [.int .i64 0, .int .i64 0, .int .i64 0, .int .i64 0] (by simp)).f 2 rfl
  have c3_0_3 : W3.cell? ⟨w.heap.size + 1, 3, none⟩ = some (.int .i64 0) := (K3.out.at (w.heap.size + 1) [.int .i64 0, .int .i64 0, .int .i64 0, .int .i64 0] (by simp)).c 3 rfl
  have z3_0_3 : W3.frozen? ⟨w.heap.size + 1, 3, none⟩ = false := (K3.out.at (w.heap.size + 1) [.int .i64 0, .int .i64 0, .int .i64 0, .int .i64 0] (by simp)).f 3 rfl
  have c3_1_0 : W3.cell? ⟨w.heap.size, 0, none⟩ = some (.int .i64 0) := (K3.out.at (w.heap.size) [.int .i64 0, .int .i64 m, .int .i64 d, .int .i64 u] (by simp)).c 0 rfl
  have c3_1_1 : W3.cell? ⟨w.heap.size, 1, none⟩ = some (.int .i64 m) := (K3.out.at (w.heap.size) [.int .i64 0, .int .i64 m, .int .i64 d, .int .i64 u] (by simp)).c 1 rfl
  have c3_1_2 : W3.cell? ⟨w.heap.size, 2, none⟩ = some (.int .i64 d) := (K3.out.at (w.heap.size) [.int .i64 0, .int .i64 m, .int .i64 d, .int .i64 u] (by simp)).c 2 rfl
  have c3_1_3 : W3.cell? ⟨w.heap.size, 3, none⟩ = some (.int .i64 u) := (K3.out.at (w.heap.size) [.int .i64 0, .int .i64 m, .int .i64 d, .int .i64 u] (by simp)).c 3 rfl
  go_wp2_with fail
  refine (SG.out _ _ hv'.out).mono ?_
  rintro e W4 ⟨rfl, hb⟩
  have K4 : Hid (BS w [(w.heap.size + 1, [.int .i64 0, .int .i64 0, .int .i64 0, .int .i64 0]), (w.heap.size, [.int .i64 0, .int .i64 m, .int .i64 d, .int .i64 u])] W4) := K3.out.below hb
  clear c3_0_0 z3_0_0 c3_0_1 z3_0_1 c3_0_2 z3_0_2 c3_0_3 z3_0_3 c3_1_0 c3_1_1 c3_1_2 c3_1_3
  clear hb hv' K3
  have c4_0_0 : W4.cell? ⟨w.heap.size + 1, 0, none⟩ = some (.int .i64 0) := (K4.out.at (w.heap.size + 1) [.int .i64 0, .int .i64 0, .int .i64 0, .int .i64 0] (by simp)).c 0 rfl
  have z4_0_0 : W4.frozen? ⟨w.heap.size + 1, 0, none⟩ = false := (K4.out.at (w.heap.size + 1) [.int .i64 0, .int .i64 0, .int .i64 0, .int .i64 0] (by simp)).f 0 rfl
  have c4_0_1 : W4.cell? ⟨w.heap.size + 1, 1, none⟩ = some (.int .i64 0) := (K4.out.at (w.heap.size + 1) [.int .i64 0, .int .i64 0, .int .i64 0, .int .i64 0] (by simp)).c 1 rfl
  have z4_0_1 : W4.frozen? ⟨w.heap.size + 1, 1, none⟩ = false := (K4.out.at (w.heap.size + 1) [.int .i64 0, .int .i64 0, .int .i64 0, .int .i64 0] (by simp)).f 1 rfl
  have c4_0_2 : W4.cell? ⟨w.heap.size + 1, 2, none⟩ = some (.int .i64 0) := (K4.out.at (w.heap.size + 1) [.int .i64 0, .int .i64 0, .int .i64 0, .int .i64 0] (by simp)).c 2 rfl
  have z4_0_2 : W4.frozen? ⟨w.heap.size + 1, 2, none⟩ = false := (K4.out.at (w.heap.size + 1) [.int .i64 0, .int .i64 0, .int .i64 0, .int .i64 0] (by simp)).f 2 rfl
  have c4_0_3 : W4.cell? ⟨w.heap.size + 1, 3, none⟩ = some (.int .i64 0) := (K4.out.at (w.heap.size + 1) [.int .i64 0, .int .i64 0, .int .i64 0, .int .i64 0] (by simp)).c 3 rfl
  have z4_0_3 : W4.frozen? ⟨w.heap.size + 1, 3, none⟩ = false := (K4.out.at (w.heap.size + 1) [.int .i64 0, .int .i64 0, .int .i64 0, .int .i64 0] (by simp)).f 3 rfl
  have c4_1_0 : W4.cell? ⟨w.heap.size, 0, none⟩ = some (.int .i64 0) := (K4.out.at (w.heap.size) [.int .i64 0, .int .i64 m, .int .i64 d, .int .i64 u] (by simp)).c 0 rfl
  have c4_1_1 : W4.cell? ⟨w.heap.size, 1, none⟩ = some (.int .i64 m) := (K4.out.at (w.heap.size) [.int .i64 0, .int .i64 m, .int .i64 d, .int .i64 u] (by simp)).c 1 rfl
  have c4_1_2 : W4.cell? ⟨w.heap.size, 2, none⟩ = some (.int .i64 d) := (K4.out.at (w.heap.size) [.int .i64 0, .int .i64 m, .int .i64 d, .int .i64 u] (by simp)).c 2 rfl
  have c4_1_3 : W4.cell? ⟨w.heap.size, 3, none⟩ = some (.int .i64 u) := (K4.out.at (w.heap.size) [.int .i64 0, .int .i64 m, .int .i64 d, .int .i64 u] (by simp)).c 3 rfl
  go_wp2_with fail
  refine (MK.out _).mono ?_
  rintro e W5 ⟨rfl, hb⟩
  have K5 : Hid (BS w [(w.heap.size + 1, [.int .i64 0, .int .i64 0, .int .i64 0, .int .i64 0]), (w.heap.size, [.int .i64 0, .int .i64 m, .int .i64 d, .int .i64 u])] W5) := K4.out.below hb
  clear c4_0_0 z4_0_0 c4_0_1 z4_0_1 c4_0_2 z4_0_2 c4_0_3 z4_0_3 c4_1_0 c4_1_1 c4_1_2 c4_1_3
  clear hb K4
  have c5_0_0 : W5.cell? ⟨w.heap.size + 1, 0, none⟩ = some (.int .i64 0) := (K5.out.at (w.heap.size + 1) [.int .i64 0, .int .i64 0, .int .i64 0, .int .i64 0] (by simp)).c 0 rfl
  have z5_0_0 : W5.frozen? ⟨w.heap.size + 1, 0, none⟩ = false := (K5.out.at (w.heap.size + 1) [.int .i64 0, .int .i64 0, .int .i64 0, .int .i64 0] (by simp)).f 0 rfl
  have c5_0_1 : W5.cell? ⟨w.heap.size + 1, 1, none⟩ = some (.int .i64 0) := (K5.out.at (w.heap.size + 1) [.int .i64 0, .int .i64 0, .int .i64 0, .int .i64 0] (by simp)).c 1 rfl
  have z5_0_1 : W5.frozen? ⟨w.heap.size + 1, 1, none⟩ = false := (K5.out.at (w.heap.size + 1) [.int .i64 0, .int .i64 0, .int .i64 0, .int .i64 0] (by simp)).f 1 rfl
  have c5_0_2 : W5.cell? ⟨w.heap.size + 1, 2, none⟩ = some (.int .i64 0) := (K5.out.at (w.heap.size + 1) [.int .i64 0, .int .i64 0, .int .i64 0, .int .i64 0] (by simp)).c 2 rfl
  have z5_0_2 : W5.frozen? ⟨w.heap.size + 1, 2, none⟩ = false := (K5.out.at (w.heap.size + 1) [.int .i64 0, .int .i64 0, .int .i64 0, .int .i64 0] (by simp)).f 2 rfl
  have c5_0_3 : W5.cell? ⟨w.heap.size + 1, 3, none⟩ = some (.int .i64 0) := (K5.out.at (w.heap.size + 1) [.int .i64 0, .int .i64 0, .int .i64 0, .int .i64 0] (by simp)).c 3 rfl
  have z5_0_3 : W5.frozen? ⟨w.heap.size + 1, 3, none⟩ = false := (K5.out.at (w.heap.size + 1) [.int .i64 0, .int .i64 0, .int .i64 0, .int .i64 0] (by simp)).f 3 rfl
  have c5_1_0 : W5.cell? ⟨w.heap.size, 0, none⟩ = some (.int .i64 0) := (K5.out.at (w.heap.size) [.int .i64 0, .int .i64 m, .int .i64 d, .int .i64 u] (by simp)).c 0 rfl
  have c5_1_1 : W5.cell? ⟨w.heap.size, 1, none⟩ = some (.int .i64 m) := (K5.out.at (w.heap.size) [.int .i64 0, .int .i64 m, .int .i64 d, .int .i64 u] (by simp)).c 1 rfl
  have c5_1_2 : W5.cell? ⟨w.heap.size, 2, none⟩ = some (.int .i64 d) := (K5.out.at (w.heap.size) [.int .i64 0, .int .i64 m, .int .i64 d, .int .i64 u] (by simp)).c 2 rfl
  have c5_1_3 : W5.cell? ⟨w.heap.size, 3, none⟩ = some (.int .i64 u) := (K5.out.at (w.heap.size) [.int .i64 0, .int .i64 m, .int .i64 d, .int .i64 u] (by simp)).c 3 rfl
  have XF : Hid (Bx (W5.setCells (w.heap.size + 1) 0 [.int .i64 I, .int .i64 M, .int .i64 D, .int .i64 U]) (w.heap.size + 1) [.int .i64 I, .int .i64 M, .int .i64 D, .int .i64 U]) := (K5.out.at (w.heap.size + 1) [.int .i64 0, .int .i64 0, .int .i64 0, .int .i64 0] (by simp)).setAll _ rfl
  have BF : Hid (Below w.heap.size w (W5.setCells (w.heap.size + 1) 0 [.int .i64 I, .int .i64 M, .int .i64 D, .int .i64 U])) := below_setCells (by omega) _ _ _ K5.out.1
  have y0 := XF.out.c 0 rfl
  have y1 := XF.out.c 1 rfl
  have y2 := XF.out.c 2 rfl
  have y3 := XF.out.c 3 rfl
  simp only [World.setCells, Nat.zero_add, Nat.reduceAdd] at y0 y1 y2 y3
  clear XF
  go_wp2
  exact bodyPost_ret (v := .tuple #[.agg #[.int .i64 I, .int .i64 M, .int .i64 D, .int .i64 U], .int .i64 E]) (by simp [results, Try.results27, go_sem, y0, y1, y2, y3]) rfl ⟨rfl, BF.out⟩

set_option maxRecDepth 100000 in
set_option maxHeartbeats 4000000 in
theorem rpjus_CD (m d u D1 U1 M1 D2 L l I M D U E : Int) (m1 : -2147483647 ≤ m) (m2 : m ≤ 2147483647) (d1 : -2147483647 ≤ d) (d2 : d ≤ 2147483647) (q1 : -1000000000 ≤ u.tdiv 86400000000) (q2 : u.tdiv 86400000000 ≤ 1000000000) (hd : d + u.tdiv 86400000000 = D1) (hu : u.tmod 86400000000 = U1) (hm : m + D1.tdiv 30 = M1) (he : D1.tmod 30 = D2) (q3 : -100000000 ≤ D1.tdiv 30) (q4 : D1.tdiv 30 ≤ 100000000) (e1 : -30 < D2) (e2 : D2 < 30) (f1 : -86400000000 < U1) (f2 : U1 < 86400000000) (g1 : M1 < 0) (g2 : 0 < l) (k1 : D2 - 30 < 0) (k2 : ¬ 0 < U1)
    (R : Hid (∀ w : World, Calls Try.prog 16 #[.agg #[.int .i64 0, .int .i64 m, .int .i64 d, .int .i64 u]] w fun r' w' => r' = .returned (.bool true) ∧ Below w.heap.size w w'))
    (C : Hid (∀ w : World, Calls Try.prog 34 #[.int .i64 D1, .int .i64 2147483647] w fun r' w' => r' = .returned (.bool true) ∧ w' = w))
    (LG : Hid (∀ (w : World), Calls Try.prog 43 #[.agg #[.int .i64 0, .int .i64 0, .int .i64 D2, .int .i64 U1]] w fun r' w' => ∃ v', r' = .returned v' ∧ IsW w' v' (L) ∧ Below w.heap.size w w'))
    (SG : Hid (∀ (y : Value) (w : World), IsW w y L → Calls Try.prog 41 #[y] w fun r' w' => r' = .returned (.int .i64 l) ∧ Below w.heap.size w w'))
    (MK : Hid (∀ w : World, Calls Try.prog 21 #[.int .i64 (M1 + 1), .int .i64 (D2 - 30), .int .i64 U1] w fun r' w' => r' = .returned (.tuple #[.agg #[.int .i64 I, .int .i64 M, .int .i64 D, .int .i64 U], .int .i64 E]) ∧ Below w.heap.size w w'))
    (w : World) :
    Calls Try.prog 27 #[.agg #[.int .i64 0, .int .i64 m, .int .i64 d, .int .i64 u]] w fun r' w' => r' = .returned (.tuple #[.agg #[.int .i64 I, .int .i64 M, .int .i64 D, .int .i64 U], .int .i64 E]) ∧ Below w.heap.size w w' := by
  have w1 : IntKind.i64.wrap (u.tdiv 86400000000) = u.tdiv 86400000000 := by rw [IntKind.wrap_i64]; omega
  have w2 : IntKind.i64.wrap (d + u.tdiv 86400000000) = D1 := by rw [IntKind.wrap_i64]; omega
  have w3 : IntKind.i64.wrap (D1.tdiv 30) = D1.tdiv 30 := by rw [IntKind.wrap_i64]; omega
  have w4 : IntKind.i64.wrap (m + D1.tdiv 30) = M1 := by rw [IntKind.wrap_i64]; omega
  have g3 : ¬ 0 < M1 := by omega
  have k3 : ¬ 0 < D2 - 30 := by omega
  have K0 : Hid (BS w [(w.heap.size + 1, [.int .i64 0, .int .i64 0, .int .i64 0, .int .i64 0]), (w.heap.size, [.int .i64 0, .int .i64 m, .int .i64 d, .int .i64 u])] ((w.alloc (.cells #[.int .i64 0, .int .i64 m, .int .i64 d, .int .i64 u] 23)).alloc (.cells #[.int .i64 0, .int .i64 0, .int .i64 0, .int .i64 0] 23))) := (((BS.start w).new [.int .i64 0, .int .i64 m, .int .i64 d, .int .i64 u] 23 rfl).new [.int .i64 0, .int .i64 0, .int .i64 0, .int .i64 0] 23 (by simp))
  go_enter Try.func27, Try.ntmps27
  go_wp2_with fail
  refine (R.out _).mono ?_
  rintro e W1 ⟨rfl, hb⟩
  have K1 : Hid (BS w [(w.heap.size + 1, [.int .i64 0, .int .i64 0, .int .i64 0, .int .i64 0]), (w.heap.size, [.int .i64 0, .int .i64 m, .int .i64 d, .int .i64 u])] W1) := K0.out.below hb
  clear hb K0
  have c1_0_0 : W1.cell? ⟨w.heap.size + 1, 0, none⟩ = some (.int .i64 0) := (K1.out.at (w.heap.size + 1) [.int .i64 0, .int .i64 0, .int .i64 0, .int .i64 0] (by simp)).c 0 rfl
  have z1_0_0 : W1.frozen? ⟨w.heap.size + 1, 0, none⟩ = false := (K1.out.at (w.heap.size + 1) [.int .i64 0, .int .i64 0, .int .i64 0, .int .i64 0] (by simp)).f 0 rfl
  have c1_0_1 : W1.cell? ⟨w.heap.size + 1, 1, none⟩ = some (.int .i64 0) := (K1.out.at (w.heap.size + 1) [.int .i64 0, .int .i64 0, .int .i64 0, .int .i64 0] (by simp)).c 1 rfl
  have z1_0_1 : W1.frozen? ⟨w.heap.size + 1, 1, none⟩ = false := (K1.out.at (w.heap.size + 1) [.int .i64 0, .int .i64 0, .int .i64 0, .int .i64 0] (by simp)).f 1 rfl
  have c1_0_2 : W1.cell? ⟨w.heap.size + 1, 2, none⟩ = some (.int .i64 0) := (K1.out.at (w.heap.size + 1) [.int .i64 0, .int .i64 0, .int .i64 0, .int .i64 0] (by simp)).c 2 rfl
  have z1_0_2 : W1.frozen? ⟨w.heap.size + 1, 2, none⟩ = false := (K1.out.at (w.heap.size + 1) [.int .i64 0, .int .i64 0, .int .i64 0, .int .i64 0] (by simp)).f 2 rfl
  have c1_0_3 : W1.cell? ⟨w.heap.size + 1, 3, none⟩ = some (.int .i64 0) := (K1.out.at (w.heap.size + 1) [.int .i64 0, .int .i64 0, .int .i64 0, .int .i64 0] (by simp)).c 3 rfl
  have z1_0_3 : W1.frozen? ⟨w.heap.size + 1, 3, none⟩ = false := (K1.out.at (w.heap.size + 1) [.int .i64 0, .int .i64 0, .int .i64 0, .int .i64 0] (by simp)).f 3 rfl
  have c1_1_0 : W1.cell? ⟨w.heap.size, 0, none⟩ = some (.int .i64 0) := (K1.out.at (w.heap.size) [.int .i64 0, .int .i64 m, .int .i64 d, .int .i64 u] (by simp)).c 0 rfl
  have c1_1_1 : W1.cell? ⟨w.heap.size, 1, none⟩ = some (.int .i64 m) := (K1.out.at (w.heap.size) [.int .i64 0, .int .i64 m, .int .i64 d, .int .i64 u] (by simp)).c 1 rfl
  have c1_1_2 : W1.cell? ⟨w.heap.size, 2, none⟩ = some (.int .i64 d) := (K1.out.at (w.heap.size) [.int .i64 0, .int .i64 m, .int .i64 d, .int .i64 u] (by simp)).c 2 rfl
  have c1_1_3 : W1.cell? ⟨w.heap.size, 3, none⟩ = some (.int .i64 u) := (K1.out.at (w.heap.size) [.int .i64 0, .int .i64 m, .int .i64 d, .int .i64 u] (by simp)).c 3 rfl
  go_wp2_with fail
  refine (C.out _).mono ?_
  rintro e W2 ⟨rfl, hw⟩
  rw [hw]
  clear hw W2
  go_wp2_with fail
  refine (LG.out _).mono ?_
  rintro e W3 ⟨y, rfl, hv, hb⟩
  have K3 : Hid (BS w [(w.heap.size + 1, [.int .i64 0, .int .i64 0, .int .i64 0, .int .i64 0]), (w.heap.size, [.int .i64 0, .int .i64 m, .int .i64 d, .int .i64 u])] W3) := K1.out.below hb
  have hv' : Hid (IsW _ _ _) := hv
  clear c1_0_0 z1_0_0 c1_0_1 z1_0_1 c1_0_2 z1_0_2 c1_0_3 z1_0_3 c1_1_0 c1_1_1 c1_1_2 c1_1_3
  clear hb hv K1
  have c3_0_0 : W3.cell? ⟨w.heap.size + 1, 0, none⟩ = some (.int .i64 0) := (K3.out.at (w.heap.size + 1) [.int .i64 0, .int .i64 0, .int .i64 0, .int .i64 0] (by simp)).c 0 rfl
  have z3_0_0 : W3.frozen? ⟨w.heap.size + 1, 0, none⟩ = false := (K3.out.at (w.heap.size + 1) [.int .i64 0, .int .i64 0, .int .i64 0, .int .i64 0] (by simp)).f 0 rfl
  have c3_0_1 : W3.cell? ⟨w.heap.size + 1, 1, none⟩ = some (.int .i64 0) := (K3.out.at (w.heap.size + 1) [.int .i64 0, .int .i64 0, .int .i64 0, .int .i64 0] (by simp)).c 1 rfl
  have z3_0_1 : W3.frozen? ⟨w.heap.size + 1, 1, none⟩ = false := (K3.out.at (w.heap.size + 1) [.int .i64 0, .int .i64 0, .int .i64 0, .int .i64 0] (by simp)).f 1 rfl
  have c3_0_2 : W3.cell? ⟨w.heap.size + 1, 2, none⟩ = some (.int .i64 0) := (K3.out.at (w.heap.size + 1) [.int .i64 0, .int .i64 0, .int .i64 0, .int .i64 0] (by simp)).c 2 rfl
  have z3_0_2 : W3.frozen? ⟨w.heap.size + 1, 2, none⟩ = false := (K3.out.at (w.heap.size + 1) [.int .i64 0, .int .i64 0, .int .i64 0, .int .i64 0] (by simp)).f 2 rfl
  have c3_0_3 : W3.cell? ⟨w.heap.size + 1, 3, none⟩ = some (.int .i64 0) := (K3.out.at (w.heap.size + 1) [.int .i64 0, .int .i64 0, .int .i64 0, .int .i64 0] (by simp)).c 3 rfl
  have z3_0_3 : W3.frozen? ⟨w.heap.size + 1, 3, none⟩ = false := (K3.out.at (w.heap.size + 1) [.int .i64 0, .int .i64 0, .int .i64 0, .int .i64 0] (by simp)).f 3 rfl
  have c3_1_0 : W3.cell? ⟨w.heap.size, 0, none⟩ = some (.int .i64 0) := (K3.out.at (w.heap.size) [.int .i64 0, .int .i64 m, .int .i64 d, .int .i64 u] (by simp)).c 0 rfl
  have c3_1_1 : W3.cell? ⟨w.heap.size, 1, none⟩ = some (.int .i64 m) := (K3.out.at (w.heap.size) [.int .i64 0, .int .i64 m, .int .i64 d, .int .i64 u] (by simp)).c 1 rfl
  have c3_1_2 : W3.cell? ⟨w.heap.size, 2, none⟩ = some (.int .i64 d) := (K3.out.at (w.heap.size) [.int .i64 0, .int .i64 m, .int .i64 d, .int .i64 u] (by simp)).c 2 rfl
  have c3_1_3 : W3.cell? ⟨w.heap.size, 3, none⟩ = some (.int .i64 u) := (K3.out.at (w.heap.size) [.int .i64 0, .int .i64 m, .int .i64 d, .int .i64 u] (by simp)).c 3 rfl
  go_wp2_with fail
  refine (SG.out _ _ hv'.out).mono ?_
  rintro e W4 ⟨rfl, hb⟩
  have K4 : Hid (BS w [(w.heap.size + 1, [.int .i64 0, .int .i64 0, .int .i64 0, .int .i64 0]), (w.heap.size, [.int .i64 0, .int .i64 m, .int .i64 d, .int .i64 u])] W4) := K3.out.below hb
  clear c3_0_0 z3_0_0 c3_0_1 z3_0_1 c3_0_2 z3_0_2 c3_0_3 z3_0_3 c3_1_0 c3_1_1 c3_1_2 c3_1_3
  clear hb hv' K3
  have c4_0_0 : W4.cell? ⟨w.heap.size + 1, 0, none⟩ = some (.int .i64 0) := (K4.out.at (w.heap.size + 1) [.int .i64 0, .int .i64 0, .int .i64 0, .int .i64 0] (by simp)).c 0 rfl
  have z4_0_0 : W4.frozen? ⟨w.heap.size + 1, 0, none⟩ = false := (K4.out.at (w.heap.size + 1) [.int .i64 0, .int .i64 0, .int .i64 0, .int .i64 0] (by simp)).f 0 rfl
  have c4_0_1 : W4.cell? ⟨w.heap.size + 1, 1, none⟩ = some (.int .i64 0) := (K4.out.at (w.heap.size + 1) [.int .i64 0, .int .i64 0, .int .i64 0, .int .i64 0] (by simp)).c 1 rfl
  have z4_0_1 : W4.frozen? ⟨w.heap.size + 1, 1, none⟩ = false := (K4.out.at (w.heap.size + 1) [.int .i64 0, .int .i64 0, .int .i64 0, .int .i64 0] (by simp)).f 1 rfl
  have c4_0_2 : W4.cell? ⟨w.heap.size + 1, 2, none⟩ = some (.int .i64 0) := (K4.out.at (w.heap.size + 1) [.int .i64 0, .int .i64 0, .int .i64 0, .int .i64 0] (by simp)).c 2 rfl
  have z4_0_2 : W4.frozen? ⟨w.heap.size + 1, 2, none⟩ = false := (K4.out.at (w.heap.size + 1) [.int .i64 0, .int .i64 0, .int .i64 0, .int .i64 0] (by simp)).f 2 rfl
  have c4_0_3 : W4.cell? ⟨w.heap.size + 1, 3, none⟩ = some (.int .i64 0) := (K4.out.at (w.heap.size + 1) [.int .i64 0, .int .i64 0, .int .i64 0, .int .i64 0] (by simp)).c 3 rfl
  have z4_0_3 : W4.frozen? ⟨w.heap.size + 1, 3, none⟩ = false := (K4.out.at (w.heap.size + 1) [.int .i64 0, .int .i64 0, .int .i64 0, .int .i64 0] (by simp)).f 3 rfl
  have c4_1_0 : W4.cell? ⟨w.heap.size, 0, none⟩ = some (.int .i64 0) := (K4.out.at (w.heap.size) [.int .i64 0, .int .i64 m, .int .i64 d, .int .i64 u] (by simp)).c 0 rfl
  have c4_1_1 : W4.cell? ⟨w.heap.size, 1, none⟩ = some (.int .i64 m) := (K4.out.at (w.heap.size) [.int .i64 0, .int .i64 m, .int .i64 d, .int .i64 u] (by simp)).c 1 rfl
  have c4_1_2 : W4.cell? ⟨w.heap.size, 2, none⟩ = some (.int .i64 d) := (K4.out.at (w.heap.size) [.int .i64 0, .int .i64 m, .int .i64 d, .int .i64 u] (by simp)).c 2 rfl
  have c4_1_3 : W4.cell? ⟨w.heap.size, 3, none⟩ = some (.int .i64 u) := (K4.out.at (w.heap.size) [.int .i64 0, .int .i64 m, .int .i64 d, .int .i64 u] (by simp)).c 3 rfl
  go_wp2_with fail
  refine (MK.out _).mono ?_
  rintro e W5 ⟨rfl, hb⟩
  have K5 : Hid (BS w [(w.heap.size + 1, [.int .i64 0, .int .i64 0, .int .i64 0, .int .i64 0]), (w.heap.size, [.int .i64 0, .int .i64 m, .int .i64 d, .int .i64 u])] W5) := K4.out.below hb
  clear c4_0_0 z4_0_0 c4_0_1 z4_0_1 c4_0_2 z4_0_2 c4_0_3 z4_0_3 c4_1_0 c4_1_1 c4_1_2 c4_1_3
  clear hb K4
  have c5_0_0 : W5.cell? ⟨w.heap.size + 1, 0, none⟩ = some (.int .i64 0) := (K5.out.at (w.heap.size + 1) [.int .i64 0, .int .i64 0, .int .i64 0, .int .i64 0] (by simp)).c 0 rfl
  have z5_0_0 : W5.frozen? ⟨w.heap.size + 1, 0, none⟩ = false := (K5.out.at (w.heap.size + 1) [.int .i64 0, .int .i64 0, .int .i64 0, .int .i64 0] (by simp)).f 0 rfl
  have c5_0_1 : W5.cell? ⟨w.heap.size + 1, 1, none⟩ = some (.int .i64 0) := (K5.out.at (w.heap.size + 1) [.int .i64 0, .int .i64 0, .int .i64 0, .int .i64 0] (by simp)).c 1 rfl
  have z5_0_1 : W5.frozen? ⟨w.heap.size + 1, 1, none⟩ = false := (K5.out.at (w.heap.size + 1) [.int .i64 0, .int .i64 0, .int .i64 0, .int .i64 0] (by simp)).f 1 rfl
  have c5_0_2 : W5.cell? ⟨w.heap.size + 1, 2, none⟩ = some (.int .i64 0) := (K5.out.at (w.heap.size + 1) [.int .i64 0, .int .i64 0, .int .i64 0, .int .i64 0] (by simp)).c 2 rfl
  have z5_0_2 : W5.frozen? ⟨w.heap.size + 1, 2, none⟩ = false := (K5.out.at (w.heap.size + 1) [.int .i64 0, .int .i64 0, .int .i64 0, .int .i64 0] (by simp)).f 2 rfl
  have c5_0_3 : W5.cell? ⟨w.heap.size + 1, 3, none⟩ = some (.int .i64 0) := (K5.out.at (w.heap.size + 1) [.int .i64 0, .int .i64 0, .int .i64 0, .int .i64 0] (by simp)).c 3 rfl
  have z5_0_3 : W5.frozen? ⟨w.heap.size + 1, 3, none⟩ = false := (K5.out.at (w.heap.size + 1) [.int .i64 0, .int .i64 0, .int .i64 0, .int .i64 0] (by simp)).f 3 rfl
  have c5_1_0 : W5.cell? ⟨w.heap.size, 0, none⟩ = some (.int .i64 0) := (K5.out.at (w.heap.size) [.int .i64 0, .int .i64 m, .int .i64 d, .int .i64 u] (by simp)).c 0 rfl
  have c5_1_1 : W5.cell? ⟨w.heap.size, 1, none⟩ = some (.int .i64 m) := (K5.out.at (w.heap.size) [.int .i64 0, .int .i64 m, .int .i64 d, .int .i64 u] (by simp)).c 1 rfl
  have c5_1_2 : W5.cell? ⟨w.heap.size, 2, none⟩ = some (.int .i64 d) := (K5.out.at (w.heap.size) [.int .i64 0, .int .i64 m, .int .i64 d, .int .i64 u] (by simp)).c 2 rfl
  have c5_1_3 : W5.cell? ⟨w.heap.size, 3, none⟩ = some (.int .i64 u) := (K5.out.at (w.heap.size) [.int .i64 0, .int .i64 m, .int .i64 d, .int .i64 u] (by simp)).c 3 rfl
  have XF : Hid (Bx (W5.setCells (w.heap.size + 1) 0 [.int .i64 I, .int .i64 M, .int .i64 D, .int .i64 U]) (w.heap.size + 1) [.int .i64 I, .int .i64 M, .int .i64 D, .int .i64 U]) := (K5.out.at (w.heap.size + 1) [.int .i64 0, .int .i64 0, .int .i64 0, .int .i64 0] (by simp)).setAll _ rfl
  have BF : Hid (Below w.heap.size w (W5.setCells (w.heap.size + 1) 0 [.int .i64 I, .int .i64 M, .int .i64 D, .int .i64 U])) := below_setCells (by omega) _ _ _ K5.out.1
  have y0 := XF.out.c 0 rfl
  have y1 := XF.out.c 1 rfl
  have y2 := XF.out.c 2 rfl
  have y3 := XF.out.c 3 rfl
  simp only [World.setCells, Nat.zero_add, Nat.reduceAdd] at y0 y1 y2 y3
  clear XF
  go_wp2
  exact bodyPost_ret (v := .tuple #[.agg #[.int .i64 I, .int .i64 M, .int .i64 D, .int .i64 U], .int .i64 E]) (by simp [results, Try.results27, go_sem, y0, y1, y2, y3]) rfl ⟨rfl, BF.out⟩

set_option maxRecDepth 100000 in
set_option maxHeartbeats 4000000 in
theorem rpjus_DA (m d u D1 U1 M1 D2 L l I M D U E : Int) (m1 : -2147483647 ≤ m) (m2 : m ≤ 2147483647) (d1 : -2147483647 ≤ d) (d2 : d ≤ 2147483647) (q1 : -1000000000 ≤ u.tdiv 86400000000) (q2 : u.tdiv 86400000000 ≤ 1000000000) (hd : d + u.tdiv 86400000000 = D1) (hu : u.tmod 86400000000 = U1) (hm : m + D1.tdiv 30 = M1) (he : D1.tmod 30 = D2) (q3 : -100000000 ≤ D1.tdiv 30) (q4 : D1.tdiv 30 ≤ 100000000) (e1 : -30 < D2) (e2 : D2 < 30) (f1 : -86400000000 < U1) (f2 : U1 < 86400000000) (g1 : M1 < 0) (g2 : ¬ 0 < l) (k1 : 0 < D2) (k2 : U1 < 0)
    (R : Hid (∀ w : World, Calls Try.prog 16 #[.agg #[.int .i64 0, .int .i64 m, .int .i64 d, .int .i64 u]] w fun r' w' => r' = .returned (.bool true) ∧ Below w.heap.size w w'))
    (C : Hid (∀ w : World, Calls Try.prog 34 #[.int .i64 D1, .int .i64 2147483647] w fun r' w' => r' = .returned (.bool true) ∧ w' = w))
    (LG : Hid (∀ (w : World), Calls Try.prog 43 #[.agg #[.int .i64 0, .int .i64 0, .int .i64 D2, .int .i64 U1]] w fun r' w' => ∃ v', r' = .returned v' ∧ IsW w' v' (L) ∧ Below w.heap.size w w'))
    (SG : Hid (∀ (y : Value) (w : World), IsW w y L → Calls Try.prog 41 #[y] w fun r' w' => r' = .returned (.int .i64 l) ∧ Below w.heap.size w w'))
    (MK : Hid (∀ w : World, Calls Try.prog 21 #[.int .i64 M1, .int .i64 (D2 - 1), .int .i64 (U1 + 86400000000)] w fun r' w' => r' = .returned (.tuple #[.agg #[.int .i64 I, .int .i64 M, .int .i64 D, .int .i64 U], .int .i64 E]) ∧ Below w.heap.size w w'))
    (w : World) :
    Calls Try.prog 27 #[.agg #[.int .i64 0, .int .i64 m, .int .i64 d, .int .i64 u]] w fun r' w' => r' = .returned (.tuple #[.agg #[.int .i64 I, .int .i64 M, .int .i64 D, .int .i64 U], .int .i64 E]) ∧ Below w.heap.size w w' := by
  have w1 : IntKind.i64.wrap (u.tdiv 86400000000) = u.tdiv 86400000000 := by rw [IntKind.wrap_i64]; omega
  have w2 : IntKind.i64.wrap (d + u.tdiv 86400000000) = D1 := by rw [IntKind.wrap_i64]; omega
  have w3 : IntKind.i64.wrap (D1.tdiv 30) = D1.tdiv 30 := by rw [IntKind.wrap_i64]; omega
  have w4 : IntKind.i64.wrap (m + D1.tdiv 30) = M1 := by rw [IntKind.wrap_i64]; omega
  have g3 : ¬ 0 < M1 := by omega
  have k3 : ¬ D2 - 1 < 0 := by omega
  have K0 : Hid (BS w [(w.heap.size + 1, [.int .i64 0, .int .i64 0, .int .i64 0, .int .i64 0]), (w.heap.size, [.int .i64 0, .int .i64 m, .int .i64 d, .int .i64 u])] ((w.alloc (.cells #[.int .i64 0, .int .i64 m, .int .i64 d, .int .i64 u] 23)).alloc (.cells #[.int .i64 0, .int .i64 0, .int .i64 0, .int .i64 0] 23))) := (((BS.start w).new [.int .i64 0, .int .i64 m, .int .i64 d, .int .i64 u] 23 rfl).new [.int .i64 0, .int .i64 0, .int .i64 0, .int .i64 0] 23 (by simp))
  go_enter Try.func27, Try.ntmps27
  go_wp2_with fail
  refine (R.out _).mono ?_
  rintro e W1 ⟨rfl, hb⟩
  have K1 : Hid (BS w [(w.heap.size + 1, [.int .i64 0, .int .i64 0, .int .i64 0, .int .i64 0]), (w.heap.size, [.int .i64 0, .int .i64 m, .int .i64 d, .int .i64 u])] W1) := K0.out.below hb
  clear hb K0
  have c1_0_0 : W1.cell? ⟨w.heap.size + 1, 0, none⟩ = some (.int .i64 0) := (K1.out.at (w.heap.size + 1) [.int .i64 0, .int .i64 0, .int .i64 0, .int .i64 0] (by simp)).c 0 rfl
  have z1_0_0 : W1.frozen? ⟨w.heap.size + 1, 0, none⟩ = false := (K1.out.at (w.heap.size + 1) [.int .i64 0, .int .i64 0, .int .i64 0, .int .i64 0] (by simp)).f 0 rfl
  have c1_0_1 : W1.cell? ⟨w.heap.size + 1, 1, none⟩ = some (.int .i64 0) := (K1.out.at (w.heap.size + 1) [.int .i64 0, .int .i64 0, .int .i64 0, .int .i64 0] (by simp)).c 1 rfl
  have z1_0_1 : W1.frozen? ⟨w.heap.size + 1, 1, none⟩ = false := (K1.out.at (w.heap.size + 1) [.int .i64 0, .int .i64 0, .int .i64 0, .int .i64 0] (by simp)).f 1 rfl
  have c1_0_2 : W1.cell? ⟨w.heap.size + 1, 2, none⟩ = some (.int .i64 0) := (K1.out.at (w.heap.size + 1) [.int .i64 0, .int .i64 0, .int .i64 0, .int .i64 0] (by simp)).c 2 rfl
  have z1_0_2 : W1.frozen? ⟨w.heap.size + 1, 2, none⟩ = false := (K1.out.at (w.heap.size + 1) [.int .i64 0, .int .i64 0, .int .i64 0, .int .i64 0] (by simp)).f 2 rfl
  have c1_0_3 : W1.cell? ⟨w.heap.size + 1, 3, none⟩ = some (.int .i64 0) := (K1.out.at (w.heap.size + 1) [.int .i64 0, .int .i64 0, .int .i64 0, .int .i64 0] (by simp)).c 3 rfl
  have z1_0_3 : W1.frozen? ⟨w.heap.size + 1, 3, none⟩ = false := (K1.out.at (w.heap.size + 1) [.int .i64 0, .int .i64 0, .int .i64 0, .int .i64 0] (by simp)).f 3 rfl
  have c1_1_0 : W1.cell? ⟨w.heap.size, 0, none⟩ = some (.int .i64 0) := (K1.out.at (w.heap.size) [.int .i64 0, .int .i64 m, .int .i64 d, .int .i64 u] (by simp)).c 0 rfl
  have c1_1_1 : W1.cell? ⟨w.heap.size, 1, none⟩ = some (.int .i64 m) := (K1.out.at (w.heap.size) [.int .i64 0, .int .i64 m, .int .i64 d, .int .i64 u] (by simp)).c 1 rfl
  have c1_1_2 : W1.cell? ⟨w.heap.size, 2, none⟩ = some (.int .i64 d) := (K1.out.at (w.heap.size) [.int .i64 0, .int .i64 m, .int .i64 d, .int .i64 u] (by simp)).c 2 rfl
  have c1_1_3 : W1.cell? ⟨w.heap.size, 3, none⟩ = some (.int .i64 u) := (K1.out.at (w.heap.size) [.int .i64 0, .int .i64 m, .int .i64 d, .int .i64 u] (by simp)).c 3 rfl
  go_wp2_with fail
  refine (C.out _).mono ?_
  rintro e W2 ⟨rfl, hw⟩
  rw [hw]
  clear hw W2
  go_wp2_with fail
  refine (LG.out _).mono ?_
  rintro e W3 ⟨y, rfl, hv, hb⟩
  have K3 : Hid (BS w [(w.heap.size + 1, [.int .i64 0, .int .i64 0, .int .i64 0, .int .i64 0]), (w.heap.size, [.int .i64 0, .int .i64 m, .int .i64 d, .int .i64 u])] W3) := K1.out.below hb
  have hv' : Hid (IsW _ _ _) := hv
  clear c1_0_0 z1_0_0 c1_0_1 z1_0_1 c1_0_2 z1_0_2 c1_0_3 z1_0_3 c1_1_0 c1_1_1 c1_1_2 c1_1_3
  clear hb hv K1
  have c3_0_0 : W3.cell? ⟨w.heap.size + 1, 0, none⟩ = some (.int .i64 0) := (K3.out.at (w.heap.size + 1) [.int .i64 0, .int .i64 0, .int .i64 0, .int .i64 0] (by simp)).c 0 rfl
  have z3_0_0 : W3.frozen? ⟨w.heap.size + 1, 0, none⟩ = false := (K3.out.at (w.heap.size + 1) [.int .i64 0, .int .i64 0, .int .i64 0, .int .i64 0] (by simp)).f 0 rfl
  have c3_0_1 : W3.cell? ⟨w.heap.size + 1, 1, none⟩ = some (.int .i64 0) := (K3.out.at (w.heap.size + 1) [.int .i64 0, .int .i64 0, .int .i64 0, .int .i64 0] (by simp)).c 1 rfl
  have z3_0_1 : W3.frozen? ⟨w.heap.size + 1, 1, none⟩ = false := (K3.out.at (w.heap.size + 1) [.int .i64 0, .int .i64 0, .int .i64 0, .int .i64 0] (by simp)).f 1 rfl
  have c3_0_2 : W3.cell? ⟨w.heap.size + 1, 2, none⟩ = some (.int .i64 0) := (K3.out.at (w.heap.size + 1) [.int .i64 0, .int .i64 0, .int .i64 0, .int .i64 0] (by simp)).c 2 rfl
  have z3_0_2 : W3.frozen? ⟨w.heap.size + 1, 2, none⟩ = false := (K3.out.at (w.heap.size + 1) [.int .i64 0, .int .i64 0, .int .i64 0, .int .i64 0] (by simp)).f 2 rfl
  have c3_0_3 : W3.cell? ⟨w.heap.size + 1, 3, none⟩ = some (.int .i64 0) := (K3.out.at (w.heap.size + 1) [.int .i64 0, .int .i64 0, .int .i64 0, .int .i64 0] (by simp)).c 3 rfl
  have z3_0_3 : W3.frozen? ⟨w.heap.size + 1, 3, none⟩ = false := (K3.out.at (w.heap.size + 1) [.int .i64 0, .int .i64 0, .int .i64 0, .int .i64 0] (by simp)).f 3 rfl
  have c3_1_0 : W3.cell? ⟨w.heap.size, 0, none⟩ = some (.int .i64 0) := (K3.out.at (w.heap.size) [.int .i64 0, .int .i64 m, .int .i64 d, .int .i64 u] (by simp)).c 0 rfl
  have c3_1_1 : W3.cell? ⟨w.heap.size, 1, none⟩ = some (.int .i64 m) := (K3.out.at (w.heap.size) [.int .i64 0, .int .i64 m, .int .i64 d, .int .i64 u] (by simp)).c 1 rfl
  have c3_1_2 : W3.cell? ⟨w.heap.size, 2, none⟩ = some (.int .i64 d) := (K3.out.at (w.heap.size) [.int .i64 0, .int .i64 m, .int .i64 d, .int .i64 u] (by simp)).c 2 rfl
  have c3_1_3 : W3.cell? ⟨w.heap.size, 3, none⟩ = some (.int .i64 u) := (K3.out.at (w.heap.size) [.int .i64 0, .int .i64 m, .int .i64 d, .int .i64 u] (by simp)).c 3 rfl
  go_wp2_with fail
  refine (SG.out _ _ hv'.out).mono ?_
  rintro e W4 ⟨rfl, hb⟩
  have K4 : Hid (BS w [(w.heap.size + 1, [.int .i64 0, .int .i64 0, .int .i64 0, .int .i64 0]), (w.heap.size, [.int .i64 0, .int .i64 m, .int .i64 d, .int .i64 u])] W4) := K3.out.below hb
  clear c3_0_0 z3_0_0 c3_0_1 z3_0_1 c3_0_2 z3_0_2 c3_0_3 z3_0_3 c3_1_0 c3_1_1 c3_1_2 c3_1_3
  clear hb hv' K3
  have c4_0_0 : W4.cell? ⟨w.heap.size + 1, 0, none⟩ = some (.int .i64 0) := (K4.out.at (w.heap.size + 1) [.int .i64 0, .int .i64 0, .int .i64 0, .int .i64 0] (by simp)).c 0 rfl
  have z4_0_0 : W4.frozen? ⟨w.heap.size + 1, 0, none⟩ = false := (K4.out.at (w.heap.size + 1) [.int .i64 0, .int .i64 0, .int .i64 0, .int .i64 0] (by simp)).f 0 rfl
  have c4_0_1 : W4.cell? ⟨w.heap.size + 1, 1, none⟩ = some (.int .i64 0) := (K4.out.at (w.heap.size + 1) [.int .i64 0, .int .i64 0, .int .i64 0, .int .i64 0] (by simp)).c 1 rfl
  have z4_0_1 : W4.frozen? ⟨w.heap.size + 1, 1, none⟩ = false := (K4.out.at (w.heap.size + 1) [.int .i64 0, .int .i64 0, .int .i64 0, .int .i64 0] (by simp)).f 1 rfl
  have c4_0_2 : W4.cell? ⟨w.heap.size + 1, 2, none⟩ = some (.int .i64 0) := (K4.out.at (w.heap.size + 1) [.int .i64 0, .int .i64 0, .int .i64 0, .int .i64 0] (by simp)).c 2 rfl
  have z4_0_2 : W4.frozen? ⟨w.heap.size + 1, 2, none⟩ = false := (K4.out.at (w.heap.size + 1) [.int .i64 0, .int .i64 0, .int .i64 0, .int .i64 0] (by simp)).f 2 rfl
  have c4_0_3 : W4.cell? ⟨w.heap.size + 1, 3, none⟩ = some (.int .i64 0) := (K4.out.at (w.heap.size + 1) [.int .i64 0, .int .i64 0, .int .i64 0, .int .i64 0] (by simp)).c 3 rfl
  have z4_0_3 : W4.frozen? ⟨w.heap.size + 1, 3, none⟩ = false := (K4.out.at (w.heap.size + 1) [.int .i64 0, .int .i64 0, .int .i64 0, .int .i64 0] (by simp)).f 3 rfl
  have c4_1_0 : W4.cell? ⟨w.heap.size, 0, none⟩ = some (.int .i64 0) := (K4.out.at (w.heap.size) [.int .i64 0, .int .i64 m, .int .i64 d, .int .i64 u] (by simp)).c 0 rfl
  have c4_1_1 : W4.cell? ⟨w.heap.size, 1, none⟩ = some (.int .i64 m) := (K4.out.at (w.heap.size) [.int .i64 0, .int .i64 m, .int .i64 d, .int .i64 u] (by simp)).c 1 rfl
  have c4_1_2 : W4.cell? ⟨w.heap.size, 2, none⟩ = some (.int .i64 d) := (K4.out.at (w.heap.size) [.int .i64 0, .int .i64 m, .int .i64 d, .int .i64 u] (by simp)).c 2 rfl
  have c4_1_3 : W4.cell? ⟨w.heap.size, 3, none⟩ = some (.int .i64 u) := (K4.out.at (w.heap.size) [.int .i64 0, .int .i64 m, .int .i64 d, .int .i64 u] (by simp)).c 3 rfl
  go_wp2_with fail
  refine (MK.out _).mono ?_
  rintro e W5 ⟨rfl, hb⟩
  have K5 : Hid (BS w [(w.heap.size + 1, [.int .i64 0, .int .i64 0, .int .i64 0, .int .i64 0]), (w.heap.size, [.int .i64 0, .int .i64 m, .int .i64 d, .int .i64 u])] W5) := K4.out.below hb
  clear c4_0_0 z4_0_0 c4_0_1 z4_0_1 c4_0_2 z4_0_2 c4_0_3 z4_0_3 c4_1_0 c4_1_1 c4_1_2 c4_1_3
  clear hb K4
  have c5_0_0 : W5.cell? ⟨w.heap.size + 1, 0, none⟩ = some (.int .i64 0) := (K5.out.at (w.heap.size + 1) [.int .i64 0, .int .i64 0, .int .i64 0, .int .i64 0] (by simp)).c 0 rfl
  have z5_0_0 : W5.frozen? ⟨w.heap.size + 1, 0, none⟩ = false := (K5.out.at (w.heap.size + 1) [.int .i64 0, .int .i64 0, .int .i64 0, .int .i64 0] (by simp)).f 0 rfl
  have c5_0_1 : W5.cell? ⟨w.heap.size + 1, 1, none⟩ = some (.int .i64 0) := (K5.out.at (w.heap.size + 1) [.int .i64 0, .int .i64 0, .int .i64 0, .int .i64 0] (by simp)).c 1 rfl
  have z5_0_1 : W5.frozen? ⟨w.heap.size + 1, 1, none⟩ = false := (K5.out.at (w.heap.size + 1) [.int .i64 0, .int .i64 0, .int .i64 0, .int .i64 0] (by simp)).f 1 rfl
  have c5_0_2 : W5.cell? ⟨w.heap.size + 1, 2, none⟩ = some (.int .i64 0) := (K5.out.at (w.heap.size + 1) [.int .i64 0, .int .i64 0, .int .i64 0, .int .i64 0] (by simp)).c 2 rfl
  have z5_0_2 : W5.frozen? ⟨w.heap.size + 1, 2, none⟩ = false := (K5.out.at (w.heap.size + 1) [.int .i64 0, .int .i64 0, .int .i64 0, .int .i64 0] (by simp)).f 2 rfl
  have c5_0_3 : W5.cell? ⟨w.heap.size + 1, 3, none⟩ = some (.int .i64 0) := (K5.out.at (w.heap.size + 1) [.int .i64 0, .int .i64 0, .int .i64 0, .int .i64 0] (by simp)).c 3 rfl
  have z5_0_3 : W5.frozen? ⟨w.heap.size + 1, 3, none⟩ = false := (K5.out.at (w.heap.size + 1) [.int .i64 0, .int .i64 0, .int .i64 0, .int .i64 0] (by simp)).f 3 rfl
  have c5_1_0 : W5.cell? ⟨w.heap.size, 0, none⟩ = some (.int .i64 0) := (K5.out.at (w.heap.size) [.int .i64 0, .int .i64 m, .int .i64 d, .int .i64 u] (by simp)).c 0 rfl
  have c5_1_1 : W5.cell? ⟨w.heap.size, 1, none⟩ = some (.int .i64 m) := (K5.out.at (w.heap.size) [.int .i64 0, .int .i64 m, .int .i64 d, .int .i64 u] (by simp)).c 1 rfl
  have c5_1_2 : W5.cell? ⟨w.heap.size, 2, none⟩ = some (.int .i64 d) := (K5.out.at (w.heap.size) [.int .i64 0, .int .i64 m, .int .i64 d, .int .i64 u] (by simp)).c 2 rfl
  have c5_1_3 : W5.cell? ⟨w.heap.size, 3, none⟩ = some (.int .i64 u) := (K5.out.at (w.heap.size) [.int .i64 0, .int .i64 m, .int .i64 d, .int .i64 u] (by simp)).c 3 rfl
  have XF : Hid (Bx (W5.setCells (w.heap.size + 1) 0 [.int .i64 I, .int .i64 M, .int .i64 D, .int .i64 U]) (w.heap.size + 1) [.int .i64 I, .int .i64 M, .int .i64 D, .int .i64 U]) := (K5.out.at (w.heap.size + 1) [.int .i64 0, .int .i64 0, .int .i64 0, .int .i64 0] (by simp)).setAll _ rfl
  have BF : Hid (Below w.heap.size w (W5.setCells (w.heap.size + 1) 0 [.int .i64 I, .int .i64 M, .int .i64 D, .int .i64 U])) := below_setCells (by omega) _ _ _ K5.out.1
  have y0 := XF.out.c 0 rfl
  have y1 := XF.out.c 1 rfl
  have y2 := XF.out.c 2 rfl
  have y3 := XF.out.c 3 rfl
  simp only [World.setCells, Nat.zero_add, Nat.reduceAdd] at y0 y1 y2 y3
  clear XF
  go_wp2
  exact bodyPost_ret (v := .tuple #[.agg #[.int .i64 I, .int .i64 M, .int .i64 D, .int .i64 U], .int .i64 E]) (by simp [results, Try.results27, go_sem, y0, y1, y2, y3]) rfl ⟨rfl, BF.out⟩

set_option maxRecDepth 100000 in
set_option maxHeartbeats 4000000 in
theorem rpjus_DB (m d u D1 U1 M1 D2 L l I M D U E : Int) (m1 : -2147483647 ≤ m) (m2 : m ≤ 2147483647) (d1 : -2147483647 ≤ d) (d2 : d ≤ 2147483647) (q1 : -1000000000 ≤ u.tdiv 86400000000) (q2 : u.tdiv 86400000000 ≤ 1000000000) (hd : d + u.tdiv 86400000000 = D1) (hu : u.tmod 86400000000 = U1) (hm : m + D1.tdiv 30 = M1) (he : D1.tmod 30 = D2) (q3 : -100000000 ≤ D1.tdiv 30) (q4 : D1.tdiv 30 ≤ 100000000) (e1 : -30 < D2) (e2 : D2 < 30) (f1 : -86400000000 < U1) (f2 : U1 < 86400000000) (g1 : M1 < 0) (g2 : ¬ 0 < l) (k1 : 0 < D2) (k2 : ¬ U1 < 0)
    (R : Hid (∀ w : World, Calls Try.prog 16 #[.agg #[.int .i64 0, .int .i64 m, .int .i64 d, .int .i64 u]] w fun r' w' => r' = .returned (.bool true) ∧ Below w.heap.size w w'))
    (C : Hid (∀ w : World, Calls Try.prog 34 #[.int .i64 D1, .int .i64 2147483647] w fun r' w' => r' = .returned (.bool true) ∧ w' = w))
    (LG : Hid (∀ (w : World), Calls Try.prog 43 #[.agg #[.int .i64 0, .int .i64 0, .int .i64 D2, .int .i64 U1]] w fun r' w' => ∃ v', r' = .returned v' ∧ IsW w' v' (L) ∧ Below w.heap.size w w'))
    (SG : Hid (∀ (y : Value) (w : World), IsW w y L → Calls Try.prog 41 #[y] w fun r' w' => r' = .returned (.int .i64 l) ∧ Below w.heap.size w w'))
    (MK : Hid (∀ w : World, Calls Try.prog 21 #[.int .i64 M1, .int .i64 D2, .int .i64 U1] w fun r' w' => r' = .returned (.tuple #[.agg #[.int .i64 I, .int .i64 M, .int .i64 D, .int .i64 U], .int .i64 E]) ∧ Below w.heap.size w w'))
    (w : World) :
    Calls Try.prog 27 #[.agg #[.int .i64 0, .int .i64 m, .int .i64 d, .int .i64 u]] w fun r' w' => r' = .returned (.tuple #[.agg #[.int .i64 I, .int .i64 M, .int .i64 D, .int .i64 U], .int .i64 E]) ∧ Below w.heap.size w w' := by
  have w1 : IntKind.i64.wrap (u.tdiv 86400000000) = u.tdiv 86400000000 := by rw [IntKind.wrap_i64]; omega
  have w2 : IntKind.i64.wrap (d + u.tdiv 86400000000) = D1 := by rw [IntKind.wrap_i64]; omega
  have w3 : IntKind.i64.wrap (D1.tdiv 30) = D1.tdiv 30 := by rw [IntKind.wrap_i64]; omega
  have w4 : IntKind.i64.wrap (m + D1.tdiv 30) = M1 := by rw [IntKind.wrap_i64]; omega
  have g3 : ¬ 0 < M1 := by omega
  have k3 : ¬ D2 < 0 := by omega
  have K0 : Hid (BS w [(w.heap.size + 1, [.int .i64 0, .int .i64 0, .int .i64 0, .int .i64 0]), (w.heap.size, [.int .i64 0, .int .i64 m, .int .i64 d, .int .i64 u])] ((w.alloc (.cells #[.int .i64 0, .int .i64 m, .int .i64 d, .int .i64 u] 23)).alloc (.cells #[.int .i64 0, .int .i64 0, .int .i64 0, .int .i64 0] 23))) := (((BS.start w).new [.int .i64 0, .int .i64 m, .int .i64 d, .int .i64 u] 23 rfl).new [.int .i64 0, .int .i64 0, .int .i64 0, .int .i64 0] 23 (by simp))
  go_enter Try.func27, Try.ntmps27
  go_wp2_with fail
  refine (R.out _).mono ?_
  rintro e W1 ⟨rfl, hb⟩
  have K1 : Hid (BS w [(w.heap.size + 1, [.int .i64 0, .int .i64 0, .int .i64 0, .int .i64 0]), (w.heap.size, [.int .i64 0, .int .i64 m, .int .i64 d, .int .i64 u])] W1) := K0.out.below hb
  clear hb K0
  have c1_0_0 : W1.cell? ⟨w.heap.size + 1, 0, none⟩ = some (.int .i64 0) := (K1.out.at (w.heap.size + 1) [.int .i64 0, .int .i64 0, .int .i64 0, .int .i64 0] (by simp)).c 0 rfl
  have z1_0_0 : W1.frozen? ⟨w.heap.size + 1, 0, none⟩ = false := (K1.out.at (w.heap.size + 1) [.int .i64 0, .int .i64 0, .int .i64 0, .int .i64 0] (by simp)).f 0 rfl
  have c1_0_1 : W1.cell? ⟨w.heap.size + 1, 1, none⟩ = some (.int .i64 0) := (K1.out.at (w.heap.size + 1) [.int .i64 0, .int .i64 0, .int .i64 0, .int .i64 0] (by simp)).c 1 rfl
  have z1_0_1 : W1.frozen? ⟨w.heap.size + 1, 1, none⟩ = false := (K1.out.at (w.heap.size + 1) [.int .i64 0, .int .i64 0, .int .i64 0, .int .i64 0] (by simp)).f 1 rfl
  have c1_0_2 : W1.cell? ⟨w.heap.size + 1, 2, none⟩ = some (.int .i64 0) := (K1.out.at (w.heap.size + 1) [.int .i64 0, .int .i64 0, .int .i64 0, .int .i64 0] (by simp)).c 2 rfl
  have z1_0_2 : W1.frozen? ⟨w.heap.size + 1, 2, none⟩ = false := (K1.out.at (w.heap.size + 1) [.int .i64 0, .int .i64 0, .int .i64 0, .int .i64 0] (by simp)).f 2 rfl
  have c1_0_3 : W1.cell? ⟨w.heap.size + 1, 3, none⟩ = some (.int .i64 0) := (K1.out.at (w.heap.size + 1) [.int .i64 0, .int .i64 0, .int .i64 0, .int .i64 0] (by simp)).c 3 rfl
  have z1_0_3 : W1.frozen? ⟨w.heap.size + 1, 3, none⟩ = false := (K1.out.at (w.heap.size + 1) [.int .i64 0, .int .i64 0, .int .i64 0, .int .i64 0] (by simp)).f 3 rfl
  have c1_1_0 : W1.cell? ⟨w.heap.size, 0, none⟩ = some (.int .i64 0) := (K1.out.at (w.heap.size) [.int .i64 0, .int .i64 m, .int .i64 d, .int .i64 u] (by simp)).c 0 rfl
  have c1_1_1 : W1.cell? ⟨w.heap.size, 1, none⟩ = some (.int .i64 m) := (K1.out.at (w.heap.size) [.int .i64 0, .int .i64 m, .int .i64 d, .int .i64 u] (by simp)).c 1 rfl
  have c1_1_2 : W1.cell? ⟨w.heap.size, 2, none⟩ = some (.int .i64 d) := (K1.out.at (w.heap.size) [.int .i64 0, .int .i64 m, .int .i64 d, .int .i64 u] (by simp)).c 2 rfl
  have c1_1_3 : W1.cell? ⟨w.heap.size, 3, none⟩ = some (.int .i64 u) := (K1.out.at (w.heap.size) [.int .i64 0, .int .i64 m, .int .i64 d, .int .i64 u] (by simp)).c 3 rfl
  go_wp2_with fail
  refine (C.out _).mono ?_
  rintro e W2 ⟨rfl, hw⟩
  rw [hw]
  clear hw W2
  go_wp2_with fail
  refine (LG.out _).mono ?_
  rintro e W3 ⟨y, rfl, hv, hb⟩
  have K3 : Hid (BS w [(w.heap.size + 1, [.int .i64 0, .int .i64 0, .int .i64 0, .int .i64 0]), (w.heap.size, [.int .i64 0, .int .i64 m, .int .i64 d, .int .i64 u])] W3) := K1.out.below hb
  have hv' : Hid (IsW _ _ _) := hv
  clear c1_0_0 z1_0_0 c1_0_1 z1_0_1 c1_0_2 z1_0_2 c1_0_3 z1_0_3 c1_1_0 c1_1_1 c1_1_2 c1_1_3
  clear hb hv K1
  have c3_0_0 : W3.cell? ⟨w.heap.size + 1, 0, none⟩ = some (.int .i64 0) := (K3.out.at (w.heap.size + 1) [.int .i64 0, .int .i64 0, .int .i64 0, .int .i64 0] (by simp)).c 0 rfl
  have z3_0_0 : W3.frozen? ⟨w.heap.size + 1, 0, none⟩ = false := (K3.out.at (w.heap.size + 1) [.int .i64 0, .int .i64 0, .int .i64 0, .int .i64 0] (by simp)).f 0 rfl
  have c3_0_1 : W3.cell? ⟨w.heap.size + 1, 1, none⟩ = some (.int .i64 0) := (K3.out.at (w.heap.size + 1) [.int .i64 0, .int .i64 0, .int .i64 0, .int .i64 0] (by simp)).c 1 rfl
  have z3_0_1 : W3.frozen? ⟨w.heap.size + 1, 1, none⟩ = false := (K3.out.at (w.heap.size + 1) [.int .i64 0, .int .i64 0, .int .i64 0, .int .i64 0] (by simp)).f 1 rfl
  have c3_0_2 : W3.cell? ⟨w.heap.size + 1, 2, none⟩ = some (.int .i64 0) := (K3.out.at (w.heap.size + 1) [.int .i64 0, .int .i64 0, .int .i64 0, .int .i64 0] (by simp)).c 2 rfl
  have z3_0_2 : W3.frozen? ⟨w.heap.size + 1, 2, none⟩ = false := (K3.out.at (w.heap.size + 1) [.int .i64 0, .int .i64 0, .int .i64 0, .int .i64 0] (by simp)).f 2 rfl
  have c3_0_3 : W3.cell? ⟨w.heap.size + 1, 3, none⟩ = some (.int .i64 0) := (K3.out.at (w.heap.size + 1) [.int .i64 0, .int .i64 0, .int .i64 0, .int .i64 0] (by simp)).c 3 rfl
  have z3_0_3 : W3.frozen? ⟨w.heap.size + 1, 3, none⟩ = false := (K3.out.at (w.heap.size + 1) [.int .i64 0, .int .i64 0, .int .i64 0, .int .i64 0] (by simp)).f 3 rfl
  have c3_1_0 : W3.cell? ⟨w.heap.size, 0, none⟩ = some (.int .i64 0) := (K3.out.at (w.heap.size) [.int .i64 0, .int .i64 m, .int .i64 d, .int .i64 u] (by simp)).c 0 rfl
  have c3_1_1 : W3.cell? ⟨w.heap.size, 1, none⟩ = some (.int .i64 m) := (K3.out.at (w.heap.size) [.int .i64 0, .int .i64 m, .int .i64 d, .int .i64 u] (by simp)).c 1 rfl
  have c3_1_2 : W3.cell? ⟨w.heap.size, 2, none⟩ = some (.int .i64 d) := (K3.out.at (w.heap.size) [.int .i64 0, .int .i64 m, .int .i64 d, .int .i64 u] (by simp)).c 2 rfl
  have c3_1_3 : W3.cell? ⟨w.heap.size, 3, none⟩ = some (.int .i64 u) := (K3.out.at (w.heap.size) [.int .i64 0, .int .i64 m, .int .i64 d, .int .i64 u] (by simp)).c 3 rfl
  go_wp2_with fail
  refine (SG.out _ _ hv'.out).mono ?_
  rintro e W4 ⟨rfl, hb⟩
  have K4 : Hid (BS w [(w.heap.size + 1, [.int .i64 0, .int .i64 0, .int .i64 0, .int .i64 0]), (w.heap.size, [.int .i64 0, .int .i64 m, .int .i64 d, .int .i64 u])] W4) := K3.out.below hb
  clear c3_0_0 z3_0_0 c3_0_1 z3_0_1 c3_0_2 z3_0_2 c3_0_3 z3_0_3 c3_1_0 c3_1_1 c3_1_2 c3_1_3
  clear hb hv' K3
  have c4_0_0 : W4.cell? ⟨w.heap.size + 1, 0, none⟩ = some (.int .i64 0) := (K4.out.at (w.heap.size + 1) [.int .i64 0, .int .i64 0, .int .i64 0, .int .i64 0] (by simp)).c 0 rfl
  have z4_0_0 : W4.frozen? ⟨w.heap.size + 1, 0, none⟩ = false := (K4.out.at (w.heap.size + 1) [.int .i64 0, .int .i64 0, .int .i64 0, .int .i64 0] (by simp)).f 0 rfl
  have c4_0_1 : W4.cell? ⟨w.heap.size + 1, 1, none⟩ = some (.int .i64 0) := (K4.out.at (w.heap.size + 1) [.int .i64 0, .int .i64 0, .int .i64 0, .int .i64 0] (by simp)).c 1 rfl
  have z4_0_1 : W4.frozen? ⟨w.heap.size + 1, 1, none⟩ = false := (K4.out.at (w.heap.size + 1) [.int .i64 0, .int .i64 0, .int .i64 0, .int .i64 0] (by simp)).f 1 rfl
  have c4_0_2 : W4.cell? ⟨w.heap.size + 1, 2, none⟩ = some (.int .i64 0) := (K4.out.at (w.heap.size + 1) [.int .i64 0, .int .i64 0, .int .i64 0, .int .i64 0] (by simp)).c 2 rfl
  have z4_0_2 : W4.frozen? ⟨w.heap.size + 1, 2, none⟩ = false := (K4.out.at (w.heap.size + 1) [.int .i64 0, .int .i64 0, .int .i64 0, .int .i64 0] (by simp)).f 2 rfl
  have c4_0_3 : W4.cell? ⟨w.heap.size + 1, 3, none⟩ = some (.int .i64 0) := (K4.out.at (w.heap.size + 1) [.int .i64 0, .int .i64 0, .int .i64 0, .int .i64 0] (by simp)).c 3 rfl
  have z4_0_3 : W4.frozen? ⟨w.heap.size + 1, 3, none⟩ = false := (K4.out.at (w.heap.size + 1) [.int .i64 0, .int .i64 0, .int .i64 0, .int .i64 0] (by simp)).f 3 rfl
  have c4_1_0 : W4.cell? ⟨w.heap.size, 0, none⟩ = some (.int .i64 0) := (K4.out.at (w.heap.size) [.int .i64 0, .int .i64 m, .int .i64 d, .int .i64 u] (by simp)).c 0 rfl
  have c4_1_1 : W4.cell? ⟨w.heap.size, 1, none⟩ = some (.int .i64 m) := (K4.out.at (w.heap.size) [.int .i64 0, .int .i64 m, .int .i64 d, .int .i64 u] (by simp)).c 1 rfl
  have c4_1_2 : W4.cell? ⟨w.heap.size, 2, none⟩ = some (.int .i64 d) := (K4.out.at (w.heap.size) [.int .i64 0, .int .i64 m, .int .i64 d, .int .i64 u] (by simp)).c 2 rfl
  have c4_1_3 : W4.cell? ⟨w.heap.size, 3, none⟩ = some (.int .i64 u) := (K4.out.at (w.heap.size) [.int .i64 0, .int .i64 m, .int .i64 d, .int .i64 u] (by simp)).c 3 rfl
  go_wp2_with fail
  refine (MK.out _).mono ?_
  rintro e W5 ⟨rfl, hb⟩
  have K5 : Hid (BS w [(w.heap.size + 1, [.int .i64 0, .int .i64 0, .int .i64 0, .int .i64 0]), (w.heap.size, [.int .i64 0, .int .i64 m, .int .i64 d, .int .i64 u])] W5) := K4.out.below hb
  clear c4_0_0 z4_0_0 c4_0_1 z4_0_1 c4_0_2 z4_0_2 c4_0_3 z4_0_3 c4_1_0 c4_1_1 c4_1_2 c4_1_3
  clear hb K4
  have c5_0_0 : W5.cell? ⟨w.heap.size + 1, 0, none⟩ = some (.int .i64 0) := (K5.out.at (w.heap.size + 1) [.int .i64 0, .int .i64 0, .int .i64 0, .int .i64 0] (by simp)).c 0 rfl
  have z5_0_0 : W5.frozen? ⟨w.heap.size + 1, 0, none⟩ = false := (K5.out.at (w.heap.size + 1) [.int .i64 0, .int .i64 0, .int .i64 0, .int .i64 0] (by simp)).f 0 rfl
  have c5_0_1 : W5.cell? ⟨w.heap.size + 1, 1, none⟩ = some (.int .i64 0) := (K5.out.at (w.heap.size + 1) [.int .i64 0, .int .i64 0, .int .i64 0, .int .i64 0] (by simp)).c 1 rfl
  have z5_0_1 : W5.frozen? ⟨w.heap.size + 1, 1, none⟩ = false := (K5.out.at (w.heap.size + 1) [.int .i64 0, .int .i64 0, .int .i64 0, .int .i64 0] (by simp)).f 1 rfl
  have c5_0_2 : W5.cell? ⟨w.heap.size + 1, 2, none⟩ = some (.int .i64 0) := (K5.out.at (w.heap.size + 1) [.int .i64 0, .int .i64 0, .int .i64 0, .int .i64 0] (by simp)).c 2 rfl
  have z5_0_2 : W5.frozen? ⟨w.heap.size + 1, 2, none⟩ = false := (K5.out.at (w.heap.size + 1) [.int .i64 0, .int .i64 0, .int .i64 0, .int .i64 0] (by simp)).f 2 rfl
  have c5_0_3 : W5.cell? ⟨w.heap.size + 1, 3, none⟩ = some (.int .i64 0) := (K5.out.at (w.heap.size + 1) [.int .i64 0, .int .i64 0, .int .i64 0, .int .i64 0] (by simp)).c 3 rfl
  have z5_0_3 : W5.frozen? ⟨w.heap.size + 1, 3, none⟩ = false := (K5.out.at (w.heap.size + 1) [.int .i64 0, .int .i64 0, .int .i64 0, .int .i64 0] (by simp)).f 3 rfl
  have c5_1_0 : W5.cell? ⟨w.heap.size, 0, none⟩ = some (.int .i64 0) := (K5.out.at (w.heap.size) [.int .i64 0, .int .i64 m, .int .i64 d, .int .i64 u] (by simp)).c 0 rfl
  have c5_1_1 : W5.cell? ⟨w.heap.size, 1, none⟩ = some (.int .i64 m) := (K5.out.at (w.heap.size) [.int .i64 0, .int .i64 m, .int .i64 d, .int .i64 u] (by simp)).c 1 rfl
  have c5_1_2 : W5.cell? ⟨w.heap.size, 2, none⟩ = some (.int .i64 d) := (K5.out.at (w.heap.size) [.int .i64 0, .int .i64 m, .int .i64 d, .int .i64 u] (by simp)).c 2 rfl
  have c5_1_3 : W5.cell? ⟨w.heap.size, 3, none⟩ = some (.int .i64 u) := (K5.out.at (w.heap.size) [.int .i64 0, .int .i64 m, .int .i64 d, .int .i64 u] (by simp)).c 3 rfl
  have XF : Hid (Bx (W5.setCells (w.heap.size + 1) 0 [.int .i64 I, .int .i64 M, .int .i64 D, .int .i64 U]) (w.heap.size + 1) [.int .i64 I, .int .i64 M, .int .i64 D, .int .i64 U]) := (K5.out.at (w.heap.size + 1) [.int .i64 0, .int .i64 0, .int .i64 0, .int .i64 0] (by simp)).setAll _ rfl
  have BF : Hid (Below w.heap.size w (W5.setCells (w.heap.size + 1) 0 [.int .i64 I, .int .i64 M, .int .i64 D, .int .i64 U])) := below_setCells (by omega) _ _ _ K5.out.1
  have y0 := XF.out.c 0 rfl
  have y1 := XF.out.c 1 rfl
  have y2 := XF.out.c 2 rfl
  have y3 := XF.out.c 3 rfl
  simp only [World.setCells, Nat.zero_add, Nat.reduceAdd] at y0 y1 y2 y3
  clear XF
  go_wp2
  exact bodyPost_ret (v := .tuple #[.agg #[.int .i64 I, .int .i64 M, .int .i64 D, .int .i64 U], .int .i64 E]) (by simp [results, Try.results27, go_sem, y0, y1, y2, y3]) rfl ⟨rfl, BF.out⟩

set_option maxRecDepth 100000 in
set_option maxHeartbeats 4000000 in
theorem rpjus_DC (m d u D1 U1 M1 D2 L l I M D U E : Int) (m1 : -2147483647 ≤ m) (m2 : m ≤ 2147483647) (d1 : -2147483647 ≤ d) (d2 : d ≤ 2147483647) (q1 : -1000000000 ≤ u.tdiv 86400000000) (q2 : u.tdiv 86400000000 ≤ 1000000000) (hd : d + u.tdiv 86400000000 = D1) (hu : u.tmod 86400000000 = U1) (hm : m + D1.tdiv 30 = M1) (he : D1.tmod 30 = D2) (q3 : -100000000 ≤ D1.tdiv 30) (q4 : D1.tdiv 30 ≤ 100000000) (e1 : -30 < D2) (e2 : D2 < 30) (f1 : -86400000000 < U1) (f2 : U1 < 86400000000) (g1 : M1 < 0) (g2 : ¬ 0 < l) (k1 : D2 < 0) (k2 : 0 < U1)
    (R : Hid (∀ w : World, Calls Try.prog 16 #[.agg #[.int .i64 0, .int .i64 m, .int .i64 d, .int .i64 u]] w fun r' w' => r' = .returned (.bool true) ∧ Below w.heap.size w w'))
    (C : Hid (∀ w : World, Calls Try.prog 34 #[.int .i64 D1, .int .i64 2147483647] w fun r' w' => r' = .returned (.bool true) ∧ w' = w))
    (LG : Hid (∀ (w : World), Calls Try.prog 43 #[.agg #[.int .i64 0, .int .i64 0, .int .i64 D2, .int .i64 U1]] w fun r' w' => ∃ v', r' = .returned v' ∧ IsW w' v' (L) ∧ Below w.heap.size w w'))
    (SG : Hid (∀ (y : Value) (w : World), IsW w y L → Calls Try.prog 41 #[y] w fun r' w' => r' = .returned (.int .i64 l) ∧ Below w.heap.size w w'))
    (MK : Hid (∀ w : World, Calls Try.prog 21 #[.int .i64 M1, .int .i64 (D2 + 1), .int .i64 (U1 - 86400000000)] w fun r' w' => r' = .returned (.tuple #[.agg #[.int .i64 I, .int .i64 M, .int .i64 D, .int .i64 U], .int .i64 E]) ∧ Below w.heap.size w w'))
    (w : World) :
    Calls Try.prog 27 #[.agg #[.int .i64 0, .int .i64 m, .int .i64 d, .int .i64 u]] w fun r' w' => r' = .returned (.tuple #[.agg #[.int .i64 I, .int .i64 M, .int .i64 D, .int .i64 U], .int .i64 E]) ∧ Below w.heap.size w w' := by
  have w1 : IntKind.i64.wrap (u.tdiv 86400000000) = u.tdiv 86400000000 := by rw [IntKind.wrap_i64]; omega
  have w2 : IntKind.i64.wrap (d + u.tdiv 86400000000) = D1 := by rw [IntKind.wrap_i64]; omega
  have w3 : IntKind.i64.wrap (D1.tdiv 30) = D1.tdiv 30 := by rw [IntKind.wrap_i64]; omega
  have w4 : IntKind.i64.wrap (m + D1.tdiv 30) = M1 := by rw [IntKind.wrap_i64]; omega
  have g3 : ¬ 0 < M1 := by omega
  have k3 : ¬ 0 < D2 := by omega
  have K0 : Hid (BS w [(w.heap.size + 1, [.int .i64 0, .int .i64 0, .int .i64 0, .int .i64 0]), (w.heap.size, [.int .i64 0, .int .i64 m, .int .i64 d, .int .i64 u])] ((w.alloc (.cells #[.int .i64 0, .int .i64 m, .int .i64 d, .int .i64 u] 23)).alloc (.cells #[.int .i64 0, .int .i64 0, .int .i64 0, .int .i64 0] 23))) := (((BS.start w).new [.int .i64 0, .int .i64 m, .int .i64 d, .int .i64 u] 23 rfl).new [.int .i64 0, .int .i64 0, .int .i64 0, .int .i64 0] 23 (by simp))
  go_enter Try.func27, Try.ntmps27
  go_wp2_with fail
  refine (R.out _).mono ?_
  rintro e W1 ⟨rfl, hb⟩
  have K1 : Hid (BS w [(w.heap.size + 1, [.int .i64 0, .int .i64 0, .int .i64 0, .int .i64 0]), (w.heap.size, [.int .i64 0, .int .i64 m, .int .i64 d, .int .i64 u])] W1) := K0.out.below hb
  clear hb K0
  have c1_0_0 : W1.cell? ⟨w.heap.size + 1, 0, none⟩ = some (.int .i64 0) := (K1.out.at (w.heap.size + 1) [.int .i64 0, .int .i64 0, .int .i64 0, .int .i64 0] (by simp)).c 0 rfl
  have z1_0_0 : W1.frozen? ⟨w.heap.size + 1, 0, none⟩ = false := (K1.out.at (w.heap.size + 1) [.int .i64 0, .int .i64 0, .int .i64 0, .int .i64 0] (by simp)).f 0 rfl
  have c1_0_1 : W1.cell? ⟨w.heap.size + 1, 1, none⟩ = some (.int .i64 0) := (K1.out.at (w.heap.size + 1) [.int .i64 0, .int .i64 0, .int .i64 0, .int .i64 0] (by simp)).c 1 rfl
  have z1_0_1 : W1.frozen? ⟨w.heap.size + 1, 1, none⟩ = false := (K1.out.at (w.heap.size + 1) [.int .i64 0, .int .i64 0, .int .i64 0, .int .i64 0] (by simp)).f 1 rfl
  have c1_0_2 : W1.cell? ⟨w.heap.size + 1, 2, none⟩ = some (.int .i64 0) := (K1.out.at (w.heap.size + 1) [.int .i64 0, .int .i64 0, .int .i64 0, .int .i64 0] (by simp)).c 2 rfl
  have z1_0_2 : W1.frozen? ⟨w.heap.size + 1, 2, none⟩ = false := (K1.out.at (w.heap.size + 1) [.int .i64 0, .int .i64 0, .int .i64 0, .int .i64 0] (by simp)).f 2 rfl
  have c1_0_3 : W1.cell? ⟨w.heap.size + 1, 3, none⟩ = some (.int .i64 0) := (K1.out.at (w.heap.size + 1) [.int .i64 0, .int .i64 0, .int .i64 0, .int .i64 0] (by simp)).c 3 rfl
  have z1_0_3 : W1.frozen? ⟨w.heap.size + 1, 3, none⟩ = false := (K1.out.at (w.heap.size + 1) [.int .i64 0, .int .i64 0, .int .i64 0, .int .i64 0] (by simp)).f 3 rfl
  have c1_1_0 : W1.cell? ⟨w.heap.size, 0, none⟩ = some (.int .i64 0) := (K1.out.at (w.heap.size) [.int .i64 0, .int .i64 m, .int .i64 d, .int .i64 u] (by simp)).c 0 rfl
  have c1_1_1 : W1.cell? ⟨w.heap.size, 1, none⟩ = some (.int .i64 m) := (K1.out.at (w.heap.size) [.int .i64 0, .int .i64 m, .int .i64 d, .int .i64 u] (by simp)).c 1 rfl
  have c1_1_2 : W1.cell? ⟨w.heap.size, 2, none⟩ = some (.int .i64 d) := (K1.out.at (w.heap.size) [.int .i64 0, .int .i64 m, .int .i64 d, .int .i64 u] (by simp)).c 2 rfl
  have c1_1_3 : W1.cell? ⟨w.heap.size, 3, none⟩ = some (.int .i64 u) := (K1.out.at (w.heap.size) [.int .i64 0, .int .i64 m, .int .i64 d, .int .i64 u] (by simp)).c 3 rfl
  go_wp2_with fail
  refine (C.out _).mono ?_
  rintro e W2 ⟨rfl, hw⟩
  rw [hw]
  clear hw W2
  go_wp2_with fail
  refine (LG.out _).mono ?_
  rintro e W3 ⟨y, rfl, hv, hb⟩
  have K3 : Hid (BS w [(w.heap.size + 1, [.int .i64 0, .int .i64 0, .int .i64 0, .int .i64 0]), (w.heap.size, [.int .i64 0, .int .i64 m, .int .i64 d, .int .i64 u])] W3) := K1.out.below hb
  have hv' : Hid (IsW _ _ _) := hv
  clear c1_0_0 z1_0_0 c1_0_1 z1_0_1 c1_0_2 z1_0_2 c1_0_3 z1_0_3 c1_1_0 c1_1_1 c1_1_2 c1_1_3
  clear hb hv K1
  have c3_0_0 : W3.cell? ⟨w.heap.size + 1, 0, none⟩ = some (.int .i64 0) := (K3.out.at (w.heap.size + 1) [.int .i64 0, .int .i64 0, .int .i64 0, .int .i64 0] (by simp)).c 0 rfl
  have z3_0_0 : W3.frozen? ⟨w.heap.size + 1, 0, none⟩ = false := (K3.out.at (w.heap.size + 1) [.int .i64 0, .int .i64 0, .int .i64 0, .int .i64 0] (by simp)).f 0 rfl
  have c3_0_1 : W3.cell? ⟨w.heap.size + 1, 1, none⟩ = some (.int .i64 0) := (K3.out.at (w.heap.size + 1) [.int .i64 0, .int .i64 0, .int .i64 0, .int .i64 0] (by simp)).c 1 rfl
  have z3_0_1 : W3.frozen? ⟨w.heap.size + 1, 1, none⟩ = false := (K3.out.at (w.heap.size + 1) [.int .i64 0, .int .i64 0, .int .i64 0, .int .i64 0] (by simp)).f 1 rfl
  have c3_0_2 : W3.cell? ⟨w.heap.size + 1, 2, none⟩ = some (.int .i64 0) := (K3.out.at (w.heap.size + 1) [.int .i64 0, .int .i64 0, .int .i64 0, .int .i64 0] (by simp)).c 2 rfl
  have z3_0_2 : W3.frozen? ⟨w.heap.size + 1, 2, none⟩ = false := (K3.out.at (w.heap.size + 1) [.int .i64 0, .int .i64 0, .int .i64 0, .int .i64 0] (by simp)).f 2 rfl
  have c3_0_3 : W3.cell? ⟨w.heap.size + 1, 3, none⟩ = some (.int .i64 0) := (K3.out.at (w.heap.size + 1) [.int .i64 0, .int .i64 0, .int .i64 0, .int .i64 0] (by simp)).c 3 rfl
  have z3_0_3 : W3.frozen? ⟨w.heap.size + 1, 3, none⟩ = false := (K3.out.at (w.heap.size + 1) [.int .i64 0, .int .i64 0, .int .i64 0, .int .i64 0] (by simp)).f 3 rfl
  have c3_1_0 : W3.cell? ⟨w.heap.size, 0, none⟩ = some (.int .i64 0) := (K3.out.at (w.heap.size) [.int .i64 0, .int .i64 m, .int .i64 d, .int .i64 u] (by simp)).c 0 rfl
  have c3_1_1 : W3.cell? ⟨w.heap.size, 1, none⟩ = some (.int .i64 m) := (K3.out.at (w.heap.size) [.int .i64 0, .int .i64 m, .int .i64 d, .int .i64 u] (by simp)).c 1 rfl
  have c3_1_2 : W3.cell? ⟨w.heap.size, 2, none⟩ = some (.int .i64 d) := (K3.out.at (w.heap.size) [.int .i64 0, .int .i64 m, .int .i64 d, .int .i64 u] (by simp)).c 2 rfl
  have c3_1_3 : W3.cell? ⟨w.heap.size, 3, none⟩ = some (.int .i64 u) := (K3.out.at (w.heap.size) [.int .i64 0, .int .i64 m, .int .i64 d, .int .i64 u] (by simp)).c 3 rfl
  go_wp2_with fail
  refine (SG.out _ _ hv'.out).mono ?_
  rintro e W4 ⟨rfl, hb⟩
  have K4 : Hid (BS w [(w.heap.size + 1, [.int .i64 0, .int .i64 0, .int .i64 0, .int .i64 0]), (w.heap.size, [.int .i64 0, .int .i64 m, .int .i64 d, .int .i64 u])] W4) := K3.out.below hb
  clear c3_0_0 z3_0_0 c3_0_1 z3_0_1 c3_0_2 z3_0_2 c3_0_3 z3_0_3 c3_1_0 c3_1_1 c3_1_2 c3_1_3
  clear hb hv' K3
  have c4_0_0 : W4.cell? ⟨w.heap.size + 1, 0, none⟩ = some (.int .i64 0) := (K4.out.at (w.heap.size + 1) [.int .i64 0, .int .i64 0, .int .i64 0, .int .i64 0] (by simp)).c 0 rfl
  have z4_0_0 : W4.frozen? ⟨w.heap.size + 1, 0, none⟩ = false := (K4.out.at (w.heap.size + 1) [.int .i64 0, .int .i64 0, .int .i64 0, .int .i64 0] (by simp)).f 0 rfl
  have c4_0_1 : W4.cell? ⟨w.heap.size + 1, 1, none⟩ = some (.int .i64 0) := (K4.out.at (w.heap.size + 1) [.int .i64 0, .int .i64 0, .int .i64 0, .int .i64 0] (by simp)).c 1 rfl
  have z4_0_1 : W4.frozen? ⟨w.heap.size + 1, 1, none⟩ = false := (K4.out.at (w.heap.size + 1) [.int .i64 0, .int .i64 0, .int .i64 0, .int .i64 0] (by simp)).f 1 rfl
  have c4_0_2 : W4.cell? ⟨w.heap.size + 1, 2, none⟩ = some (.int .i64 0) := (K4.out.at (w.heap.size + 1) [.int .i64 0, .int .i64 0, .int .i64 0, .int .i64 0] (by simp)).c 2 rfl
  have z4_0_2 : W4.frozen? ⟨w.heap.size + 1, 2, none⟩ = false := (K4.out.at (w.heap.size + 1) [.int .i64 0, .int .i64 0, .int .i64 0, .int .i64 0] (by simp)).f 2 rfl
  have c4_0_3 : W4.cell? ⟨w.heap.size + 1, 3, none⟩ = some (.int .i64 0) := (K4.out.at (w.heap.size + 1) [.int .i64 0, .int .i64 0, .int .i64 0, .int .i64 0] (by simp)).c 3 rfl
  have z4_0_3 : W4.frozen? ⟨w.heap.size + 1, 3, none⟩ = false := (K4.out.at (w.heap.size + 1) [.int .i64 0, .int .i64 0, .int .i64 0, .int .i64 0] (by simp)).f 3 rfl
  have c4_1_0 : W4.cell? ⟨w.heap.size, 0, none⟩ = some (.int .i64 0) := (K4.out.at (w.heap.size) [.int .i64 0, .int .i64 m, .int .i64 d, .int .i64 u] (by simp)).c 0 rfl
  have c4_1_1 : W4.cell? ⟨w.heap.size, 1, none⟩ = some (.int .i64 m) := (K4.out.at (w.heap.size) [.int .i64 0, .int .i64 m, .int .i64 d, .int .i64 u] (by simp)).c 1 rfl
  have c4_1_2 : W4.cell? ⟨w.heap.size, 2, none⟩ = some (.int .i64 d) := (K4.out.at (w.heap.size) [.int .i64 0, .int .i64 m, .int .i64 d, .int .i64 u] (by simp)).c 2 rfl
  have c4_1_3 : W4.cell? ⟨w.heap.size, 3, none⟩ = some (.int .i64 u) := (K4.out.at (w.heap.size) [.int .i64 0, .int .i64 m, .int .i64 d, .int .i64 u] (by simp)).c 3 rfl
  go_wp2_with fail
  refine (MK.out _).mono ?_
  rintro e W5 ⟨rfl, hb⟩
  have K5 : Hid (BS w [(w.heap.size + 1, [.int .i64 0, .int .i64 0, .int .i64 0, .int .i64 0]), (w.heap.size, [.int .i64 0, .int .i64 m, .int .i64 d, .int .i64 u])] W5) := K4.out.below hb
  clear c4_0_0 z4_0_0 c4_0_1 z4_0_1 c4_0_2 z4_0_2 c4_0_3 z4_0_3 c4_1_0 c4_1_1 c4_1_2 c4_1_3
  clear hb K4
  have c5_0_0 : W5.cell? ⟨w.heap.size + 1, 0, none⟩ = some (.int .i64 0) := (K5.out.at (w.heap.size + 1) [.int .i64 0, .int .i64 0, .int .i64 0, .int .i64 0] (by simp)).c 0 rfl
  have z5_0_0 : W5.frozen? ⟨w.heap.size + 1, 0, none⟩ = false := (K5.out.at (w.heap.size + 1) [.int .i64 0, .int .i64 0, .int .i64 0, .int .i64 0] (by simp)).f 0 rfl
  have c5_0_1 : W5.cell? ⟨w.heap.size + 1, 1, none⟩ = some (.int .i64 0) := (K5.out.at (w.heap.size + 1) [.int .i64 0, .int .i64 0, .int .i64 0, .int .i64 0] (by simp)).c 1 rfl
  have z5_0_1 : W5.frozen? ⟨w.heap.size + 1, 1, none⟩ = false := (K5.out.at (w.heap.size + 1) [.int .i64 0, .int .i64 0, .int .i64 0, .int .i64 0] (by simp)).f 1 rfl
  have c5_0_2 : W5.cell? ⟨w.heap.size + 1, 2, none⟩ = some (.int .i64 0) := (K5.out.at (w.heap.size + 1) [.int .i64 0, .int .i64 0, .int .i64 0, .int .i64 0] (by simp)).c 2 rfl
  have z5_0_2 : W5.frozen? ⟨w.heap.size + 1, 2, none⟩ = false := (K5.out.at (w.heap.size + 1) [.int .i64 0, .int .i64 0, .int .i64 0, .int .i64 0] (by simp)).f 2 rfl
  have c5_0_3 : W5.cell? ⟨w.heap.size + 1, 3, none⟩ = some (.int .i64 0) := (K5.out.at (w.heap.size + 1) [.int .i64 0, .int .i64 0, .int .i64 0, .int .i64 0] (by simp)).c 3 rfl
  have z5_0_3 : W5.frozen? ⟨w.heap.size + 1, 3, none⟩ = false := (K5.out.at (w.heap.size + 1) [.int .i64 0, .int .i64 0, .int .i64 0, .int .i64 0] (by simp)).f 3 rfl
  have c5_1_0 : W5.cell? ⟨w.heap.size, 0, none⟩ = some (.int .i64 0) := (K5.out.at (w.heap.size) [.int .i64 0, .int .i64 m, .int .i64 d, .int .i64 u] (by simp)).c 0 rfl
  have c5_1_1 : W5.cell? ⟨w.heap.size, 1, none⟩ = some (.int .i64 m) := (K5.out.at (w.heap.size) [.int .i64 0, .int .i64 m, .int .i64 d, .int .i64 u] (by simp)).c 1 rfl
  have c5_1_2 : W5.cell? ⟨w.heap.size, 2, none⟩ = some (.int .i64 d) := (K5.out.at (w.heap.size) [.int .i64 0, .int .i64 m, .int .i64 d, .int .i64 u] (by simp)).c 2 rfl
  have c5_1_3 : W5.cell? ⟨w.heap.size, 3, none⟩ = some (.int .i64 u) := (K5.out.at (w.heap.size) [.int .i64 0, .int .i64 m, .int .i64 d, .int .i64 u] (by simp)).c 3 rfl
  have XF : Hid (Bx (W5.setCells (w.heap.size + 1) 0 [.int .i64 I, .int .i64 M, .int .i64 D, .int .i64 U]) (w.heap.size + 1) [.int .i64 I, .int .i64 M, .int .i64 D, .int .i64 U]) := (K5.out.at (w.heap.size + 1) [.int .i64 0, .int .i64 0, .int .i64 0, .int .i64 0] (by simp)).setAll _ rfl
  have BF : Hid (Below w.heap.size w (W5.setCells (w.heap.size + 1) 0 [.int .i64 I, .int .i64 M, .int .i64 D, .int .i64 U])) := below_setCells (by omega) _ _ _ K5.out.1
  have y0 := XF.out.c 0 rfl
  have y1 := XF.out.c 1 rfl
  have y2 := XF.out.c 2 rfl
  have y3 := XF.out.c 3 rfl
  simp only [World.setCells, Nat.zero_add, Nat.reduceAdd] at y0 y1 y2 y3
  clear XF
  go_wp2
  exact bodyPost_ret (v := .tuple #[.agg #[.int .i64 I, .int .i64 M, .int .i64 D, .int .i64 U], .int .i64 E]) (by simp [results, Try.results27, go_sem, y0, y1, y2, y3]) rfl ⟨rfl, BF.out⟩

set_option maxRecDepth 100000 in
set_option maxHeartbeats 4000000 in
theorem rpjus_DD (m d u D1 U1 M1 D2 L l I M D U E : Int) (m1 : -2147483647 ≤ m) (m2 : m ≤ 2147483647) (d1 : -2147483647 ≤ d) (d2 : d ≤ 2147483647) (q1 : -1000000000 ≤ u.tdiv 86400000000) (q2 : u.tdiv 86400000000 ≤ 1000000000) (hd : d + u.tdiv 86400000000 = D1) (hu : u.tmod 86400000000 = U1) (hm : m + D1.tdiv 30 = M1) (he : D1.tmod 30 = D2) (q3 : -100000000 ≤ D1.tdiv 30) (q4 : D1.tdiv 30 ≤ 100000000) (e1 : -30 < D2) (e2 : D2 < 30) (f1 : -86400000000 < U1) (f2 : U1 < 86400000000) (g1 : M1 < 0) (g2 : ¬ 0 < l) (k1 : D2 < 0) (k2 : ¬ 0 < U1)
    (R : Hid (∀ w : World, Calls Try.prog 16 #[.agg #[.int .i64 0, .int .i64 m, .int .i64 d, .int .i64 u]] w fun r' w' => r' = .returned (.bool true) ∧ Below w.heap.size w w'))
    (C : Hid (∀ w : World, Calls Try.prog 34 #[.int .i64 D1, .int .i64 2147483647] w fun r' w' => r' = .returned (.bool true) ∧ w' = w))
    (LG : Hid (∀ (w : World), Calls Try.prog 43 #[.agg #[.int .i64 0, .int .i64 0, .int .i64 D2, .int .i64 U1]] w fun r' w' => ∃ v', r' = .returned v' ∧ IsW w' v' (L) ∧ Below w.heap.size w w'))
    (SG : Hid (∀ (y : Value) (w : World), IsW w y L → Calls Try.prog 41 #[y] w fun r' w' => r' = .returned (.int .i64 l) ∧ Below w.heap.size w w'))
    (MK : Hid (∀ w : World, Calls Try.prog 21 #[.int .i64 M1, .int .i64 D2, .int .i64 U1] w fun r' w' => r' = .returned (.tuple #[.agg #[.int .i64 I, .int .i64 M, .int .i64 D, .int .i64 U], .int .i64 E]) ∧ Below w.heap.size w w'))
    (w : World) :
    Calls Try.prog 27 #[.agg #[.int .i64 0, .int .i64 m, .int .i64 d, .int .i64 u]] w fun r' w' => r' = .returned (.tuple #[.agg #[.int .i64 I, .int .i64 M, .int .i64 D, .int .i64 U], .int .i64 E]) ∧ Below w.heap.size w w' := by
  have w1 : IntKind.i64.wrap (u.tdiv 86400000000) = u.tdiv 86400000000 := by rw [IntKind.wrap_i64]; omega
  have w2 : IntKind.i64.wrap (d + u.tdiv 86400000000) = D1 := by rw [IntKind.wrap_i64]; omega
  have w3 : IntKind.i64.wrap (D1.tdiv 30) = D1.tdiv 30 := by rw [IntKind.wrap_i64]; omega
  have w4 : IntKind.i64.wrap (m + D1.tdiv 30) = M1 := by rw [IntKind.wrap_i64]; omega
  have g3 : ¬ 0 < M1 := by omega
  have k3 : ¬ 0 < D2 := by omega
  have K0 : Hid (BS w [(w.heap.size + 1, [.int .i64 0, .int .i64 0, .int .i64 0, .int .i64 0]), (w.heap.size, [.int .i64 0, .int .i64 m, .int .i64 d, .int .i64 u])] ((w.alloc (.cells #[.int .i64 0, .int .i64 m, .int .i64 d, .int .i64 u] 23)).alloc (.cells #[.int .i64 0, .int .i64 0, .int .i64 0, .int .i64 0] 23))) := (((BS.start w).new [.int .i64 0, .int .i64 m, .int .i64 d, .int .i64 u] 23 rfl).new [.int .i64 0, .int .i64 0, .int .i64 0, .int .i64 0] 23 (by simp))
  go_enter Try.func27, Try.ntmps27
  go_wp2_with fail
  refine (R.out _).mono ?_
  rintro e W1 ⟨rfl, hb⟩
  have K1 : Hid (BS w [(w.heap.size + 1, [.int .i64 0, .int .i64 0, .int .i64 0, .int .i64 0]), (w.heap.size, [.int .i64 0, .int .i64 m, .int .i64 d, .int .i64 u])] W1) := K0.out.below hb
  clear hb K0
  have c1_0_0 : W1.cell? ⟨w.heap.size + 1, 0, none⟩ = some (.int .i64 0) := (K1.out.at (w.heap.size + 1) [.int .i64 0, .int .i64 0, .int .i64 0, .int .i64 0] (by simp)).c 0 rfl
  have z1_0_0 : W1.frozen? ⟨w.heap.size + 1, 0, none⟩ = false := (K1.out.at (w.heap.size + 1) [.int .i64 0, .int .i64 0, .int .i64 0, .int .i64 0] (by simp)).f 0 rfl
  have c1_0_1 : W1.cell? ⟨w.heap.size + 1, 1, none⟩ = some (.int .i64 0) := (K1.out.at (w.heap.size + 1) [.int .i64 0, .int .i64 0, .int .i64 0, .int .i64 0] (by simp)).c 1 rfl
  have z1_0_1 : W1.frozen? ⟨w.heap.size + 1, 1, none⟩ = false := (K1.out.at (w.heap.size + 1) [.int .i64 0, .int .i64 0, .int .i64 0, .int .i64 0] (by simp)).f 1 rfl
  have c1_0_2 : W1.cell? ⟨w.heap.size + 1, 2, none⟩ = some (.int .i64 0) := (K1.out.at (w.heap.size + 1) [.int .i64 0, .int .i64 0, .int .i64 0, .int .i64 0] (by simp)).c 2 rfl
  have z1_0_2 : W1.frozen? ⟨w.heap.size + 1, 2, none⟩ = false := (K1.out.at (w.heap.size + 1) [.int .i64 0, .int .i64 0, .int .i64 0, .int .i64 0] (by simp)).f 2 rfl
  have c1_0_3 : W1.cell? ⟨w.heap.size + 1, 3, none⟩ = some (.int .i64 0) := (K1.out.at (w.heap.size + 1) [.int .i64 0, .int .i64 0, .int .i64 0, .int .i64 0] (by simp)).c 3 rfl
  have z1_0_3 : W1.frozen? ⟨w.heap.size + 1, 3, none⟩ = false := (K1.out.at (w.heap.size + 1) [.int .i64 0, .int .i64 0, .int .i64 0, .int .i64 0] (by simp)).f 3 rfl
  have c1_1_0 : W1.cell? ⟨w.heap.size, 0, none⟩ = some (.int .i64 0) := (K1.out.at (w.heap.size) [.int .i64 0, .int .i64 m, .int .i64 d, .int .i64 u] (by simp)).c 0 rfl
  have c1_1_1 : W1.cell? ⟨w.heap.size, 1, none⟩ = some (.int .i64 m) := (K1.out.at (w.heap.size) [.int .i64 0, .int .i64 m, .int .i64 d, .int .i64 u] (by simp)).c 1 rfl
  have c1_1_2 : W1.cell? ⟨w.heap.size, 2, none⟩ = some (.int .i64 d) := (K1.out.at (w.heap.size) [.int .i64 0, .int .i64 m, .int .i64 d, .int .i64 u] (by simp)).c 2 rfl
  have c1_1_3 : W1.cell? ⟨w.heap.size, 3, none⟩ = some (.int .i64 u) := (K1.out.at (w.heap.size) [.int .i64 0, .int .i64 m, .int .i64 d, .int .i64 u] (by simp)).c 3 rfl
  go_wp2_with fail
  refine (C.out _).mono ?_
  rintro e W2 ⟨rfl, hw⟩
  rw [hw]
  clear hw W2
  go_wp2_with fail
  refine (LG.out _).mono ?_
  rintro e W3 ⟨y, rfl, hv, hb⟩
  have K3 : Hid (BS w [(w.heap.size + 1, [.int .i64 0, .int .i64 0, .int .i64 0, .int .i64 0]), (w.heap.size, [.int .i64 0, .int .i64 m, .int .i64 d, .int .i64 u])] W3) := K1.out.below hb
  have hv' : Hid (IsW _ _ _) := hv
  clear c1_0_0 z1_0_0 c1_0_1 z1_0_1 c1_0_2 z1_0_2 c1_0_3 z1_0_3 c1_1_0 c1_1_1 c1_1_2 c1_1_3
  clear hb hv K1
  have c3_0_0 : W3.cell? ⟨w.heap.size + 1, 0, none⟩ = some (.int .i64 0) := (K3.out.at (w.heap.size + 1) [.int .i64 0, .int .i64 0, .int .i64 0, .int .i64 0] (by simp)).c 0 rfl
  have z3_0_0 : W3.frozen? ⟨w.heap.size + 1, 0, none⟩ = false := (K3.out.at (w.heap.size + 1) [.int .i64 0, .int .i64 0, .int .i64 0, .int .i64 0] (by simp)).f 0 rfl
  have c3_0_1 : W3.cell? ⟨w.heap.size + 1, 1, none⟩ = some (.int .i64 0) := (K3.out.at (w.heap.size + 1) [.int .i64 0, .int .i64 0, .int .i64 0, .int .i64 0] (by simp)).c 1 rfl
  have z3_0_1 : W3.frozen? ⟨w.heap.size + 1, 1, none⟩ = false := (K3.out.at (w.heap.size + 1) [.int .i64 0, .int .i64 0, .int .i64 0, .int .i64 0] (by simp)).f 1 rfl
  have c3_0_2 : W3.cell? ⟨w.heap.size + 1, 2, none⟩ = some (.int .i64 0) := (K3.out.at (w.heap.size + 1) [.int .i64 0, .int .i64 0, .int .i64 0, .int .i64 0] (by simp)).c 2 rfl
  have z3_0_2 : W3.frozen? ⟨w.heap.size + 1, 2, none⟩ = false := (K3.out.at (w.heap.size + 1) [.int .i64 0, .int .i64 0, .int .i64 0, .int .i64 0] (by simp)).f 2 rfl
  have c3_0_3 : W3.cell? ⟨w.heap.size + 1, 3, none⟩ = some (.int .i64 0) := (K3.out.at (w.heap.size + 1) [.int .i64 0, .int .i64 0, .int .i64 0, .int .i64 0] (by simp)).c 3 rfl
  have z3_0_3 : W3.frozen? ⟨w.heap.size + 1, 3, none⟩ = false := (K3.out.at (w.heap.size + 1) [.int .i64 0, .int .i64 0, .int .i64 0, .int .i64 0] (by simp)).f 3 rfl
  have c3_1_0 : W3.cell? ⟨w.heap.size, 0, none⟩ = some (.int .i64 0) := (K3.out.at (w.heap.size) [.int .i64 0, .int .i64 m, .int .i64 d, .int .i64 u] (by simp)).c 0 rfl
  have c3_1_1 : W3.cell? ⟨w.heap.size, 1, none⟩ = some (.int .i64 m) := (K3.out.at (w.heap.size) [.int .i64 0, .int .i64 m, .int .i64 d, .int .i64 u] (by simp)).c 1 rfl
  have c3_1_2 : W3.cell? ⟨w.heap.size, 2, none⟩ = some (.int .i64 d) := (K3.out.at (w.heap.size) [.int .i64 0, .int .i64 m, .int .i64 d, .int .i64 u] (by simp)).c 2 rfl
  have c3_1_3 : W3.cell? ⟨w.heap.size, 3, none⟩ = some (.int .i64 u) := (K3.out.at (w.heap.size) [.int .i64 0, .int .i64 m, .int .i64 d, .int .i64 u] (by simp)).c 3 rfl
  go_wp2_with fail
  refine (SG.out _ _ hv'.out).mono ?_
  rintro e W4 ⟨rfl, hb⟩
  have K4 : Hid (BS w [(w.heap.size + 1, [.int .i64 0, .int .i64 0, .int .i64 0, .int .i64 0]), (w.heap.size, [.int .i64 0, .int .i64 m, .int .i64 d, .int .i64 u])] W4) := K3.out.below hb
  clear c3_0_0 z3_0_0 c3_0_1 z3_0_1 c3_0_2 z3_0_2 c3_0_3 z3_0_3 c3_1_0 c3_1_1 c3_1_2 c3_1_3
  clear hb hv' K3
  have c4_0_0 : W4.cell? ⟨w.heap.size + 1, 0, none⟩ = some (.int .i64 0) := (K4.out.at (w.heap.size + 1) [.int .i64 0, .int .i64 0, .int .i64 0, .int .i64 0] (by simp)).c 0 rfl
  have z4_0_0 : W4.frozen? ⟨w.heap.size + 1, 0, none⟩ = false := (K4.out.at (w.heap.size + 1) [.int .i64 0, .int .i64 0, .int .i64 0, .int .i64 0] (by simp)).f 0 rfl
  have c4_0_1 : W4.cell? ⟨w.heap.size + 1, 1, none⟩ = some (.int .i64 0) := (K4.out.at (w.heap.size + 1) [.int .i64 0, .int .i64 0, .int .i64 0, .int .i64 0] (by simp)).c 1 rfl
  have z4_0_1 : W4.frozen? ⟨w.heap.size + 1, 1, none⟩ = false := (K4.out.at (w.heap.size + 1) [.int .i64 0, .int .i64 0, .int .i64 0, .int .i64 0] (by simp)).f 1 rfl
  have c4_0_2 : W4.cell? ⟨w.heap.size + 1, 2, none⟩ = some (.int .i64 0) := (K4.out.at (w.heap.size + 1) [.int .i64 0, .int .i64 0, .int .i64 0, .int .i64 0] (by simp)).c 2 rfl
  have z4_0_2 : W4.frozen? ⟨w.heap.size + 1, 2, none⟩ = false := (K4.out.at (w.heap.size + 1) [.int .i64 0, .int .i64 0, .int .i64 0, .int .i64 0] (by simp)).f 2 rfl
  have c4_0_3 : W4.cell? ⟨w.heap.size + 1, 3, none⟩ = some (.int .i64 0) := (K4.out.at (w.heap.size + 1) [.int .i64 0, .int .i64 0, .int .i64 0, .int .i64 0] (by simp)).c 3 rfl
  have z4_0_3 : W4.frozen? ⟨w.heap.size + 1, 3, none⟩ = false := (K4.out.at (w.heap.size + 1) [.int .i64 0, .int .i64 0, .int .i64 0, .int .i64 0] (by simp)).f 3 rfl
  have c4_1_0 : W4.cell? ⟨w.heap.size, 0, none⟩ = some (.int .i64 0) := (K4.out.at (w.heap.size) [.int .i64 0, .int .i64 m, .int .i64 d, .int .i64 u] (by simp)).c 0 rfl
  have c4_1_1 : W4.cell? ⟨w.heap.size, 1, none⟩ = some (.int .i64 m) := (K4.out.at (w.heap.size) [.int .i64 0, .int .i64 m, .int .i64 d, .int .i64 u] (by simp)).c 1 rfl
  have c4_1_2 : W4.cell? ⟨w.heap.size, 2, none⟩ = some (.int .i64 d) := (K4.out.at (w.heap.size) [.int .i64 0, .int .i64 m, .int .i64 d, .int .i64 u] (by simp)).c 2 rfl
  have c4_1_3 : W4.cell? ⟨w.heap.size, 3, none⟩ = some (.int .i64 u) := (K4.out.at (w.heap.size) [.int .i64 0, .int .i64 m, .int .i64 d, .int .i64 u] (by simp)).c 3 rfl
  go_wp2_with fail
  refine (MK.out _).mono ?_
  rintro e W5 ⟨rfl, hb⟩
  have K5 : Hid (BS w [(w.heap.size + 1, [.int .i64 0, .int .i64 0, .int .i64 0, .int .i64 0]), (w.heap.size, [.int .i64 0, .int .i64 m, .int .i64 d, .int .i64 u])] W5) := K4.out.below hb
  clear c4_0_0 z4_0_0 c4_0_1 z4_0_1 c4_0_2 z4_0_2 c4_0_3 z4_0_3 c4_1_0 c4_1_1 c4_1_2 c4_1_3
  clear hb K4
  have c5_0_0 : W5.cell? ⟨w.heap.size + 1, 0, none⟩ = some (.int .i64 0) := (K5.out.at (w.heap.size + 1) [.int .i64 0, .int .i64 0, .int .i64 0, .int .i64 0] (by simp)).c 0 rfl
  have z5_0_0 : W5.frozen? ⟨w.heap.size + 1, 0, none⟩ = false := (K5.out.at (w.heap.size + 1) [.int .i64 0, .int .i64 0, .int .i64 0, .int .i64 0] (by simp)).f 0 rfl
  have c5_0_1 : W5.cell? ⟨w.heap.size + 1, 1, none⟩ = some (.int .i64 0) := (K5.out.at (w.heap.size + 1) [.int .i64 0, .int .i64 0, .int .i64 0, .int .i64 0] (by simp)).c 1 rfl
  have z5_0_1 : W5.frozen? ⟨w.heap.size + 1, 1, none⟩ = false := (K5.out.at (w.heap.size + 1) [.int .i64 0, .int .i64 0, .int .i64 0, .int .i64 0] (by simp)).f 1 rfl
  have c5_0_2 : W5.cell? ⟨w.heap.size + 1, 2, none⟩ = some (.int .i64 0) := (K5.out.at (w.heap.size + 1) [.int .i64 0, .int .i64 0, .int .i64 0, .int .i64 0] (by simp)).c 2 rfl
  have z5_0_2 : W5.frozen? ⟨w.heap.size + 1, 2, none⟩ = false := (K5.out.at (w.heap.size + 1) [.int .i64 0, .int .i64 0, .int .i64 0, .int .i64 0] (by simp)).f 2 rfl
  have c5_0_3 : W5.cell? ⟨w.heap.size + 1, 3, none⟩ = some (.int .i64 0) := (K5.out.at (w.heap.size + 1) [.int .i64 0, .int .i64 0, .int .i64 0, .int .i64 0] (by simp)).c 3 rfl
  have z5_0_3 : W5.frozen? ⟨w.heap.size + 1, 3, none⟩ = false := (K5.out.at (w.heap.size + 1) [.int .i64 0, .int .i64 0, .int .i64 0, .int .i64 0] (by simp)).f 3 rfl
  have c5_1_0 : W5.cell? ⟨w.heap.size, 0, none⟩ = some (.int .i64 0) := (K5.out.at (w.heap.size) [.int .i64 0, .int .i64 m, .int .i64 d, .int .i64 u] (by simp)).c 0 rfl
  have c5_1_1 : W5.cell? ⟨w.heap.size, 1, none⟩ = some (.int .i64 m) := (K5.out.at (w.heap.size) [.int .i64 0, .int .i64 m, .int .i64 d, .int .i64 u] (by simp)).c 1 rfl
  have c5_1_2 : W5.cell? ⟨w.heap.size, 2, none⟩ = some (.int .i64 d) := (K5.out.at (w.heap.size) [.int .i64 0, .int .i64 m, .int .i64 d, .int .i64 u] (by simp)).c 2 rfl
  have c5_1_3 : W5.cell? ⟨w.heap.size, 3, none⟩ = some (.int .i64 u) := (K5.out.at (w.heap.size) [.int .i64 0, .int .i64 m, .int .i64 d, .int .i64 u] (by simp)).c 3 rfl
  have XF : Hid (Bx (W5.setCells (w.heap.size + 1) 0 [.int .i64 I, .int .i64 M, .int .i64 D, .int .i64 U]) (w.heap.size + 1) [.int .i64 I, .int .i64 M, .int .i64 D, .int .i64 U]) := (K5.out.at (w.heap.size + 1) [.int .i64 0, .int .i64 0, .int .i64 0, .int .i64 0] (by simp)).setAll _ rfl
  have BF : Hid (Below w.heap.size w (W5.setCells (w.heap.size + 1) 0 [.int .i64 I, .int .i64 M, .int .i64 D, .int .i64 U])) := below_setCells (by omega) _ _ _ K5.out.1
  have y0 := XF.out.c 0 rfl
  have y1 := XF.out.c 1 rfl
  have y2 := XF.out.c 2 rfl
  have y3 := XF.out.c 3 rfl
  simp only [World.setCells, Nat.zero_add, Nat.reduceAdd] at y0 y1 y2 y3
  clear XF
  go_wp2
  exact bodyPost_ret (v := .tuple #[.agg #[.int .i64 I, .int .i64 M, .int .i64 D, .int .i64 U], .int .i64 E]) (by simp [results, Try.results27, go_sem, y0, y1, y2, y3]) rfl ⟨rfl, BF.out⟩

set_option maxRecDepth 100000 in
set_option maxHeartbeats 4000000 in
theorem rpjus_DE (m d u D1 U1 M1 D2 L l I M D U E : Int) (m1 : -2147483647 ≤ m) (m2 : m ≤ 2147483647) (d1 : -2147483647 ≤ d) (d2 : d ≤ 2147483647) (q1 : -1000000000 ≤ u.tdiv 86400000000) (q2 : u.tdiv 86400000000 ≤ 1000000000) (hd : d + u.tdiv 86400000000 = D1) (hu : u.tmod 86400000000 = U1) (hm : m + D1.tdiv 30 = M1) (he : D1.tmod 30 = D2) (q3 : -100000000 ≤ D1.tdiv 30) (q4 : D1.tdiv 30 ≤ 100000000) (e1 : -30 < D2) (e2 : D2 < 30) (f1 : -86400000000 < U1) (f2 : U1 < 86400000000) (g1 : M1 < 0) (g2 : ¬ 0 < l) (k1 : ¬ 0 < D2) (k2 : ¬ D2 < 0)
    (R : Hid (∀ w : World, Calls Try.prog 16 #[.agg #[.int .i64 0, .int .i64 m, .int .i64 d, .int .i64 u]] w fun r' w' => r' = .returned (.bool true) ∧ Below w.heap.size w w'))
    (C : Hid (∀ w : World, Calls Try.prog 34 #[.int .i64 D1, .int .i64 2147483647] w fun r' w' => r' = .returned (.bool true) ∧ w' = w))
    (LG : Hid (∀ (w : World), Calls Try.prog 43 #[.agg #[.int .i64 0, .int .i64 0, .int .i64 D2, .int .i64 U1]] w fun r' w' => ∃ v', r' = .returned v' ∧ IsW w' v' (L) ∧ Below w.heap.size w w'))
    (SG : Hid (∀ (y : Value) (w : World), IsW w y L → Calls Try.prog 41 #[y] w fun r' w' => r' = .returned (.int .i64 l) ∧ Below w.heap.size w w'))
    (MK : Hid (∀ w : World, Calls Try.prog 21 #[.int .i64 M1, .int .i64 D2, .int .i64 U1] w fun r' w' => r' = .returned (.tuple #[.agg #[.int .i64 I, .int .i64 M, .int .i64 D, .int .i64 U], .int .i64 E]) ∧ Below w.heap.size w w'))
    (w : World) :
    Calls Try.prog 27 #[.agg #[.int .i64 0, .int .i64 m, .int .i64 d, .int .i64 u]] w fun r' w' => r' = .returned (.tuple #[.agg #[.int .i64 I, .int .i64 M, .int .i64 D, .int .i64 U], .int .i64 E]) ∧ Below w.heap.size w w' := by
  have w1 : IntKind.i64.wrap (u.tdiv 86400000000) = u.tdiv 86400000000 := by rw [IntKind.wrap_i64]; omega
  have w2 : IntKind.i64.wrap (d + u.tdiv 86400000000) = D1 := by rw [IntKind.wrap_i64]; omega
  have w3 : IntKind.i64.wrap (D1.tdiv 30) = D1.tdiv 30 := by rw [IntKind.wrap_i64]; omega
  have w4 : IntKind.i64.wrap (m + D1.tdiv 30) = M1 := by rw [IntKind.wrap_i64]; omega
  have g3 : ¬ 0 < M1 := by omega
  have K0 : Hid (BS w [(w.heap.size + 1, [.int .i64 0, .int .i64 0, .int .i64 0, .int .i64 0]), (w.heap.size, [.int .i64 0, .int .i64 m, .int .i64 d, .int .i64 u])] ((w.alloc (.cells #[.int .i64 0, .int .i64 m, .int .i64 d, .int .i64 u] 23)).alloc (.cells #[.int .i64 0, .int .i64 0, .int .i64 0, .int .i64 0] 23))) := (((BS.start w).new [.int .i64 0, .int .i64 m, .int .i64 d, .int .i64 u] 23 rfl).new [.int .i64 0, .int .i64 0, .int .i64 0, .int .i64 0] 23 (by simp))
  go_enter Try.func27, Try.ntmps27
  go_wp2_with fail
  refine (R.out _).mono ?_
  rintro e W1 ⟨rfl, hb⟩
  have K1 : Hid (BS w [(w.heap.size + 1, [.int .i64 0, .int .i64 0, .int .i64 0, .int .i64 0]), (w.heap.size, [.int .i64 0, .int .i64 m, .int .i64 d, .int .i64 u])] W1) := K0.out.below hb
  clear hb K0
  have c1_0_0 : W1.cell? ⟨w.heap.size + 1, 0, none⟩ = some (.int .i64 0) := (K1.out.at (w.heap.size + 1) [.int .i64 0, .int .i64 0, .int .i64 0, .int .i64 0] (by simp)).c 0 rfl
  have z1_0_0 : W1.frozen? ⟨w.heap.size + 1, 0, none⟩ = false := (K1.out.at (w.heap.size + 1) [.int .i64 0, .int .i64 0, .int .i64 0, .int .i64 0] (by simp)).f 0 rfl
  have c1_0_1 : W1.cell? ⟨w.heap.size + 1, 1, none⟩ = some (.int .i64 0) := (K1.out.at (w.heap.size + 1) [.int .i64 0, .int .i64 0, .int .i64 0, .int .i64 0] (by simp)).c 1 rfl
  have z1_0_1 : W1.frozen? ⟨w.heap.size + 1, 1, none⟩ = false := (K1.out.at (w.heap.size + 1) [.int .i64 0, .int .i64 0, .int .i64 0, .int .i64 0] (by simp)).f 1 rfl
  have c1_0_2 : W1.cell? ⟨w.heap.size + 1, 2, none⟩ = some (.int .i64 0) := (K1.out.at (w.heap.size + 1) [.int .i64 0, .int .i64 0, .int .i64 0, .int .i64 0] (by simp)).c 2 rfl
  have z1_0_2 : W1.frozen? ⟨w.heap.size + 1, 2, none⟩ = false := (K1.out.at (w.heap.size + 1) [.int .i64 0, .int .i64 0, .int .i64 0, .int .i64 0] (by simp)).f 2 rfl
  have c1_0_3 : W1.cell? ⟨w.heap.size + 1, 3, none⟩ = some (.int .i64 0) := (K1.out.at (w.heap.size + 1) [.int .i64 0, .int .i64 0, .int .i64 0, .int .i64 0] (by simp)).c 3 rfl
  have z1_0_3 : W1.frozen? ⟨w.heap.size + 1, 3, none⟩ = false := (K1.out.at (w.heap.size + 1) [.int .i64 0, .int .i64 0, .int .i64 0, .int .i64 0] (by simp)).f 3 rfl
  have c1_1_0 : W1.cell? ⟨w.heap.size, 0, none⟩ = some (.int .i64 0) := (K1.out.at (w.heap.size) [.int .i64 0, .int .i64 m, .int .i64 d, .int .i64 u] (by simp)).c 0 rfl
  have c1_1_1 : W1.cell? ⟨w.heap.size, 1, none⟩ = some (.int .i64 m) := (K1.out.at (w.heap.size) [.int .i64 0, .int .i64 m, .int .i64 d, .int .i64 u] (by simp)).c 1 rfl
  have c1_1_2 : W1.cell? ⟨w.heap.size, 2, none⟩ = some (.int .i64 d) := (K1.out.at (w.heap.size) [.int .i64 0, .int .i64 m, .int .i64 d, .int .i64 u] (by simp)).c 2 rfl
  have c1_1_3 : W1.cell? ⟨w.heap.size, 3, none⟩ = some (.int .i64 u) := (K1.out.at (w.heap.size) [.int .i64 0, .int .i64 m, .int .i64 d, .int .i64 u] (by simp)).c 3 rfl
  go_wp2_with fail
  refine (C.out _).mono ?_
  rintro e W2 ⟨rfl, hw⟩
  rw [hw]
  clear hw W2
  go_wp2_with fail
  refine (LG.out _).mono ?_
  rintro e W3 ⟨y, rfl, hv, hb⟩
  have K3 : Hid (BS w [(w.heap.size + 1, [.int .i64 0, .int .i64 0, .int .i64 0, .int .i64 0]), (w.heap.size, [.int .i64 0, .int .i64 m, .int .i64 d, .int .i64 u])] W3) := K1.out.below hb
  have hv' : Hid (IsW _ _ _) := hv
  clear c1_0_0 z1_0_0 c1_0_1 z1_0_1 c1_0_2 z1_0_2 c1_0_3 z1_0_3 c1_1_0 c1_1_1 c1_1_2 c1_1_3
  clear hb hv K1
  have c3_0_0 : W3.cell? ⟨w.heap.size + 1, 0, none⟩ = some (.int .i64 0) := (K3.out.at (w.heap.size + 1) [.int .i64 0, .int .i64 0, .int .i64 0, .int .i64 0] (by simp)).c 0 rfl
  have z3_0_0 : W3.frozen? ⟨w.heap.size + 1, 0, none⟩ = false := (K3.out.at (w.heap.size + 1) [.int .i64 0, .int .i64 0, .int .i64 0, .int .i64 0] (by simp)).f 0 rfl
  have c3_0_1 : W3.cell? ⟨w.heap.size + 1, 1, none⟩ = some (.int .i64 0) := (K3.out.at (w.heap.size + 1) [.int .i64 0, .int .i64 0, .int .i64 0, .int .i64 0] (by simp)).c 1 rfl
  have z3_0_1 : W3.frozen? ⟨w.heap.size + 1, 1, none⟩ = false := (K3.out.at (w.heap.size + 1) [.int .i64 0, .int .i64 0, .int .i64 0, .int .i64 0] (by simp)).f 1 rfl
  have c3_0_2 : W3.cell? ⟨w.heap.size + 1, 2, none⟩ = some (.int .i64 0) := (K3.out.at (w.heap.size + 1) [.int .i64 0, .int .i64 0, .int .i64 0, .int .i64 0] (by simp)).c 2 rfl
  have z3_0_2 : W3.frozen? ⟨w.heap.size + 1, 2, none⟩ = false := (K3.out.at (w.heap.size + 1) [.int .i64 0, .int .i64 0, .int .i64 0, .int .i64 0] (by simp)).f 2 rfl
  have c3_0_3 : W3.cell? ⟨w.heap.size + 1, 3, none⟩ = some (.int .i64 0) := (K3.out.at (w.heap.size + 1) [.int .i64 0, .int .i64 0, .int .i64 0, .int .i64 0] (by simp)).c 3 rfl
  have z3_0_3 : W3.frozen? ⟨w.heap.size + 1, 3, none⟩ = false := (K3.out.at (w.heap.size + 1) [.int .i64 0, .int .i64 0, .int .i64 0, .int .i64 0] (by simp)).f 3 rfl
  have c3_1_0 : W3.cell? ⟨w.heap.size, 0, none⟩ = some (.int .i64 0) := (K3.out.at (w.heap.size) [.int .i64 0, .int .i64 m, .int .i64 d, .int .i64 u] (by simp)).c 0 rfl
  have c3_1_1 : W3.cell? ⟨w.heap.size, 1, none⟩ = some (.int .i64 m) := (K3.out.at (w.heap.size) [.int .i64 0, .int .i64 m, .int .i64 d, .int .i64 u] (by simp)).c 1 rfl
  have c3_1_2 : W3.cell? ⟨w.heap.size, 2, none⟩ = some (.int .i64 d) := (K3.out.at (w.heap.size) [.int .i64 0, .int .i64 m, .int .i64 d, .int .i64 u] (by simp)).c 2 rfl
  have c3_1_3 : W3.cell? ⟨w.heap.size, 3, none⟩ = some (.int .i64 u) := (K3.out.at (w.heap.size) [.int .i64 0, .int .i64 m, .int .i64 d, .int .i64 u] (by simp)).c 3 rfl
  go_wp2_with fail
  refine (SG.out _ _ hv'.out).mono ?_
  rintro e W4 ⟨rfl, hb⟩
  have K4 : Hid (BS w [(w.heap.size + 1, [.int .i64 0, .int .i64 0, .int .i64 0, .int .i64 0]), (w.heap.size, [.int .i64 0, .int .i64 m, .int .i64 d, .int .i64 u])] W4) := K3.out.below hb
  clear c3_0_0 z3_0_0 c3_0_1 z3_0_1 c3_0_2 z3_0_2 c3_0_3 z3_0_3 c3_1_0 c3_1_1 c3_1_2 c3_1_3
  clear hb hv' K3
  have c4_0_0 : W4.cell? ⟨w.heap.size + 1, 0, none⟩ = some (.int .i64 0) := (K4.out.at (w.heap.size + 1) [.int .i64 0, .int .i64 0, .int .i64 0, .int .i64 0] (by simp)).c 0 rfl
  have z4_0_0 : W4.frozen? ⟨w.heap.size + 1, 0, none⟩ = false := (K4.out.at (w.heap.size + 1) [.int .i64 0, .int .i64 0, .int .i64 0, .int .i64 0] (by simp)).f 0 rfl
  have c4_0_1 : W4.cell? ⟨w.heap.size + 1, 1, none⟩ = some (.int .i64 0) := (K4.out.at (w.heap.size + 1) [.int .i64 0, .int .i64 0, .int .i64 0, .int .i64 0] (by simp)).c 1 rfl
  have z4_0_1 : W4.frozen? ⟨w.heap.size + 1, 1, none⟩ = false := (K4.out.at (w.heap.size + 1) [.int .i64 0, .int .i64 0, .int .i64 0, .int .i64 0] (by simp)).f 1 rfl
  have c4_0_2 : W4.cell? ⟨w.heap.size + 1, 2, none⟩ = some (.int .i64 0) := (K4.out.at (w.heap.size + 1) [.int .i64 0, .int .i64 0, .int .i64 0, .int .i64 0] (by simp)).c 2 rfl
  have z4_0_2 : W4.frozen? ⟨w.heap.size + 1, 2, none⟩ = false := (K4.out.at (w.heap.size + 1) [.int .i64 0, .int .i64 0, .int .i64 0, .int .i64 0] (by simp)).f 2 rfl
  have c4_0_3 : W4.cell? ⟨w.heap.size + 1, 3, none⟩ = some (.int .i64 0) := (K4.out.at (w.heap.size + 1) [.int .i64 0, .int .i64 0, .int .i64 0, .int .i64 0] (by simp)).c 3 rfl
  have z4_0_3 : W4.frozen? ⟨w.heap.size + 1, 3, none⟩ = false := (K4.out.at (w.heap.size + 1) [.int .i64 0, .int .i64 0, .int .i64 0, .int .i64 0] (by simp)).f 3 rfl
  have c4_1_0 : W4.cell? ⟨w.heap.size, 0, none⟩ = some (.int .i64 0) := (K4.out.at (w.heap.size) [.int .i64 0, .int .i64 m, .int .i64 d, .int .i64 u] (by simp)).c 0 rfl
  have c4_1_1 : W4.cell? ⟨w.heap.size, 1, none⟩ = some (.int .i64 m) := (K4.out.at (w.heap.size) [.int .i64 0, .int .i64 m, .int .i64 d, .int .i64 u] (by simp)).c 1 rfl
  have c4_1_2 : W4.cell? ⟨w.heap.size, 2, none⟩ = some (.int .i64 d) := (K4.out.at (w.heap.size) [.int .i64 0, .int .i64 m, .int .i64 d, .int .i64 u] (by simp)).c 2 rfl
  have c4_1_3 : W4.cell? ⟨w.heap.size, 3, none⟩ = some (.int .i64 u) := (K4.out.at (w.heap.size) [.int .i64 0, .int .i64 m, .int .i64 d, .int .i64 u] (by simp)).c 3 rfl
  go_wp2_with fail
  refine (MK.out _).mono ?_
  rintro e W5 ⟨rfl, hb⟩
  have K5 : Hid (BS w [(w.heap.size + 1, [.int .i64 0, .int .i64 0, .int .i64 0, .int .i64 0]), (w.heap.size, [.int .i64 0, .int .i64 m, .int .i64 d, .int .i64 u])] W5) := K4.out.below hb
  clear c4_0_0 z4_0_0 c4_0_1 z4_0_1 c4_0_2 z4_0_2 c4_0_3 z4_0_3 c4_1_0 c4_1_1 c4_1_2 c4_1_3
  clear hb K4
  have c5_0_0 : W5.cell? ⟨w.heap.size + 1, 0, none⟩ = some (.int .i64 0) := (K5.out.at (w.heap.size + 1) [.int .i64 0, .int .i64 0, .int .i64 0, .int .i64 0] (by simp)).c 0 rfl
  have z5_0_0 : W5.frozen? ⟨w.heap.size + 1, 0, none⟩ = false := (K5.out.at (w.heap.size + 1) [.int .i64 0, .int .i64 0, .int .i64 0, .int .i64 0] (by simp)).f 0 rfl
  have c5_0_1 : W5.cell? ⟨w.heap.size + 1, 1, none⟩ = some (.int .i64 0) := (K5.out.at (w.heap.size + 1) [.int .i64 0, .int .i64 0, .int .i64 0, .int .i64 0] (by simp)).c 1 rfl
  have z5_0_1 : W5.frozen? ⟨w.heap.size + 1, 1, none⟩ = false := (K5.out.at (w.heap.size + 1) [.int .i64 0, .int .i64 0, .int .i64 0, .int .i64 0] (by simp)).f 1 rfl
  have c5_0_2 : W5.cell? ⟨w.heap.size + 1, 2, none⟩ = some (.int .i64 0) := (K5.out.at (w.heap.size + 1) [.int .i64 0, .int .i64 0, .int .i64 0, .int .i64 0] (by simp)).c 2 rfl
  have z5_0_2 : W5.frozen? ⟨w.heap.size + 1, 2, none⟩ = false := (K5.out.at (w.heap.size + 1) [.int .i64 0, .int .i64 0, .int .i64 0, .int .i64 0] (by simp)).f 2 rfl
  have c5_0_3 : W5.cell? ⟨w.heap.size + 1, 3, none⟩ = some (.int .i64 0) := (K5.out.at (w.heap.size + 1) [.int .i64 0, .int .i64 0, .int .i64 0, .int .i64 0] (by simp)).c 3 rfl
  have z5_0_3 : W5.frozen? ⟨w.heap.size + 1, 3, none⟩ = false := (K5.out.at (w.heap.size + 1) [.int .i64 0, .int .i64 0, .int .i64 0, .int .i64 0] (by simp)).f 3 rfl
  have c5_1_0 : W5.cell? ⟨w.heap.size, 0, none⟩ = some (.int .i64 0) := (K5.out.at (w.heap.size) [.int .i64 0, .int .i64 m, .int .i64 d, .int .i64 u] (by simp)).c 0 rfl
  have c5_1_1 : W5.cell? ⟨w.heap.size, 1, none⟩ = some (.int .i64 m) := (K5.out.at (w.heap.size) [.int .i64 0, .int .i64 m, .int .i64 d, .int .i64 u] (by simp)).c 1 rfl
  have c5_1_2 : W5.cell? ⟨w.heap.size, 2, none⟩ = some (.int .i64 d) := (K5.out.at (w.heap.size) [.int .i64 0, .int .i64 m, .int .i64 d, .int .i64 u] (by simp)).c 2 rfl
  have c5_1_3 : W5.cell? ⟨w.heap.size, 3, none⟩ = some (.int .i64 u) := (K5.out.at (w.heap.size) [.int .i64 0, .int .i64 m, .int .i64 d, .int .i64 u] (by simp)).c 3 rfl
  have XF : Hid (Bx (W5.setCells (w.heap.size + 1) 0 [.int .i64 I, .int .i64 M, .int .i64 D, .int .i64 U]) (w.heap.size + 1) [.int .i64 I, .int .i64 M, .int .i64 D, .int .i64 U]) := (K5.out.at (w.heap.size + 1) [.int .i64 0, .int .i64 0, .int .i64 0, .int .i64 0] (by simp)).setAll _ rfl
  have BF : Hid (Below w.heap.size w (W5.setCells (w.heap.size + 1) 0 [.int .i64 I, .int .i64 M, .int .i64 D, .int .i64 U])) := below_setCells (by omega) _ _ _ K5.out.1
  have y0 := XF.out.c 0 rfl
  have y1 := XF.out.c 1 rfl
  have y2 := XF.out.c 2 rfl
  have y3 := XF.out.c 3 rfl
  simp only [World.setCells, Nat.zero_add, Nat.reduceAdd] at y0 y1 y2 y3
  clear XF
  go_wp2
  exact bodyPost_ret (v := .tuple #[.agg #[.int .i64 I, .int .i64 M, .int .i64 D, .int .i64 U], .int .i64 E]) (by simp [results, Try.results27, go_sem, y0, y1, y2, y3]) rfl ⟨rfl, BF.out⟩

set_option maxRecDepth 100000 in
set_option maxHeartbeats 4000000 in
theorem rpjus_EA (m d u D1 U1 M1 D2 L l I M D U E : Int) (m1 : -2147483647 ≤ m) (m2 : m ≤ 2147483647) (d1 : -2147483647 ≤ d) (d2 : d ≤ 2147483647) (q1 : -1000000000 ≤ u.tdiv 86400000000) (q2 : u.tdiv 86400000000 ≤ 1000000000) (hd : d + u.tdiv 86400000000 = D1) (hu : u.tmod 86400000000 = U1) (hm : m + D1.tdiv 30 = M1) (he : D1.tmod 30 = D2) (q3 : -100000000 ≤ D1.tdiv 30) (q4 : D1.tdiv 30 ≤ 100000000) (e1 : -30 < D2) (e2 : D2 < 30) (f1 : -86400000000 < U1) (f2 : U1 < 86400000000) (g1 : ¬ 0 < M1) (g2 : ¬ M1 < 0) (k1 : 0 < D2) (k2 : U1 < 0)
    (R : Hid (∀ w : World, Calls Try.prog 16 #[.agg #[.int .i64 0, .int .i64 m, .int .i64 d, .int .i64 u]] w fun r' w' => r' = .returned (.bool true) ∧ Below w.heap.size w w'))
    (C : Hid (∀ w : World, Calls Try.prog 34 #[.int .i64 D1, .int .i64 2147483647] w fun r' w' => r' = .returned (.bool true) ∧ w' = w))
    (LG : Hid (∀ (w : World), Calls Try.prog 43 #[.agg #[.int .i64 0, .int .i64 0, .int .i64 D2, .int .i64 U1]] w fun r' w' => ∃ v', r' = .returned v' ∧ IsW w' v' (L) ∧ Below w.heap.size w w'))
    (SG : Hid (∀ (y : Value) (w : World), IsW w y L → Calls Try.prog 41 #[y] w fun r' w' => r' = .returned (.int .i64 l) ∧ Below w.heap.size w w'))
    (MK : Hid (∀ w : World, Calls Try.prog 21 #[.int .i64 M1, .int .i64 (D2 - 1), .int .i64 (U1 + 86400000000)] w fun r' w' => r' = .returned (.tuple #[.agg #[.int .i64 I, .int .i64 M, .int .i64 D, .int .i64 U], .int .i64 E]) ∧ Below w.heap.size w w'))
    (w : World) :
    Calls Try.prog 27 #[.agg #[.int .i64 0, .int .i64 m, .int .i64 d, .int .i64 u]] w fun r' w' => r' = .returned (.tuple #[.agg #[.int .i64 I, .int .i64 M, .int .i64 D, .int .i64 U], .int .i64 E]) ∧ Below w.heap.size w w' := by
  have w1 : IntKind.i64.wrap (u.tdiv 86400000000) = u.tdiv 86400000000 := by rw [IntKind.wrap_i64]; omega
  have w2 : IntKind.i64.wrap (d + u.tdiv 86400000000) = D1 := by rw [IntKind.wrap_i64]; omega
  have w3 : IntKind.i64.wrap (D1.tdiv 30) = D1.tdiv 30 := by rw [IntKind.wrap_i64]; omega
  have w4 : IntKind.i64.wrap (m + D1.tdiv 30) = M1 := by rw [IntKind.wrap_i64]; omega
  have k3 : ¬ D2 - 1 < 0 := by omega
  have K0 : Hid (BS w [(w.heap.size + 1, [.int .i64 0, .int .i64 0, .int .i64 0, .int .i64 0]), (w.heap.size, [.int .i64 0, .int .i64 m, .int .i64 d, .int .i64 u])] ((w.alloc (.cells #[.int .i64 0, .int .i64 m, .int .i64 d, .int .i64 u] 23)).alloc (.cells #[.int .i64 0, .int .i64 0, .int .i64 0, .int .i64 0] 23))) := (((BS.start w).new [.int .i64 0, .int .i64 m, .int .i64 d, .int .i64 u] 23 rfl).new [.int .i64 0, .int .i64 0, .int .i64 0, .int .i64 0] 23 (by simp))
  go_enter Try.func27, Try.ntmps27
  go_wp2_with fail
  refine (R.out _).mono ?_
  rintro e W1 ⟨rfl, hb⟩
  have K1 : Hid (BS w [(w.heap.size + 1, [.int .i64 0, .int .i64 0, .int .i64 0, .int .i64 0]), (w.heap.size, [.int .i64 0, .int .i64 m, .int .i64 d, .int .i64 u])] W1) := K0.out.below hb
  clear hb K0
  have c1_0_0 : W1.cell? ⟨w.heap.size + 1, 0, none⟩ = some (.int .i64 0) := (K1.out.at (w.heap.size + 1) [.int .i64 0, .int .i64 0, .int .i64 0, .int .i64 0] (by simp)).c 0 rfl
  have z1_0_0 : W1.frozen? ⟨w.heap.size + 1, 0, none⟩ = false := (K1.out.at (w.heap.size + 1) [.int .i64 0, .int .i64 0, .int .i64 0, .int .i64 0] (by simp)).f 0 rfl
  have c1_0_1 : W1.cell? ⟨w.heap.size + 1, 1, none⟩ = some (.int .i64 0) := (K1.out.at (w.heap.size + 1) [.int .i64 0, .int .i64 0, .int .i64 0, .int .i64 0] (by simp)).c 1 rfl
  have z1_0_1 : W1.frozen? ⟨w.heap.size + 1, 1, none⟩ = false := (K1.out.at (w.heap.size + 1) [.int .i64 0, .int .i64 0, .int .i64 0, .int .i64 0] (by simp)).f 1 rfl
  have c1_0_2 : W1.cell? ⟨w.heap.size + 1, 2, none⟩ = some (.int .i64 0) := (K1.out.at (w.heap.size + 1) [.int .i64 0, .int .i64 0, .int .i64 0, .int .i64 0] (by simp)).c 2 rfl
  have z1_0_2 : W1.frozen? ⟨w.heap.size + 1, 2, none⟩ = false := (K1.out.at (w.heap.size + 1) [.int .i64 0, .int .i64 0, .int .i64 0, .int .i64 0] (by simp)).f 2 rfl
  have c1_0_3 : W1.cell? ⟨w.heap.size + 1, 3, none⟩ = some (.int .i64 0) := (K1.out.at (w.heap.size + 1) [.int .i64 0, .int .i64 0, .int .i64 0, .int .i64 0] (by simp)).c 3 rfl
  have z1_0_3 : W1.frozen? ⟨w.heap.size + 1, 3, none⟩ = false := (K1.out.at (w.heap.size + 1) [.int .i64 0, .int .i64 0, .int .i64 0, .int .i64 0] (by simp)).f 3 rfl
  have c1_1_0 : W1.cell? ⟨w.heap.size, 0, none⟩ = some (.int .i64 0) := (K1.out.at (w.heap.size) [.int .i64 0, .int .i64 m, .int .i64 d, .int .i64 u] (by simp)).c 0 rfl
  have c1_1_1 : W1.cell? ⟨w.heap.size, 1, none⟩ = some (.int .i64 m) := (K1.out.at (w.heap.size) [.int .i64 0, .int .i64 m, .int .i64 d, .int .i64 u] (by simp)).c 1 rfl
  have c1_1_2 : W1.cell? ⟨w.heap.size, 2, none⟩ = some (.int .i64 d) := (K1.out.at (w.heap.size) [.int .i64 0, .int .i64 m, .int .i64 d, .int .i64 u] (by simp)).c 2 rfl
  have c1_1_3 : W1.cell? ⟨w.heap.size, 3, none⟩ = some (.int .i64 u) := (K1.out.at (w.heap.size) [.int .i64 0, .int .i64 m, .int .i64 d, .int .i64 u] (by simp)).c 3 rfl
  go_wp2_with fail
  refine (C.out _).mono ?_
  rintro e W2 ⟨rfl, hw⟩
  rw [hw]
  clear hw W2
  go_wp2_with fail
  refine (LG.out _).mono ?_
  rintro e W3 ⟨y, rfl, hv, hb⟩
  have K3 : Hid (BS w [(w.heap.size + 1, [.int .i64 0, .int .i64 0, .int .i64 0, .int .i64 0]), (w.heap.size, [.int .i64 0, .int .i64 m, .int .i64 d, .int .i64 u])] W3) := K1.out.below hb
  have hv' : Hid (IsW _ _ _) := hv
  clear c1_0_0 z1_0_0 c1_0_1 z1_0_1 c1_0_2 z1_0_2 c1_0_3 z1_0_3 c1_1_0 c1_1_1 c1_1_2 c1_1_3
  clear hb hv K1
  have c3_0_0 : W3.cell? ⟨w.heap.size + 1, 0, none⟩ = some (.int .i64 0) := (K3.out.at (w.heap.size + 1) [.int .i64 0, .int .i64 0, .int .i64 0, .int .i64 0] (by simp)).c 0 rfl
  have z3_0_0 : W3.frozen? ⟨w.heap.size + 1, 0, none⟩ = false := (K3.out.at (w.heap.size + 1) [.int .i64 0, .int .i64 0, .int .i64 0, .int .i64 0] (by simp)).f 0 rfl
  have c3_0_1 : W3.cell? ⟨w.heap.size + 1, 1, none⟩ = some (.int .i64 0) := (K3.out.at (w.heap.size + 1) [.int .i64 0, .int .i64 0, .int .i64 0, .int .i64 0] (by simp)).c 1 rfl
  have z3_0_1 : W3.frozen? ⟨w.heap.size + 1, 1, none⟩ = false := (K3.out.at (w.heap.size + 1) [.int .i64 0, .int .i64 0, .int .i64 0, .int .i64 0] (by simp)).f 1 rfl
  have c3_0_2 : W3.cell? ⟨w.heap.size + 1, 2, none⟩ = some (.int .i64 0) := (K3.out.at (w.heap.size + 1) [.int .i64 0, .int .i64 0, .int .i64 0, .int .i64 0] (by simp)).c 2 rfl
  have z3_0_2 : W3.frozen? ⟨w.heap.size + 1, 2, none⟩ = false := (K3.out.at (w.heap.size + 1) [.int .i64 0, .int .i64 0, .int .i64 0, .int .i64 0] (by simp)).f 2 rfl
  have c3_0_3 : W3.cell? ⟨w.heap.size + 1, 3, none⟩ = some (.int .i64 0) := (K3.out.at (w.heap.size + 1) [.int .i64 0, .int .i64 0, .int .i64 0, .int .i64 0] (by simp)).c 3 rfl
  have z3_0_3 : W3.frozen? ⟨w.heap.size + 1, 3, none⟩ = false := (K3.out.at (w.heap.size + 1) [.int .i64 0, .int .i64 0, .int .i64 0, .int .i64 0] (by simp)).f 3 rfl
  have c3_1_0 : W3.cell? ⟨w.heap.size, 0, none⟩ = some (.int .i64 0) := (K3.out.at (w.heap.size) [.int .i64 0, .int .i64 m, .int .i64 d, .int .i64 u] (by simp)).c 0 rfl
  have c3_1_1 : W3.cell? ⟨w.heap.size, 1, none⟩ = some (.int .i64 m) := (K3.out.at (w.heap.size) [.int .i64 0, .int .i64 m, .int .i64 d, .int .i64 u] (by simp)).c 1 rfl
  have c3_1_2 : W3.cell? ⟨w.heap.size, 2, none⟩ = some (.int .i64 d) := (K3.out.at (w.heap.size) [.int .i64 0, .int .i64 m, .int .i64 d, .int .i64 u] (by simp)).c 2 rfl
  have c3_1_3 : W3.cell? ⟨w.heap.size, 3, none⟩ = some (.int .i64 u) := (K3.out.at (w.heap.size) [.int .i64 0, .int .i64 m, .int .i64 d, .int .i64 u] (by simp)).c 3 rfl
  go_wp2_with fail
  refine (SG.out _ _ hv'.out).mono ?_
  rintro e W4 ⟨rfl, hb⟩
  have K4 : Hid (BS w [(w.heap.size + 1, [.int .i64 0, .int .i64 0, .int .i64 0, .int .i64 0]), (w.heap.size, [.int .i64 0, .int .i64 m, .int .i64 d, .int .i64 u])] W4) := K3.out.below hb
  clear c3_0_0 z3_0_0 c3_0_1 z3_0_1 c3_0_2 z3_0_2 c3_0_3 z3_0_3 c3_1_0 c3_1_1 c3_1_2 c3_1_3
  clear hb hv' K3
  have c4_0_0 : W4.cell? ⟨w.heap.size + 1, 0, none⟩ = some (.int .i64 0) := (K4.out.at (w.heap.size + 1) [.int .i64 0, .int .i64 0, .int .i64 0, .int .i64 0] (by simp)).c 0 rfl
  have z4_0_0 : W4.frozen? ⟨w.heap.size + 1, 0, none⟩ = false := (K4.out.at (w.heap.size + 1) [.int .i64 0, .int .i64 0, .int .i64 0, .int .i64 0] (by simp)).f 0 rfl
  have c4_0_1 : W4.cell? ⟨w.heap.size + 1, 1, none⟩ = some (.int .i64 0) := (K4.out.at (w.heap.size + 1) [.int .i64 0, .int .i64 0, .int .i64 0, .int .i64 0] (by simp)).c 1 rfl
  have z4_0_1 : W4.frozen? ⟨w.heap.size + 1, 1, none⟩ = false := (K4.out.at (w.heap.size + 1) [.int .i64 0, .int .i64 0, .int .i64 0, .int .i64 0] (by simp)).f 1 rfl
  have c4_0_2 : W4.cell? ⟨w.heap.size + 1, 2, none⟩ = some (.int .i64 0) := (K4.out.at (w.heap.size + 1) [.int .i64 0, .int .i64 0, .int .i64 0, .int .i64 0] (by simp)).c 2 rfl
  have z4_0_2 : W4.frozen? ⟨w.heap.size + 1, 2, none⟩ = false := (K4.out.at (w.heap.size + 1) [.int .i64 0, .int .i64 0, .int .i64 0, .int .i64 0] (by simp)).f 2 rfl
  have c4_0_3 : W4.cell? ⟨w.heap.size + 1, 3, none⟩ = some (.int .i64 0) := (K4.out.at (w.heap.size + 1) [.int .i64 0, .int .i64 0, .int .i64 0, .int .i64 0] (by simp)).c 3 rfl
  have z4_0_3 : W4.frozen? ⟨w.heap.size + 1, 3, none⟩ = false := (K4.out.at (w.heap.size + 1) [.int .i64 0, .int .i64 0, .int .i64 0, .int .i64 0] (by simp)).f 3 rfl
  have c4_1_0 : W4.cell? ⟨w.heap.size, 0, none⟩ = some (.int .i64 0) := (K4.out.at (w.heap.size) [.int .i64 0, .int .i64 m, .int .i64 d, .int .i64 u] (by simp)).c 0 rfl
  have c4_1_1 : W4.cell? ⟨w.heap.size, 1, none⟩ = some (.int .i64 m) := (K4.out.at (w.heap.size) [.int .i64 0, .int .i64 m, .int .i64 d, .int .i64 u] (by simp)).c 1 rfl
  have c4_1_2 : W4.cell? ⟨w.heap.size, 2, none⟩ = some (.int .i64 d) := (K4.out.at (w.heap.size) [.int .i64 0, .int .i64 m, .int .i64 d, .int .i64 u] (by simp)).c 2 rfl
  have c4_1_3 : W4.cell? ⟨w.heap.size, 3, none⟩ = some (.int .i64 u) := (K4.out.at (w.heap.size) [.int .i64 0, .int .i64 m, .int .i64 d, .int .i64 u] (by simp)).c 3 rfl
  go_wp2_with fail
  refine (MK.out _).mono ?_
  rintro e W5 ⟨rfl, hb⟩
  have K5 : Hid (BS w [(w.heap.size + 1, [.int .i64 0, .int .i64 0, .int .i64 0, .int .i64 0]), (w.heap.size, [.int .i64 0, .int .i64 m, .int .i64 d, .int .i64 u])] W5) := K4.out.below hb
  clear c4_0_0 z4_0_0 c4_0_1 z4_0_1 c4_0_2 z4_0_2 c4_0_3 z4_0_3 c4_1_0 c4_1_1 c4_1_2 c4_1_3
  clear hb K4
  have c5_0_0 : W5.cell? ⟨w.heap.size + 1, 0, none⟩ = some (.int .i64 0) := (K5.out.at (w.heap.size + 1) [.int .i64 0, .int .i64 0, .int .i64 0, .int .i64 0] (by simp)).c 0 rfl
  have z5_0_0 : W5.frozen? ⟨w.heap.size + 1, 0, none⟩ = false := (K5.out.at (w.heap.size + 1) [.int .i64 0, .int .i64 0, .int .i64 0, .int .i64 0] (by simp)).f 0 rfl
  have c5_0_1 : W5.cell? ⟨w.heap.size + 1, 1, none⟩ = some (.int .i64 0) := (K5.out.at (w.heap.size + 1) [.int .i64 0, .int .i64 0, .int .i64 0, .int .i64 0] (by simp)).c 1 rfl
  have z5_0_1 : W5.frozen? ⟨w.heap.size + 1, 1, none⟩ = false := (K5.out.at (w.heap.size + 1) [.int .i64 0, .int .i64 0, .int .i64 0, .int .i64 0] (by simp)).f 1 rfl
  have c5_0_2 : W5.cell? ⟨w.heap.size + 1, 2, none⟩ = some (.int .i64 0) := (K5.out.at (w.heap.size + 1) [.int .i64 0, .int .i64 0, .int .i64 0, .int .i64 0] (by simp)).c 2 rfl
  have z5_0_2 : W5.frozen? ⟨w.heap.size + 1, 2, none⟩ = false := (K5.out.at (w.heap.size + 1) [.int .i64 0, .int .i64 0, .int .i64 0, .int .i64 0] (by simp)).f 2 rfl
  have c5_0_3 : W5.cell? ⟨w.heap.size + 1, 3, none⟩ = some (.int .i64 0) := (K5.out.at (w.heap.size + 1) [.int .i64 0, .int .i64 0, .int .i64 0, .int .i64 0] (by simp)).c 3 rfl
  have z5_0_3 : W5.frozen? ⟨w.heap.size + 1, 3, none⟩ = false := (K5.out.at (w.heap.size + 1) [.int .i64 0, .int .i64 0, .int .i64 0, .int .i64 0] (by simp)).f 3 rfl
  have c5_1_0 : W5.cell? ⟨w.heap.size, 0, none⟩ = some (.int .i64 0) := (K5.out.at (w.heap.size) [.int .i64 0, .int .i64 m, .int .i64 d, .int .i64 u] (by simp)).c 0 rfl
  have c5_1_1 : W5.cell? ⟨w.heap.size, 1, none⟩ = some (.int .i64 m) := (K5.out.at (w.heap.size) [.int .i64 0, .int .i64 m, .int .i64 d, .int .i64 u] (by simp)).c 1 rfl
  have c5_1_2 : W5.cell? ⟨w.heap.size, 2, none⟩ = some (.int .i64 d) := (K5.out.at (w.heap.size) [.int .i64 0, .int .i64 m, .int .i64 d, .int .i64 u] (by simp)).c 2 rfl
  have c5_1_3 : W5.cell? ⟨w.heap.size, 3, none⟩ = some (.int .i64 u) := (K5.out.at (w.heap.size) [.int .i64 0, .int .i64 m, .int .i64 d, .int .i64 u] (by simp)).c 3 rfl
  have XF : Hid (Bx (W5.setCells (w.heap.size + 1) 0 [.int .i64 I, .int .i64 M, .int .i64 D, .int .i64 U]) (w.heap.size + 1) [.int .i64 I, .int .i64 M, .int .i64 D, .int .i64 U]) := (K5.out.at (w.heap.size + 1) [.int .i64 0, .int .i64 0, .int .i64 0, .int .i64 0] (by simp)).setAll _ rfl
  have BF : Hid (Below w.heap.size w (W5.setCells (w.heap.size + 1) 0 [.int .i64 I, .int .i64 M, .int .i64 D, .int .i64 U])) := below_setCells (by omega) _ _ _ K5.out.1
  have y0 := XF.out.c 0 rfl
  have y1 := XF.out.c 1 rfl
  have y2 := XF.out.c 2 rfl
  have y3 := XF.out.c 3 rfl
  simp only [World.setCells, Nat.zero_add, Nat.reduceAdd] at y0 y1 y2 y3
  clear XF
  go_wp2
  exact bodyPost_ret (v := .tuple #[.agg #[.int .i64 I, .int .i64 M, .int .i64 D, .int .i64 U], .int .i64 E]) (by simp [results, Try.results27, go_sem, y0, y1, y2, y3]) rfl ⟨rfl, BF.out⟩

set_option maxRecDepth 100000 in
set_option maxHeartbeats 4000000 in
theorem rpjus_EB (m d u D1 U1 M1 D2 L l I M D U E : Int) (m1 : -2147483647 ≤ m) (m2 : m ≤ 2147483647) (d1 : -2147483647 ≤ d) (d2 : d ≤ 2147483647) (q1 : -1000000000 ≤ u.tdiv 86400000000) (q2 : u.tdiv 86400000000 ≤ 1000000000) (hd : d + u.tdiv 86400000000 = D1) (hu : u.tmod 86400000000 = U1) (hm : m + D1.tdiv 30 = M1) (he : D1.tmod 30 = D2) (q3 : -100000000 ≤ D1.tdiv 30) (q4 : D1.tdiv 30 ≤ 100000000) (e1 : -30 < D2) (e2 : D2 < 30) (f1 : -86400000000 < U1) (f2 : U1 < 86400000000) (g1 : ¬ 0 < M1) (g2 : ¬ M1 < 0) (k1 : 0 < D2) (k2 : ¬ U1 < 0)
    (R : Hid (∀ w : World, Calls Try.prog 16 #[.agg #[.int .i64 0, .int .i64 m, .int .i64 d, .int .i64 u]] w fun r' w' => r' = .returned (.bool true) ∧ Below w.heap.size w w'))
    (C : Hid (∀ w : World, Calls Try.prog 34 #[.int .i64 D1, .int .i64 2147483647] w fun r' w' => r' = .returned (.bool true) ∧ w' = w))
    (LG : Hid (∀ (w : World), Calls Try.prog 43 #[.agg #[.int .i64 0, .int .i64 0, .int .i64 D2, .int .i64 U1]] w fun r' w' => ∃ v', r' = .returned v' ∧ IsW w' v' (L) ∧ Below w.heap.size w w'))
    (SG : Hid (∀ (y : Value) (w : World), IsW w y L → Calls Try.prog 41 #[y] w fun r' w' => r' = .returned (.int .i64 l) ∧ Below w.heap.size w w'))
    (MK : Hid (∀ w : World, Calls Try.prog 21 #[.int .i64 M1, .int .i64 D2, .int .i64 U1] w fun r' w' => r' = .returned (.tuple #[.agg #[.int .i64 I, .int .i64 M, .int .i64 D, .int .i64 U], .int .i64 E]) ∧ Below w.heap.size w w'))
    (w : World) :
    Calls Try.prog 27 #[.agg #[.int .i64 0, .int .i64 m, .int .i64 d, .int .i64 u]] w fun r' w' => r' = .returned (.tuple #[.agg #[.int .i64 I, .int .i64 M, .int .i64 D, .int .i64 U], .int .i64 E]) ∧ Below w.heap.size w w' := by
  have w1 : IntKind.i64.wrap (u.tdiv 86400000000) = u.tdiv 86400000000 := by rw [IntKind.wrap_i64]; omega
  have w2 : IntKind.i64.wrap (d + u.tdiv 86400000000) = D1 := by rw [IntKind.wrap_i64]; omega
  have w3 : IntKind.i64.wrap (D1.tdiv 30) = D1.tdiv 30 := by rw [IntKind.wrap_i64]; omega
  have w4 : IntKind.i64.wrap (m + D1.tdiv 30) = M1 := by rw [IntKind.wrap_i64]; omega
  have k3 : ¬ D2 < 0 := by omega
  have K0 : Hid (BS w [(w.heap.size + 1, [.int .i64 0, .int .i64 0, .int .i64 0, .int .i64 0]), (w.heap.size, [.int .i64 0, .int .i64 m, .int .i64 d, .int .i64 u])] ((w.alloc (.cells #[.int .i64 0, .int .i64 m, .int .i64 d, .int .i64 u] 23)).alloc (.cells #[.int .i64 0, .int .i64 0, .int .i64 0, .int .i64 0] 23))) := (((BS.start w).new [.int .i64 0, .int .i64 m, .int .i64 d, .int .i64 u] 23 rfl).new [.int .i64 0, .int .i64 0, .int .i64 0, .int .i64 0] 23 (by simp))
  go_enter Try.func27, Try.ntmps27
  go_wp2_with fail
  refine (R.out _).mono ?_
  rintro e W1 ⟨rfl, hb⟩
  have K1 : Hid (BS w [(w.heap.size + 1, [.int .i64 0, .int .i64 0, .int .i64 0, .int .i64 0]), (w.heap.size, [.int .i64 0, .int .i64 m, .int .i64 d, .int .i64 u])] W1) := K0.out.below hb
  clear hb K0
  have c1_0_0 : W1.cell? ⟨w.heap.size + 1, 0, none⟩ = some (.int .i64 0) := (K1.out.at (w.heap.size + 1) [.int .i64 0, .int .i64 0, .int .i64 0, .int .i64 0] (by simp)).c 0 rfl
  have z1_0_0 : W1.frozen? ⟨w.heap.size + 1, 0, none⟩ = false := (K1.out.at (w.heap.size + 1) [.int .i64 0, .int .i64 0, .int .i64 0, .int .i64 0] (by simp)).f 0 rfl
  have c1_0_1 : W1.cell? ⟨w.heap.size + 1, 1, none⟩ = some (.int .i64 0) := (K1.out.at (w.heap.size + 1) [.int .i64 0, .int .i64 0, .int .i64 0, .int .i64 0] (by simp)).c 1 rfl
  have z1_0_1 : W1.frozen? ⟨w.heap.size + 1, 1, none⟩ = false := (K1.out.at (w.heap.size + 1) [.int .i64 0, .int .i64 0, .int .i64 0, .int .i64 0] (by simp)).f 1 rfl
  have c1_0_2 : W1.cell? ⟨w.heap.size + 1, 2, none⟩ = some (.int .i64 0) := (K1.out.at (w.heap.size + 1) [.int .i64 0, .int .i64 0, .int .i64 0, .int .i64 0] (by simp)).c 2 rfl
  have z1_0_2 : W1.frozen? ⟨w.heap.size + 1, 2, none⟩ = false := (K1.out.at (w.heap.size + 1) [.int .i64 0, .int .i64 0, .int .i64 0, .int .i64 0] (by simp)).f 2 rfl
  have c1_0_3 : W1.cell? ⟨w.heap.size + 1, 3, none⟩ = some (.int .i64 0) := (K1.out.at (w.heap.size + 1) [.int .i64 0, .int .i64 0, .int .i64 0, .int .i64 0] (by simp)).c 3 rfl
  have z1_0_3 : W1.frozen? ⟨w.heap.size + 1, 3, none⟩ = false := (K1.out.at (w.heap.size + 1) [.int .i64 0, .int .i64 0, .int .i64 0, .int .i64 0] (by simp)).f 3 rfl
  have c1_1_0 : W1.cell? ⟨w.heap.size, 0, none⟩ = some (.int .i64 0) := (K1.out.at (w.heap.size) [.int .i64 0, .int .i64 m, .int .i64 d, .int .i64 u] (by simp)).c 0 rfl
  have c1_1_1 : W1.cell? ⟨w.heap.size, 1, none⟩ = some (.int .i64 m) := (K1.out.at (w.heap.size) [.int .i64 0, .int .i64 m, .int .i64 d, .int .i64 u] (by simp)).c 1 rfl
  have c1_1_2 : W1.cell? ⟨w.heap.size, 2, none⟩ = some (.int .i64 d) := (K1.out.at (w.heap.size) [.int .i64 0, .int .i64 m, .int .i64 d, .int .i64 u] (by simp)).c 2 rfl
  have c1_1_3 : W1.cell? ⟨w.heap.size, 3, none⟩ = some (.int .i64 u) := (K1.out.at (w.heap.size) [.int .i64 0, .int .i64 m, .int .i64 d, .int .i64 u] (by simp)).c 3 rfl
  go_wp2_with fail
  refine (C.out _).mono ?_
  rintro e W2 ⟨rfl, hw⟩
  rw [hw]
  clear hw W2
  go_wp2_with fail
  refine (LG.out _).mono ?_
  rintro e W3 ⟨y, rfl, hv, hb⟩
  have K3 : Hid (BS w [(w.heap.size + 1, [.int .i64 0, .int .i64 0, .int .i64 0, .int .i64 0]), (w.heap.size, [.int .i64 0, .int .i64 m, .int .i64 d, .int .i64 u])] W3) := K1.out.below hb
  have hv' : Hid (IsW _ _ _) := hv
  clear c1_0_0 z1_0_0 c1_0_1 z1_0_1 c1_0_2 z1_0_2 c1_0_3 z1_0_3 c1_1_0 c1_1_1 c1_1_2 c1_1_3
  clear hb hv K1
  have c3_0_0 : W3.cell? ⟨w.heap.size + 1, 0, none⟩ = some (.int .i64 0) := (K3.out.at (w.heap.size + 1) [.int .i64 0, .int .i64 0, .int .i64 0, .int .i64 0] (by simp)).c 0 rfl
  have z3_0_0 : W3.frozen? ⟨w.heap.size + 1, 0, none⟩ = false := (K3.out.at (w.heap.size + 1) [.int .i64 0, .int .i64 0, .int .i64 0, .int .i64 0] (by simp)).f 0 rfl
  have c3_0_1 : W3.cell? ⟨w.heap.size + 1, 1, none⟩ = some (.int .i64 0) := (K3.out.at (w.heap.size + 1) [.int .i64 0, .int .i64 0, .int .i64 0, .int .i64 0] (by simp)).c 1 rfl
  have z3_0_1 : W3.frozen? ⟨w.heap.size + 1, 1, none⟩ = false := (K3.out.at (w.heap.size + 1) [.int .i64 0, .int .i64 0, .int .i64 0, .int .i64 0] (by simp)).f 1 rfl
  have c3_0_2 : W3.cell? ⟨w.heap.size + 1, 2, none⟩ = some (.int .i64 0) := (K3.out.at (w.heap.size + 1) [.int .i64 0, .int .i64 0, .int .i64 0, .int .i64 0] (by simp)).c 2 rfl
  have z3_0_2 : W3.frozen? ⟨w.heap.size + 1, 2, none⟩ = false := (K3.out.at (w.heap.size + 1) [.int .i64 0, .int .i64 0, .int .i64 0, .int .i64 0] (by simp)).f 2 rfl
  have c3_0_3 : W3.cell? ⟨w.heap.size + 1, 3, none⟩ = some (.int .i64 0) := (K3.out.at (w.heap.size + 1) [.int .i64 0, .int .i64 0, .int .i64 0, .int .i64 0] (by simp)).c 3 rfl
  have z3_0_3 : W3.frozen? ⟨w.heap.size + 1, 3, none⟩ = false := (K3.out.at (w.heap.size + 1) [.int .i64 0, .int .i64 0, .int .i64 0, .int .i64 0] (by simp)).f 3 rfl
  have c3_1_0 : W3.cell? ⟨w.heap.size, 0, none⟩ = some (.int .i64 0) := (K3.out.at (w.heap.size) [.int .i64 0, .int .i64 m, .int .i64 d, .int .i64 u] (by simp)).c 0 rfl
  have c3_1_1 : W3.cell? ⟨w.heap.size, 1, none⟩ = some (.int .i64 m) := (K3.out.at (w.heap.size) [.int .i64 0, .int .i64 m, .int .i64 d, .int .i64 u] (by simp)).c 1 rfl
  have c3_1_2 : W3.cell? ⟨w.heap.size, 2, none⟩ = some (.int .i64 d) := (K3.out.at (w.heap.size) [.int .i64 0, .int .i64 m, .int .i64 d, .int .i64 u] (by simp)).c 2 rfl
  have c3_1_3 : W3.cell? ⟨w.heap.size, 3, none⟩ = some (.int .i64 u) := (K3.out.at (w.heap.size) [.int .i64 0, .int .i64 m, .int .i64 d, .int .i64 u] (by simp)).c 3 rfl
  go_wp2_with fail
  refine (SG.out _ _ hv'.out).mono ?_
  rintro e W4 ⟨rfl, hb⟩
  have K4 : Hid (BS w [(w.heap.size + 1, [.int .i64 0, .int .i64 0, .int .i64 0, .int .i64 0]), (w.heap.size, [.int .i64 0, .int .i64 m, .int .i64 d, .int .i64 u])] W4) := K3.out.below hb
  clear c3_0_0 z3_0_0 c3_0_1 z3_0_1 c3_0_2 z3_0_2 c3_0_3 z3_0_3 c3_1_0 c3_1_1 c3_1_2 c3_1_3
  clear hb hv' K3
  have c4_0_0 : W4.cell? ⟨w.heap.size + 1, 0, none⟩ = some (.int .i64 0) := (K4.out.at (w.heap.size + 1) [.int .i64 0, .int .i64 0, .int .i64 0, .int .i64 0] (by simp)).c 0 rfl
  have z4_0_0 : W4.frozen? ⟨w.heap.size + 1, 0, none⟩ = false := (K4.out.at (w.heap.size + 1) [.int .i64 0, .int .i64 0, .int .i64 0, .int .i64 0] (by simp)).f 0 rfl
  have c4_0_1 : W4.cell? ⟨w.heap.size + 1, 1, none⟩ = some (.int .i64 0) := (K4.out.at (w.heap.size + 1) [.int .i64 0, .int .i64 0, .int .i64 0, .int .i64 0] (by simp)).c 1 rfl
  have z4_0_1 : W4.frozen? ⟨w.heap.size + 1, 1, none⟩ = false := (K4.out.at (w.heap.size + 1) [.int .i64 0, .int .i64 0, .int .i64 0, .int .i64 0] (by simp)).f 1 rfl
  have c4_0_2 : W4.cell? ⟨w.heap.size + 1, 2, none⟩ = some (.int .i64 0) := (K4.out.at (w.heap.size + 1) [.int .i64 0, .int .i64 0, .int .i64 0, .int .i64 0] (by simp)).c 2 rfl
  have z4_0_2 : W4.frozen? ⟨w.heap.size + 1, 2, none⟩ = false := (K4.out.at (w.heap.size + 1) [.int .i64 0, .int .i64 0, .int .i64 0, .int .i64 0] (by simp)).f 2 rfl
  have c4_0_3 : W4.cell? ⟨w.heap.size + 1, 3, none⟩ = some (.int .i64 0) := (K4.out.at (w.heap.size + 1) [.int .i64 0, .int .i64 0, .int .i64 0, .int .i64 0] (by simp)).c 3 rfl
  have z4_0_3 : W4.frozen? ⟨w.heap.size + 1, 3, none⟩ = false := (K4.out.at (w.heap.size + 1) [.int .i64 0, .int .i64 0, .int .i64 0, .int .i64 0] (by simp)).f 3 rfl
  have c4_1_0 : W4.cell? ⟨w.heap.size, 0, none⟩ = some (.int .i64 0) := (K4.out.at (w.heap.size) [.int .i64 0, .int .i64 m, .int .i64 d, .int .i64 u] (by simp)).c 0 rfl
  have c4_1_1 : W4.cell? ⟨w.heap.size, 1, none⟩ = some (.int .i64 m) := (K4.out.at (w.heap.size) [.int .i64 0, .int .i64 m, .int .i64 d, .int .i64 u] (by simp)).c 1 rfl
  have c4_1_2 : W4.cell? ⟨w.heap.size, 2, none⟩ = some (.int .i64 d) := (K4.out.at (w.heap.size) [.int .i64 0, .int .i64 m, .int .i64 d, .int .i64 u] (by simp)).c 2 rfl
  have c4_1_3 : W4.cell? ⟨w.heap.size, 3, none⟩ = some (.int .i64 u) := (K4.out.at (w.heap.size) [.int .i64 0, .int .i64 m, .int .i64 d, .int .i64 u] (by simp)).c 3 rfl
  go_wp2_with fail
  refine (MK.out _).mono ?_
  rintro e W5 ⟨rfl, hb⟩
  have K5 : Hid (BS w [(w.heap.size + 1, [.int .i64 0, .int .i64 0, .int .i64 0, .int .i64 0]), (w.heap.size, [.int .i64 0, .int .i64 m, .int .i64 d, .int .i64 u])] W5) := K4.out.below hb
  clear c4_0_0 z4_0_0 c4_0_1 z4_0_1 c4_0_2 z4_0_2 c4_0_3 z4_0_3 c4_1_0 c4_1_1 c4_1_2 c4_1_3
  clear hb K4
  have c5_0_0 : W5.cell? ⟨w.heap.size + 1, 0, none⟩ = some (.int .i64 0) := (K5.out.at (w.heap.size + 1) [.int .i64 0, .int .i64 0, .int .i64 0, .int .i64 0] (by simp)).c 0 rfl
  have z5_0_0 : W5.frozen? ⟨w.heap.size + 1, 0, none⟩ = false := (K5.out.at (w.heap.size + 1) [.int .i64 0, .int .i64 0, .int .i64 0, .int .i64 0] (by simp)).f 0 rfl
  have c5_0_1 : W5.cell? ⟨w.heap.size + 1, 1, none⟩ = some (.int .i64 0) := (K5.out.at (w.heap.size + 1) [.int .i64 0, .int .i64 0, .int .i64 0, .int .i64 0] (by simp)).c 1 rfl
  have z5_0_1 : W5.frozen? ⟨w.heap.size + 1, 1, none⟩ = false := (K5.out.at (w.heap.size + 1) [.int .i64 0, .int .i64 0, .int .i64 0, .int .i64 0] (by simp)).f 1 rfl
  have c5_0_2 : W5.cell? ⟨w.heap.size + 1, 2, none⟩ = some (.int .i64 0) := (K5.out.at (w.heap.size + 1) [.int .i64 0, .int .i64 0, .int .i64 0, .int .i64 0] (by simp)).c 2 rfl
  have z5_0_2 : W5.frozen? ⟨w.heap.size + 1, 2, none⟩ = false := (K5.out.at (w.heap.size + 1) [.int .i64 0, .int .i64 0, .int .i64 0, .int .i64 0] (by simp)).f 2 rfl
  have c5_0_3 : W5.cell? ⟨w.heap.size + 1, 3, none⟩ = some (.int .i64 0) := (K5.out.at (w.heap.size + 1) [.int .i64 0, .int .i64 0, .int .i64 0, .int .i64 0] (by simp)).c 3 rfl
  have z5_0_3 : W5.frozen? ⟨w.heap.size + 1, 3, none⟩ = false := (K5.out.at (w.heap.size + 1) [.int .i64 0, .int .i64 0, .int .i64 0, .int .i64 0] (by simp)).f 3 rfl
  have c5_1_0 : W5.cell? ⟨w.heap.size, 0, none⟩ = some (.int .i64 0) := (K5.out.at (w.heap.size) [.int .i64 0, .int .i64 m, .int .i64 d, .int .i64 u] (by simp)).c 0 rfl
  have c5_1_1 : W5.cell? ⟨w.heap.size, 1, none⟩ = some (.int .i64 m) := (K5.out.at (w.heap.size) [.int .i64 0, .int .i64 m, .int .i64 d, .int .i64 u] (by simp)).c 1 rfl
  have c5_1_2 : W5.cell? ⟨w.heap.size, 2, none⟩ = some (.int .i64 d) := (K5.out.at (w.heap.size) [.int .i64 0, .int .i64 m, .int .i64 d, .int .i64 u] (by simp)).c 2 rfl
  have c5_1_3 : W5.cell? ⟨w.heap.size, 3, none⟩ = some (.int .i64 u) := (K5.out.at (w.heap.size) [.int .i64 0, .int .i64 m, .int .i64 d, .int .i64 u] (by simp)).c 3 rfl
  have XF : Hid (Bx (W5.setCells (w.heap.size + 1) 0 [.int .i64 I, .int .i64 M, .int .i64 D, .int .i64 U]) (w.heap.size + 1) [.int .i64 I, .int .i64 M, .int .i64 D, .int .i64 U]) := (K5.out.at (w.heap.size + 1) [.int .i64 0, .int .i64 0, .int .i64 0, .int .i64 0] (by simp)).setAll _ rfl
  have BF : Hid (Below w.heap.size w (W5.setCells (w.heap.size + 1) 0 [.int .i64 I, .int .i64 M, .int .i64 D, .int .i64 U])) := below_setCells (by omega) _ _ _ K5.out.1
  have y0 := XF.out.c 0 rfl
  have y1 := XF.out.c 1 rfl
  have y2 := XF.out.c 2 rfl
  have y3 := XF.out.c 3 rfl
  simp only [World.setCells, Nat.zero_add, Nat.reduceAdd] at y0 y1 y2 y3
  clear XF
  go_wp2
  exact bodyPost_ret (v := .tuple #[.agg #[.int .i64 I, .int .i64 M, .int .i64 D, .int .i64 U], .int .i64 E]) (by simp [results, Try.results27, go_sem, y0, y1, y2, y3]) rfl ⟨rfl, BF.out⟩

set_option maxRecDepth 100000 in
set_option maxHeartbeats 4000000 in
theorem rpjus_EC (m d u D1 U1 M1 D2 L l I M D U E : Int) (m1 : -2147483647 ≤ m) (m2 : m ≤ 2147483647) (d1 : -2147483647 ≤ d) (d2 : d ≤ 2147483647) (q1 : -1000000000 ≤ u.tdiv 86400000000) (q2 : u.tdiv 86400000000 ≤ 1000000000) (hd : d + u.tdiv 86400000000 = D1) (hu : u.tmod 86400000000 = U1) (hm : m + D1.tdiv 30 = M1) (he : D1.tmod 30 = D2) (q3 : -100000000 ≤ D1.tdiv 30) (q4 : D1.tdiv 30 ≤ 100000000) (e1 : -30 < D2) (e2 : D2 < 30) (f1 : -86400000000 < U1) (f2 : U1 < 86400000000) (g1 : ¬ 0 < M1) (g2 : ¬ M1 < 0) (k1 : D2 < 0) (k2 : 0 < U1)
    (R : Hid (∀ w : World, Calls Try.prog 16 #[.agg #[.int .i64 0, .int .i64 m, .int .i64 d, .int .i64 u]] w fun r' w' => r' = .returned (.bool true) ∧ Below w.heap.size w w'))
    (C : Hid (∀ w : World, Calls Try.prog 34 #[.int .i64 D1, .int .i64 2147483647] w fun r' w' => r' = .returned (.bool true) ∧ w' = w))
    (LG : Hid (∀ (w : World), Calls Try.prog 43 #[.agg #[.int .i64 0, .int .i64 0, .int .i64 D2, .int .i64 U1]] w fun r' w' => ∃ v', r' = .returned v' ∧ IsW w' v' (L) ∧ Below w.heap.size w w'))
    (SG : Hid (∀ (y : Value) (w : World), IsW w y L → Calls Try.prog 41 #[y] w fun r' w' => r' = .returned (.int .i64 l) ∧ Below w.heap.size w w'))
    (MK : Hid (∀ w : World, Calls Try.prog 21 #[.int .i64 M1, .int .i64 (D2 + 1), .int .i64 (U1 - 86400000000)] w fun r' w' => r' = .returned (.tuple #[.agg #[.int .i64 I, .int .i64 M, .int .i64 D, .int .i64 U], .int .i64 E]) ∧ Below w.heap.size w w'))
    (w : World) :
    Calls Try.prog 27 #[.agg #[.int .i64 0, .int .i64 m, .int .i64 d, .int .i64 u]] w fun r' w' => r' = .returned (.tuple #[.agg #[.int .i64 I, .int .i64 M, .int .i64 D, .int .i64 U], .int .i64 E]) ∧ Below w.heap.size w w' := by
  have w1 : IntKind.i64.wrap (u.tdiv 86400000000) = u.tdiv 86400000000 := by rw [IntKind.wrap_i64]; omega
  have w2 : IntKind.i64.wrap (d + u.tdiv 86400000000) = D1 := by rw [IntKind.wrap_i64]; omega
  have w3 : IntKind.i64.wrap (D1.tdiv 30) = D1.tdiv 30 := by rw [IntKind.wrap_i64]; omega
  have w4 : IntKind.i64.wrap (m + D1.tdiv 30) = M1 := by rw [IntKind.wrap_i64]; omega
  have k3 : ¬ 0 < D2 := by omega
  have K0 : Hid (BS w [(w.heap.size + 1, [.int .i64 0, .int .i64 0, .int .i64 0, .int .i64 0]), (w.heap.size, [.int .i64 0, .int .i64 m, .int .i64 d, .int .i64 u])] ((w.alloc (.cells #[.int .i64 0, .int .i64 m, .int .i64 d, .int .i64 u] 23)).alloc (.cells #[.int .i64 0, .int .i64 0, .int .i64 0, .int .i64 0] 23))) := (((BS.start w).new [.int .i64 0, .int .i64 m, .int .i64 d, .int .i64 u] 23 rfl).new [.int .i64 0, .int .i64 0, .int .i64 0, .int .i64 0] 23 (by simp))
  go_enter Try.func27, Try.ntmps27
  go_wp2_with fail
  refine (R.out _).mono ?_
  rintro e W1 ⟨rfl, hb⟩
  have K1 : Hid (BS w [(w.heap.size + 1, [.int .i64 0, .int .i64 0, .int .i64 0, .int .i64 0]), (w.heap.size, [.int .i64 0, .int .i64 m, .int .i64 d, .int .i64 u])] W1) := K0.out.below hb
  clear hb K0
  have c1_0_0 : W1.cell? ⟨w.heap.size + 1, 0, none⟩ = some (.int .i64 0) := (K1.out.at (w.heap.size + 1) [.int .i64 0, .int .i64 0, .int .i64 0, .int .i64 0] (by simp)).c 0 rfl
  have z1_0_0 : W1.frozen? ⟨w.heap.size + 1, 0, none⟩ = false := (K1.out.at (w.heap.size + 1) [.int .i64 0, .int .i64 0, .int .i64 0, .int .i64 0] (by simp)).f 0 rfl
  have c1_0_1 : W1.cell? ⟨w.heap.size + 1, 1, none⟩ = some (.int .i64 0) := (K1.out.at (w.heap.size + 1) [.int .i64 0, .int .i64 0, .int .i64 0, .int .i64 0] (by simp)).c 1 rfl
  have z1_0_1 : W1.frozen? ⟨w.heap.size + 1, 1, none⟩ = false := (K1.out.at (w.heap.size + 1) [.int .i64 0, .int .i64 0, .int .i64 0, .int .i64 0] (by simp)).f 1 rfl
  have c1_0_2 : W1.cell? ⟨w.heap.size + 1, 2, none⟩ = some (.int .i64 0) := (K1.out.at (w.heap.size + 1) [.int .i64 0, .int .i64 0, .int .i64 0, .int .i64 0] (by simp)).c 2 rfl
  have z1_0_2 : W1.frozen? ⟨w.heap.size + 1, 2, none⟩ = false := (K1.out.at (w.heap.size + 1) [.int .i64 0, .int .i64 0, .int .i64 0, .int .i64 0] (by simp)).f 2 rfl
  have c1_0_3 : W1.cell? ⟨w.heap.size + 1, 3, none⟩ = some (.int .i64 0) := (K1.out.at (w.heap.size + 1) [.int .i64 0, .int .i64 0, .int .i64 0, .int .i64 0] (by simp)).c 3 rfl
  have z1_0_3 : W1.frozen? ⟨w.heap.size + 1, 3, none⟩ = false := (K1.out.at (w.heap.size + 1) [.int .i64 0, .int .i64 0, .int .i64 0, .int .i64 0] (by simp)).f 3 rfl
  have c1_1_0 : W1.cell? ⟨w.heap.size, 0, none⟩ = some (.int .i64 0) := (K1.out.at (w.heap.size) [.int .i64 0, .int .i64 m, .int .i64 d, .int .i64 u] (by simp)).c 0 rfl
  have c1_1_1 : W1.cell? ⟨w.heap.size, 1, none⟩ = some (.int .i64 m) := (K1.out.at (w.heap.size) [.int .i64 0, .int .i64 m, .int .i64 d, .int .i64 u] (by simp)).c 1 rfl
  have c1_1_2 : W1.cell? ⟨w.heap.size, 2, none⟩ = some (.int .i64 d) := (K1.out.at (w.heap.size) [.int .i64 0, .int .i64 m, .int .i64 d, .int .i64 u] (by simp)).c 2 rfl
  have c1_1_3 : W1.cell? ⟨w.heap.size, 3, none⟩ = some (.int .i64 u) := (K1.out.at (w.heap.size) [.int .i64 0, .int .i64 m, .int .i64 d, .int .i64 u] (by simp)).c 3 rfl
  go_wp2_with fail
  refine (C.out _).mono ?_
  rintro e W2 ⟨rfl, hw⟩
  rw [hw]
  clear hw W2
  go_wp2_with fail
  refine (LG.out _).mono ?_
  rintro e W3 ⟨y, rfl, hv, hb⟩
  have K3 : Hid (BS w [(w.heap.size + 1, [.int .i64 0, .int .i64 0, .int .i64 0, .int .i64 0]), (w.heap.size, [.int .i64 0, .int .i64 m, .int .i64 d, .int .i64 u])] W3) := K1.out.below hb
  have hv' : Hid (IsW _ _ _) := hv
  clear c1_0_0 z1_0_0 c1_0_1 z1_0_1 c1_0_2 z1_0_2 c1_0_3 z1_0_3 c1_1_0 c1_1_1 c1_1_2 c1_1_3
  clear hb hv K1
  have c3_0_0 : W3.cell? ⟨w.heap.size + 1, 0, none⟩ = some (.int .i64 0) := (K3.out.at (w.heap.size + 1) [.int .i64 0, .int .i64 0, .int .i64 0, .int .i64 0] (by simp)).c 0 rfl
  have z3_0_0 : W3.frozen? ⟨w.heap.size + 1, 0, none⟩ = false := (K3.out.at (w.heap.size + 1) [.int .i64 0, .int .i64 0, .int .i64 0, .int .i64 0] (by simp)).f 0 rfl
  have c3_0_1 : W3.cell? ⟨w.heap.size + 1, 1, none⟩ = some (.int .i64 0) := (K3.out.at (w.heap.size + 1) [.int .i64 0, .int .i64 0, .int .i64 0, .int .i64 0] (by simp)).c 1 rfl
  have z3_0_1 : W3.frozen? ⟨w.heap.size + 1, 1, none⟩ = false := (K3.out.at (w.heap.size + 1) [.int .i64 0, .int .i64 0, .int .i64 0, .int .i64 0] (by simp)).f 1 rfl
  have c3_0_2 : W3.cell? ⟨w.heap.size + 1, 2, none⟩ = some (.int .i64 0) := (K3.out.at (w.heap.size + 1) [.int .i64 0, .int .i64 0, .int .i64 0, .int .i64 0] (by simp)).c 2 rfl
  have z3_0_2 : W3.frozen? ⟨w.heap.size + 1, 2, none⟩ = false := (K3.out.at (w.heap.size + 1) [.int .i64 0, .int .i64 0, .int .i64 0, .int .i64 0] (by simp)).f 2 rfl
  have c3_0_3 : W3.cell? ⟨w.heap.size + 1, 3, none⟩ = some (.int .i64 0) := (K3.out.at (w.heap.size + 1) [.int .i64 0, .int .i64 0, .int .i64 0, .int .i64 0] (by simp)).c 3 rfl
  have z3_0_3 : W3.frozen? ⟨w.heap.size + 1, 3, none⟩ = false := (K3.out.at (w.heap.size + 1) [.int .i64 0, .int .i64 0, .int .i64 0, .int .i64 0] (by simp)).f 3 rfl
  have c3_1_0 : W3.cell? ⟨w.heap.size, 0, none⟩ = some (.int .i64 0) := (K3.out.at (w.heap.size) [.int .i64 0, .int .i64 m, .int .i64 d, .int .i64 u] (by simp)).c 0 rfl
  have c3_1_1 : W3.cell? ⟨w.heap.size, 1, none⟩ = some (.int .i64 m) := (K3.out.at (w.heap.size) [.int .i64 0, .int .i64 m, .int .i64 d, .int .i64 u] (by simp)).c 1 rfl
  have c3_1_2 : W3.cell? ⟨w.heap.size, 2, none⟩ = some (.int .i64 d) := (K3.out.at (w.heap.size) [.int .i64 0, .int .i64 m, .int .i64 d, .int .i64 u] (by simp)).c 2 rfl
  have c3_1_3 : W3.cell? ⟨w.heap.size, 3, none⟩ = some (.int .i64 u) := (K3.out.at (w.heap.size) [.int .i64 0, .int .i64 m, .int .i64 d, .int .i64 u] (by simp)).c 3 rfl
  go_wp2_with fail
  refine (SG.out _ _ hv'.out).mono ?_
  rintro e W4 ⟨rfl, hb⟩
  have K4 : Hid (BS w [(w.heap.size + 1, [.int .i64 0, .int .i64 0, .int .i64 0, .int .i64 0]), (w.heap.size, [.int .i64 0, .int .i64 m, .int .i64 d, .int .i64 u])] W4) := K3.out.below hb
  clear c3_0_0 z3_0_0 c3_0_1 z3_0_1 c3_0_2 z3_0_2 c3_0_3 z3_0_3 c3_1_0 c3_1_1 c3_1_2 c3_1_3
  clear hb hv' K3
  have c4_0_0 : W4.cell? ⟨w.heap.size + 1, 0, none⟩ = some (.int .i64 0) := (K4.out.at (w.heap.size + 1) [.int .i64 0, .int .i64 0, .int .i64 0, .int .i64 0] (by simp)).c 0 rfl
  have z4_0_0 : W4.frozen? ⟨w.heap.size + 1, 0, none⟩ = false := (K4.out.at (w.heap.size + 1) [.int .i64 0, .int .i64 0, .int .i64 0, .int .i64 0] (by simp)).f 0 rfl
  have c4_0_1 : W4.cell? ⟨w.heap.size + 1, 1, none⟩ = some (.int .i64 0) := (K4.out.at (w.heap.size + 1) [.int .i64 0, .int .i64 0, .int .i64 0, .int .i64 0] (by simp)).c 1 rfl
  have z4_0_1 : W4.frozen? ⟨w.heap.size + 1, 1, none⟩ = false := (K4.out.at (w.heap.size + 1) [.int .i64 0, .int .i64 0, .int .i64 0, .int .i64 0] (by simp)).f 1 rfl
  have c4_0_2 : W4.cell? ⟨w.heap.size + 1, 2, none⟩ = some (.int .i64 0) := (K4.out.at (w.heap.size + 1) [.int .i64 0, .int .i64 0, .int .i64 0, .int .i64 0] (by simp)).c 2 rfl
  have z4_0_2 : W4.frozen? ⟨w.heap.size + 1, 2, none⟩ = false := (K4.out.at (w.heap.size + 1) [.int .i64 0, .int .i64 0, .int .i64 0, .int .i64 0] (by simp)).f 2 rfl
  have c4_0_3 : W4.cell? ⟨w.heap.size + 1, 3, none⟩ = some (.int .i64 0) := (K4.out.at (w.heap.size + 1) [.int .i64 0, .int .i64 0, .int .i64 0, .int .i64 0] (by simp)).c 3 rfl
  have z4_0_3 : W4.frozen? ⟨w.heap.size + 1, 3, none⟩ = false := (K4.out.at (w.heap.size + 1) [.int .i64 0, .int .i64 0, .int .i64 0, .int .i64 0] (by simp)).f 3 rfl
  have c4_1_0 : W4.cell? ⟨w.heap.size, 0, none⟩ = some (.int .i64 0) := (K4.out.at (w.heap.size) [.int .i64 0, .int .i64 m, .int .i64 d, .int .i64 u] (by simp)).c 0 rfl
  have c4_1_1 : W4.cell? ⟨w.heap.size, 1, none⟩ = some (.int .i64 m) := (K4.out.at (w.heap.size) [.int .i64 0, .int .i64 m, .int .i64 d, .int .i64 u] (by simp)).c 1 rfl
  have c4_1_2 : W4.cell? ⟨w.heap.size, 2, none⟩ = some (.int .i64 d) := (K4.out.at (w.heap.size) [.int .i64 0, .int .i64 m, .int .i64 d, .int .i64 u] (by simp)).c 2 rfl
  have c4_1_3 : W4.cell? ⟨w.heap.size, 3, none⟩ = some (.int .i64 u) := (K4.out.at (w.heap.size) [.int .i64 0, .int .i64 m, .int .i64 d, .int .i64 u] (by simp)).c 3 rfl
  go_wp2_with fail
  refine (MK.out _).mono ?_
  rintro e W5 ⟨rfl, hb⟩
  have K5 : Hid (BS w [(w.heap.size + 1, [.int .i64 0, .int .i64 0, .int .i64 0, .int .i64 0]), (w.heap.size, [.int .i64 0, .int .i64 m, .int .i64 d, .int .i64 u])] W5) := K4.out.below hb
  clear c4_0_0 z4_0_0 c4_0_1 z4_0_1 c4_0_2 z4_0_2 c4_0_3 z4_0_3 c4_1_0 c4_1_1 c4_1_2 c4_1_3
  clear hb K4
  have c5_0_0 : W5.cell? ⟨w.heap.size + 1, 0, none⟩ = some (.int .i64 0) := (K5.out.at (w.heap.size + 1) [.int .i64 0, .int .i64 0, .int .i64 0, .int .i64 0] (by simp)).c 0 rfl
  have z5_0_0 : W5.frozen? ⟨w.heap.size + 1, 0, none⟩ = false := (K5.out.at (w.heap.size + 1) [.int .i64 0, .int .i64 0, .int .i64 0, .int .i64 0] (by simp)).f 0 rfl
  have c5_0_1 : W5.cell? ⟨w.heap.size + 1, 1, none⟩ = some (.int .i64 0) := (K5.out.at (w.heap.size + 1) [.int .i64 0, .int .i64 0, .int .i64 0, .int .i64 0] (by simp)).c 1 rfl
  have z5_0_1 : W5.frozen? ⟨w.heap.size + 1, 1, none⟩ = false := (K5.out.at (w.heap.size + 1) [.int .i64 0, .int .i64 0, .int .i64 0, .int .i64 0] (by simp)).f 1 rfl
  have c5_0_2 : W5.cell? ⟨w.heap.size + 1, 2, none⟩ = some (.int .i64 0) := (K5.out.at (w.heap.size + 1) [.int .i64 0, .int .i64 0, .int .i64 0, .int .i64 0] (by simp)).c 2 rfl
  have z5_0_2 : W5.frozen? ⟨w.heap.size + 1, 2, none⟩ = false := (K5.out.at (w.heap.size + 1) [.int .i64 0, .int .i64 0, .int .i64 0, .int .i64 0] (by simp)).f 2 rfl
  have c5_0_3 : W5.cell? ⟨w.heap.size + 1, 3, none⟩ = some (.int .i64 0) := (K5.out.at (w.heap.size + 1) [.int .i64 0, .int .i64 0, .int .i64 0, .int .i64 0] (by simp)).c 3 rfl
  have z5_0_3 : W5.frozen? ⟨w.heap.size + 1, 3, none⟩ = false := (K5.out.at (w.heap.size + 1) [.int .i64 0, .int .i64 0, .int .i64 0, .int .i64 0] (by simp)).f 3 rfl
  have c5_1_0 : W5.cell? ⟨w.heap.size, 0, none⟩ = some (.int .i64 0) := (K5.out.at (w.heap.size) [.int .i64 0, .int .i64 m, .int .i64 d, .int .i64 u] (by simp)).c 0 rfl
  have c5_1_1 : W5.cell? ⟨w.heap.size, 1, none⟩ = some (.int .i64 m) := (K5.out.at (w.heap.size) [.int .i64 0, .int .i64 m, .int .i64 d, .int .i64 u] (by simp)).c 1 rfl
  have c5_1_2 : W5.cell? ⟨w.heap.size, 2, none⟩ = some (.int .i64 d) := (K5.out.at (w.heap.size) [.int .i64 0, .int .i64 m, .int .i64 d, .int .i64 u] (by simp)).c 2 rfl
  have c5_1_3 : W5.cell? ⟨w.heap.size, 3, none⟩ = some (.int .i64 u) := (K5.out.at (w.heap.size) [.int .i64 0, .int .i64 m, .int .i64 d, .int .i64 u] (by simp)).c 3 rfl
  have XF : Hid (Bx (W5.setCells (w.heap.size + 1) 0 [.int .i64 I, .int .i64 M, .int .i64 D, .int .i64 U]) (w.heap.size + 1) [.int .i64 I, .int .i64 M, .int .i64 D, .int .i64 U]) := (K5.out.at (w.heap.size + 1) [.int .i64 0, .int .i64 0, .int .i64 0, .int .i64 0] (by simp)).setAll _ rfl
  have BF : Hid (Below w.heap.size w (W5.setCells (w.heap.size + 1) 0 [.int .i64 I, .int .i64 M, .int .i64 D, .int .i64 U])) := below_setCells (by omega) _ _ _ K5.out.1
  have y0 := XF.out.c 0 rfl
  have y1 := XF.out.c 1 rfl
  have y2 := XF.out.c 2 rfl
  have y3 := XF.out.c 3 rfl
  simp only [World.setCells, Nat.zero_add, Nat.reduceAdd] at y0 y1 y2 y3
  clear XF
  go_wp2
  exact bodyPost_ret (v := .tuple #[.agg #[.int .i64 I, .int .i64 M, .int .i64 D, .int .i64 U], .int .i64 E]) (by simp [results, Try.results27, go_sem, y0, y1, y2, y3]) rfl ⟨rfl, BF.out⟩

set_option maxRecDepth 100000 in
set_option maxHeartbeats 4000000 in
theorem rpjus_ED (m d u D1 U1 M1 D2 L l I M D U E : Int) (m1 : -2147483647 ≤ m) (m2 : m ≤ 2147483647) (d1 : -2147483647 ≤ d) (d2 : d ≤ 2147483647) (q1 : -1000000000 ≤ u.tdiv 86400000000) (q2 : u.tdiv 86400000000 ≤ 1000000000) (hd : d + u.tdiv 86400000000 = D1) (hu : u.tmod 86400000000 = U1) (hm : m + D1.tdiv 30 = M1) (he : D1.tmod 30 = D2) (q3 : -100000000 ≤ D1.tdiv 30) (q4 : D1.tdiv 30 ≤ 100000000) (e1 : -30 < D2) (e2 : D2 < 30) (f1 : -86400000000 < U1) (f2 : U1 < 86400000000) (g1 : ¬ 0 < M1) (g2 : ¬ M1 < 0) (k1 : D2 < 0) (k2 : ¬ 0 < U1)
    (R : Hid (∀ w : World, Calls Try.prog 16 #[.agg #[.int .i64 0, .int .i64 m, .int .i64 d, .int .i64 u]] w fun r' w' => r' = .returned (.bool true) ∧ Below w.heap.size w w'))
    (C : Hid (∀ w : World, Calls Try.prog 34 #[.int .i64 D1, .int .i64 2147483647] w fun r' w' => r' = .returned (.bool true) ∧ w' = w))
    (LG : Hid (∀ (w : World), Calls Try.prog 43 #[.agg #[.int .i64 0, .int .i64 0, .int .i64 D2, .int .i64 U1]] w fun r' w' => ∃ v', r' = .returned v' ∧ IsW w' v' (L) ∧ Below w.heap.size w w'))
    (SG : Hid (∀ (y : Value) (w : World), IsW w y L → Calls Try.prog 41 #[y] w fun r' w' => r' = .returned (.int .i64 l) ∧ Below w.heap.size w w'))
    (MK : Hid (∀ w : World, Calls Try.prog 21 #[.int .i64 M1, .int .i64 D2, .int .i64 U1] w fun r' w' => r' = .returned (.tuple #[.agg #[.int .i64 I, .int .i64 M, .int .i64 D, .int .i64 U], .int .i64 E]) ∧ Below w.heap.size w w'))
    (w : World) :
    Calls Try.prog 27 #[.agg #[.int .i64 0, .int .i64 m, .int .i64 d, .int .i64 u]] w fun r' w' => r' = .returned (.tuple #[.agg #[.int .i64 I, .int .i64 M, .int .i64 D, .int .i64 U], .int .i64 E]) ∧ Below w.heap.size w w' := by
  have w1 : IntKind.i64.wrap (u.tdiv 86400000000) = u.tdiv 86400000000 := by rw [IntKind.wrap_i64]; omega
  have w2 : IntKind.i64.wrap (d + u.tdiv 86400000000) = D1 := by rw [IntKind.wrap_i64]; omega
  have w3 : IntKind.i64.wrap (D1.tdiv 30) = D1.tdiv 30 := by rw [IntKind.wrap_i64]; omega
  have w4 : IntKind.i64.wrap (m + D1.tdiv 30) = M1 := by rw [IntKind.wrap_i64]; omega
  have k3 : ¬ 0 < D2 := by omega
  have K0 : Hid (BS w [(w.heap.size + 1, [.int .i64 0, .int .i64 0, .int .i64 0, .int .i64 0]), (w.heap.size, [.int .i64 0, .int .i64 m, .int .i64 d, .int .i64 u])] ((w.alloc (.cells #[.int .i64 0, .int .i64 m, .int .i64 d, .int .i64 u] 23)).alloc (.cells #[.int .i64 0, .int .i64 0, .int .i64 0, .int .i64 0] 23))) := (((BS.start w).new [.int .i64 0, .int .i64 m, .int .i64 d, .int .i64 u] 23 rfl).new [.int .i64 0, .int .i64 0, .int .i64 0, .int .i64 0] 23 (by simp))
  go_enter Try.func27, Try.ntmps27
  go_wp2_with fail
  refine (R.out _).mono ?_
  rintro e W1 ⟨rfl, hb⟩
  have K1 : Hid (BS w [(w.heap.size + 1, [.int .i64 0, .int .i64 0, .int .i64 0, .int .i64 0]), (w.heap.size, [.int .i64 0, .int .i64 m, .int .i64 d, .int .i64 u])] W1) := K0.out.below hb
  clear hb K0
  have c1_0_0 : W1.cell? ⟨w.heap.size + 1, 0, none⟩ = some (.int .i64 0) := (K1.out.at (w.heap.size + 1) [.int .i64 0, .int .i64 0, .int .i64 0, .int .i64 0] (by simp)).c 0 rfl
  have z1_0_0 : W1.frozen? ⟨w.heap.size + 1, 0, none⟩ = false := (K1.out.at (w.heap.size + 1) [.int .i64 0, .int .i64 0, .int .i64 0, .int .i64 0] (by simp)).f 0 rfl
  have c1_0_1 : W1.cell? ⟨w.heap.size + 1, 1, none⟩ = some (.int .i64 0) := (K1.out.at (w.heap.size + 1) [.int .i64 0, .int .i64 0, .int .i64 0, .int .i64 0] (by simp)).c 1 rfl
  have z1_0_1 : W1.frozen? ⟨w.heap.size + 1, 1, none⟩ = false := (K1.out.at (w.heap.size + 1) [.int .i64 0, .int .i64 0, .int .i64 0, .int .i64 0] (by simp)).f 1 rfl
  have c1_0_2 : W1.cell? ⟨w.heap.size + 1, 2, none⟩ = some (.int .i64 0) := (K1.out.at (w.heap.size + 1) [.int .i64 0, .int .i64 0, .int .i64 0, .int .i64 0] (by simp)).c 2 rfl
  have z1_0_2 : W1.frozen? ⟨w.heap.size + 1, 2, none⟩ = false := (K1.out.at (w.heap.size + 1) [.int .i64 0, .int .i64 0, .int .i64 0, .int .i64 0] (by simp)).f 2 rfl
  have c1_0_3 : W1.cell? ⟨w.heap.size + 1, 3, none⟩ = some (.int .i64 0) := (K1.out.at (w.heap.size + 1) [.int .i64 0, .int .i64 0, .int .i64 0, .int .i64 0] (by simp)).c 3 rfl
  have z1_0_3 : W1.frozen? ⟨w.heap.size + 1, 3, none⟩ = false := (K1.out.at (w.heap.size + 1) [.int .i64 0, .int .i64 0, .int .i64 0, .int .i64 0] (by simp)).f 3 rfl
  have c1_1_0 : W1.cell? ⟨w.heap.size, 0, none⟩ = some (.int .i64 0) := (K1.out.at (w.heap.size) [.int .i64 0, .int .i64 m, .int .i64 d, .int .i64 u] (by simp)).c 0 rfl
  have c1_1_1 : W1.cell? ⟨w.heap.size, 1, none⟩ = some (.int .i64 m) := (K1.out.at (w.heap.size) [.int .i64 0, .int .i64 m, .int .i64 d, .int .i64 u] (by simp)).c 1 rfl
  have c1_1_2 : W1.cell? ⟨w.heap.size, 2, none⟩ = some (.int .i64 d) := (K1.out.at (w.heap.size) [.int .i64 0, .int .i64 m, .int .i64 d, .int .i64 u] (by simp)).c 2 rfl
  have c1_1_3 : W1.cell? ⟨w.heap.size, 3, none⟩ = some (.int .i64 u) := (K1.out.at (w.heap.size) [.int .i64 0, .int .i64 m, .int .i64 d, .int .i64 u] (by simp)).c 3 rfl
  go_wp2_with fail
  refine (C.out _).mono ?_
  rintro e W2 ⟨rfl, hw⟩
  rw [hw]
  clear hw W2
  go_wp2_with fail
  refine (LG.out _).mono ?_
  rintro e W3 ⟨y, rfl, hv, hb⟩
  have K3 : Hid (BS w [(w.heap.size + 1, [.int .i64 0, .int .i64 0, .int .i64 0, .int .i64 0]), (w.heap.size, [.int .i64 0, .int .i64 m, .int .i64 d, .int .i64 u])] W3) := K1.out.below hb
  have hv' : Hid (IsW _ _ _) := hv
  clear c1_0_0 z1_0_0 c1_0_1 z1_0_1 c1_0_2 z1_0_2 c1_0_3 z1_0_3 c1_1_0 c1_1_1 c1_1_2 c1_1_3
  clear hb hv K1
  have c3_0_0 : W3.cell? ⟨w.heap.size + 1, 0, none⟩ = some (.int .i64 0) := (K3.out.at (w.heap.size + 1) [.int .i64 0, .int .i64 0, .int .i64 0, .int .i64 0] (by simp)).c 0 rfl
  have z3_0_0 : W3.frozen? ⟨w.heap.size + 1, 0, none⟩ = false := (K3.out.at (w.heap.size + 1) [.int .i64 0, .int .i64 0, .int .i64 0, .int .i64 0] (by simp)).f 0 rfl
  have c3_0_1 : W3.cell? ⟨w.heap.size + 1, 1, none⟩ = some (.int .i64 0) := (K3.out.at (w.heap.size + 1) [.int .i64 0, .int .i64 0, .int .i64 0, .int .i64 0] (by simp)).c 1 rfl
  have z3_0_1 : W3.frozen? ⟨w.heap.size + 1, 1, none⟩ = false := (K3.out.at (w.heap.size + 1) [.int .i64 0, .int .i64 0, .int .i64 0, .int .i64 0] (by simp)).f 1 rfl
  have c3_0_2 : W3.cell? ⟨w.heap.size + 1, 2, none⟩ = some (.int .i64 0) := (K3.out.at (w.heap.size + 1) [.int .i64 0, .int .i64 0, .int .i64 0, .int .i64 0] (by simp)).c 2 rfl
  have z3_0_2 : W3.frozen? ⟨w.heap.size + 1, 2, none⟩ = false := (K3.out.at (w.heap.size + 1) [.int .i64 0, .int .i64 0, .int .i64 0, .int .i64 0] (by simp)).f 2 rfl
  have c3_0_3 : W3.cell? ⟨w.heap.size + 1, 3, none⟩ = some (.int .i64 0) := (K3.out.at (w.heap.size + 1) [.int .i64 0, .int .i64 0, .int .i64 0, .int .i64 0] (by simp)).c 3 rfl
  have z3_0_3 : W3.frozen? ⟨w.heap.size + 1, 3, none⟩ = false := (K3.out.at (w.heap.size + 1) [.int .i64 0, .int .i64 0, .int .i64 0, .int .i64 0] (by simp)).f 3 rfl
  have c3_1_0 : W3.cell? ⟨w.heap.size, 0, none⟩ = some (.int .i64 0) := (K3.out.at (w.heap.size) [.int .i64 0, .int .i64 m, .int .i64 d, .int .i64 u] (by simp)).c 0 rfl
  have c3_1_1 : W3.cell? ⟨w.heap.size, 1, none⟩ = some (.int .i64 m) := (K3.out.at (w.heap.size) [.int .i64 0, .int .i64 m, .int .i64 d, .int .i64 u] (by simp)).c 1 rfl
  have c3_1_2 : W3.cell? ⟨w.heap.size, 2, none⟩ = some (.int .i64 d) := (K3.out.at (w.heap.size) [.int .i64 0, .int .i64 m, .int .i64 d, .int .i64 u] (by simp)).c 2 rfl
  have c3_1_3 : W3.cell? ⟨w.heap.size, 3, none⟩ = some (.int .i64 u) := (K3.out.at (w.heap.size) [.int .i64 0, .int .i64 m, .int .i64 d, .int .i64 u] (by simp)).c 3 rfl
  go_wp2_with fail
  refine (SG.out _ _ hv'.out).mono ?_
  rintro e W4 ⟨rfl, hb⟩
  have K4 : Hid (BS w [(w.heap.size + 1, [.int .i64 0, .int .i64 0, .int .i64 0, .int .i64 0]), (w.heap.size, [.int .i64 0, .int .i64 m, .int .i64 d, .int .i64 u])] W4) := K3.out.below hb
  clear c3_0_0 z3_0_0 c3_0_1 z3_0_1 c3_0_2 z3_0_2 c3_0_3 z3_0_3 c3_1_0 c3_1_1 c3_1_2 c3_1_3
  clear hb hv' K3
  have c4_0_0 : W4.cell? ⟨w.heap.size + 1, 0, none⟩ = some (.int .i64 0) := (K4.out.at (w.heap.size + 1) [.int .i64 0, .int .i64 0, .int .i64 0, .int .i64 0] (by simp)).c 0 rfl
  have z4_0_0 : W4.frozen? ⟨w.heap.size + 1, 0, none⟩ = false := (K4.out.at (w.heap.size + 1) [.int .i64 0, .int .i64 0, .int .i64 0, .int .i64 0] (by simp)).f 0 rfl
  have c4_0_1 : W4.cell? ⟨w.heap.size + 1, 1, none⟩ = some (.int .i64 0) := (K4.out.at (w.heap.size + 1) [.int .i64 0, .int .i64 0, .int .i64 0, .int .i64 0] (by simp)).c 1 rfl
  have z4_0_1 : W4.frozen? ⟨w.heap.size + 1, 1, none⟩ = false := (K4.out.at (w.heap.size + 1) [.int .i64 0, .int .i64 0, .int .i64 0, .int .i64 0] (by simp)).f 1 rfl
  have c4_0_2 : W4.cell? ⟨w.heap.size + 1, 2, none⟩ = some (.int .i64 0) := (K4.out.at (w.heap.size + 1) [.int .i64 0, .int .i64 0, .int .i64 0, .int .i64 0] (by simp)).c 2 rfl
  have z4_0_2 : W4.frozen? ⟨w.heap.size + 1, 2, none⟩ = false := (K4.out.at (w.heap.size + 1) [.int .i64 0, .int .i64 0, .int .i64 0, .int .i64 0] (by simp)).f 2 rfl
  have c4_0_3 : W4.cell? ⟨w.heap.size + 1, 3, none⟩ = some (.int .i64 0) := (K4.out.at (w.heap.size + 1) [.int .i64 0, .int .i64 0, .int .i64 0, .int .i64 0] (by simp)).c 3 rfl
  have z4_0_3 : W4.frozen? ⟨w.heap.size + 1, 3, none⟩ = false := (K4.out.at (w.heap.size + 1) [.int .i64 0, .int .i64 0, .int .i64 0, .int .i64 0] (by simp)).f 3 rfl
  have c4_1_0 : W4.cell? ⟨w.heap.size, 0, none⟩ = some (.int .i64 0) := (K4.out.at (w.heap.size) [.int .i64 0, .int .i64 m, .int .i64 d, .int .i64 u] (by simp)).c 0 rfl
  have c4_1_1 : W4.cell? ⟨w.heap.size, 1, none⟩ = some (.int .i64 m) := (K4.out.at (w.heap.size) [.int .i64 0, .int .i64 m, .int .i64 d, .int .i64 u] (by simp)).c 1 rfl
  have c4_1_2 : W4.cell? ⟨w.heap.size, 2, none⟩ = some (.int .i64 d) := (K4.out.at (w.heap.size) [.int .i64 0, .int .i64 m, .int .i64 d, .int .i64 u] (by simp)).c 2 rfl
  have c4_1_3 : W4.cell? ⟨w.heap.size, 3, none⟩ = some (.int .i64 u) := (K4.out.at (w.heap.size) [.int .i64 0, .int .i64 m, .int .i64 d, .int .i64 u] (by simp)).c 3 rfl
  go_wp2_with fail
  refine (MK.out _).mono ?_
  rintro e W5 ⟨rfl, hb⟩
  have K5 : Hid (BS w [(w.heap.size + 1, [.int .i64 0, .int .i64 0, .int .i64 0, .int .i64 0]), (w.heap.size, [.int .i64 0, .int .i64 m, .int .i64 d, .int .i64 u])] W5) := K4.out.below hb
  clear c4_0_0 z4_0_0 c4_0_1 z4_0_1 c4_0_2 z4_0_2 c4_0_3 z4_0_3 c4_1_0 c4_1_1 c4_1_2 c4_1_3
  clear hb K4
  have c5_0_0 : W5.cell? ⟨w.heap.size + 1, 0, none⟩ = some (.int .i64 0) := (K5.out.at (w.heap.size + 1) [.int .i64 0, .int .i64 0, .int .i64 0, .int .i64 0] (by simp)).c 0 rfl
  have z5_0_0 : W5.frozen? ⟨w.heap.size + 1, 0, none⟩ = false := (K5.out.at (w.heap.size + 1) [.int .i64 0, .int .i64 0, .int .i64 0, .int .i64 0] (by simp)).f 0 rfl
  have c5_0_1 : W5.cell? ⟨w.heap.size + 1, 1, none⟩ = some (.int .i64 0) := (K5.out.at (w.heap.size + 1) [.int .i64 0, .int .i64 0, .int .i64 0, .int .i64 0] (by simp)).c 1 rfl
  have z5_0_1 : W5.frozen? ⟨w.heap.size + 1, 1, none⟩ = false := (K5.out.at (w.heap.size + 1) [.int .i64 0, .int .i64 0, .int .i64 0, .int .i64 0] (by simp)).f 1 rfl
  have c5_0_2 : W5.cell? ⟨w.heap.size + 1, 2, none⟩ = some (.int .i64 0) := (K5.out.at (w.heap.size + 1) [.int .i64 0, .int .i64 0, .int .i64 0, .int .i64 0] (by simp)).c 2 rfl
  have z5_0_2 : W5.frozen? ⟨w.heap.size + 1, 2, none⟩ = false := (K5.out.at (w.heap.size + 1) [.int .i64 0, .int .i64 0, .int .i64 0, .int .i64 0] (by simp)).f 2 rfl
  have c5_0_3 : W5.cell? ⟨w.heap.size + 1, 3, none⟩ = some (.int .i64 0) := (K5.out.at (w.heap.size + 1) [.int .i64 0, .int .i64 0, .int .i64 0, .int .i64 0] (by simp)).c 3 rfl
  have z5_0_3 : W5.frozen? ⟨w.heap.size + 1, 3, none⟩ = false := (K5.out.at (w.heap.size + 1) [.int .i64 0, .int .i64 0, .int .i64 0, .int .i64 0] (by simp)).f 3 rfl
  have c5_1_0 : W5.cell? ⟨w.heap.size, 0, none⟩ = some (.int .i64 0) := (K5.out.at (w.heap.size) [.int .i64 0, .int .i64 m, .int .i64 d, .int .i64 u] (by simp)).c 0 rfl
  have c5_1_1 : W5.cell? ⟨w.heap.size, 1, none⟩ = some (.int .i64 m) := (K5.out.at (w.heap.size) [.int .i64 0, .int .i64 m, .int .i64 d, .int .i64 u] (by simp)).c 1 rfl
  have c5_1_2 : W5.cell? ⟨w.heap.size, 2, none⟩ = some (.int .i64 d) := (K5.out.at (w.heap.size) [.int .i64 0, .int .i64 m, .int .i64 d, .int .i64 u] (by simp)).c 2 rfl
  have c5_1_3 : W5.cell? ⟨w.heap.size, 3, none⟩ = some (.int .i64 u) := (K5.out.at (w.heap.size) [.int .i64 0, .int .i64 m, .int .i64 d, .int .i64 u] (by simp)).c 3 rfl
  have XF : Hid (Bx (W5.setCells (w.heap.size + 1) 0 [.int .i64 I, .int .i64 M, .int .i64 D, .int .i64 U]) (w.heap.size + 1) [.int .i64 I, .int .i64 M, .int .i64 D, .int .i64 U]) := (K5.out.at (w.heap.size + 1) [.int .i64 0, .int .i64 0, .int .i64 0, .int .i64 0] (by simp)).setAll _ rfl
  have BF : Hid (Below w.heap.size w (W5.setCells (w.heap.size + 1) 0 [.int .i64 I, .int .i64 M, .int .i64 D, .int .i64 U])) := below_setCells (by omega) _ _ _ K5.out.1
  have y0 := XF.out.c 0 rfl
  have y1 := XF.out.c 1 rfl
  have y2 := XF.out.c 2 rfl
  have y3 := XF.out.c 3 rfl
  simp only [World.setCells, Nat.zero_add, Nat.reduceAdd] at y0 y1 y2 y3
  clear XF
  go_wp2
  exact bodyPost_ret (v := .tuple #[.agg #[.int .i64 I, .int .i64 M, .int .i64 D, .int .i64 U], .int .i64 E]) (by simp [results, Try.results27, go_sem, y0, y1, y2, y3]) rfl ⟨rfl, BF.out⟩

set_option maxRecDepth 100000 in
set_option maxHeartbeats 4000000 in
theorem rpjus_EE (m d u D1 U1 M1 D2 L l I M D U E : Int) (m1 : -2147483647 ≤ m) (m2 : m ≤ 2147483647) (d1 : -2147483647 ≤ d) (d2 : d ≤ 2147483647) (q1 : -1000000000 ≤ u.tdiv 86400000000) (q2 : u.tdiv 86400000000 ≤ 1000000000) (hd : d + u.tdiv 86400000000 = D1) (hu : u.tmod 86400000000 = U1) (hm : m + D1.tdiv 30 = M1) (he : D1.tmod 30 = D2) (q3 : -100000000 ≤ D1.tdiv 30) (q4 : D1.tdiv 30 ≤ 100000000) (e1 : -30 < D2) (e2 : D2 < 30) (f1 : -86400000000 < U1) (f2 : U1 < 86400000000) (g1 : ¬ 0 < M1) (g2 : ¬ M1 < 0) (k1 : ¬ 0 < D2) (k2 : ¬ D2 < 0)
    (R : Hid (∀ w : World, Calls Try.prog 16 #[.agg #[.int .i64 0, .int .i64 m, .int .i64 d, .int .i64 u]] w fun r' w' => r' = .returned (.bool true) ∧ Below w.heap.size w w'))
    (C : Hid (∀ w : World, Calls Try.prog 34 #[.int .i64 D1, .int .i64 2147483647] w fun r' w' => r' = .returned (.bool true) ∧ w' = w))
    (LG : Hid (∀ (w : World), Calls Try.prog 43 #[.agg #[.int .i64 0, .int .i64 0, .int .i64 D2, .int .i64 U1]] w fun r' w' => ∃ v', r' = .returned v' ∧ IsW w' v' (L) ∧ Below w.heap.size w w'))
    (SG : Hid (∀ (y : Value) (w : World), IsW w y L → Calls Try.prog 41 #[y] w fun r' w' => r' = .returned (.int .i64 l) ∧ Below w.heap.size w w'))
    (MK : Hid (∀ w : World, Calls Try.prog 21 #[.int .i64 M1, .int .i64 D2, .int .i64 U1] w fun r' w' => r' = .returned (.tuple #[.agg #[.int .i64 I, .int .i64 M, .int .i64 D, .int .i64 U], .int .i64 E]) ∧ Below w.heap.size w w'))
    (w : World) :
    Calls Try.prog 27 #[.agg #[.int .i64 0, .int .i64 m, .int .i64 d, .int .i64 u]] w fun r' w' => r' = .returned (.tuple #[.agg #[.int .i64 I, .int .i64 M, .int .i64 D, .int .i64 U], .int .i64 E]) ∧ Below w.heap.size w w' := by
  have w1 : IntKind.i64.wrap (u.tdiv 86400000000) = u.tdiv 86400000000 := by rw [IntKind.wrap_i64]; omega
  have w2 : IntKind.i64.wrap (d + u.tdiv 86400000000) = D1 := by rw [IntKind.wrap_i64]; omega
  have w3 : IntKind.i64.wrap (D1.tdiv 30) = D1.tdiv 30 := by rw [IntKind.wrap_i64]; omega
  have w4 : IntKind.i64.wrap (m + D1.tdiv 30) = M1 := by rw [IntKind.wrap_i64]; omega
  have K0 : Hid (BS w [(w.heap.size + 1, [.int .i64 0, .int .i64 0, .int .i64 0, .int .i64 0]), (w.heap.size, [.int .i64 0, .int .i64 m, .int .i64 d, .int .i64 u])] ((w.alloc (.cells #[.int .i64 0, .int .i64 m, .int .i64 d, .int .i64 u] 23)).alloc (.cells #[.int .i64 0, .int .i64 0, .int .i64 0, .int .i64 0] 23))) := (((BS.start w).new [.int .i64 0, .int .i64 m, .int .i64 d, .int .i64 u] 23 rfl).new [.int .i64 0, .int .i64 0, .int .i64 0, .int .i64 0] 23 (by simp))
  go_enter Try.func27, Try.ntmps27
  go_wp2_with fail
  refine (R.out _).mono ?_
  rintro e W1 ⟨rfl, hb⟩
  have K1 : Hid (BS w [(w.heap.size + 1, [.int .i64 0, .int .i64 0, .int .i64 0, .int .i64 0]), (w.heap.size, [.int .i64 0, .int .i64 m, .int .i64 d, .int .i64 u])] W1) := K0.out.below hb
  clear hb K0
  have c1_0_0 : W1.cell? ⟨w.heap.size + 1, 0, none⟩ = some (.int .i64 0) := (K1.out.at (w.heap.size + 1) [.int .i64 0, .int .i64 0, .int .i64 0, .int .i64 0] (by simp)).c 0 rfl
  have z1_0_0 : W1.frozen? ⟨w.heap.size + 1, 0, none⟩ = false := (K1.out.at (w.heap.size + 1) [.int .i64 0, .int .i64 0, .int .i64 0, .int .i64 0] (by simp)).f 0 rfl
  have c1_0_1 : W1.cell? ⟨w.heap.size + 1, 1, none⟩ = some (.int .i64 0) := (K1.out.at (w.heap.size + 1) [.int .i64 0, .int .i64 0, .int .i64 0, .int .i64 0] (by simp)).c 1 rfl
  have z1_0_1 : W1.frozen? ⟨w.heap.size + 1, 1, none⟩ = false := (K1.out.at (w.heap.size + 1) [.int .i64 0, .int .i64 0, .int .i64 0, .int .i64 0] (by simp)).f 1 rfl
  have c1_0_2 : W1.cell? ⟨w.heap.size + 1, 2, none⟩ = some (.int .i64 0) := (K1.out.at (w.heap.size + 1) [.int .i64 0, .int .i64 0, .int .i64 0, .int .i64 0] (by simp)).c 2 rfl
  have z1_0_2 : W1.frozen? ⟨w.heap.size + 1, 2, none⟩ = false := (K1.out.at (w.heap.size + 1) [.int .i64 0, .int .i64 0, .int .i64 0, .int .i64 0] (by simp)).f 2 rfl
  have c1_0_3 : W1.cell? ⟨w.heap.size + 1, 3, none⟩ = some (.int .i64 0) := (K1.out.at (w.heap.size + 1) [.int .i64 0, .int .i64 0, .int .i64 0, .int .i64 0] (by simp)).c 3 rfl
  have z1_0_3 : W1.frozen? ⟨w.heap.size + 1, 3, none⟩ = false := (K1.out.at (w.heap.size + 1) [.int .i64 0, .int .i64 0, .int .i64 0, .int .i64 0] (by simp)).f 3 rfl
  have c1_1_0 : W1.cell? ⟨w.heap.size, 0, none⟩ = some (.int .i64 0) := (K1.out.at (w.heap.size) [.int .i64 0, .int .i64 m, .int .i64 d, .int .i64 u] (by simp)).c 0 rfl
  have c1_1_1 : W1.cell? ⟨w.heap.size, 1, none⟩ = some (.int .i64 m) := (K1.out.at (w.heap.size) [.int .i64 0, .int .i64 m, .int .i64 d, .int .i64 u] (by simp)).c 1 rfl
  have c1_1_2 : W1.cell? ⟨w.heap.size, 2, none⟩ = some (.int .i64 d) := (K1.out.at (w.heap.size) [.int .i64 0, .int .i64 m, .int .i64 d, .int .i64 u] (by simp)).c 2 rfl
  have c1_1_3 : W1.cell? ⟨w.heap.size, 3, none⟩ = some (.int .i64 u) := (K1.out.at (w.heap.size) [.int .i64 0, .int .i64 m, .int .i64 d, .int .i64 u] (by simp)).c 3 rfl
  go_wp2_with fail
  refine (C.out _).mono ?_
  rintro e W2 ⟨rfl, hw⟩
  rw [hw]
  clear hw W2
  go_wp2_with fail
  refine (LG.out _).mono ?_
  rintro e W3 ⟨y, rfl, hv, hb⟩
  have K3 : Hid (BS w [(w.heap.size + 1, [.int .i64 0, .int .i64 0, .int .i64 0, .int .i64 0]), (w.heap.size, [.int .i64 0, .int .i64 m, .int .i64 d, .int .i64 u])] W3) := K1.out.below hb
  have hv' : Hid (IsW _ _ _) := hv
  clear c1_0_0 z1_0_0 c1_0_1 z1_0_1 c1_0_2 z1_0_2 c1_0_3 z1_0_3 c1_1_0 c1_1_1 c1_1_2 c1_1_3
  clear hb hv K1
  have c3_0_0 : W3.cell? ⟨w.heap.size + 1, 0, none⟩ = some (.int .i64 0) := (K3.out.at (w.heap.size + 1) [.int .i64 0, .int .i64 0, .int .i64 0, .int .i64 0] (by simp)).c 0 rfl
  have z3_0_0 : W3.frozen? ⟨w.heap.size + 1, 0, none⟩ = false := (K3.out.at (w.heap.size + 1) [.int .i64 0, .int .i64 0, .int .i64 0, .int .i64 0] (by simp)).f 0 rfl
  have c3_0_1 : W3.cell? ⟨w.heap.size + 1, 1, none⟩ = some (.int .i64 0) := (K3.out.at (w.heap.size + 1) [.int .i64 0, .int .i64 0, .int .i64 0, .int .i64 0] (by simp)).c 1 rfl
  have z3_0_1 : W3.frozen? ⟨w.heap.size + 1, 1, none⟩ = false := (K3.out.at (w.heap.size + 1) [.int .i64 0, .int .i64 0, .int .i64 0, .int .i64 0] (by simp)).f 1 rfl
  have c3_0_2 : W3.cell? ⟨w.heap.size + 1, 2, none⟩ = some (.int .i64 0) := (K3.out.at (w.heap.size + 1) [.int .i64 0, .int .i64 0, .int .i64 0, .int .i64 0] (by simp)).c 2 rfl
  have z3_0_2 : W3.frozen? ⟨w.heap.size + 1, 2, none⟩ = false := (K3.out.at (w.heap.size + 1) [.int .i64 0, .int .i64 0, .int .i64 0, .int .i64 0] (by simp)).f 2 rfl
  have c3_0_3 : W3.cell? ⟨w.heap.size + 1, 3, none⟩ = some (.int .i64 0) := (K3.out.at (w.heap.size + 1) [.int .i64 0, .int .i64 0, .int .i64 0, .int .i64 0] (by simp)).c 3 rfl
  have z3_0_3 : W3.frozen? ⟨w.heap.size + 1, 3, none⟩ = false := (K3.out.at (w.heap.size + 1) [.int .i64 0, .int .i64 0, .int .i64 0, .int .i64 0] (by simp)).f 3 rfl
  have c3_1_0 : W3.cell? ⟨w.heap.size, 0, none⟩ = some (.int .i64 0) := (K3.out.at (w.heap.size) [.int .i64 0, .int .i64 m, .int .i64 d, .int .i64 u] (by simp)).c 0 rfl
  have c3_1_1 : W3.cell? ⟨w.heap.size, 1, none⟩ = some (.int .i64 m) := (K3.out.at (w.heap.size) [.int .i64 0, .int .i64 m, .int .i64 d, .int .i64 u] (by simp)).c 1 rfl
  have c3_1_2 : W3.cell? ⟨w.heap.size, 2, none⟩ = some (.int .i64 d) := (K3.out.at (w.heap.size) [.int .i64 0, .int .i64 m, .int .i64 d, .int .i64 u] (by simp)).c 2 rfl
  have c3_1_3 : W3.cell? ⟨w.heap.size, 3, none⟩ = some (.int .i64 u) := (K3.out.at (w.heap.size) [.int .i64 0, .int .i64 m, .int .i64 d, .int .i64 u] (by simp)).c 3 rfl
  go_wp2_with fail
  refine (SG.out _ _ hv'.out).mono ?_
  rintro e W4 ⟨rfl, hb⟩
  have K4 : Hid (BS w [(w.heap.size + 1, [.int .i64 0, .int .i64 0, .int .i64 0, .int .i64 0]), (w.heap.size, [.int .i64 0, .int .i64 m, .int .i64 d, .int .i64 u])] W4) := K3.out.below hb
  clear c3_0_0 z3_0_0 c3_0_1 z3_0_1 c3_0_2 z3_0_2 c3_0_3 z3_0_3 c3_1_0 c3_1_1 c3_1_2 c3_1_3
  clear hb hv' K3
  have c4_0_0 : W4.cell? ⟨w.heap.size + 1, 0, none⟩ = some (.int .i64 0) := (K4.out.at (w.heap.size + 1) [.int .i64 0, .int .i64 0, .int .i64 0, .int .i64 0] (by simp)).c 0 rfl
  have z4_0_0 : W4.frozen? ⟨w.heap.size + 1, 0, none⟩ = false := (K4.out.at (w.heap.size + 1) [.int .i64 0, .int .i64 0, .int .i64 0, .int .i64 0] (by simp)).f 0 rfl
  have c4_0_1 : W4.cell? ⟨w.heap.size + 1, 1, none⟩ = some (.int .i64 0) := (K4.out.at (w.heap.size + 1) [.int .i64 0, .int .i64 0, .int .i64 0, .int .i64 0] (by simp)).c 1 rfl
  have z4_0_1 : W4.frozen? ⟨w.heap.size + 1, 1, none⟩ = false := (K4.out.at (w.heap.size + 1) [.int .i64 0, .int .i64 0, .int .i64 0, .int .i64 0] (by simp)).f 1 rfl
  have c4_0_2 : W4.cell? ⟨w.heap.size + 1, 2, none⟩ = some (.int .i64 0) := (K4.out.at (w.heap.size + 1) [.int .i64 0, .int .i64 0, .int .i64 0, .int .i64 0] (by simp)).c 2 rfl
  have z4_0_2 : W4.frozen? ⟨w.heap.size + 1, 2, none⟩ = false := (K4.out.at (w.heap.size + 1) [.int .i64 0, .int .i64 0, .int .i64 0, .int .i64 0] (by simp)).f 2 rfl
  have c4_0_3 : W4.cell? ⟨w.heap.size + 1, 3, none⟩ = some (.int .i64 0) := (K4.out.at (w.heap.size + 1) [.int .i64 0, .int .i64 0, .int .i64 0, .int .i64 0] (by simp)).c 3 rfl
  have z4_0_3 : W4.frozen? ⟨w.heap.size + 1, 3, none⟩ = false := (K4.out.at (w.heap.size + 1) [.int .i64 0, .int .i64 0, .int .i64 0, .int .i64 0] (by simp)).f 3 rfl
  have c4_1_0 : W4.cell? ⟨w.heap.size, 0, none⟩ = some (.int .i64 0) := (K4.out.at (w.heap.size) [.int .i64 0, .int .i64 m, .int .i64 d, .int .i64 u] (by simp)).c 0 rfl
  have c4_1_1 : W4.cell? ⟨w.heap.size, 1, none⟩ = some (.int .i64 m) := (K4.out.at (w.heap.size) [.int .i64 0, .int .i64 m, .int .i64 d, .int .i64 u] (by simp)).c 1 rfl
  have c4_1_2 : W4.cell? ⟨w.heap.size, 2, none⟩ = some (.int .i64 d) := (K4.out.at (w.heap.size) [.int .i64 0, .int .i64 m, .int .i64 d, .int .i64 u] (by simp)).c 2 rfl
  have c4_1_3 : W4.cell? ⟨w.heap.size, 3, none⟩ = some (.int .i64 u) := (K4.out.at (w.heap.size) [.int .i64 0, .int .i64 m, .int .i64 d, .int .i64 u] (by simp)).c 3 rfl
  go_wp2_with fail
  refine (MK.out _).mono ?_
  rintro e W5 ⟨rfl, hb⟩
  have K5 : Hid (BS w [(w.heap.size + 1, [.int .i64 0, .int .i64 0, .int .i64 0, .int .i64 0]), (w.heap.size, [.int .i64 0, .int .i64 m, .int .i64 d, .int .i64 u])] W5) := K4.out.below hb
  clear c4_0_0 z4_0_0 c4_0_1 z4_0_1 c4_0_2 z4_0_2 c4_0_3 z4_0_3 c4_1_0 c4_1_1 c4_1_2 c4_1_3
  clear hb K4
  have c5_0_0 : W5.cell? ⟨w.heap.size + 1, 0, none⟩ = some (.int .i64 0) := (K5.out.at (w.heap.size + 1) [.int .i64 0, .int .i64 0, .int .i64 0, .int .i64 0] (by simp)).c 0 rfl
  have z5_0_0 : W5.frozen? ⟨w.heap.size + 1, 0, none⟩ = false := (K5.out.at (w.heap.size + 1) [.int .i64 0, .int .i64 0, .int .i64 0, .int .i64 0] (by simp)).f 0 rfl
  have c5_0_1 : W5.cell? ⟨w.heap.size + 1, 1, none⟩ = some (.int .i64 0) := (K5.out.at (w.heap.size + 1) [.int .i64 0, .int .i64 0, .int .i64 0, .int .i64 0] (by simp)).c 1 rfl
  have z5_0_1 : W5.frozen? ⟨w.heap.size + 1, 1, none⟩ = false := (K5.out.at (w.heap.size + 1) [.int .i64 0, .int .i64 0, .int .i64 0, .int .i64 0] (by simp)).f 1 rfl
  have c5_0_2 : W5.cell? ⟨w.heap.size + 1, 2, none⟩ = some (.int .i64 0) := (K5.out.at (w.heap.size + 1) [.int .i64 0, .int .i64 0, .int .i64 0, .int .i64 0] (by simp)).c 2 rfl
  have z5_0_2 : W5.frozen? ⟨w.heap.size + 1, 2, none⟩ = false := (K5.out.at (w.heap.size + 1) [.int .i64 0, .int .i64 0, .int .i64 0, .int .i64 0] (by simp)).f 2 rfl
  have c5_0_3 : W5.cell? ⟨w.heap.size + 1, 3, none⟩ = some (.int .i64 0) := (K5.out.at (w.heap.size + 1) [.int .i64 0, .int .i64 0, .int .i64 0, .int .i64 0] (by simp)).c 3 rfl
  have z5_0_3 : W5.frozen? ⟨w.heap.size + 1, 3, none⟩ = false := (K5.out.at (w.heap.size + 1) [.int .i64 0, .int .i64 0, .int .i64 0, .int .i64 0] (by simp)).f 3 rfl
  have c5_1_0 : W5.cell? ⟨w.heap.size, 0, none⟩ = some (.int .i64 0) := (K5.out.at (w.heap.size) [.int .i64 0, .int .i64 m, .int .i64 d, .int .i64 u] (by simp)).c 0 rfl
  have c5_1_1 : W5.cell? ⟨w.heap.size, 1, none⟩ = some (.int .i64 m) := (K5.out.at (w.heap.size) [.int .i64 0, .int .i64 m, .int .i64 d, .int .i64 u] (by simp)).c 1 rfl
  have c5_1_2 : W5.cell? ⟨w.heap.size, 2, none⟩ = some (.int .i64 d) := (K5.out.at (w.heap.size) [.int .i64 0, .int .i64 m, .int .i64 d, .int .i64 u] (by simp)).c 2 rfl
  have c5_1_3 : W5.cell? ⟨w.heap.size, 3, none⟩ = some (.int .i64 u) := (K5.out.at (w.heap.size) [.int .i64 0, .int .i64 m, .int .i64 d, .int .i64 u] (by simp)).c 3 rfl
  have XF : Hid (Bx (W5.setCells (w.heap.size + 1) 0 [.int .i64 I, .int .i64 M, .int .i64 D, .int .i64 U]) (w.heap.size + 1) [.int .i64 I, .int .i64 M, .int .i64 D, .int .i64 U]) := (K5.out.at (w.heap.size + 1) [.int .i64 0, .int .i64 0, .int .i64 0, .int .i64 0] (by simp)).setAll _ rfl
  have BF : Hid (Below w.heap.size w (W5.setCells (w.heap.size + 1) 0 [.int .i64 I, .int .i64 M, .int .i64 D, .int .i64 U])) := below_setCells (by omega) _ _ _ K5.out.1
  have y0 := XF.out.c 0 rfl
  have y1 := XF.out.c 1 rfl
  have y2 := XF.out.c 2 rfl
  have y3 := XF.out.c 3 rfl
  simp only [World.setCells, Nat.zero_add, Nat.reduceAdd] at y0 y1 y2 y3
  clear XF
  go_wp2
  exact bodyPost_ret (v := .tuple #[.agg #[.int .i64 I, .int .i64 M, .int .i64 D, .int .i64 U], .int .i64 E]) (by simp [results, Try.results27, go_sem, y0, y1, y2, y3]) rfl ⟨rfl, BF.out⟩


end Go.Proofs.Ytghfgabajdghiab
