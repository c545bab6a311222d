/- Dates: Make, Parts, moved by days and months; the reference's Make and Parts. -/
import Derived.Test.YtghfgabajdghiaaDoorDyC
namespace Go.Proofs.YtghfgabajdghiaaDoor
open Go.RowKit
set_option linter.unusedVariables false

set_option maxRecDepth 100000 in
set_option maxHeartbeats 4000000 in
theorem make_run (y m d v e V E : Int)
    (D : Hid (∀ w : World, Cvl.Lens w → Calls Tryd.prog 34 #[.int .i64 y, .int .i64 m, .int .i64 d] w fun r' w' => r' = .returned (.tuple #[.int .i64 v, .int .i64 e]) ∧ w' = w))
    (O : Hid (∀ w : World, Cvl.Lens w → Calls Tryd.prog 35 #[.int .i64 v, .int .i64 e] w fun r' w' => r' = .returned (.tuple #[.agg #[.int .i64 0, .int .i64 V], .int .i64 E]) ∧ Below w.heap.size w w'))
    (w : World) (hL : Hid (∀ W : World, Below w.heap.size w W → Cvl.Lens W)) :
    Calls Tryd.prog 9 #[.int .i64 y, .int .i64 m, .int .i64 d] w fun r' w' => r' = .returned (.tuple #[.agg #[.int .i64 0, .int .i64 V], .int .i64 E]) ∧ Below w.heap.size w w' := by
  have K0 : Hid (BS w [(w.heap.size, [.int .i64 0, .int .i64 0])] (w.alloc (.cells #[.int .i64 0, .int .i64 0] 23))) := ((BS.start w).new [.int .i64 0, .int .i64 0] 23 rfl)
  go_enter Tryd.func9, Tryd.ntmps9
  go_wp2_with fail
  refine (D.out _ (hL.out _ K0.out.1)).mono ?_
  rintro e W1 ⟨rfl, rfl⟩
  go_wp2_with fail
  refine (O.out _ (hL.out _ K0.out.1)).mono ?_
  rintro e W2 ⟨rfl, hb⟩
  have K2 : Hid (BS w [(w.heap.size, [.int .i64 0, .int .i64 0])] W2) := K0.out.below hb
  clear hb K0
  have c2_0_0 : W2.cell? ⟨w.heap.size, 0, none⟩ = some (.int .i64 0) := (K2.out.at (w.heap.size) [.int .i64 0, .int .i64 0] (by simp)).c 0 rfl
  have z2_0_0 : W2.frozen? ⟨w.heap.size, 0, none⟩ = false := (K2.out.at (w.heap.size) [.int .i64 0, .int .i64 0] (by simp)).f 0 rfl
  have c2_0_1 : W2.cell? ⟨w.heap.size, 1, none⟩ = some (.int .i64 0) := (K2.out.at (w.heap.size) [.int .i64 0, .int .i64 0] (by simp)).c 1 rfl
  have z2_0_1 : W2.frozen? ⟨w.heap.size, 1, none⟩ = false := (K2.out.at (w.heap.size) [.int .i64 0, .int .i64 0] (by simp)).f 1 rfl
  have XF : Hid (Bx (W2.setCells (w.heap.size) 0 [.int .i64 0, .int .i64 V]) (w.heap.size) [.int .i64 0, .int .i64 V]) := (K2.out.at (w.heap.size) [.int .i64 0, .int .i64 0] (by simp)).setAll _ rfl
  have BF : Hid (Below w.heap.size w (W2.setCells (w.heap.size) 0 [.int .i64 0, .int .i64 V])) := below_setCells (by omega) _ _ _ K2.out.1
  have y0 := XF.out.c 0 rfl
  have y1 := XF.out.c 1 rfl
  simp only [World.setCells, Nat.zero_add] at y0 y1
  clear XF
  go_wp2
  exact bodyPost_ret (v := .tuple #[.agg #[.int .i64 0, .int .i64 V], .int .i64 E]) (by simp [results, Tryd.results9, go_sem, y0, y1]) rfl ⟨rfl, BF.out⟩

set_option maxRecDepth 100000 in
set_option maxHeartbeats 4000000 in
theorem rmake_bad (y m d v e : Int) (he : e ≠ 0)
    (D : Hid (∀ w : World, Calls Tryd.prog 36 #[.int .i64 y, .int .i64 m, .int .i64 d] w fun r' w' => r' = .returned (.tuple #[.int .i64 v, .int .i64 e]) ∧ w' = w))
    (w : World) :
    Calls Tryd.prog 10 #[.int .i64 y, .int .i64 m, .int .i64 d] w fun r' w' => r' = .returned (.tuple #[.agg #[.int .i64 0, .int .i64 0], .int .i64 10]) ∧ Below w.heap.size w w' := by
  have e1 : (e != 0) = true := bne_iff_ne.2 he
  have K0 : Hid (BS w [(w.heap.size, [.int .i64 0, .int .i64 0])] (w.alloc (.cells #[.int .i64 0, .int .i64 0] 23))) := ((BS.start w).new [.int .i64 0, .int .i64 0] 23 rfl)
  go_enter Tryd.func10, Tryd.ntmps10
  go_wp2_with fail
  refine (D.out _).mono ?_
  rintro e W1 ⟨rfl, rfl⟩
  go_wp2
  exact bodyPost_ret (v := .tuple #[.agg #[.int .i64 0, .int .i64 0], .int .i64 10]) (by simp [results, Tryd.results10, go_sem]) rfl ⟨rfl, (by repeat' (first | assumption | exact Below.refl _ _ | exact Nat.le_refl _ | refine Below.alloc ?_ ?_ _ | (simp; done) | (simp; omega) | omega))⟩

set_option maxRecDepth 100000 in
set_option maxHeartbeats 4000000 in
theorem rmake_true (y m d v : Int)
    (D : Hid (∀ w : World, Calls Tryd.prog 36 #[.int .i64 y, .int .i64 m, .int .i64 d] w fun r' w' => r' = .returned (.tuple #[.int .i64 v, .int .i64 0]) ∧ w' = w))
    (C : Hid (∀ w : World, Calls Tryd.prog 37 #[.int .i64 v] w fun r' w' => r' = .returned (.bool true) ∧ w' = w))
    (w : World) :
    Calls Tryd.prog 10 #[.int .i64 y, .int .i64 m, .int .i64 d] w fun r' w' => r' = .returned (.tuple #[.agg #[.int .i64 0, .int .i64 v], .int .i64 0]) ∧ Below w.heap.size w w' := by
  have K0 : Hid (BS w [(w.heap.size, [.int .i64 0, .int .i64 0])] (w.alloc (.cells #[.int .i64 0, .int .i64 0] 23))) := ((BS.start w).new [.int .i64 0, .int .i64 0] 23 rfl)
  go_enter Tryd.func10, Tryd.ntmps10
  go_wp2_with fail
  refine (D.out _).mono ?_
  rintro e W1 ⟨rfl, rfl⟩
  go_wp2_with fail
  refine (C.out _).mono ?_
  rintro e W2 ⟨rfl, rfl⟩
  go_wp2
  exact bodyPost_ret (v := .tuple #[.agg #[.int .i64 0, .int .i64 v], .int .i64 0]) (by simp [results, Tryd.results10, go_sem]) rfl ⟨rfl, (by repeat' (first | assumption | exact Below.refl _ _ | exact Nat.le_refl _ | refine Below.alloc ?_ ?_ _ | (simp; done) | (simp; omega) | omega))⟩

set_option maxRecDepth 100000 in
set_option maxHeartbeats 4000000 in
theorem rmake_false (y m d v : Int)
    (D : Hid (∀ w : World, Calls Tryd.prog 36 #[.int .i64 y, .int .i64 m, .int .i64 d] w fun r' w' => r' = .returned (.tuple #[.int .i64 v, .int .i64 0]) ∧ w' = w))
    (C : Hid (∀ w : World, Calls Tryd.prog 37 #[.int .i64 v] w fun r' w' => r' = .returned (.bool false) ∧ w' = w))
    (w : World) :
    Calls Tryd.prog 10 #[.int .i64 y, .int .i64 m, .int .i64 d] w fun r' w' => r' = .returned (.tuple #[.agg #[.int .i64 0, .int .i64 0], .int .i64 10]) ∧ Below w.heap.size w w' := by
  have K0 : Hid (BS w [(w.heap.size, [.int .i64 0, .int .i64 0])] (w.alloc (.cells #[.int .i64 0, .int .i64 0] 23))) := ((BS.start w).new [.int .i64 0, .int .i64 0] 23 rfl)
  go_enter Tryd.func10, Tryd.ntmps10
  go_wp2_with fail
  refine (D.out _).mono ?_
  rintro e W1 ⟨rfl, rfl⟩
  go_wp2_with fail
  refine (C.out _).mono ?_
  rintro e W2 ⟨rfl, rfl⟩
  go_wp2
  exact bodyPost_ret (v := .tuple #[.agg #[.int .i64 0, .int .i64 0], .int .i64 10]) (by simp [results, Tryd.results10, go_sem]) rfl ⟨rfl, (by repeat' (first | assumption | exact Below.refl _ _ | exact Nat.le_refl _ | refine Below.alloc ?_ ?_ _ | (simp; done) | (simp; omega) | omega))⟩

set_option maxRecDepth 100000 in
set_option maxHeartbeats 4000000 in
theorem parts_no (i d : Int)
    (R : Hid (∀ w : World, Cvl.Lens w → Calls Tryd.prog 13 #[.agg #[.int .i64 i, .int .i64 d]] w fun r' w' => r' = .returned (.bool false) ∧ Below w.heap.size w w'))
    (w : World) (hL : Hid (∀ W : World, Below w.heap.size w W → Cvl.Lens W)) :
    Calls Tryd.prog 11 #[.agg #[.int .i64 i, .int .i64 d]] w fun r' w' => r' = .returned (.tuple #[.int .i64 0, .int .i64 0, .int .i64 0, .int .i64 1]) ∧ Below w.heap.size w w' := by
  have K0 : Hid (BS w [(w.heap.size, [.int .i64 i, .int .i64 d])] (w.alloc (.cells #[.int .i64 i, .int .i64 d] 23))) := ((BS.start w).new [.int .i64 i, .int .i64 d] 23 rfl)
  go_enter Tryd.func11, Tryd.ntmps11
  go_wp2_with fail
  refine (R.out _ (hL.out _ K0.out.1)).mono ?_
  rintro e W1 ⟨rfl, hb⟩
  have K1 : Hid (BS w [(w.heap.size, [.int .i64 i, .int .i64 d])] W1) := K0.out.below hb
  clear hb K0
  have c1_0_0 : W1.cell? ⟨w.heap.size, 0, none⟩ = some (.int .i64 i) := (K1.out.at (w.heap.size) [.int .i64 i, .int .i64 d] (by simp)).c 0 rfl
  have c1_0_1 : W1.cell? ⟨w.heap.size, 1, none⟩ = some (.int .i64 d) := (K1.out.at (w.heap.size) [.int .i64 i, .int .i64 d] (by simp)).c 1 rfl
  go_wp2
  exact bodyPost_ret (v := .tuple #[.int .i64 0, .int .i64 0, .int .i64 0, .int .i64 1]) (by simp [results, Tryd.results11, go_sem]) rfl ⟨rfl, K1.out.1⟩

set_option maxRecDepth 100000 in
set_option maxHeartbeats 4000000 in
theorem parts_inf (i d : Int) (hi : i ≠ 0)
    (R : Hid (∀ w : World, Cvl.Lens w → Calls Tryd.prog 13 #[.agg #[.int .i64 i, .int .i64 d]] w fun r' w' => r' = .returned (.bool true) ∧ Below w.heap.size w w'))
    (w : World) (hL : Hid (∀ W : World, Below w.heap.size w W → Cvl.Lens W)) :
    Calls Tryd.prog 11 #[.agg #[.int .i64 i, .int .i64 d]] w fun r' w' => r' = .returned (.tuple #[.int .i64 0, .int .i64 0, .int .i64 0, .int .i64 10]) ∧ Below w.heap.size w w' := by
  have i1 : (i != 0) = true := bne_iff_ne.2 hi
  have K0 : Hid (BS w [(w.heap.size, [.int .i64 i, .int .i64 d])] (w.alloc (.cells #[.int .i64 i, .int .i64 d] 23))) := ((BS.start w).new [.int .i64 i, .int .i64 d] 23 rfl)
  go_enter Tryd.func11, Tryd.ntmps11
  go_wp2_with fail
  refine (R.out _ (hL.out _ K0.out.1)).mono ?_
  rintro e W1 ⟨rfl, hb⟩
  have K1 : Hid (BS w [(w.heap.size, [.int .i64 i, .int .i64 d])] W1) := K0.out.below hb
  clear hb K0
  have c1_0_0 : W1.cell? ⟨w.heap.size, 0, none⟩ = some (.int .i64 i) := (K1.out.at (w.heap.size) [.int .i64 i, .int .i64 d] (by simp)).c 0 rfl
  have c1_0_1 : W1.cell? ⟨w.heap.size, 1, none⟩ = some (.int .i64 d) := (K1.out.at (w.heap.size) [.int .i64 i, .int .i64 d] (by simp)).c 1 rfl
  go_wp2
  exact bodyPost_ret (v := .tuple #[.int .i64 0, .int .i64 0, .int .i64 0, .int .i64 10]) (by simp [results, Tryd.results11, go_sem]) rfl ⟨rfl, K1.out.1⟩

set_option maxRecDepth 100000 in
set_option maxHeartbeats 4000000 in
theorem parts_yes (d y m q e : Int)
    (R : Hid (∀ w : World, Cvl.Lens w → Calls Tryd.prog 13 #[.agg #[.int .i64 0, .int .i64 d]] w fun r' w' => r' = .returned (.bool true) ∧ Below w.heap.size w w'))
    (D : Hid (∀ w : World, Cvl.Lens w → Calls Tryd.prog 38 #[.int .i64 d] w fun r' w' => r' = .returned (.tuple #[.int .i64 y, .int .i64 m, .int .i64 q, .int .i64 e]) ∧ w' = w))
    (w : World) (hL : Hid (∀ W : World, Below w.heap.size w W → Cvl.Lens W)) :
    Calls Tryd.prog 11 #[.agg #[.int .i64 0, .int .i64 d]] w fun r' w' => r' = .returned (.tuple #[.int .i64 y, .int .i64 m, .int .i64 q, .int .i64 e]) ∧ Below w.heap.size w w' := by
  have K0 : Hid (BS w [(w.heap.size, [.int .i64 0, .int .i64 d])] (w.alloc (.cells #[.int .i64 0, .int .i64 d] 23))) := ((BS.start w).new [.int .i64 0, .int .i64 d] 23 rfl)
  go_enter Tryd.func11, Tryd.ntmps11
  go_wp2_with fail
  refine (R.out _ (hL.out _ K0.out.1)).mono ?_
  rintro e W1 ⟨rfl, hb⟩
  have K1 : Hid (BS w [(w.heap.size, [.int .i64 0, .int .i64 d])] W1) := K0.out.below hb
  clear hb K0
  have c1_0_0 : W1.cell? ⟨w.heap.size, 0, none⟩ = some (.int .i64 0) := (K1.out.at (w.heap.size) [.int .i64 0, .int .i64 d] (by simp)).c 0 rfl
  have c1_0_1 : W1.cell? ⟨w.heap.size, 1, none⟩ = some (.int .i64 d) := (K1.out.at (w.heap.size) [.int .i64 0, .int .i64 d] (by simp)).c 1 rfl
  go_wp2_with fail
  refine (D.out _ (hL.out _ K1.out.1)).mono ?_
  rintro e W2 ⟨rfl, rfl⟩
  go_wp2
  exact bodyPost_ret (v := .tuple #[.int .i64 y, .int .i64 m, .int .i64 q, .int .i64 e]) (by simp [results, Tryd.results11, go_sem]) rfl ⟨rfl, K1.out.1⟩

set_option maxRecDepth 100000 in
set_option maxHeartbeats 4000000 in
theorem rparts_no (i d : Int)
    (R : Hid (∀ w : World, Calls Tryd.prog 14 #[.agg #[.int .i64 i, .int .i64 d]] w fun r' w' => r' = .returned (.bool false) ∧ Below w.heap.size w w'))
    (w : World) :
    Calls Tryd.prog 12 #[.agg #[.int .i64 i, .int .i64 d]] w fun r' w' => r' = .returned (.tuple #[.int .i64 0, .int .i64 0, .int .i64 0, .int .i64 1]) ∧ Below w.heap.size w w' := by
  have K0 : Hid (BS w [(w.heap.size, [.int .i64 i, .int .i64 d])] (w.alloc (.cells #[.int .i64 i, .int .i64 d] 23))) := ((BS.start w).new [.int .i64 i, .int .i64 d] 23 rfl)
  go_enter Tryd.func12, Tryd.ntmps12
  go_wp2_with fail
  refine (R.out _).mono ?_
  rintro e W1 ⟨rfl, hb⟩
  have K1 : Hid (BS w [(w.heap.size, [.int .i64 i, .int .i64 d])] W1) := K0.out.below hb
  clear hb K0
  have c1_0_0 : W1.cell? ⟨w.heap.size, 0, none⟩ = some (.int .i64 i) := (K1.out.at (w.heap.size) [.int .i64 i, .int .i64 d] (by simp)).c 0 rfl
  have c1_0_1 : W1.cell? ⟨w.heap.size, 1, none⟩ = some (.int .i64 d) := (K1.out.at (w.heap.size) [.int .i64 i, .int .i64 d] (by simp)).c 1 rfl
  go_wp2
  exact bodyPost_ret (v := .tuple #[.int .i64 0, .int .i64 0, .int .i64 0, .int .i64 1]) (by simp [results, Tryd.results12, go_sem]) rfl ⟨rfl, K1.out.1⟩

set_option maxRecDepth 100000 in
set_option maxHeartbeats 4000000 in
theorem rparts_inf (i d : Int) (hi : i ≠ 0)
    (R : Hid (∀ w : World, Calls Tryd.prog 14 #[.agg #[.int .i64 i, .int .i64 d]] w fun r' w' => r' = .returned (.bool true) ∧ Below w.heap.size w w'))
    (w : World) :
    Calls Tryd.prog 12 #[.agg #[.int .i64 i, .int .i64 d]] w fun r' w' => r' = .returned (.tuple #[.int .i64 0, .int .i64 0, .int .i64 0, .int .i64 10]) ∧ Below w.heap.size w w' := by
  have i1 : (i != 0) = true := bne_iff_ne.2 hi
  have K0 : Hid (BS w [(w.heap.size, [.int .i64 i, .int .i64 d])] (w.alloc (.cells #[.int .i64 i, .int .i64 d] 23))) := ((BS.start w).new [.int .i64 i, .int .i64 d] 23 rfl)
  go_enter Tryd.func12, Tryd.ntmps12
  go_wp2_with fail
  refine (R.out _).mono ?_
  rintro e W1 ⟨rfl, hb⟩
  have K1 : Hid (BS w [(w.heap.size, [.int .i64 i, .int .i64 d])] W1) := K0.out.below hb
  clear hb K0
  have c1_0_0 : W1.cell? ⟨w.heap.size, 0, none⟩ = some (.int .i64 i) := (K1.out.at (w.heap.size) [.int .i64 i, .int .i64 d] (by simp)).c 0 rfl
  have c1_0_1 : W1.cell? ⟨w.heap.size, 1, none⟩ = some (.int .i64 d) := (K1.out.at (w.heap.size) [.int .i64 i, .int .i64 d] (by simp)).c 1 rfl
  go_wp2
  exact bodyPost_ret (v := .tuple #[.int .i64 0, .int .i64 0, .int .i64 0, .int .i64 10]) (by simp [results, Tryd.results12, go_sem]) rfl ⟨rfl, K1.out.1⟩

set_option maxRecDepth 100000 in
set_option maxHeartbeats 4000000 in
theorem rparts_yes (d y m q e : Int)
    (R : Hid (∀ w : World, Calls Tryd.prog 14 #[.agg #[.int .i64 0, .int .i64 d]] w fun r' w' => r' = .returned (.bool true) ∧ Below w.heap.size w w'))
    (D : Hid (∀ w : World, Calls Tryd.prog 39 #[.int .i64 d] w fun r' w' => r' = .returned (.tuple #[.int .i64 y, .int .i64 m, .int .i64 q, .int .i64 e]) ∧ w' = w))
    (w : World) :
    Calls Tryd.prog 12 #[.agg #[.int .i64 0, .int .i64 d]] w fun r' w' => r' = .returned (.tuple #[.int .i64 y, .int .i64 m, .int .i64 q, .int .i64 e]) ∧ Below w.heap.size w w' := by
  have K0 : Hid (BS w [(w.heap.size, [.int .i64 0, .int .i64 d])] (w.alloc (.cells #[.int .i64 0, .int .i64 d] 23))) := ((BS.start w).new [.int .i64 0, .int .i64 d] 23 rfl)
  go_enter Tryd.func12, Tryd.ntmps12
  go_wp2_with fail
  refine (R.out _).mono ?_
  rintro e W1 ⟨rfl, hb⟩
  have K1 : Hid (BS w [(w.heap.size, [.int .i64 0, .int .i64 d])] W1) := K0.out.below hb
  clear hb K0
  have c1_0_0 : W1.cell? ⟨w.heap.size, 0, none⟩ = some (.int .i64 0) := (K1.out.at (w.heap.size) [.int .i64 0, .int .i64 d] (by simp)).c 0 rfl
  have c1_0_1 : W1.cell? ⟨w.heap.size, 1, none⟩ = some (.int .i64 d) := (K1.out.at (w.heap.size) [.int .i64 0, .int .i64 d] (by simp)).c 1 rfl
  go_wp2_with fail
  refine (D.out _).mono ?_
  rintro e W2 ⟨rfl, rfl⟩
  go_wp2
  exact bodyPost_ret (v := .tuple #[.int .i64 y, .int .i64 m, .int .i64 q, .int .i64 e]) (by simp [results, Tryd.results12, go_sem]) rfl ⟨rfl, K1.out.1⟩

set_option maxRecDepth 100000 in
set_option maxHeartbeats 4000000 in
theorem mvd_no (i d n : Int)
    (R : Hid (∀ w : World, Cvl.Lens w → Calls Tryd.prog 13 #[.agg #[.int .i64 i, .int .i64 d]] w fun r' w' => r' = .returned (.bool false) ∧ Below w.heap.size w w'))
    (w : World) (hL : Hid (∀ W : World, Below w.heap.size w W → Cvl.Lens W)) :
    Calls Tryd.prog 41 #[.agg #[.int .i64 i, .int .i64 d], .func (.func 42) #[.int .i64 n] #[]] w fun r' w' => r' = .returned (.tuple #[.agg #[.int .i64 0, .int .i64 0], .int .i64 1]) ∧ Below w.heap.size w w' := by
  have K0 : Hid (BS w [(w.heap.size + 1, [.int .i64 0, .int .i64 0]), (w.heap.size, [.int .i64 i, .int .i64 d])] ((w.alloc (.cells #[.int .i64 i, .int .i64 d] 23)).alloc (.cells #[.int .i64 0, .int .i64 0] 23))) := (((BS.start w).new [.int .i64 i, .int .i64 d] 23 rfl).new [.int .i64 0, .int .i64 0] 23 (by simp))
  go_enter Tryd.func41, Tryd.ntmps41
  go_wp2_with fail
  refine (R.out _ (hL.out _ K0.out.1)).mono ?_
  rintro e W1 ⟨rfl, hb⟩
  have K1 : Hid (BS w [(w.heap.size + 1, [.int .i64 0, .int .i64 0]), (w.heap.size, [.int .i64 i, .int .i64 d])] W1) := K0.out.below hb
  clear hb K0
  have c1_0_0 : W1.cell? ⟨w.heap.size + 1, 0, none⟩ = some (.int .i64 0) := (K1.out.at (w.heap.size + 1) [.int .i64 0, .int .i64 0] (by simp)).c 0 rfl
  have z1_0_0 : W1.frozen? ⟨w.heap.size + 1, 0, none⟩ = false := (K1.out.at (w.heap.size + 1) [.int .i64 0, .int .i64 0] (by simp)).f 0 rfl
  have c1_0_1 : W1.cell? ⟨w.heap.size + 1, 1, none⟩ = some (.int .i64 0) := (K1.out.at (w.heap.size + 1) [.int .i64 0, .int .i64 0] (by simp)).c 1 rfl
  have z1_0_1 : W1.frozen? ⟨w.heap.size + 1, 1, none⟩ = false := (K1.out.at (w.heap.size + 1) [.int .i64 0, .int .i64 0] (by simp)).f 1 rfl
  have c1_1_0 : W1.cell? ⟨w.heap.size, 0, none⟩ = some (.int .i64 i) := (K1.out.at (w.heap.size) [.int .i64 i, .int .i64 d] (by simp)).c 0 rfl
  have c1_1_1 : W1.cell? ⟨w.heap.size, 1, none⟩ = some (.int .i64 d) := (K1.out.at (w.heap.size) [.int .i64 i, .int .i64 d] (by simp)).c 1 rfl
  have XF : Hid (Bx (W1.setCells (w.heap.size + 1) 0 [.int .i64 0, .int .i64 0]) (w.heap.size + 1) [.int .i64 0, .int .i64 0]) := (K1.out.at (w.heap.size + 1) [.int .i64 0, .int .i64 0] (by simp)).setAll _ rfl
  have BF : Hid (Below w.heap.size w (W1.setCells (w.heap.size + 1) 0 [.int .i64 0, .int .i64 0])) := below_setCells (by omega) _ _ _ K1.out.1
  have y0 := XF.out.c 0 rfl
  have y1 := XF.out.c 1 rfl
  simp only [World.setCells, Nat.zero_add] at y0 y1
  clear XF
  go_wp2
  exact bodyPost_ret (v := .tuple #[.agg #[.int .i64 0, .int .i64 0], .int .i64 1]) (by simp [results, Tryd.results41, go_sem, y0, y1]) rfl ⟨rfl, BF.out⟩

set_option maxRecDepth 100000 in
set_option maxHeartbeats 4000000 in
theorem mvd_inf (i d n : Int) (hi : i ≠ 0)
    (R : Hid (∀ w : World, Cvl.Lens w → Calls Tryd.prog 13 #[.agg #[.int .i64 i, .int .i64 d]] w fun r' w' => r' = .returned (.bool true) ∧ Below w.heap.size w w'))
    (w : World) (hL : Hid (∀ W : World, Below w.heap.size w W → Cvl.Lens W)) :
    Calls Tryd.prog 41 #[.agg #[.int .i64 i, .int .i64 d], .func (.func 42) #[.int .i64 n] #[]] w fun r' w' => r' = .returned (.tuple #[.agg #[.int .i64 i, .int .i64 d], .int .i64 0]) ∧ Below w.heap.size w w' := by
  have i1 : (i != 0) = true := bne_iff_ne.2 hi
  have K0 : Hid (BS w [(w.heap.size + 1, [.int .i64 0, .int .i64 0]), (w.heap.size, [.int .i64 i, .int .i64 d])] ((w.alloc (.cells #[.int .i64 i, .int .i64 d] 23)).alloc (.cells #[.int .i64 0, .int .i64 0] 23))) := (((BS.start w).new [.int .i64 i, .int .i64 d] 23 rfl).new [.int .i64 0, .int .i64 0] 23 (by simp))
  go_enter Tryd.func41, Tryd.ntmps41
  go_wp2_with fail
  refine (R.out _ (hL.out _ K0.out.1)).mono ?_
  rintro e W1 ⟨rfl, hb⟩
  have K1 : Hid (BS w [(w.heap.size + 1, [.int .i64 0, .int .i64 0]), (w.heap.size, [.int .i64 i, .int .i64 d])] W1) := K0.out.below hb
  clear hb K0
  have c1_0_0 : W1.cell? ⟨w.heap.size + 1, 0, none⟩ = some (.int .i64 0) := (K1.out.at (w.heap.size + 1) [.int .i64 0, .int .i64 0] (by simp)).c 0 rfl
  have z1_0_0 : W1.frozen? ⟨w.heap.size + 1, 0, none⟩ = false := (K1.out.at (w.heap.size + 1) [.int .i64 0, .int .i64 0] (by simp)).f 0 rfl
  have c1_0_1 : W1.cell? ⟨w.heap.size + 1, 1, none⟩ = some (.int .i64 0) := (K1.out.at (w.heap.size + 1) [.int .i64 0, .int .i64 0] (by simp)).c 1 rfl
  have z1_0_1 : W1.frozen? ⟨w.heap.size + 1, 1, none⟩ = false := (K1.out.at (w.heap.size + 1) [.int .i64 0, .int .i64 0] (by simp)).f 1 rfl
  have c1_1_0 : W1.cell? ⟨w.heap.size, 0, none⟩ = some (.int .i64 i) := (K1.out.at (w.heap.size) [.int .i64 i, .int .i64 d] (by simp)).c 0 rfl
  have c1_1_1 : W1.cell? ⟨w.heap.size, 1, none⟩ = some (.int .i64 d) := (K1.out.at (w.heap.size) [.int .i64 i, .int .i64 d] (by simp)).c 1 rfl
  have XF : Hid (Bx (W1.setCells (w.heap.size + 1) 0 [.int .i64 i, .int .i64 d]) (w.heap.size + 1) [.int .i64 i, .int .i64 d]) := (K1.out.at (w.heap.size + 1) [.int .i64 0, .int .i64 0] (by simp)).setAll _ rfl
  have BF : Hid (Below w.heap.size w (W1.setCells (w.heap.size + 1) 0 [.int .i64 i, .int .i64 d])) := below_setCells (by omega) _ _ _ K1.out.1
  have y0 := XF.out.c 0 rfl
  have y1 := XF.out.c 1 rfl
  simp only [World.setCells, Nat.zero_add] at y0 y1
  clear XF
  go_wp2
  exact bodyPost_ret (v := .tuple #[.agg #[.int .i64 i, .int .i64 d], .int .i64 0]) (by simp [results, Tryd.results41, go_sem, y0, y1]) rfl ⟨rfl, BF.out⟩

set_option maxRecDepth 100000 in
set_option maxHeartbeats 4000000 in
theorem mvd_yes (d n v e V E : Int)
    (R : Hid (∀ w : World, Cvl.Lens w → Calls Tryd.prog 13 #[.agg #[.int .i64 0, .int .i64 d]] w fun r' w' => r' = .returned (.bool true) ∧ Below w.heap.size w w'))
    (F : Hid (∀ w : World, Calls Tryd.prog 42 #[.int .i64 n, .int .i64 d] w fun r' w' => r' = .returned (.tuple #[.int .i64 v, .int .i64 e]) ∧ w' = w))
    (O : Hid (∀ w : World, Cvl.Lens w → Calls Tryd.prog 35 #[.int .i64 v, .int .i64 e] w fun r' w' => r' = .returned (.tuple #[.agg #[.int .i64 0, .int .i64 V], .int .i64 E]) ∧ Below w.heap.size w w'))
    (w : World) (hL : Hid (∀ W : World, Below w.heap.size w W → Cvl.Lens W)) :
    Calls Tryd.prog 41 #[.agg #[.int .i64 0, .int .i64 d], .func (.func 42) #[.int .i64 n] #[]] w fun r' w' => r' = .returned (.tuple #[.agg #[.int .i64 0, .int .i64 V], .int .i64 E]) ∧ Below w.heap.size w w' := by
  have K0 : Hid (BS w [(w.heap.size + 1, [.int .i64 0, .int .i64 0]), (w.heap.size, [.int .i64 0, .int .i64 d])] ((w.alloc (.cells #[.int .i64 0, .int .i64 d] 23)).alloc (.cells #[.int .i64 0, .int .i64 0] 23))) := (((BS.start w).new [.int .i64 0, .int .i64 d] 23 rfl).new [.int .i64 0, .int .i64 0] 23 (by simp))
  go_enter Tryd.func41, Tryd.ntmps41
  go_wp2_with fail
  refine (R.out _ (hL.out _ K0.out.1)).mono ?_
  rintro e W1 ⟨rfl, hb⟩
  have K1 : Hid (BS w [(w.heap.size + 1, [.int .i64 0, .int .i64 0]), (w.heap.size, [.int .i64 0, .int .i64 d])] W1) := K0.out.below hb
  clear hb K0
  have c1_0_0 : W1.cell? ⟨w.heap.size + 1, 0, none⟩ = some (.int .i64 0) := (K1.out.at (w.heap.size + 1) [.int .i64 0, .int .i64 0] (by simp)).c 0 rfl
  have z1_0_0 : W1.frozen? ⟨w.heap.size + 1, 0, none⟩ = false := (K1.out.at (w.heap.size + 1) [.int .i64 0, .int .i64 0] (by simp)).f 0 rfl
  have c1_0_1 : W1.cell? ⟨w.heap.size + 1, 1, none⟩ = some (.int .i64 0) := (K1.out.at (w.heap.size + 1) [.int .i64 0, .int .i64 0] (by simp)).c 1 rfl
  have z1_0_1 : W1.frozen? ⟨w.heap.size + 1, 1, none⟩ = false := (K1.out.at (w.heap.size + 1) [.int .i64 0, .int .i64 0] (by simp)).f 1 rfl
  have c1_1_0 : W1.cell? ⟨w.heap.size, 0, none⟩ = some (.int .i64 0) := (K1.out.at (w.heap.size) [.int .i64 0, .int .i64 d] (by simp)).c 0 rfl
  have c1_1_1 : W1.cell? ⟨w.heap.size, 1, none⟩ = some (.int .i64 d) := (K1.out.at (w.heap.size) [.int .i64 0, .int .i64 d] (by simp)).c 1 rfl
  go_wp2_with fail
  refine (F.out _).mono ?_
  rintro e W2 ⟨rfl, rfl⟩
  go_wp2_with fail
  refine (O.out _ (hL.out _ K1.out.1)).mono ?_
  rintro e W3 ⟨rfl, hb⟩
  have K3 : Hid (BS w [(w.heap.size + 1, [.int .i64 0, .int .i64 0]), (w.heap.size, [.int .i64 0, .int .i64 d])] W3) := K1.out.below hb
  clear c1_0_0 z1_0_0 c1_0_1 z1_0_1 c1_1_0 c1_1_1
  clear hb K1
  have c3_0_0 : W3.cell? ⟨w.heap.size + 1, 0, none⟩ = some (.int .i64 0) := (K3.out.at (w.heap.size + 1) [.int .i64 0, .int .i64 0] (by simp)).c 0 rfl
  have z3_0_0 : W3.frozen? ⟨w.heap.size + 1, 0, none⟩ = false := (K3.out.at (w.heap.size + 1) [.int .i64 0, .int .i64 0] (by simp)).f 0 rfl
  have c3_0_1 : W3.cell? ⟨w.heap.size + 1, 1, none⟩ = some (.int .i64 0) := (K3.out.at (w.heap.size + 1) [.int .i64 0, .int .i64 0] (by simp)).c 1 rfl
  have z3_0_1 : W3.frozen? ⟨w.heap.size + 1, 1, none⟩ = false := (K3.out.at (w.heap.size + 1) [.int .i64 0, .int .i64 0] (by simp)).f 1 rfl
  have c3_1_0 : W3.cell? ⟨w.heap.size, 0, none⟩ = some (.int .i64 0) := (K3.out.at (w.heap.size) [.int .i64 0, .int .i64 d] (by simp)).c 0 rfl
  have c3_1_1 : W3.cell? ⟨w.heap.size, 1, none⟩ = some (.int .i64 d) := (K3.out.at (w.heap.size) [.int .i64 0, .int .i64 d] (by simp)).c 1 rfl
  have XF : Hid (Bx (W3.setCells (w.heap.size + 1) 0 [.int .i64 0, .int .i64 V]) (w.heap.size + 1) [.int .i64 0, .int .i64 V]) := (K3.out.at (w.heap.size + 1) [.int .i64 0, .int .i64 0] (by simp)).setAll _ rfl
  have BF : Hid (Below w.heap.size w (W3.setCells (w.heap.size + 1) 0 [.int .i64 0, .int .i64 V])) := below_setCells (by omega) _ _ _ K3.out.1
  have y0 := XF.out.c 0 rfl
  have y1 := XF.out.c 1 rfl
  simp only [World.setCells, Nat.zero_add] at y0 y1
  clear XF
  go_wp2
  exact bodyPost_ret (v := .tuple #[.agg #[.int .i64 0, .int .i64 V], .int .i64 E]) (by simp [results, Tryd.results41, go_sem, y0, y1]) rfl ⟨rfl, BF.out⟩

set_option maxRecDepth 100000 in
set_option maxHeartbeats 4000000 in
theorem dadd_run (i d n a b E : Int)
    (M : Hid (∀ w : World, Cvl.Lens w → Calls Tryd.prog 41 #[.agg #[.int .i64 i, .int .i64 d], .func (.func 42) #[.int .i64 n] #[]] w fun r' w' => r' = .returned (.tuple #[.agg #[.int .i64 a, .int .i64 b], .int .i64 E]) ∧ Below w.heap.size w w'))
    (w : World) (hL : Hid (∀ W : World, Below w.heap.size w W → Cvl.Lens W)) :
    Calls Tryd.prog 16 #[.agg #[.int .i64 i, .int .i64 d], .int .i64 n] w fun r' w' => r' = .returned (.tuple #[.agg #[.int .i64 a, .int .i64 b], .int .i64 E]) ∧ Below w.heap.size w w' := by
  have K0 : Hid (BS w [(w.heap.size + 1, [.int .i64 0, .int .i64 0]), (w.heap.size, [.int .i64 i, .int .i64 d])] ((w.alloc (.cells #[.int .i64 i, .int .i64 d] 23)).alloc (.cells #[.int .i64 0, .int .i64 0] 23))) := (((BS.start w).new [.int .i64 i, .int .i64 d] 23 rfl).new [.int .i64 0, .int .i64 0] 23 (by simp))
  go_enter Tryd.func16, Tryd.ntmps16
  go_wp2_with fail
  refine (M.out _ (hL.out _ K0.out.1)).mono ?_
  rintro e W1 ⟨rfl, hb⟩
  have K1 : Hid (BS w [(w.heap.size + 1, [.int .i64 0, .int .i64 0]), (w.heap.size, [.int .i64 i, .int .i64 d])] W1) := K0.out.below hb
  clear hb K0
  have c1_0_0 : W1.cell? ⟨w.heap.size + 1, 0, none⟩ = some (.int .i64 0) := (K1.out.at (w.heap.size + 1) [.int .i64 0, .int .i64 0] (by simp)).c 0 rfl
  have z1_0_0 : W1.frozen? ⟨w.heap.size + 1, 0, none⟩ = false := (K1.out.at (w.heap.size + 1) [.int .i64 0, .int .i64 0] (by simp)).f 0 rfl
  have c1_0_1 : W1.cell? ⟨w.heap.size + 1, 1, none⟩ = some (.int .i64 0) := (K1.out.at (w.heap.size + 1) [.int .i64 0, .int .i64 0] (by simp)).c 1 rfl
  have z1_0_1 : W1.frozen? ⟨w.heap.size + 1, 1, none⟩ = false := (K1.out.at (w.heap.size + 1) [.int .i64 0, .int .i64 0] (by simp)).f 1 rfl
  have c1_1_0 : W1.cell? ⟨w.heap.size, 0, none⟩ = some (.int .i64 i) := (K1.out.at (w.heap.size) [.int .i64 i, .int .i64 d] (by simp)).c 0 rfl
  have c1_1_1 : W1.cell? ⟨w.heap.size, 1, none⟩ = some (.int .i64 d) := (K1.out.at (w.heap.size) [.int .i64 i, .int .i64 d] (by simp)).c 1 rfl
  have XF : Hid (Bx (W1.setCells (w.heap.size + 1) 0 [.int .i64 a, .int .i64 b]) (w.heap.size + 1) [.int .i64 a, .int .i64 b]) := (K1.out.at (w.heap.size + 1) [.int .i64 0, .int .i64 0] (by simp)).setAll _ rfl
  have BF : Hid (Below w.heap.size w (W1.setCells (w.heap.size + 1) 0 [.int .i64 a, .int .i64 b])) := below_setCells (by omega) _ _ _ K1.out.1
  have y0 := XF.out.c 0 rfl
  have y1 := XF.out.c 1 rfl
  simp only [World.setCells, Nat.zero_add] at y0 y1
  clear XF
  go_wp2
  exact bodyPost_ret (v := .tuple #[.agg #[.int .i64 a, .int .i64 b], .int .i64 E]) (by simp [results, Tryd.results16, go_sem, y0, y1]) rfl ⟨rfl, BF.out⟩

set_option maxRecDepth 100000 in
set_option maxHeartbeats 4000000 in
theorem mvm_no (i d n : Int)
    (R : Hid (∀ w : World, Cvl.Lens w → Calls Tryd.prog 13 #[.agg #[.int .i64 i, .int .i64 d]] w fun r' w' => r' = .returned (.bool false) ∧ Below w.heap.size w w'))
    (w : World) (hL : Hid (∀ W : World, Below w.heap.size w W → Cvl.Lens W)) :
    Calls Tryd.prog 41 #[.agg #[.int .i64 i, .int .i64 d], .func (.func 46) #[.int .i64 n] #[]] w fun r' w' => r' = .returned (.tuple #[.agg #[.int .i64 0, .int .i64 0], .int .i64 1]) ∧ Below w.heap.size w w' := by
  have K0 : Hid (BS w [(w.heap.size + 1, [.int .i64 0, .int .i64 0]), (w.heap.size, [.int .i64 i, .int .i64 d])] ((w.alloc (.cells #[.int .i64 i, .int .i64 d] 23)).alloc (.cells #[.int .i64 0, .int .i64 0] 23))) := (((BS.start w).new [.int .i64 i, .int .i64 d] 23 rfl).new [.int .i64 0, .int .i64 0] 23 (by simp))
  go_enter Tryd.func41, Tryd.ntmps41
  go_wp2_with fail
  refine (R.out _ (hL.out _ K0.out.1)).mono ?_
  rintro e W1 ⟨rfl, hb⟩
  have K1 : Hid (BS w [(w.heap.size + 1, [.int .i64 0, .int .i64 0]), (w.heap.size, [.int .i64 i, .int .i64 d])] W1) := K0.out.below hb
  clear hb K0
  have c1_0_0 : W1.cell? ⟨w.heap.size + 1, 0, none⟩ = some (.int .i64 0) := (K1.out.at (w.heap.size + 1) [.int .i64 0, .int .i64 0] (by simp)).c 0 rfl
  have z1_0_0 : W1.frozen? ⟨w.heap.size + 1, 0, none⟩ = false := (K1.out.at (w.heap.size + 1) [.int .i64 0, .int .i64 0] (by simp)).f 0 rfl
  have c1_0_1 : W1.cell? ⟨w.heap.size + 1, 1, none⟩ = some (.int .i64 0) := (K1.out.at (w.heap.size + 1) [.int .i64 0, .int .i64 0] (by simp)).c 1 rfl
  have z1_0_1 : W1.frozen? ⟨w.heap.size + 1, 1, none⟩ = false := (K1.out.at (w.heap.size + 1) [.int .i64 0, .int .i64 0] (by simp)).f 1 rfl
  have c1_1_0 : W1.cell? ⟨w.heap.size, 0, none⟩ = some (.int .i64 i) := (K1.out.at (w.heap.size) [.int .i64 i, .int .i64 d] (by simp)).c 0 rfl
  have c1_1_1 : W1.cell? ⟨w.heap.size, 1, none⟩ = some (.int .i64 d) := (K1.out.at (w.heap.size) [.int .i64 i, .int .i64 d] (by simp)).c 1 rfl
  have XF : Hid (Bx (W1.setCells (w.heap.size + 1) 0 [.int .i64 0, .int .i64 0]) (w.heap.size + 1) [.int .i64 0, .int .i64 0]) := (K1.out.at (w.heap.size + 1) [.int .i64 0, .int .i64 0] (by simp)).setAll _ rfl
  have BF : Hid (Below w.heap.size w (W1.setCells (w.heap.size + 1) 0 [.int .i64 0, .int .i64 0])) := below_setCells (by omega) _ _ _ K1.out.1
  have y0 := XF.out.c 0 rfl
  have y1 := XF.out.c 1 rfl
  simp only [World.setCells, Nat.zero_add] at y0 y1
  clear XF
  go_wp2
  exact bodyPost_ret (v := .tuple #[.agg #[.int .i64 0, .int .i64 0], .int .i64 1]) (by simp [results, Tryd.results41, go_sem, y0, y1]) rfl ⟨rfl, BF.out⟩

set_option maxRecDepth 100000 in
set_option maxHeartbeats 4000000 in
theorem mvm_inf (i d n : Int) (hi : i ≠ 0)
    (R : Hid (∀ w : World, Cvl.Lens w → Calls Tryd.prog 13 #[.agg #[.int .i64 i, .int .i64 d]] w fun r' w' => r' = .returned (.bool true) ∧ Below w.heap.size w w'))
    (w : World) (hL : Hid (∀ W : World, Below w.heap.size w W → Cvl.Lens W)) :
    Calls Tryd.prog 41 #[.agg #[.int .i64 i, .int .i64 d], .func (.func 46) #[.int .i64 n] #[]] w fun r' w' => r' = .returned (.tuple #[.agg #[.int .i64 i, .int .i64 d], .int .i64 0]) ∧ Below w.heap.size w w' := by
  have i1 : (i != 0) = true := bne_iff_ne.2 hi
  have K0 : Hid (BS w [(w.heap.size + 1, [.int .i64 0, .int .i64 0]), (w.heap.size, [.int .i64 i, .int .i64 d])] ((w.alloc (.cells #[.int .i64 i, .int .i64 d] 23)).alloc (.cells #[.int .i64 0, .int .i64 0] 23))) := (((BS.start w).new [.int .i64 i, .int .i64 d] 23 rfl).new [.int .i64 0, .int .i64 0] 23 (by simp))
  go_enter Tryd.func41, Tryd.ntmps41
  go_wp2_with fail
  refine (R.out _ (hL.out _ K0.out.1)).mono ?_
  rintro e W1 ⟨rfl, hb⟩
  have K1 : Hid (BS w [(w.heap.size + 1, [.int .i64 0, .int .i64 0]), (w.heap.size, [.int .i64 i, .int .i64 d])] W1) := K0.out.below hb
  clear hb K0
  have c1_0_0 : W1.cell? ⟨w.heap.size + 1, 0, none⟩ = some (.int .i64 0) := (K1.out.at (w.heap.size + 1) [.int .i64 0, .int .i64 0] (by simp)).c 0 rfl
  have z1_0_0 : W1.frozen? ⟨w.heap.size + 1, 0, none⟩ = false := (K1.out.at (w.heap.size + 1) [.int .i64 0, .int .i64 0] (by simp)).f 0 rfl
  have c1_0_1 : W1.cell? ⟨w.heap.size + 1, 1, none⟩ = some (.int .i64 0) := (K1.out.at (w.heap.size + 1) [.int .i64 0, .int .i64 0] (by simp)).c 1 rfl
  have z1_0_1 : W1.frozen? ⟨w.heap.size + 1, 1, none⟩ = false := (K1.out.at (w.heap.size + 1) [.int .i64 0, .int .i64 0] (by simp)).f 1 rfl
  have c1_1_0 : W1.cell? ⟨w.heap.size, 0, none⟩ = some (.int .i64 i) := (K1.out.at (w.heap.size) [.int .i64 i, .int .i64 d] (by simp)).c 0 rfl
  have c1_1_1 : W1.cell? ⟨w.heap.size, 1, none⟩ = some (.int .i64 d) := (K1.out.at (w.heap.size) [.int .i64 i, .int .i64 d] (by simp)).c 1 rfl
  have XF : Hid (Bx (W1.setCells (w.heap.size + 1) 0 [.int .i64 i, .int .i64 d]) (w.heap.size + 1) [.int .i64 i, .int .i64 d]) := (K1.out.at (w.heap.size + 1) [.int .i64 0, .int .i64 0] (by simp)).setAll _ rfl
  have BF : Hid (Below w.heap.size w (W1.setCells (w.heap.size + 1) 0 [.int .i64 i, .int .i64 d])) := below_setCells (by omega) _ _ _ K1.out.1
  have y0 := XF.out.c 0 rfl
  have y1 := XF.out.c 1 rfl
  simp only [World.setCells, Nat.zero_add] at y0 y1
  clear XF
  go_wp2
  exact bodyPost_ret (v := .tuple #[.agg #[.int .i64 i, .int .i64 d], .int .i64 0]) (by simp [results, Tryd.results41, go_sem, y0, y1]) rfl ⟨rfl, BF.out⟩

set_option maxRecDepth 100000 in
set_option maxHeartbeats 4000000 in
theorem mvm_yes (d n v e V E : Int)
    (R : Hid (∀ w : World, Cvl.Lens w → Calls Tryd.prog 13 #[.agg #[.int .i64 0, .int .i64 d]] w fun r' w' => r' = .returned (.bool true) ∧ Below w.heap.size w w'))
    (F : Hid (∀ w : World, Cvl.Lens w → Calls Tryd.prog 46 #[.int .i64 n, .int .i64 d] w fun r' w' => r' = .returned (.tuple #[.int .i64 v, .int .i64 e]) ∧ w' = w))
    (O : Hid (∀ w : World, Cvl.Lens w → Calls Tryd.prog 35 #[.int .i64 v, .int .i64 e] w fun r' w' => r' = .returned (.tuple #[.agg #[.int .i64 0, .int .i64 V], .int .i64 E]) ∧ Below w.heap.size w w'))
    (w : World) (hL : Hid (∀ W : World, Below w.heap.size w W → Cvl.Lens W)) :
    Calls Tryd.prog 41 #[.agg #[.int .i64 0, .int .i64 d], .func (.func 46) #[.int .i64 n] #[]] w fun r' w' => r' = .returned (.tuple #[.agg #[.int .i64 0, .int .i64 V], .int .i64 E]) ∧ Below w.heap.size w w' := by
  have K0 : Hid (BS w [(w.heap.size + 1, [.int .i64 0, .int .i64 0]), (w.heap.size, [.int .i64 0, .int .i64 d])] ((w.alloc (.cells #[.int .i64 0, .int .i64 d] 23)).alloc (.cells #[.int .i64 0, .int .i64 0] 23))) := (((BS.start w).new [.int .i64 0, .int .i64 d] 23 rfl).new [.int .i64 0, .int .i64 0] 23 (by simp))
  go_enter Tryd.func41, Tryd.ntmps41
  go_wp2_with fail
  refine (R.out _ (hL.out _ K0.out.1)).mono ?_
  rintro e W1 ⟨rfl, hb⟩
  have K1 : Hid (BS w [(w.heap.size + 1, [.int .i64 0, .int .i64 0]), (w.heap.size, [.int .i64 0, .int .i64 d])] W1) := K0.out.below hb
  clear hb K0
  have c1_0_0 : W1.cell? ⟨w.heap.size + 1, 0, none⟩ = some (.int .i64 0) := (K1.out.at (w.heap.size + 1) [.int .i64 0, .int .i64 0] (by simp)).c 0 rfl
  have z1_0_0 : W1.frozen? ⟨w.heap.size + 1, 0, none⟩ = false := (K1.out.at (w.heap.size + 1) [.int .i64 0, .int .i64 0] (by simp)).f 0 rfl
  have c1_0_1 : W1.cell? ⟨w.heap.size + 1, 1, none⟩ = some (.int .i64 0) := (K1.out.at (w.heap.size + 1) [.int .i64 0, .int .i64 0] (by simp)).c 1 rfl
  have z1_0_1 : W1.frozen? ⟨w.heap.size + 1, 1, none⟩ = false := (K1.out.at (w.heap.size + 1) [.int .i64 0, .int .i64 0] (by simp)).f 1 rfl
  have c1_1_0 : W1.cell? ⟨w.heap.size, 0, none⟩ = some (.int .i64 0) := (K1.out.at (w.heap.size) [.int .i64 0, .int .i64 d] (by simp)).c 0 rfl
  have c1_1_1 : W1.cell? ⟨w.heap.size, 1, none⟩ = some (.int .i64 d) := (K1.out.at (w.heap.size) [.int .i64 0, .int .i64 d] (by simp)).c 1 rfl
  go_wp2_with fail
  refine (F.out _ (hL.out _ K1.out.1)).mono ?_
  rintro e W2 ⟨rfl, rfl⟩
  go_wp2_with fail
  refine (O.out _ (hL.out _ K1.out.1)).mono ?_
  rintro e W3 ⟨rfl, hb⟩
  have K3 : Hid (BS w [(w.heap.size + 1, [.int .i64 0, .int .i64 0]), (w.heap.size, [.int .i64 0, .int .i64 d])] W3) := K1.out.below hb
  clear c1_0_0 z1_0_0 c1_0_1 z1_0_1 c1_1_0 c1_1_1
  clear hb K1
  have c3_0_0 : W3.cell? ⟨w.heap.size + 1, 0, none⟩ = some (.int .i64 0) := (K3.out.at (w.heap.size + 1) [.int .i64 0, .int .i64 0] (by simp)).c 0 rfl
  have z3_0_0 : W3.frozen? ⟨w.heap.size + 1, 0, none⟩ = false := (K3.out.at (w.heap.size + 1) [.int .i64 0, .int .i64 0] (by simp)).f 0 rfl
  have c3_0_1 : W3.cell? ⟨w.heap.size + 1, 1, none⟩ = some (.int .i64 0) := (K3.out.at (w.heap.size + 1) [.int .i64 0, .int .i64 0] (by simp)).c 1 rfl
  have z3_0_1 : W3.frozen? ⟨w.heap.size + 1, 1, none⟩ = false := (K3.out.at (w.heap.size + 1) [.int .i64 0, .int .i64 0] (by simp)).f 1 rfl
  have c3_1_0 : W3.cell? ⟨w.heap.size, 0, none⟩ = some (.int .i64 0) := (K3.out.at (w.heap.size) [.int .i64 0, .int .i64 d] (by simp)).c 0 rfl
  have c3_1_1 : W3.cell? ⟨w.heap.size, 1, none⟩ = some (.int .i64 d) := (K3.out.at (w.heap.size) [.int .i64 0, .int .i64 d] (by simp)).c 1 rfl
  have XF : Hid (Bx (W3.setCells (w.heap.size + 1) 0 [.int .i64 0, .int .i64 V]) (w.heap.size + 1) [.int .i64 0, .int .i64 V]) := (K3.out.at (w.heap.size + 1) [.int .i64 0, .int .i64 0] (by simp)).setAll _ rfl
  have BF : Hid (Below w.heap.size w (W3.setCells (w.heap.size + 1) 0 [.int .i64 0, .int .i64 V])) := below_setCells (by omega) _ _ _ K3.out.1
  have y0 := XF.out.c 0 rfl
  have y1 := XF.out.c 1 rfl
  simp only [World.setCells, Nat.zero_add] at y0 y1
  clear XF
  go_wp2
  exact bodyPost_ret (v := .tuple #[.agg #[.int .i64 0, .int .i64 V], .int .i64 E]) (by simp [results, Tryd.results41, go_sem, y0, y1]) rfl ⟨rfl, BF.out⟩

set_option maxRecDepth 100000 in
set_option maxHeartbeats 4000000 in
theorem dshift_run (i d n a b E : Int)
    (M : Hid (∀ w : World, Cvl.Lens w → Calls Tryd.prog 41 #[.agg #[.int .i64 i, .int .i64 d], .func (.func 46) #[.int .i64 n] #[]] w fun r' w' => r' = .returned (.tuple #[.agg #[.int .i64 a, .int .i64 b], .int .i64 E]) ∧ Below w.heap.size w w'))
    (w : World) (hL : Hid (∀ W : World, Below w.heap.size w W → Cvl.Lens W)) :
    Calls Tryd.prog 20 #[.agg #[.int .i64 i, .int .i64 d], .int .i64 n] w fun r' w' => r' = .returned (.tuple #[.agg #[.int .i64 a, .int .i64 b], .int .i64 E]) ∧ Below w.heap.size w w' := by
  have K0 : Hid (BS w [(w.heap.size + 1, [.int .i64 0, .int .i64 0]), (w.heap.size, [.int .i64 i, .int .i64 d])] ((w.alloc (.cells #[.int .i64 i, .int .i64 d] 23)).alloc (.cells #[.int .i64 0, .int .i64 0] 23))) := (((BS.start w).new [.int .i64 i, .int .i64 d] 23 rfl).new [.int .i64 0, .int .i64 0] 23 (by simp))
  go_enter Tryd.func20, Tryd.ntmps20
  go_wp2_with fail
  refine (M.out _ (hL.out _ K0.out.1)).mono ?_
  rintro e W1 ⟨rfl, hb⟩
  have K1 : Hid (BS w [(w.heap.size + 1, [.int .i64 0, .int .i64 0]), (w.heap.size, [.int .i64 i, .int .i64 d])] W1) := K0.out.below hb
  clear hb K0
  have c1_0_0 : W1.cell? ⟨w.heap.size + 1, 0, none⟩ = some (.int .i64 0) := (K1.out.at (w.heap.size + 1) [.int .i64 0, .int .i64 0] (by simp)).c 0 rfl
  have z1_0_0 : W1.frozen? ⟨w.heap.size + 1, 0, none⟩ = false := (K1.out.at (w.heap.size + 1) [.int .i64 0, .int .i64 0] (by simp)).f 0 rfl
  have c1_0_1 : W1.cell? ⟨w.heap.size + 1, 1, none⟩ = some (.int .i64 0) := (K1.out.at (w.heap.size + 1) [.int .i64 0, .int .i64 0] (by simp)).c 1 rfl
  have z1_0_1 : W1.frozen? ⟨w.heap.size + 1, 1, none⟩ = false := (K1.out.at (w.heap.size + 1) [.int .i64 0, .int .i64 0] (by simp)).f 1 rfl
  have c1_1_0 : W1.cell? ⟨w.heap.size, 0, none⟩ = some (.int .i64 i) := (K1.out.at (w.heap.size) [.int .i64 i, .int .i64 d] (by simp)).c 0 rfl
  have c1_1_1 : W1.cell? ⟨w.heap.size, 1, none⟩ = some (.int .i64 d) := (K1.out.at (w.heap.size) [.int .i64 i, .int .i64 d] (by simp)).c 1 rfl
  have XF : Hid (Bx (W1.setCells (w.heap.size + 1) 0 [.int .i64 a, .int .i64 b]) (w.heap.size + 1) [.int .i64 a, .int .i64 b]) := (K1.out.at (w.heap.size + 1) [.int .i64 0, .int .i64 0] (by simp)).setAll _ rfl
  have BF : Hid (Below w.heap.size w (W1.setCells (w.heap.size + 1) 0 [.int .i64 a, .int .i64 b])) := below_setCells (by omega) _ _ _ K1.out.1
  have y0 := XF.out.c 0 rfl
  have y1 := XF.out.c 1 rfl
  simp only [World.setCells, Nat.zero_add] at y0 y1
  clear XF
  go_wp2
  exact bodyPost_ret (v := .tuple #[.agg #[.int .i64 a, .int .i64 b], .int .i64 E]) (by simp [results, Tryd.results20, go_sem, y0, y1]) rfl ⟨rfl, BF.out⟩


end Go.Proofs.YtghfgabajdghiaaDoor
