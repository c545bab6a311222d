/- The walk of OpsWhole. -/
import Derived.Test.YtofmmdfdiaahhaaGreatDoorOpKq
namespace Go.Proofs.YtofmmdfdiaahhaaGreatDoor
open Go.RowKit
set_option linter.unusedVariables false

set_option maxRecDepth 100000 in
set_option maxHeartbeats 4000000 in
theorem wh_00n0 (d u i t p q x y n I V E : Int) (hx : d.tmod 1000 = x) (hy : u.tmod 86400000000000 = y) (x1 : -1000 < x) (x2 : x < 1000) (y1 : -86400000000000 < y) (y2 : y < 86400000000000) (sx : ¬ x < 0) (sy : ¬ y < 0) (hn : x * 86400000000 + y = n) (n0 : 0 ≤ n) (n9 : n < 1000000000000000) (hz : n = 0) (he : E ≠ 0)
    (BI : Hid (∀ w : World, LO w → Calls Tryz.prog 12 #[.agg #[.int .i64 0, .int .i64 0, .int .i64 x, .int .i64 y], .agg #[.int .i64 i, .int .i64 t], .agg #[.int .i64 p, .int .i64 q]] w fun r' w' => r' = .returned (.tuple #[.agg #[.int .i64 I, .int .i64 V], .int .i64 E]) ∧ Below w.heap.size w w'))
    (KN : Hid (∀ w : World, LO w → Calls Tryz.prog 9 #[] w fun r' w' => r' = .returned (.bool true) ∧ Below w.heap.size w w'))
    (w : World) (hL : Hid (∀ W : World, Below w.heap.size w W → LO W)) :
    Calls Tryz.prog 5 #[.int .i64 d, .int .i64 u, .agg #[.int .i64 i, .int .i64 t], .agg #[.int .i64 p, .int .i64 q]] w fun r' w' => r' = .returned (.bool true) ∧ Below w.heap.size w w' := by
  have n1 : (n == 0) = true := by simpa using hz
  have e1 : (E != 0) = true := bne_iff_ne.2 he
  clear hz
  have K0 : Hid (BS w [(w.heap.size + 1, [.int .i64 p, .int .i64 q]), (w.heap.size, [.int .i64 i, .int .i64 t])] ((w.alloc (.cells #[.int .i64 i, .int .i64 t] 23)).alloc (.cells #[.int .i64 p, .int .i64 q] 23))) := (((BS.start w).new [.int .i64 i, .int .i64 t] 23 rfl).new [.int .i64 p, .int .i64 q] 23 (by simp))
  go_enter Tryz.func5, Tryz.ntmps5
  go_wp2_with fail
  refine (BI.out _ (hL.out _ K0.out.1)).mono ?_
  rintro e W1 ⟨rfl, hb⟩
  have K1 := bsb K0 hb
  clear hb K0
  obtain ⟨c1_0_0, c1_0_1⟩ := (bo1 K1).c2
  obtain ⟨c1_1_0, c1_1_1⟩ := (bo2 K1).c2
  have Mz1 := bsn K1 [.int .i64 I, .int .i64 V] 23
  have lt1_0 := (bo1 K1).1
  have lt1_1 := (bo2 K1).1
  go_upto_region 9 with fail
  refine bs_to Mz1 ?_
  clear c1_0_0 c1_0_1 c1_1_0 c1_1_1
  intro W2 K2
  clear Mz1 K1
  obtain ⟨c2_0_0, c2_0_1⟩ := (bo1 K2).c2
  obtain ⟨c2_1_0, c2_1_1⟩ := (bo2 K2).c2
  obtain ⟨c2_2_0, c2_2_1⟩ := (bo3 K2).c2
  go_wp2_with fail
  refine (KN.out _ (hL.out _ K2.out.1)).mono ?_
  rintro e W3 ⟨rfl, hb⟩
  have K3 := bsb K2 hb
  clear c2_0_0 c2_0_1 c2_1_0 c2_1_1 c2_2_0 c2_2_1
  clear hb K2
  obtain ⟨c3_0_0, c3_0_1⟩ := (bo1 K3).c2
  obtain ⟨c3_1_0, c3_1_1⟩ := (bo2 K3).c2
  obtain ⟨c3_2_0, c3_2_1⟩ := (bo3 K3).c2
  go_wp2
  go_ret
  exact ⟨rfl, K3.out.1⟩

set_option maxRecDepth 100000 in
set_option maxHeartbeats 4000000 in
theorem wh_00e (d u i t p q x y n I V E : Int) (hx : d.tmod 1000 = x) (hy : u.tmod 86400000000000 = y) (x1 : -1000 < x) (x2 : x < 1000) (y1 : -86400000000000 < y) (y2 : y < 86400000000000) (sx : ¬ x < 0) (sy : ¬ y < 0) (hn : x * 86400000000 + y = n) (n0 : 0 ≤ n) (n9 : n < 1000000000000000) (hz : n ≠ 0) (he : E ≠ 0)
    (BI : Hid (∀ w : World, LO w → Calls Tryz.prog 12 #[.agg #[.int .i64 0, .int .i64 0, .int .i64 x, .int .i64 y], .agg #[.int .i64 i, .int .i64 t], .agg #[.int .i64 p, .int .i64 q]] w fun r' w' => r' = .returned (.tuple #[.agg #[.int .i64 I, .int .i64 V], .int .i64 E]) ∧ Below w.heap.size w w'))
    (KN : Hid (∀ w : World, LO w → Calls Tryz.prog 9 #[] w fun r' w' => r' = .returned (.bool true) ∧ Below w.heap.size w w'))
    (w : World) (hL : Hid (∀ W : World, Below w.heap.size w W → LO W)) :
    Calls Tryz.prog 5 #[.int .i64 d, .int .i64 u, .agg #[.int .i64 i, .int .i64 t], .agg #[.int .i64 p, .int .i64 q]] w fun r' w' => r' = .returned (.bool true) ∧ Below w.heap.size w w' := by
  have n1 : (n == 0) = false := by simpa using hz
  have e1 : (E != 0) = true := bne_iff_ne.2 he
  have K0 : Hid (BS w [(w.heap.size + 1, [.int .i64 p, .int .i64 q]), (w.heap.size, [.int .i64 i, .int .i64 t])] ((w.alloc (.cells #[.int .i64 i, .int .i64 t] 23)).alloc (.cells #[.int .i64 p, .int .i64 q] 23))) := (((BS.start w).new [.int .i64 i, .int .i64 t] 23 rfl).new [.int .i64 p, .int .i64 q] 23 (by simp))
  go_enter Tryz.func5, Tryz.ntmps5
  go_wp2_with fail
  refine (BI.out _ (hL.out _ K0.out.1)).mono ?_
  rintro e W1 ⟨rfl, hb⟩
  have K1 := bsb K0 hb
  clear hb K0
  obtain ⟨c1_0_0, c1_0_1⟩ := (bo1 K1).c2
  obtain ⟨c1_1_0, c1_1_1⟩ := (bo2 K1).c2
  have Mz1 := bsn K1 [.int .i64 I, .int .i64 V] 23
  have lt1_0 := (bo1 K1).1
  have lt1_1 := (bo2 K1).1
  go_upto_region 9 with fail
  refine bs_to Mz1 ?_
  clear c1_0_0 c1_0_1 c1_1_0 c1_1_1
  intro W2 K2
  clear Mz1 K1
  obtain ⟨c2_0_0, c2_0_1⟩ := (bo1 K2).c2
  obtain ⟨c2_1_0, c2_1_1⟩ := (bo2 K2).c2
  obtain ⟨c2_2_0, c2_2_1⟩ := (bo3 K2).c2
  go_wp2_with fail
  refine (KN.out _ (hL.out _ K2.out.1)).mono ?_
  rintro e W3 ⟨rfl, hb⟩
  have K3 := bsb K2 hb
  clear c2_0_0 c2_0_1 c2_1_0 c2_1_1 c2_2_0 c2_2_1
  clear hb K2
  obtain ⟨c3_0_0, c3_0_1⟩ := (bo1 K3).c2
  obtain ⟨c3_1_0, c3_1_1⟩ := (bo2 K3).c2
  obtain ⟨c3_2_0, c3_2_1⟩ := (bo3 K3).c2
  go_wp2
  go_ret
  exact ⟨rfl, K3.out.1⟩

set_option maxRecDepth 100000 in
set_option maxHeartbeats 4000000 in
theorem wh_00inf (d u i t p q x y n I V E : Int) (hx : d.tmod 1000 = x) (hy : u.tmod 86400000000000 = y) (x1 : -1000 < x) (x2 : x < 1000) (y1 : -86400000000000 < y) (y2 : y < 86400000000000) (sx : ¬ x < 0) (sy : ¬ y < 0) (hn : x * 86400000000 + y = n) (n0 : 0 ≤ n) (n9 : n < 1000000000000000) (hz : n ≠ 0) (hi : i ≠ 0)
    (BI : Hid (∀ w : World, LO w → Calls Tryz.prog 12 #[.agg #[.int .i64 0, .int .i64 0, .int .i64 x, .int .i64 y], .agg #[.int .i64 i, .int .i64 t], .agg #[.int .i64 p, .int .i64 q]] w fun r' w' => r' = .returned (.tuple #[.agg #[.int .i64 I, .int .i64 V], .int .i64 0]) ∧ Below w.heap.size w w'))
    (KN : Hid (∀ w : World, LO w → Calls Tryz.prog 9 #[] w fun r' w' => r' = .returned (.bool true) ∧ Below w.heap.size w w'))
    (w : World) (hL : Hid (∀ W : World, Below w.heap.size w W → LO W)) :
    Calls Tryz.prog 5 #[.int .i64 d, .int .i64 u, .agg #[.int .i64 i, .int .i64 t], .agg #[.int .i64 p, .int .i64 q]] w fun r' w' => r' = .returned (.bool true) ∧ Below w.heap.size w w' := by
  have n1 : (n == 0) = false := by simpa using hz
  have e1 : (i != 0) = true := bne_iff_ne.2 hi
  have K0 : Hid (BS w [(w.heap.size + 1, [.int .i64 p, .int .i64 q]), (w.heap.size, [.int .i64 i, .int .i64 t])] ((w.alloc (.cells #[.int .i64 i, .int .i64 t] 23)).alloc (.cells #[.int .i64 p, .int .i64 q] 23))) := (((BS.start w).new [.int .i64 i, .int .i64 t] 23 rfl).new [.int .i64 p, .int .i64 q] 23 (by simp))
  go_enter Tryz.func5, Tryz.ntmps5
  go_wp2_with fail
  refine (BI.out _ (hL.out _ K0.out.1)).mono ?_
  rintro e W1 ⟨rfl, hb⟩
  have K1 := bsb K0 hb
  clear hb K0
  obtain ⟨c1_0_0, c1_0_1⟩ := (bo1 K1).c2
  obtain ⟨c1_1_0, c1_1_1⟩ := (bo2 K1).c2
  have Mz1 := bsn K1 [.int .i64 I, .int .i64 V] 23
  have lt1_0 := (bo1 K1).1
  have lt1_1 := (bo2 K1).1
  go_upto_region 9 with fail
  refine bs_to Mz1 ?_
  clear c1_0_0 c1_0_1 c1_1_0 c1_1_1
  intro W2 K2
  clear Mz1 K1
  obtain ⟨c2_0_0, c2_0_1⟩ := (bo1 K2).c2
  obtain ⟨c2_1_0, c2_1_1⟩ := (bo2 K2).c2
  obtain ⟨c2_2_0, c2_2_1⟩ := (bo3 K2).c2
  go_wp2_with fail
  refine (KN.out _ (hL.out _ K2.out.1)).mono ?_
  rintro e W3 ⟨rfl, hb⟩
  have K3 := bsb K2 hb
  clear c2_0_0 c2_0_1 c2_1_0 c2_1_1 c2_2_0 c2_2_1
  clear hb K2
  obtain ⟨c3_0_0, c3_0_1⟩ := (bo1 K3).c2
  obtain ⟨c3_1_0, c3_1_1⟩ := (bo2 K3).c2
  obtain ⟨c3_2_0, c3_2_1⟩ := (bo3 K3).c2
  go_wp2
  go_ret
  exact ⟨rfl, K3.out.1⟩

set_option maxRecDepth 100000 in
set_option maxHeartbeats 4000000 in
theorem wh_0000 (d u t p q x y n V P Q : Int) (hx : d.tmod 1000 = x) (hy : u.tmod 86400000000000 = y) (x1 : -1000 < x) (x2 : x < 1000) (y1 : -86400000000000 < y) (y2 : y < 86400000000000) (sx : ¬ x < 0) (sy : ¬ y < 0) (hn : x * 86400000000 + y = n) (n0 : 0 ≤ n) (n9 : n < 1000000000000000) (hz : 0 < n) (hP : V.tmod n = P) (hQ : q.tmod n = Q) (p1 : -n < P) (p2 : P < n) (q1 : -n < Q) (q2 : Q < n) (sp : ¬ P < 0) (sq : ¬ Q < 0) (h1 : V ≤ t) (h2 : t - V < n) (hpq : P = Q)
    (BI : Hid (∀ w : World, LO w → Calls Tryz.prog 12 #[.agg #[.int .i64 0, .int .i64 0, .int .i64 x, .int .i64 y], .agg #[.int .i64 0, .int .i64 t], .agg #[.int .i64 p, .int .i64 q]] w fun r' w' => r' = .returned (.tuple #[.agg #[.int .i64 0, .int .i64 V], .int .i64 0]) ∧ Below w.heap.size w w'))
    (KN : Hid (∀ w : World, LO w → Calls Tryz.prog 9 #[] w fun r' w' => r' = .returned (.bool true) ∧ Below w.heap.size w w'))
    (w : World) (hL : Hid (∀ W : World, Below w.heap.size w W → LO W)) :
    Calls Tryz.prog 5 #[.int .i64 d, .int .i64 u, .agg #[.int .i64 0, .int .i64 t], .agg #[.int .i64 p, .int .i64 q]] w fun r' w' => r' = .returned (.bool true) ∧ Below w.heap.size w w' := by
  have n1 : (n == 0) = false := by simp; omega
  have n2 : n ≠ 0 := by omega
  have n3 : n ≠ -1 := by omega
  have hpq' : (P == Q) = true := by simpa using hpq
  have hpq2 : Hid (P = Q) := hpq
  clear hpq
  have K0 : Hid (BS w [(w.heap.size + 1, [.int .i64 p, .int .i64 q]), (w.heap.size, [.int .i64 0, .int .i64 t])] ((w.alloc (.cells #[.int .i64 0, .int .i64 t] 23)).alloc (.cells #[.int .i64 p, .int .i64 q] 23))) := (((BS.start w).new [.int .i64 0, .int .i64 t] 23 rfl).new [.int .i64 p, .int .i64 q] 23 (by simp))
  go_enter Tryz.func5, Tryz.ntmps5
  go_wp2_with fail
  refine (BI.out _ (hL.out _ K0.out.1)).mono ?_
  rintro e W1 ⟨rfl, hb⟩
  have K1 := bsb K0 hb
  clear hb K0
  obtain ⟨c1_0_0, c1_0_1⟩ := (bo1 K1).c2
  obtain ⟨c1_1_0, c1_1_1⟩ := (bo2 K1).c2
  have Mz1 := bsn K1 [.int .i64 0, .int .i64 V] 23
  have lt1_0 := (bo1 K1).1
  have lt1_1 := (bo2 K1).1
  go_upto_region 9 with fail
  refine bs_to Mz1 ?_
  clear c1_0_0 c1_0_1 c1_1_0 c1_1_1
  intro W2 K2
  clear Mz1 K1
  obtain ⟨c2_0_0, c2_0_1⟩ := (bo1 K2).c2
  obtain ⟨c2_1_0, c2_1_1⟩ := (bo2 K2).c2
  obtain ⟨c2_2_0, c2_2_1⟩ := (bo3 K2).c2
  go_wp2_with fail
  refine (KN.out _ (hL.out _ K2.out.1)).mono ?_
  rintro e W3 ⟨rfl, hb⟩
  have K3 := bsb K2 hb
  clear c2_0_0 c2_0_1 c2_1_0 c2_1_1 c2_2_0 c2_2_1
  clear hb K2
  obtain ⟨c3_0_0, c3_0_1⟩ := (bo1 K3).c2
  obtain ⟨c3_1_0, c3_1_1⟩ := (bo2 K3).c2
  obtain ⟨c3_2_0, c3_2_1⟩ := (bo3 K3).c2
  go_wp2
  go_ret
  exact ⟨rfl, K3.out.1⟩

set_option maxRecDepth 100000 in
set_option maxHeartbeats 4000000 in
theorem wh_0001 (d u t p q x y n V P Q : Int) (hx : d.tmod 1000 = x) (hy : u.tmod 86400000000000 = y) (x1 : -1000 < x) (x2 : x < 1000) (y1 : -86400000000000 < y) (y2 : y < 86400000000000) (sx : ¬ x < 0) (sy : ¬ y < 0) (hn : x * 86400000000 + y = n) (n0 : 0 ≤ n) (n9 : n < 1000000000000000) (hz : 0 < n) (hP : V.tmod n = P) (hQ : q.tmod n = Q) (p1 : -n < P) (p2 : P < n) (q1 : -n < Q) (q2 : Q < n) (sp : ¬ P < 0) (sq : Q < 0) (h1 : V ≤ t) (h2 : t - V < n) (hpq : P = Q + n)
    (BI : Hid (∀ w : World, LO w → Calls Tryz.prog 12 #[.agg #[.int .i64 0, .int .i64 0, .int .i64 x, .int .i64 y], .agg #[.int .i64 0, .int .i64 t], .agg #[.int .i64 p, .int .i64 q]] w fun r' w' => r' = .returned (.tuple #[.agg #[.int .i64 0, .int .i64 V], .int .i64 0]) ∧ Below w.heap.size w w'))
    (KN : Hid (∀ w : World, LO w → Calls Tryz.prog 9 #[] w fun r' w' => r' = .returned (.bool true) ∧ Below w.heap.size w w'))
    (w : World) (hL : Hid (∀ W : World, Below w.heap.size w W → LO W)) :
    Calls Tryz.prog 5 #[.int .i64 d, .int .i64 u, .agg #[.int .i64 0, .int .i64 t], .agg #[.int .i64 p, .int .i64 q]] w fun r' w' => r' = .returned (.bool true) ∧ Below w.heap.size w w' := by
  have n1 : (n == 0) = false := by simp; omega
  have n2 : n ≠ 0 := by omega
  have n3 : n ≠ -1 := by omega
  have hpq' : (P == Q + n) = true := by simpa using hpq
  have hpq2 : Hid (P = Q + n) := hpq
  clear hpq
  have K0 : Hid (BS w [(w.heap.size + 1, [.int .i64 p, .int .i64 q]), (w.heap.size, [.int .i64 0, .int .i64 t])] ((w.alloc (.cells #[.int .i64 0, .int .i64 t] 23)).alloc (.cells #[.int .i64 p, .int .i64 q] 23))) := (((BS.start w).new [.int .i64 0, .int .i64 t] 23 rfl).new [.int .i64 p, .int .i64 q] 23 (by simp))
  go_enter Tryz.func5, Tryz.ntmps5
  go_wp2_with fail
  refine (BI.out _ (hL.out _ K0.out.1)).mono ?_
  rintro e W1 ⟨rfl, hb⟩
  have K1 := bsb K0 hb
  clear hb K0
  obtain ⟨c1_0_0, c1_0_1⟩ := (bo1 K1).c2
  obtain ⟨c1_1_0, c1_1_1⟩ := (bo2 K1).c2
  have Mz1 := bsn K1 [.int .i64 0, .int .i64 V] 23
  have lt1_0 := (bo1 K1).1
  have lt1_1 := (bo2 K1).1
  go_upto_region 9 with fail
  refine bs_to Mz1 ?_
  clear c1_0_0 c1_0_1 c1_1_0 c1_1_1
  intro W2 K2
  clear Mz1 K1
  obtain ⟨c2_0_0, c2_0_1⟩ := (bo1 K2).c2
  obtain ⟨c2_1_0, c2_1_1⟩ := (bo2 K2).c2
  obtain ⟨c2_2_0, c2_2_1⟩ := (bo3 K2).c2
  go_wp2_with fail
  refine (KN.out _ (hL.out _ K2.out.1)).mono ?_
  rintro e W3 ⟨rfl, hb⟩
  have K3 := bsb K2 hb
  clear c2_0_0 c2_0_1 c2_1_0 c2_1_1 c2_2_0 c2_2_1
  clear hb K2
  obtain ⟨c3_0_0, c3_0_1⟩ := (bo1 K3).c2
  obtain ⟨c3_1_0, c3_1_1⟩ := (bo2 K3).c2
  obtain ⟨c3_2_0, c3_2_1⟩ := (bo3 K3).c2
  go_wp2
  go_ret
  exact ⟨rfl, K3.out.1⟩

set_option maxRecDepth 100000 in
set_option maxHeartbeats 4000000 in
theorem wh_0010 (d u t p q x y n V P Q : Int) (hx : d.tmod 1000 = x) (hy : u.tmod 86400000000000 = y) (x1 : -1000 < x) (x2 : x < 1000) (y1 : -86400000000000 < y) (y2 : y < 86400000000000) (sx : ¬ x < 0) (sy : ¬ y < 0) (hn : x * 86400000000 + y = n) (n0 : 0 ≤ n) (n9 : n < 1000000000000000) (hz : 0 < n) (hP : V.tmod n = P) (hQ : q.tmod n = Q) (p1 : -n < P) (p2 : P < n) (q1 : -n < Q) (q2 : Q < n) (sp : P < 0) (sq : ¬ Q < 0) (h1 : V ≤ t) (h2 : t - V < n) (hpq : P + n = Q)
    (BI : Hid (∀ w : World, LO w → Calls Tryz.prog 12 #[.agg #[.int .i64 0, .int .i64 0, .int .i64 x, .int .i64 y], .agg #[.int .i64 0, .int .i64 t], .agg #[.int .i64 p, .int .i64 q]] w fun r' w' => r' = .returned (.tuple #[.agg #[.int .i64 0, .int .i64 V], .int .i64 0]) ∧ Below w.heap.size w w'))
    (KN : Hid (∀ w : World, LO w → Calls Tryz.prog 9 #[] w fun r' w' => r' = .returned (.bool true) ∧ Below w.heap.size w w'))
    (w : World) (hL : Hid (∀ W : World, Below w.heap.size w W → LO W)) :
    Calls Tryz.prog 5 #[.int .i64 d, .int .i64 u, .agg #[.int .i64 0, .int .i64 t], .agg #[.int .i64 p, .int .i64 q]] w fun r' w' => r' = .returned (.bool true) ∧ Below w.heap.size w w' := by
  have n1 : (n == 0) = false := by simp; omega
  have n2 : n ≠ 0 := by omega
  have n3 : n ≠ -1 := by omega
  have hpq' : (P + n == Q) = true := by simpa using hpq
  have hpq2 : Hid (P + n = Q) := hpq
  clear hpq
  have K0 : Hid (BS w [(w.heap.size + 1, [.int .i64 p, .int .i64 q]), (w.heap.size, [.int .i64 0, .int .i64 t])] ((w.alloc (.cells #[.int .i64 0, .int .i64 t] 23)).alloc (.cells #[.int .i64 p, .int .i64 q] 23))) := (((BS.start w).new [.int .i64 0, .int .i64 t] 23 rfl).new [.int .i64 p, .int .i64 q] 23 (by simp))
  go_enter Tryz.func5, Tryz.ntmps5
  go_wp2_with fail
  refine (BI.out _ (hL.out _ K0.out.1)).mono ?_
  rintro e W1 ⟨rfl, hb⟩
  have K1 := bsb K0 hb
  clear hb K0
  obtain ⟨c1_0_0, c1_0_1⟩ := (bo1 K1).c2
  obtain ⟨c1_1_0, c1_1_1⟩ := (bo2 K1).c2
  have Mz1 := bsn K1 [.int .i64 0, .int .i64 V] 23
  have lt1_0 := (bo1 K1).1
  have lt1_1 := (bo2 K1).1
  go_upto_region 9 with fail
  refine bs_to Mz1 ?_
  clear c1_0_0 c1_0_1 c1_1_0 c1_1_1
  intro W2 K2
  clear Mz1 K1
  obtain ⟨c2_0_0, c2_0_1⟩ := (bo1 K2).c2
  obtain ⟨c2_1_0, c2_1_1⟩ := (bo2 K2).c2
  obtain ⟨c2_2_0, c2_2_1⟩ := (bo3 K2).c2
  go_wp2_with fail
  refine (KN.out _ (hL.out _ K2.out.1)).mono ?_
  rintro e W3 ⟨rfl, hb⟩
  have K3 := bsb K2 hb
  clear c2_0_0 c2_0_1 c2_1_0 c2_1_1 c2_2_0 c2_2_1
  clear hb K2
  obtain ⟨c3_0_0, c3_0_1⟩ := (bo1 K3).c2
  obtain ⟨c3_1_0, c3_1_1⟩ := (bo2 K3).c2
  obtain ⟨c3_2_0, c3_2_1⟩ := (bo3 K3).c2
  go_wp2
  go_ret
  exact ⟨rfl, K3.out.1⟩

set_option maxRecDepth 100000 in
set_option maxHeartbeats 4000000 in
theorem wh_0011 (d u t p q x y n V P Q : Int) (hx : d.tmod 1000 = x) (hy : u.tmod 86400000000000 = y) (x1 : -1000 < x) (x2 : x < 1000) (y1 : -86400000000000 < y) (y2 : y < 86400000000000) (sx : ¬ x < 0) (sy : ¬ y < 0) (hn : x * 86400000000 + y = n) (n0 : 0 ≤ n) (n9 : n < 1000000000000000) (hz : 0 < n) (hP : V.tmod n = P) (hQ : q.tmod n = Q) (p1 : -n < P) (p2 : P < n) (q1 : -n < Q) (q2 : Q < n) (sp : P < 0) (sq : Q < 0) (h1 : V ≤ t) (h2 : t - V < n) (hpq : P + n = Q + n)
    (BI : Hid (∀ w : World, LO w → Calls Tryz.prog 12 #[.agg #[.int .i64 0, .int .i64 0, .int .i64 x, .int .i64 y], .agg #[.int .i64 0, .int .i64 t], .agg #[.int .i64 p, .int .i64 q]] w fun r' w' => r' = .returned (.tuple #[.agg #[.int .i64 0, .int .i64 V], .int .i64 0]) ∧ Below w.heap.size w w'))
    (KN : Hid (∀ w : World, LO w → Calls Tryz.prog 9 #[] w fun r' w' => r' = .returned (.bool true) ∧ Below w.heap.size w w'))
    (w : World) (hL : Hid (∀ W : World, Below w.heap.size w W → LO W)) :
    Calls Tryz.prog 5 #[.int .i64 d, .int .i64 u, .agg #[.int .i64 0, .int .i64 t], .agg #[.int .i64 p, .int .i64 q]] w fun r' w' => r' = .returned (.bool true) ∧ Below w.heap.size w w' := by
  have n1 : (n == 0) = false := by simp; omega
  have n2 : n ≠ 0 := by omega
  have n3 : n ≠ -1 := by omega
  have hpq' : (P + n == Q + n) = true := by simpa using hpq
  have hpq2 : Hid (P + n = Q + n) := hpq
  clear hpq
  have K0 : Hid (BS w [(w.heap.size + 1, [.int .i64 p, .int .i64 q]), (w.heap.size, [.int .i64 0, .int .i64 t])] ((w.alloc (.cells #[.int .i64 0, .int .i64 t] 23)).alloc (.cells #[.int .i64 p, .int .i64 q] 23))) := (((BS.start w).new [.int .i64 0, .int .i64 t] 23 rfl).new [.int .i64 p, .int .i64 q] 23 (by simp))
  go_enter Tryz.func5, Tryz.ntmps5
  go_wp2_with fail
  refine (BI.out _ (hL.out _ K0.out.1)).mono ?_
  rintro e W1 ⟨rfl, hb⟩
  have K1 := bsb K0 hb
  clear hb K0
  obtain ⟨c1_0_0, c1_0_1⟩ := (bo1 K1).c2
  obtain ⟨c1_1_0, c1_1_1⟩ := (bo2 K1).c2
  have Mz1 := bsn K1 [.int .i64 0, .int .i64 V] 23
  have lt1_0 := (bo1 K1).1
  have lt1_1 := (bo2 K1).1
  go_upto_region 9 with fail
  refine bs_to Mz1 ?_
  clear c1_0_0 c1_0_1 c1_1_0 c1_1_1
  intro W2 K2
  clear Mz1 K1
  obtain ⟨c2_0_0, c2_0_1⟩ := (bo1 K2).c2
  obtain ⟨c2_1_0, c2_1_1⟩ := (bo2 K2).c2
  obtain ⟨c2_2_0, c2_2_1⟩ := (bo3 K2).c2
  go_wp2_with fail
  refine (KN.out _ (hL.out _ K2.out.1)).mono ?_
  rintro e W3 ⟨rfl, hb⟩
  have K3 := bsb K2 hb
  clear c2_0_0 c2_0_1 c2_1_0 c2_1_1 c2_2_0 c2_2_1
  clear hb K2
  obtain ⟨c3_0_0, c3_0_1⟩ := (bo1 K3).c2
  obtain ⟨c3_1_0, c3_1_1⟩ := (bo2 K3).c2
  obtain ⟨c3_2_0, c3_2_1⟩ := (bo3 K3).c2
  go_wp2
  go_ret
  exact ⟨rfl, K3.out.1⟩

set_option maxRecDepth 100000 in
set_option maxHeartbeats 4000000 in
theorem wh_01n0 (d u i t p q x y n I V E : Int) (hx : d.tmod 1000 = x) (hy : u.tmod 86400000000000 = y) (x1 : -1000 < x) (x2 : x < 1000) (y1 : -86400000000000 < y) (y2 : y < 86400000000000) (sx : ¬ x < 0) (sy : y < 0) (hn : x * 86400000000 + -y = n) (n0 : 0 ≤ n) (n9 : n < 1000000000000000) (hz : n = 0) (he : E ≠ 0)
    (BI : Hid (∀ w : World, LO w → Calls Tryz.prog 12 #[.agg #[.int .i64 0, .int .i64 0, .int .i64 x, .int .i64 (-y)], .agg #[.int .i64 i, .int .i64 t], .agg #[.int .i64 p, .int .i64 q]] w fun r' w' => r' = .returned (.tuple #[.agg #[.int .i64 I, .int .i64 V], .int .i64 E]) ∧ Below w.heap.size w w'))
    (KN : Hid (∀ w : World, LO w → Calls Tryz.prog 9 #[] w fun r' w' => r' = .returned (.bool true) ∧ Below w.heap.size w w'))
    (w : World) (hL : Hid (∀ W : World, Below w.heap.size w W → LO W)) :
    Calls Tryz.prog 5 #[.int .i64 d, .int .i64 u, .agg #[.int .i64 i, .int .i64 t], .agg #[.int .i64 p, .int .i64 q]] w fun r' w' => r' = .returned (.bool true) ∧ Below w.heap.size w w' := by
  have n1 : (n == 0) = true := by simpa using hz
  have e1 : (E != 0) = true := bne_iff_ne.2 he
  clear hz
  have K0 : Hid (BS w [(w.heap.size + 1, [.int .i64 p, .int .i64 q]), (w.heap.size, [.int .i64 i, .int .i64 t])] ((w.alloc (.cells #[.int .i64 i, .int .i64 t] 23)).alloc (.cells #[.int .i64 p, .int .i64 q] 23))) := (((BS.start w).new [.int .i64 i, .int .i64 t] 23 rfl).new [.int .i64 p, .int .i64 q] 23 (by simp))
  go_enter Tryz.func5, Tryz.ntmps5
  go_wp2_with fail
  refine (BI.out _ (hL.out _ K0.out.1)).mono ?_
  rintro e W1 ⟨rfl, hb⟩
  have K1 := bsb K0 hb
  clear hb K0
  obtain ⟨c1_0_0, c1_0_1⟩ := (bo1 K1).c2
  obtain ⟨c1_1_0, c1_1_1⟩ := (bo2 K1).c2
  have Mz1 := bsn K1 [.int .i64 I, .int .i64 V] 23
  have lt1_0 := (bo1 K1).1
  have lt1_1 := (bo2 K1).1
  go_upto_region 9 with fail
  refine bs_to Mz1 ?_
  clear c1_0_0 c1_0_1 c1_1_0 c1_1_1
  intro W2 K2
  clear Mz1 K1
  obtain ⟨c2_0_0, c2_0_1⟩ := (bo1 K2).c2
  obtain ⟨c2_1_0, c2_1_1⟩ := (bo2 K2).c2
  obtain ⟨c2_2_0, c2_2_1⟩ := (bo3 K2).c2
  go_wp2_with fail
  refine (KN.out _ (hL.out _ K2.out.1)).mono ?_
  rintro e W3 ⟨rfl, hb⟩
  have K3 := bsb K2 hb
  clear c2_0_0 c2_0_1 c2_1_0 c2_1_1 c2_2_0 c2_2_1
  clear hb K2
  obtain ⟨c3_0_0, c3_0_1⟩ := (bo1 K3).c2
  obtain ⟨c3_1_0, c3_1_1⟩ := (bo2 K3).c2
  obtain ⟨c3_2_0, c3_2_1⟩ := (bo3 K3).c2
  go_wp2
  go_ret
  exact ⟨rfl, K3.out.1⟩

set_option maxRecDepth 100000 in
set_option maxHeartbeats 4000000 in
theorem wh_01e (d u i t p q x y n I V E : Int) (hx : d.tmod 1000 = x) (hy : u.tmod 86400000000000 = y) (x1 : -1000 < x) (x2 : x < 1000) (y1 : -86400000000000 < y) (y2 : y < 86400000000000) (sx : ¬ x < 0) (sy : y < 0) (hn : x * 86400000000 + -y = n) (n0 : 0 ≤ n) (n9 : n < 1000000000000000) (hz : n ≠ 0) (he : E ≠ 0)
    (BI : Hid (∀ w : World, LO w → Calls Tryz.prog 12 #[.agg #[.int .i64 0, .int .i64 0, .int .i64 x, .int .i64 (-y)], .agg #[.int .i64 i, .int .i64 t], .agg #[.int .i64 p, .int .i64 q]] w fun r' w' => r' = .returned (.tuple #[.agg #[.int .i64 I, .int .i64 V], .int .i64 E]) ∧ Below w.heap.size w w'))
    (KN : Hid (∀ w : World, LO w → Calls Tryz.prog 9 #[] w fun r' w' => r' = .returned (.bool true) ∧ Below w.heap.size w w'))
    (w : World) (hL : Hid (∀ W : World, Below w.heap.size w W → LO W)) :
    Calls Tryz.prog 5 #[.int .i64 d, .int .i64 u, .agg #[.int .i64 i, .int .i64 t], .agg #[.int .i64 p, .int .i64 q]] w fun r' w' => r' = .returned (.bool true) ∧ Below w.heap.size w w' := by
  have n1 : (n == 0) = false := by simpa using hz
  have e1 : (E != 0) = true := bne_iff_ne.2 he
  have K0 : Hid (BS w [(w.heap.size + 1, [.int .i64 p, .int .i64 q]), (w.heap.size, [.int .i64 i, .int .i64 t])] ((w.alloc (.cells #[.int .i64 i, .int .i64 t] 23)).alloc (.cells #[.int .i64 p, .int .i64 q] 23))) := (((BS.start w).new [.int .i64 i, .int .i64 t] 23 rfl).new [.int .i64 p, .int .i64 q] 23 (by simp))
  go_enter Tryz.func5, Tryz.ntmps5
  go_wp2_with fail
  refine (BI.out _ (hL.out _ K0.out.1)).mono ?_
  rintro e W1 ⟨rfl, hb⟩
  have K1 := bsb K0 hb
  clear hb K0
  obtain ⟨c1_0_0, c1_0_1⟩ := (bo1 K1).c2
  obtain ⟨c1_1_0, c1_1_1⟩ := (bo2 K1).c2
  have Mz1 := bsn K1 [.int .i64 I, .int .i64 V] 23
  have lt1_0 := (bo1 K1).1
  have lt1_1 := (bo2 K1).1
  go_upto_region 9 with fail
  refine bs_to Mz1 ?_
  clear c1_0_0 c1_0_1 c1_1_0 c1_1_1
  intro W2 K2
  clear Mz1 K1
  obtain ⟨c2_0_0, c2_0_1⟩ := (bo1 K2).c2
  obtain ⟨c2_1_0, c2_1_1⟩ := (bo2 K2).c2
  obtain ⟨c2_2_0, c2_2_1⟩ := (bo3 K2).c2
  go_wp2_with fail
  refine (KN.out _ (hL.out _ K2.out.1)).mono ?_
  rintro e W3 ⟨rfl, hb⟩
  have K3 := bsb K2 hb
  clear c2_0_0 c2_0_1 c2_1_0 c2_1_1 c2_2_0 c2_2_1
  clear hb K2
  obtain ⟨c3_0_0, c3_0_1⟩ := (bo1 K3).c2
  obtain ⟨c3_1_0, c3_1_1⟩ := (bo2 K3).c2
  obtain ⟨c3_2_0, c3_2_1⟩ := (bo3 K3).c2
  go_wp2
  go_ret
  exact ⟨rfl, K3.out.1⟩

set_option maxRecDepth 100000 in
set_option maxHeartbeats 4000000 in
theorem wh_01inf (d u i t p q x y n I V E : Int) (hx : d.tmod 1000 = x) (hy : u.tmod 86400000000000 = y) (x1 : -1000 < x) (x2 : x < 1000) (y1 : -86400000000000 < y) (y2 : y < 86400000000000) (sx : ¬ x < 0) (sy : y < 0) (hn : x * 86400000000 + -y = n) (n0 : 0 ≤ n) (n9 : n < 1000000000000000) (hz : n ≠ 0) (hi : i ≠ 0)
    (BI : Hid (∀ w : World, LO w → Calls Tryz.prog 12 #[.agg #[.int .i64 0, .int .i64 0, .int .i64 x, .int .i64 (-y)], .agg #[.int .i64 i, .int .i64 t], .agg #[.int .i64 p, .int .i64 q]] w fun r' w' => r' = .returned (.tuple #[.agg #[.int .i64 I, .int .i64 V], .int .i64 0]) ∧ Below w.heap.size w w'))
    (KN : Hid (∀ w : World, LO w → Calls Tryz.prog 9 #[] w fun r' w' => r' = .returned (.bool true) ∧ Below w.heap.size w w'))
    (w : World) (hL : Hid (∀ W : World, Below w.heap.size w W → LO W)) :
    Calls Tryz.prog 5 #[.int .i64 d, .int .i64 u, .agg #[.int .i64 i, .int .i64 t], .agg #[.int .i64 p, .int .i64 q]] w fun r' w' => r' = .returned (.bool true) ∧ Below w.heap.size w w' := by
  have n1 : (n == 0) = false := by simpa using hz
  have e1 : (i != 0) = true := bne_iff_ne.2 hi
  have K0 : Hid (BS w [(w.heap.size + 1, [.int .i64 p, .int .i64 q]), (w.heap.size, [.int .i64 i, .int .i64 t])] ((w.alloc (.cells #[.int .i64 i, .int .i64 t] 23)).alloc (.cells #[.int .i64 p, .int .i64 q] 23))) := (((BS.start w).new [.int .i64 i, .int .i64 t] 23 rfl).new [.int .i64 p, .int .i64 q] 23 (by simp))
  go_enter Tryz.func5, Tryz.ntmps5
  go_wp2_with fail
  refine (BI.out _ (hL.out _ K0.out.1)).mono ?_
  rintro e W1 ⟨rfl, hb⟩
  have K1 := bsb K0 hb
  clear hb K0
  obtain ⟨c1_0_0, c1_0_1⟩ := (bo1 K1).c2
  obtain ⟨c1_1_0, c1_1_1⟩ := (bo2 K1).c2
  have Mz1 := bsn K1 [.int .i64 I, .int .i64 V] 23
  have lt1_0 := (bo1 K1).1
  have lt1_1 := (bo2 K1).1
  go_upto_region 9 with fail
  refine bs_to Mz1 ?_
  clear c1_0_0 c1_0_1 c1_1_0 c1_1_1
  intro W2 K2
  clear Mz1 K1
  obtain ⟨c2_0_0, c2_0_1⟩ := (bo1 K2).c2
  obtain ⟨c2_1_0, c2_1_1⟩ := (bo2 K2).c2
  obtain ⟨c2_2_0, c2_2_1⟩ := (bo3 K2).c2
  go_wp2_with fail
  refine (KN.out _ (hL.out _ K2.out.1)).mono ?_
  rintro e W3 ⟨rfl, hb⟩
  have K3 := bsb K2 hb
  clear c2_0_0 c2_0_1 c2_1_0 c2_1_1 c2_2_0 c2_2_1
  clear hb K2
  obtain ⟨c3_0_0, c3_0_1⟩ := (bo1 K3).c2
  obtain ⟨c3_1_0, c3_1_1⟩ := (bo2 K3).c2
  obtain ⟨c3_2_0, c3_2_1⟩ := (bo3 K3).c2
  go_wp2
  go_ret
  exact ⟨rfl, K3.out.1⟩

set_option maxRecDepth 100000 in
set_option maxHeartbeats 4000000 in
theorem wh_0100 (d u t p q x y n V P Q : Int) (hx : d.tmod 1000 = x) (hy : u.tmod 86400000000000 = y) (x1 : -1000 < x) (x2 : x < 1000) (y1 : -86400000000000 < y) (y2 : y < 86400000000000) (sx : ¬ x < 0) (sy : y < 0) (hn : x * 86400000000 + -y = n) (n0 : 0 ≤ n) (n9 : n < 1000000000000000) (hz : 0 < n) (hP : V.tmod n = P) (hQ : q.tmod n = Q) (p1 : -n < P) (p2 : P < n) (q1 : -n < Q) (q2 : Q < n) (sp : ¬ P < 0) (sq : ¬ Q < 0) (h1 : V ≤ t) (h2 : t - V < n) (hpq : P = Q)
    (BI : Hid (∀ w : World, LO w → Calls Tryz.prog 12 #[.agg #[.int .i64 0, .int .i64 0, .int .i64 x, .int .i64 (-y)], .agg #[.int .i64 0, .int .i64 t], .agg #[.int .i64 p, .int .i64 q]] w fun r' w' => r' = .returned (.tuple #[.agg #[.int .i64 0, .int .i64 V], .int .i64 0]) ∧ Below w.heap.size w w'))
    (KN : Hid (∀ w : World, LO w → Calls Tryz.prog 9 #[] w fun r' w' => r' = .returned (.bool true) ∧ Below w.heap.size w w'))
    (w : World) (hL : Hid (∀ W : World, Below w.heap.size w W → LO W)) :
    Calls Tryz.prog 5 #[.int .i64 d, .int .i64 u, .agg #[.int .i64 0, .int .i64 t], .agg #[.int .i64 p, .int .i64 q]] w fun r' w' => r' = .returned (.bool true) ∧ Below w.heap.size w w' := by
  have n1 : (n == 0) = false := by simp; omega
  have n2 : n ≠ 0 := by omega
  have n3 : n ≠ -1 := by omega
  have hpq' : (P == Q) = true := by simpa using hpq
  have hpq2 : Hid (P = Q) := hpq
  clear hpq
  have K0 : Hid (BS w [(w.heap.size + 1, [.int .i64 p, .int .i64 q]), (w.heap.size, [.int .i64 0, .int .i64 t])] ((w.alloc (.cells #[.int .i64 0, .int .i64 t] 23)).alloc (.cells #[.int .i64 p, .int .i64 q] 23))) := (((BS.start w).new [.int .i64 0, .int .i64 t] 23 rfl).new [.int .i64 p, .int .i64 q] 23 (by simp))
  go_enter Tryz.func5, Tryz.ntmps5
  go_wp2_with fail
  refine (BI.out _ (hL.out _ K0.out.1)).mono ?_
  rintro e W1 ⟨rfl, hb⟩
  have K1 := bsb K0 hb
  clear hb K0
  obtain ⟨c1_0_0, c1_0_1⟩ := (bo1 K1).c2
  obtain ⟨c1_1_0, c1_1_1⟩ := (bo2 K1).c2
  have Mz1 := bsn K1 [.int .i64 0, .int .i64 V] 23
  have lt1_0 := (bo1 K1).1
  have lt1_1 := (bo2 K1).1
  go_upto_region 9 with fail
  refine bs_to Mz1 ?_
  clear c1_0_0 c1_0_1 c1_1_0 c1_1_1
  intro W2 K2
  clear Mz1 K1
  obtain ⟨c2_0_0, c2_0_1⟩ := (bo1 K2).c2
  obtain ⟨c2_1_0, c2_1_1⟩ := (bo2 K2).c2
  obtain ⟨c2_2_0, c2_2_1⟩ := (bo3 K2).c2
  go_wp2_with fail
  refine (KN.out _ (hL.out _ K2.out.1)).mono ?_
  rintro e W3 ⟨rfl, hb⟩
  have K3 := bsb K2 hb
  clear c2_0_0 c2_0_1 c2_1_0 c2_1_1 c2_2_0 c2_2_1
  clear hb K2
  obtain ⟨c3_0_0, c3_0_1⟩ := (bo1 K3).c2
  obtain ⟨c3_1_0, c3_1_1⟩ := (bo2 K3).c2
  obtain ⟨c3_2_0, c3_2_1⟩ := (bo3 K3).c2
  go_wp2
  go_ret
  exact ⟨rfl, K3.out.1⟩

set_option maxRecDepth 100000 in
set_option maxHeartbeats 4000000 in
theorem wh_0101 (d u t p q x y n V P Q : Int) (hx : d.tmod 1000 = x) (hy : u.tmod 86400000000000 = y) (x1 : -1000 < x) (x2 : x < 1000) (y1 : -86400000000000 < y) (y2 : y < 86400000000000) (sx : ¬ x < 0) (sy : y < 0) (hn : x * 86400000000 + -y = n) (n0 : 0 ≤ n) (n9 : n < 1000000000000000) (hz : 0 < n) (hP : V.tmod n = P) (hQ : q.tmod n = Q) (p1 : -n < P) (p2 : P < n) (q1 : -n < Q) (q2 : Q < n) (sp : ¬ P < 0) (sq : Q < 0) (h1 : V ≤ t) (h2 : t - V < n) (hpq : P = Q + n)
    (BI : Hid (∀ w : World, LO w → Calls Tryz.prog 12 #[.agg #[.int .i64 0, .int .i64 0, .int .i64 x, .int .i64 (-y)], .agg #[.int .i64 0, .int .i64 t], .agg #[.int .i64 p, .int .i64 q]] w fun r' w' => r' = .returned (.tuple #[.agg #[.int .i64 0, .int .i64 V], .int .i64 0]) ∧ Below w.heap.size w w'))
    (KN : Hid (∀ w : World, LO w → Calls Tryz.prog 9 #[] w fun r' w' => r' = .returned (.bool true) ∧ Below w.heap.size w w'))
    (w : World) (hL : Hid (∀ W : World, Below w.heap.size w W → LO W)) :
    Calls Tryz.prog 5 #[.int .i64 d, .int .i64 u, .agg #[.int .i64 0, .int .i64 t], .agg #[.int .i64 p, .int .i64 q]] w fun r' w' => r' = .returned (.bool true) ∧ Below w.heap.size w w' := by
  have n1 : (n == 0) = false := by simp; omega
  have n2 : n ≠ 0 := by omega
  have n3 : n ≠ -1 := by omega
  have hpq' : (P == Q + n) = true := by simpa using hpq
  have hpq2 : Hid (P = Q + n) := hpq
  clear hpq
  have K0 : Hid (BS w [(w.heap.size + 1, [.int .i64 p, .int .i64 q]), (w.heap.size, [.int .i64 0, .int .i64 t])] ((w.alloc (.cells #[.int .i64 0, .int .i64 t] 23)).alloc (.cells #[.int .i64 p, .int .i64 q] 23))) := (((BS.start w).new [.int .i64 0, .int .i64 t] 23 rfl).new [.int .i64 p, .int .i64 q] 23 (by simp))
  go_enter Tryz.func5, Tryz.ntmps5
  go_wp2_with fail
  refine (BI.out _ (hL.out _ K0.out.1)).mono ?_
  rintro e W1 ⟨rfl, hb⟩
  have K1 := bsb K0 hb
  clear hb K0
  obtain ⟨c1_0_0, c1_0_1⟩ := (bo1 K1).c2
  obtain ⟨c1_1_0, c1_1_1⟩ := (bo2 K1).c2
  have Mz1 := bsn K1 [.int .i64 0, .int .i64 V] 23
  have lt1_0 := (bo1 K1).1
  have lt1_1 := (bo2 K1).1
  go_upto_region 9 with fail
  refine bs_to Mz1 ?_
  clear c1_0_0 c1_0_1 c1_1_0 c1_1_1
  intro W2 K2
  clear Mz1 K1
  obtain ⟨c2_0_0, c2_0_1⟩ := (bo1 K2).c2
  obtain ⟨c2_1_0, c2_1_1⟩ := (bo2 K2).c2
  obtain ⟨c2_2_0, c2_2_1⟩ := (bo3 K2).c2
  go_wp2_with fail
  refine (KN.out _ (hL.out _ K2.out.1)).mono ?_
  rintro e W3 ⟨rfl, hb⟩
  have K3 := bsb K2 hb
  clear c2_0_0 c2_0_1 c2_1_0 c2_1_1 c2_2_0 c2_2_1
  clear hb K2
  obtain ⟨c3_0_0, c3_0_1⟩ := (bo1 K3).c2
  obtain ⟨c3_1_0, c3_1_1⟩ := (bo2 K3).c2
  obtain ⟨c3_2_0, c3_2_1⟩ := (bo3 K3).c2
  go_wp2
  go_ret
  exact ⟨rfl, K3.out.1⟩

set_option maxRecDepth 100000 in
set_option maxHeartbeats 4000000 in
theorem wh_0110 (d u t p q x y n V P Q : Int) (hx : d.tmod 1000 = x) (hy : u.tmod 86400000000000 = y) (x1 : -1000 < x) (x2 : x < 1000) (y1 : -86400000000000 < y) (y2 : y < 86400000000000) (sx : ¬ x < 0) (sy : y < 0) (hn : x * 86400000000 + -y = n) (n0 : 0 ≤ n) (n9 : n < 1000000000000000) (hz : 0 < n) (hP : V.tmod n = P) (hQ : q.tmod n = Q) (p1 : -n < P) (p2 : P < n) (q1 : -n < Q) (q2 : Q < n) (sp : P < 0) (sq : ¬ Q < 0) (h1 : V ≤ t) (h2 : t - V < n) (hpq : P + n = Q)
    (BI : Hid (∀ w : World, LO w → Calls Tryz.prog 12 #[.agg #[.int .i64 0, .int .i64 0, .int .i64 x, .int .i64 (-y)], .agg #[.int .i64 0, .int .i64 t], .agg #[.int .i64 p, .int .i64 q]] w fun r' w' => r' = .returned (.tuple #[.agg #[.int .i64 0, .int .i64 V], .int .i64 0]) ∧ Below w.heap.size w w'))
    (KN : Hid (∀ w : World, LO w → Calls Tryz.prog 9 #[] w fun r' w' => r' = .returned (.bool true) ∧ Below w.heap.size w w'))
    (w : World) (hL : Hid (∀ W : World, Below w.heap.size w W → LO W)) :
    Calls Tryz.prog 5 #[.int .i64 d, .int .i64 u, .agg #[.int .i64 0, .int .i64 t], .agg #[.int .i64 p, .int .i64 q]] w fun r' w' => r' = .returned (.bool true) ∧ Below w.heap.size w w' := by
  have n1 : (n == 0) = false := by simp; omega
  have n2 : n ≠ 0 := by omega
  have n3 : n ≠ -1 := by omega
  have hpq' : (P + n == Q) = true := by simpa using hpq
  have hpq2 : Hid (P + n = Q) := hpq
  clear hpq
  have K0 : Hid (BS w [(w.heap.size + 1, [.int .i64 p, .int .i64 q]), (w.heap.size, [.int .i64 0, .int .i64 t])] ((w.alloc (.cells #[.int .i64 0, .int .i64 t] 23)).alloc (.cells #[.int .i64 p, .int .i64 q] 23))) := (((BS.start w).new [.int .i64 0, .int .i64 t] 23 rfl).new [.int .i64 p, .int .i64 q] 23 (by simp))
  go_enter Tryz.func5, Tryz.ntmps5
  go_wp2_with fail
  refine (BI.out _ (hL.out _ K0.out.1)).mono ?_
  rintro e W1 ⟨rfl, hb⟩
  have K1 := bsb K0 hb
  clear hb K0
  obtain ⟨c1_0_0, c1_0_1⟩ := (bo1 K1).c2
  obtain ⟨c1_1_0, c1_1_1⟩ := (bo2 K1).c2
  have Mz1 := bsn K1 [.int .i64 0, .int .i64 V] 23
  have lt1_0 := (bo1 K1).1
  have lt1_1 := (bo2 K1).1
  go_upto_region 9 with fail
  refine bs_to Mz1 ?_
  clear c1_0_0 c1_0_1 c1_1_0 c1_1_1
  intro W2 K2
  clear Mz1 K1
  obtain ⟨c2_0_0, c2_0_1⟩ := (bo1 K2).c2
  obtain ⟨c2_1_0, c2_1_1⟩ := (bo2 K2).c2
  obtain ⟨c2_2_0, c2_2_1⟩ := (bo3 K2).c2
  go_wp2_with fail
  refine (KN.out _ (hL.out _ K2.out.1)).mono ?_
  rintro e W3 ⟨rfl, hb⟩
  have K3 := bsb K2 hb
  clear c2_0_0 c2_0_1 c2_1_0 c2_1_1 c2_2_0 c2_2_1
  clear hb K2
  obtain ⟨c3_0_0, c3_0_1⟩ := (bo1 K3).c2
  obtain ⟨c3_1_0, c3_1_1⟩ := (bo2 K3).c2
  obtain ⟨c3_2_0, c3_2_1⟩ := (bo3 K3).c2
  go_wp2
  go_ret
  exact ⟨rfl, K3.out.1⟩

set_option maxRecDepth 100000 in
set_option maxHeartbeats 4000000 in
theorem wh_0111 (d u t p q x y n V P Q : Int) (hx : d.tmod 1000 = x) (hy : u.tmod 86400000000000 = y) (x1 : -1000 < x) (x2 : x < 1000) (y1 : -86400000000000 < y) (y2 : y < 86400000000000) (sx : ¬ x < 0) (sy : y < 0) (hn : x * 86400000000 + -y = n) (n0 : 0 ≤ n) (n9 : n < 1000000000000000) (hz : 0 < n) (hP : V.tmod n = P) (hQ : q.tmod n = Q) (p1 : -n < P) (p2 : P < n) (q1 : -n < Q) (q2 : Q < n) (sp : P < 0) (sq : Q < 0) (h1 : V ≤ t) (h2 : t - V < n) (hpq : P + n = Q + n)
    (BI : Hid (∀ w : World, LO w → Calls Tryz.prog 12 #[.agg #[.int .i64 0, .int .i64 0, .int .i64 x, .int .i64 (-y)], .agg #[.int .i64 0, .int .i64 t], .agg #[.int .i64 p, .int .i64 q]] w fun r' w' => r' = .returned (.tuple #[.agg #[.int .i64 0, .int .i64 V], .int .i64 0]) ∧ Below w.heap.size w w'))
    (KN : Hid (∀ w : World, LO w → Calls Tryz.prog 9 #[] w fun r' w' => r' = .returned (.bool true) ∧ Below w.heap.size w w'))
    (w : World) (hL : Hid (∀ W : World, Below w.heap.size w W → LO W)) :
    Calls Tryz.prog 5 #[.int .i64 d, .int .i64 u, .agg #[.int .i64 0, .int .i64 t], .agg #[.int .i64 p, .int .i64 q]] w fun r' w' => r' = .returned (.bool true) ∧ Below w.heap.size w w' := by
  have n1 : (n == 0) = false := by simp; omega
  have n2 : n ≠ 0 := by omega
  have n3 : n ≠ -1 := by omega
  have hpq' : (P + n == Q + n) = true := by simpa using hpq
  have hpq2 : Hid (P + n = Q + n) := hpq
  clear hpq
  have K0 : Hid (BS w [(w.heap.size + 1, [.int .i64 p, .int .i64 q]), (w.heap.size, [.int .i64 0, .int .i64 t])] ((w.alloc (.cells #[.int .i64 0, .int .i64 t] 23)).alloc (.cells #[.int .i64 p, .int .i64 q] 23))) := (((BS.start w).new [.int .i64 0, .int .i64 t] 23 rfl).new [.int .i64 p, .int .i64 q] 23 (by simp))
  go_enter Tryz.func5, Tryz.ntmps5
  go_wp2_with fail
  refine (BI.out _ (hL.out _ K0.out.1)).mono ?_
  rintro e W1 ⟨rfl, hb⟩
  have K1 := bsb K0 hb
  clear hb K0
  obtain ⟨c1_0_0, c1_0_1⟩ := (bo1 K1).c2
  obtain ⟨c1_1_0, c1_1_1⟩ := (bo2 K1).c2
  have Mz1 := bsn K1 [.int .i64 0, .int .i64 V] 23
  have lt1_0 := (bo1 K1).1
  have lt1_1 := (bo2 K1).1
  go_upto_region 9 with fail
  refine bs_to Mz1 ?_
  clear c1_0_0 c1_0_1 c1_1_0 c1_1_1
  intro W2 K2
  clear Mz1 K1
  obtain ⟨c2_0_0, c2_0_1⟩ := (bo1 K2).c2
  obtain ⟨c2_1_0, c2_1_1⟩ := (bo2 K2).c2
  obtain ⟨c2_2_0, c2_2_1⟩ := (bo3 K2).c2
  go_wp2_with fail
  refine (KN.out _ (hL.out _ K2.out.1)).mono ?_
  rintro e W3 ⟨rfl, hb⟩
  have K3 := bsb K2 hb
  clear c2_0_0 c2_0_1 c2_1_0 c2_1_1 c2_2_0 c2_2_1
  clear hb K2
  obtain ⟨c3_0_0, c3_0_1⟩ := (bo1 K3).c2
  obtain ⟨c3_1_0, c3_1_1⟩ := (bo2 K3).c2
  obtain ⟨c3_2_0, c3_2_1⟩ := (bo3 K3).c2
  go_wp2
  go_ret
  exact ⟨rfl, K3.out.1⟩

set_option maxRecDepth 100000 in
set_option maxHeartbeats 4000000 in
theorem wh_10n0 (d u i t p q x y n I V E : Int) (hx : d.tmod 1000 = x) (hy : u.tmod 86400000000000 = y) (x1 : -1000 < x) (x2 : x < 1000) (y1 : -86400000000000 < y) (y2 : y < 86400000000000) (sx : x < 0) (sy : ¬ y < 0) (hn : -x * 86400000000 + y = n) (n0 : 0 ≤ n) (n9 : n < 1000000000000000) (hz : n = 0) (he : E ≠ 0)
    (BI : Hid (∀ w : World, LO w → Calls Tryz.prog 12 #[.agg #[.int .i64 0, .int .i64 0, .int .i64 (-x), .int .i64 y], .agg #[.int .i64 i, .int .i64 t], .agg #[.int .i64 p, .int .i64 q]] w fun r' w' => r' = .returned (.tuple #[.agg #[.int .i64 I, .int .i64 V], .int .i64 E]) ∧ Below w.heap.size w w'))
    (KN : Hid (∀ w : World, LO w → Calls Tryz.prog 9 #[] w fun r' w' => r' = .returned (.bool true) ∧ Below w.heap.size w w'))
    (w : World) (hL : Hid (∀ W : World, Below w.heap.size w W → LO W)) :
    Calls Tryz.prog 5 #[.int .i64 d, .int .i64 u, .agg #[.int .i64 i, .int .i64 t], .agg #[.int .i64 p, .int .i64 q]] w fun r' w' => r' = .returned (.bool true) ∧ Below w.heap.size w w' := by
  have n1 : (n == 0) = true := by simpa using hz
  have e1 : (E != 0) = true := bne_iff_ne.2 he
  clear hz
  have K0 : Hid (BS w [(w.heap.size + 1, [.int .i64 p, .int .i64 q]), (w.heap.size, [.int .i64 i, .int .i64 t])] ((w.alloc (.cells #[.int .i64 i, .int .i64 t] 23)).alloc (.cells #[.int .i64 p, .int .i64 q] 23))) := (((BS.start w).new [.int .i64 i, .int .i64 t] 23 rfl).new [.int .i64 p, .int .i64 q] 23 (by simp))
  go_enter Tryz.func5, Tryz.ntmps5
  go_wp2_with fail
  refine (BI.out _ (hL.out _ K0.out.1)).mono ?_
  rintro e W1 ⟨rfl, hb⟩
  have K1 := bsb K0 hb
  clear hb K0
  obtain ⟨c1_0_0, c1_0_1⟩ := (bo1 K1).c2
  obtain ⟨c1_1_0, c1_1_1⟩ := (bo2 K1).c2
  have Mz1 := bsn K1 [.int .i64 I, .int .i64 V] 23
  have lt1_0 := (bo1 K1).1
  have lt1_1 := (bo2 K1).1
  go_upto_region 9 with fail
  refine bs_to Mz1 ?_
  clear c1_0_0 c1_0_1 c1_1_0 c1_1_1
  intro W2 K2
  clear Mz1 K1
  obtain ⟨c2_0_0, c2_0_1⟩ := (bo1 K2).c2
  obtain ⟨c2_1_0, c2_1_1⟩ := (bo2 K2).c2
  obtain ⟨c2_2_0, c2_2_1⟩ := (bo3 K2).c2
  go_wp2_with fail
  refine (KN.out _ (hL.out _ K2.out.1)).mono ?_
  rintro e W3 ⟨rfl, hb⟩
  have K3 := bsb K2 hb
  clear c2_0_0 c2_0_1 c2_1_0 c2_1_1 c2_2_0 c2_2_1
  clear hb K2
  obtain ⟨c3_0_0, c3_0_1⟩ := (bo1 K3).c2
  obtain ⟨c3_1_0, c3_1_1⟩ := (bo2 K3).c2
  obtain ⟨c3_2_0, c3_2_1⟩ := (bo3 K3).c2
  go_wp2
  go_ret
  exact ⟨rfl, K3.out.1⟩

set_option maxRecDepth 100000 in
set_option maxHeartbeats 4000000 in
theorem wh_10e (d u i t p q x y n I V E : Int) (hx : d.tmod 1000 = x) (hy : u.tmod 86400000000000 = y) (x1 : -1000 < x) (x2 : x < 1000) (y1 : -86400000000000 < y) (y2 : y < 86400000000000) (sx : x < 0) (sy : ¬ y < 0) (hn : -x * 86400000000 + y = n) (n0 : 0 ≤ n) (n9 : n < 1000000000000000) (hz : n ≠ 0) (he : E ≠ 0)
    (BI : Hid (∀ w : World, LO w → Calls Tryz.prog 12 #[.agg #[.int .i64 0, .int .i64 0, .int .i64 (-x), .int .i64 y], .agg #[.int .i64 i, .int .i64 t], .agg #[.int .i64 p, .int .i64 q]] w fun r' w' => r' = .returned (.tuple #[.agg #[.int .i64 I, .int .i64 V], .int .i64 E]) ∧ Below w.heap.size w w'))
    (KN : Hid (∀ w : World, LO w → Calls Tryz.prog 9 #[] w fun r' w' => r' = .returned (.bool true) ∧ Below w.heap.size w w'))
    (w : World) (hL : Hid (∀ W : World, Below w.heap.size w W → LO W)) :
    Calls Tryz.prog 5 #[.int .i64 d, .int .i64 u, .agg #[.int .i64 i, .int .i64 t], .agg #[.int .i64 p, .int .i64 q]] w fun r' w' => r' = .returned (.bool true) ∧ Below w.heap.size w w' := by
  have n1 : (n == 0) = false := by simpa using hz
  have e1 : (E != 0) = true := bne_iff_ne.2 he
  have K0 : Hid (BS w [(w.heap.size + 1, [.int .i64 p, .int .i64 q]), (w.heap.size, [.int .i64 i, .int .i64 t])] ((w.alloc (.cells #[.int .i64 i, .int .i64 t] 23)).alloc (.cells #[.int .i64 p, .int .i64 q] 23))) := (((BS.start w).new [.int .i64 i, .int .i64 t] 23 rfl).new [.int .i64 p, .int .i64 q] 23 (by simp))
  go_enter Tryz.func5, Tryz.ntmps5
  go_wp2_with fail
  refine (BI.out _ (hL.out _ K0.out.1)).mono ?_
  rintro e W1 ⟨rfl, hb⟩
  have K1 := bsb K0 hb
  clear hb K0
  obtain ⟨c1_0_0, c1_0_1⟩ := (bo1 K1).c2
  obtain ⟨c1_1_0, c1_1_1⟩ := (bo2 K1).c2
  have Mz1 := bsn K1 [.int .i64 I, .int .i64 V] 23
  have lt1_0 := (bo1 K1).1
  have lt1_1 := (bo2 K1).1
  go_upto_region 9 with fail
  refine bs_to Mz1 ?_
  clear c1_0_0 c1_0_1 c1_1_0 c1_1_1
  intro W2 K2
  clear Mz1 K1
  obtain ⟨c2_0_0, c2_0_1⟩ := (bo1 K2).c2
  obtain ⟨c2_1_0, c2_1_1⟩ := (bo2 K2).c2
  obtain ⟨c2_2_0, c2_2_1⟩ := (bo3 K2).c2
  go_wp2_with fail
  refine (KN.out _ (hL.out _ K2.out.1)).mono ?_
  rintro e W3 ⟨rfl, hb⟩
  have K3 := bsb K2 hb
  clear c2_0_0 c2_0_1 c2_1_0 c2_1_1 c2_2_0 c2_2_1
  clear hb K2
  obtain ⟨c3_0_0, c3_0_1⟩ := (bo1 K3).c2
  obtain ⟨c3_1_0, c3_1_1⟩ := (bo2 K3).c2
  obtain ⟨c3_2_0, c3_2_1⟩ := (bo3 K3).c2
  go_wp2
  go_ret
  exact ⟨rfl, K3.out.1⟩

set_option maxRecDepth 100000 in
set_option maxHeartbeats 4000000 in
theorem wh_10inf (d u i t p q x y n I V E : Int) (hx : d.tmod 1000 = x) (hy : u.tmod 86400000000000 = y) (x1 : -1000 < x) (x2 : x < 1000) (y1 : -86400000000000 < y) (y2 : y < 86400000000000) (sx : x < 0) (sy : ¬ y < 0) (hn : -x * 86400000000 + y = n) (n0 : 0 ≤ n) (n9 : n < 1000000000000000) (hz : n ≠ 0) (hi : i ≠ 0)
    (BI : Hid (∀ w : World, LO w → Calls Tryz.prog 12 #[.agg #[.int .i64 0, .int .i64 0, .int .i64 (-x), .int .i64 y], .agg #[.int .i64 i, .int .i64 t], .agg #[.int .i64 p, .int .i64 q]] w fun r' w' => r' = .returned (.tuple #[.agg #[.int .i64 I, .int .i64 V], .int .i64 0]) ∧ Below w.heap.size w w'))
    (KN : Hid (∀ w : World, LO w → Calls Tryz.prog 9 #[] w fun r' w' => r' = .returned (.bool true) ∧ Below w.heap.size w w'))
    (w : World) (hL : Hid (∀ W : World, Below w.heap.size w W → LO W)) :
    Calls Tryz.prog 5 #[.int .i64 d, .int .i64 u, .agg #[.int .i64 i, .int .i64 t], .agg #[.int .i64 p, .int .i64 q]] w fun r' w' => r' = .returned (.bool true) ∧ Below w.heap.size w w' := by
  have n1 : (n == 0) = false := by simpa using hz
  have e1 : (i != 0) = true := bne_iff_ne.2 hi
  have K0 : Hid (BS w [(w.heap.size + 1, [.int .i64 p, .int .i64 q]), (w.heap.size, [.int .i64 i, .int .i64 t])] ((w.alloc (.cells #[.int .i64 i, .int .i64 t] 23)).alloc (.cells #[.int .i64 p, .int .i64 q] 23))) := (((BS.start w).new [.int .i64 i, .int .i64 t] 23 rfl).new [.int .i64 p, .int .i64 q] 23 (by simp))
  go_enter Tryz.func5, Tryz.ntmps5
  go_wp2_with fail
  refine (BI.out _ (hL.out _ K0.out.1)).mono ?_
  rintro e W1 ⟨rfl, hb⟩
  have K1 := bsb K0 hb
  clear hb K0
  obtain ⟨c1_0_0, c1_0_1⟩ := (bo1 K1).c2
  obtain ⟨c1_1_0, c1_1_1⟩ := (bo2 K1).c2
  have Mz1 := bsn K1 [.int .i64 I, .int .i64 V] 23
  have lt1_0 := (bo1 K1).1
  have lt1_1 := (bo2 K1).1
  go_upto_region 9 with fail
  refine bs_to Mz1 ?_
  clear c1_0_0 c1_0_1 c1_1_0 c1_1_1
  intro W2 K2
  clear Mz1 K1
  obtain ⟨c2_0_0, c2_0_1⟩ := (bo1 K2).c2
  obtain ⟨c2_1_0, c2_1_1⟩ := (bo2 K2).c2
  obtain ⟨c2_2_0, c2_2_1⟩ := (bo3 K2).c2
  go_wp2_with fail
  refine (KN.out _ (hL.out _ K2.out.1)).mono ?_
  rintro e W3 ⟨rfl, hb⟩
  have K3 := bsb K2 hb
  clear c2_0_0 c2_0_1 c2_1_0 c2_1_1 c2_2_0 c2_2_1
  clear hb K2
  obtain ⟨c3_0_0, c3_0_1⟩ := (bo1 K3).c2
  obtain ⟨c3_1_0, c3_1_1⟩ := (bo2 K3).c2
  obtain ⟨c3_2_0, c3_2_1⟩ := (bo3 K3).c2
  go_wp2
  go_ret
  exact ⟨rfl, K3.out.1⟩

set_option maxRecDepth 100000 in
set_option maxHeartbeats 4000000 in
theorem wh_1000 (d u t p q x y n V P Q : Int) (hx : d.tmod 1000 = x) (hy : u.tmod 86400000000000 = y) (x1 : -1000 < x) (x2 : x < 1000) (y1 : -86400000000000 < y) (y2 : y < 86400000000000) (sx : x < 0) (sy : ¬ y < 0) (hn : -x * 86400000000 + y = n) (n0 : 0 ≤ n) (n9 : n < 1000000000000000) (hz : 0 < n) (hP : V.tmod n = P) (hQ : q.tmod n = Q) (p1 : -n < P) (p2 : P < n) (q1 : -n < Q) (q2 : Q < n) (sp : ¬ P < 0) (sq : ¬ Q < 0) (h1 : V ≤ t) (h2 : t - V < n) (hpq : P = Q)
    (BI : Hid (∀ w : World, LO w → Calls Tryz.prog 12 #[.agg #[.int .i64 0, .int .i64 0, .int .i64 (-x), .int .i64 y], .agg #[.int .i64 0, .int .i64 t], .agg #[.int .i64 p, .int .i64 q]] w fun r' w' => r' = .returned (.tuple #[.agg #[.int .i64 0, .int .i64 V], .int .i64 0]) ∧ Below w.heap.size w w'))
    (KN : Hid (∀ w : World, LO w → Calls Tryz.prog 9 #[] w fun r' w' => r' = .returned (.bool true) ∧ Below w.heap.size w w'))
    (w : World) (hL : Hid (∀ W : World, Below w.heap.size w W → LO W)) :
    Calls Tryz.prog 5 #[.int .i64 d, .int .i64 u, .agg #[.int .i64 0, .int .i64 t], .agg #[.int .i64 p, .int .i64 q]] w fun r' w' => r' = .returned (.bool true) ∧ Below w.heap.size w w' := by
  have n1 : (n == 0) = false := by simp; omega
  have n2 : n ≠ 0 := by omega
  have n3 : n ≠ -1 := by omega
  have hpq' : (P == Q) = true := by simpa using hpq
  have hpq2 : Hid (P = Q) := hpq
  clear hpq
  have K0 : Hid (BS w [(w.heap.size + 1, [.int .i64 p, .int .i64 q]), (w.heap.size, [.int .i64 0, .int .i64 t])] ((w.alloc (.cells #[.int .i64 0, .int .i64 t] 23)).alloc (.cells #[.int .i64 p, .int .i64 q] 23))) := (((BS.start w).new [.int .i64 0, .int .i64 t] 23 rfl).new [.int .i64 p, .int .i64 q] 23 (by simp))
  go_enter Tryz.func5, Tryz.ntmps5
  go_wp2_with fail
  refine (BI.out _ (hL.out _ K0.out.1)).mono ?_
  rintro e W1 ⟨rfl, hb⟩
  have K1 := bsb K0 hb
  clear hb K0
  obtain ⟨c1_0_0, c1_0_1⟩ := (bo1 K1).c2
  obtain ⟨c1_1_0, c1_1_1⟩ := (bo2 K1).c2
  have Mz1 := bsn K1 [.int .i64 0, .int .i64 V] 23
  have lt1_0 := (bo1 K1).1
  have lt1_1 := (bo2 K1).1
  go_upto_region 9 with fail
  refine bs_to Mz1 ?_
  clear c1_0_0 c1_0_1 c1_1_0 c1_1_1
  intro W2 K2
  clear Mz1 K1
  obtain ⟨c2_0_0, c2_0_1⟩ := (bo1 K2).c2
  obtain ⟨c2_1_0, c2_1_1⟩ := (bo2 K2).c2
  obtain ⟨c2_2_0, c2_2_1⟩ := (bo3 K2).c2
  go_wp2_with fail
  refine (KN.out _ (hL.out _ K2.out.1)).mono ?_
  rintro e W3 ⟨rfl, hb⟩
  have K3 := bsb K2 hb
  clear c2_0_0 c2_0_1 c2_1_0 c2_1_1 c2_2_0 c2_2_1
  clear hb K2
  obtain ⟨c3_0_0, c3_0_1⟩ := (bo1 K3).c2
  obtain ⟨c3_1_0, c3_1_1⟩ := (bo2 K3).c2
  obtain ⟨c3_2_0, c3_2_1⟩ := (bo3 K3).c2
  go_wp2
  go_ret
  exact ⟨rfl, K3.out.1⟩

set_option maxRecDepth 100000 in
set_option maxHeartbeats 4000000 in
theorem wh_1001 (d u t p q x y n V P Q : Int) (hx : d.tmod 1000 = x) (hy : u.tmod 86400000000000 = y) (x1 : -1000 < x) (x2 : x < 1000) (y1 : -86400000000000 < y) (y2 : y < 86400000000000) (sx : x < 0) (sy : ¬ y < 0) (hn : -x * 86400000000 + y = n) (n0 : 0 ≤ n) (n9 : n < 1000000000000000) (hz : 0 < n) (hP : V.tmod n = P) (hQ : q.tmod n = Q) (p1 : -n < P) (p2 : P < n) (q1 : -n < Q) (q2 : Q < n) (sp : ¬ P < 0) (sq : Q < 0) (h1 : V ≤ t) (h2 : t - V < n) (hpq : P = Q + n)
    (BI : Hid (∀ w : World, LO w → Calls Tryz.prog 12 #[.agg #[.int .i64 0, .int .i64 0, .int .i64 (-x), .int .i64 y], .agg #[.int .i64 0, .int .i64 t], .agg #[.int .i64 p, .int .i64 q]] w fun r' w' => r' = .returned (.tuple #[.agg #[.int .i64 0, .int .i64 V], .int .i64 0]) ∧ Below w.heap.size w w'))
    (KN : Hid (∀ w : World, LO w → Calls Tryz.prog 9 #[] w fun r' w' => r' = .returned (.bool true) ∧ Below w.heap.size w w'))
    (w : World) (hL : Hid (∀ W : World, Below w.heap.size w W → LO W)) :
    Calls Tryz.prog 5 #[.int .i64 d, .int .i64 u, .agg #[.int .i64 0, .int .i64 t], .agg #[.int .i64 p, .int .i64 q]] w fun r' w' => r' = .returned (.bool true) ∧ Below w.heap.size w w' := by
  have n1 : (n == 0) = false := by simp; omega
  have n2 : n ≠ 0 := by omega
  have n3 : n ≠ -1 := by omega
  have hpq' : (P == Q + n) = true := by simpa using hpq
  have hpq2 : Hid (P = Q + n) := hpq
  clear hpq
  have K0 : Hid (BS w [(w.heap.size + 1, [.int .i64 p, .int .i64 q]), (w.heap.size, [.int .i64 0, .int .i64 t])] ((w.alloc (.cells #[.int .i64 0, .int .i64 t] 23)).alloc (.cells #[.int .i64 p, .int .i64 q] 23))) := (((BS.start w).new [.int .i64 0, .int .i64 t] 23 rfl).new [.int .i64 p, .int .i64 q] 23 (by simp))
  go_enter Tryz.func5, Tryz.ntmps5
  go_wp2_with fail
  refine (BI.out _ (hL.out _ K0.out.1)).mono ?_
  rintro e W1 ⟨rfl, hb⟩
  have K1 := bsb K0 hb
  clear hb K0
  obtain ⟨c1_0_0, c1_0_1⟩ := (bo1 K1).c2
  obtain ⟨c1_1_0, c1_1_1⟩ := (bo2 K1).c2
  have Mz1 := bsn K1 [.int .i64 0, .int .i64 V] 23
  have lt1_0 := (bo1 K1).1
  have lt1_1 := (bo2 K1).1
  go_upto_region 9 with fail
  refine bs_to Mz1 ?_
  clear c1_0_0 c1_0_1 c1_1_0 c1_1_1
  intro W2 K2
  clear Mz1 K1
  obtain ⟨c2_0_0, c2_0_1⟩ := (bo1 K2).c2
  obtain ⟨c2_1_0, c2_1_1⟩ := (bo2 K2).c2
  obtain ⟨c2_2_0, c2_2_1⟩ := (bo3 K2).c2
  go_wp2_with fail
  refine (KN.out _ (hL.out _ K2.out.1)).mono ?_
  rintro e W3 ⟨rfl, hb⟩
  have K3 := bsb K2 hb
  clear c2_0_0 c2_0_1 c2_1_0 c2_1_1 c2_2_0 c2_2_1
  clear hb K2
  obtain ⟨c3_0_0, c3_0_1⟩ := (bo1 K3).c2
  obtain ⟨c3_1_0, c3_1_1⟩ := (bo2 K3).c2
  obtain ⟨c3_2_0, c3_2_1⟩ := (bo3 K3).c2
  go_wp2
  go_ret
  exact ⟨rfl, K3.out.1⟩

set_option maxRecDepth 100000 in
set_option maxHeartbeats 4000000 in
theorem wh_1010 (d u t p q x y n V P Q : Int) (hx : d.tmod 1000 = x) (hy : u.tmod 86400000000000 = y) (x1 : -1000 < x) (x2 : x < 1000) (y1 : -86400000000000 < y) (y2 : y < 86400000000000) (sx : x < 0) (sy : ¬ y < 0) (hn : -x * 86400000000 + y = n) (n0 : 0 ≤ n) (n9 : n < 1000000000000000) (hz : 0 < n) (hP : V.tmod n = P) (hQ : q.tmod n = Q) (p1 : -n < P) (p2 : P < n) (q1 : -n < Q) (q2 : Q < n) (sp : P < 0) (sq : ¬ Q < 0) (h1 : V ≤ t) (h2 : t - V < n) (hpq : P + n = Q)
    (BI : Hid (∀ w : World, LO w → Calls Tryz.prog 12 #[.agg #[.int .i64 0, .int .i64 0, .int .i64 (-x), .int .i64 y], .agg #[.int .i64 0, .int .i64 t], .agg #[.int .i64 p, .int .i64 q]] w fun r' w' => r' = .returned (.tuple #[.agg #[.int .i64 0, .int .i64 V], .int .i64 0]) ∧ Below w.heap.size w w'))
    (KN : Hid (∀ w : World, LO w → Calls Tryz.prog 9 #[] w fun r' w' => r' = .returned (.bool true) ∧ Below w.heap.size w w'))
    (w : World) (hL : Hid (∀ W : World, Below w.heap.size w W → LO W)) :
    Calls Tryz.prog 5 #[.int .i64 d, .int .i64 u, .agg #[.int .i64 0, .int .i64 t], .agg #[.int .i64 p, .int .i64 q]] w fun r' w' => r' = .returned (.bool true) ∧ Below w.heap.size w w' := by
  have n1 : (n == 0) = false := by simp; omega
  have n2 : n ≠ 0 := by omega
  have n3 : n ≠ -1 := by omega
  have hpq' : (P + n == Q) = true := by simpa using hpq
  have hpq2 : Hid (P + n = Q) := hpq
  clear hpq
  have K0 : Hid (BS w [(w.heap.size + 1, [.int .i64 p, .int .i64 q]), (w.heap.size, [.int .i64 0, .int .i64 t])] ((w.alloc (.cells #[.int .i64 0, .int .i64 t] 23)).alloc (.cells #[.int .i64 p, .int .i64 q] 23))) := (((BS.start w).new [.int .i64 0, .int .i64 t] 23 rfl).new [.int .i64 p, .int .i64 q] 23 (by simp))
  go_enter Tryz.func5, Tryz.ntmps5
  go_wp2_with fail
  refine (BI.out _ (hL.out _ K0.out.1)).mono ?_
  rintro e W1 ⟨rfl, hb⟩
  have K1 := bsb K0 hb
  clear hb K0
  obtain ⟨c1_0_0, c1_0_1⟩ := (bo1 K1).c2
  obtain ⟨c1_1_0, c1_1_1⟩ := (bo2 K1).c2
  have Mz1 := bsn K1 [.int .i64 0, .int .i64 V] 23
  have lt1_0 := (bo1 K1).1
  have lt1_1 := (bo2 K1).1
  go_upto_region 9 with fail
  refine bs_to Mz1 ?_
  clear c1_0_0 c1_0_1 c1_1_0 c1_1_1
  intro W2 K2
  clear Mz1 K1
  obtain ⟨c2_0_0, c2_0_1⟩ := (bo1 K2).c2
  obtain ⟨c2_1_0, c2_1_1⟩ := (bo2 K2).c2
  obtain ⟨c2_2_0, c2_2_1⟩ := (bo3 K2).c2
  go_wp2_with fail
  refine (KN.out _ (hL.out _ K2.out.1)).mono ?_
  rintro e W3 ⟨rfl, hb⟩
  have K3 := bsb K2 hb
  clear c2_0_0 c2_0_1 c2_1_0 c2_1_1 c2_2_0 c2_2_1
  clear hb K2
  obtain ⟨c3_0_0, c3_0_1⟩ := (bo1 K3).c2
  obtain ⟨c3_1_0, c3_1_1⟩ := (bo2 K3).c2
  obtain ⟨c3_2_0, c3_2_1⟩ := (bo3 K3).c2
  go_wp2
  go_ret
  exact ⟨rfl, K3.out.1⟩

set_option maxRecDepth 100000 in
set_option maxHeartbeats 4000000 in
theorem wh_1011 (d u t p q x y n V P Q : Int) (hx : d.tmod 1000 = x) (hy : u.tmod 86400000000000 = y) (x1 : -1000 < x) (x2 : x < 1000) (y1 : -86400000000000 < y) (y2 : y < 86400000000000) (sx : x < 0) (sy : ¬ y < 0) (hn : -x * 86400000000 + y = n) (n0 : 0 ≤ n) (n9 : n < 1000000000000000) (hz : 0 < n) (hP : V.tmod n = P) (hQ : q.tmod n = Q) (p1 : -n < P) (p2 : P < n) (q1 : -n < Q) (q2 : Q < n) (sp : P < 0) (sq : Q < 0) (h1 : V ≤ t) (h2 : t - V < n) (hpq : P + n = Q + n)
    (BI : Hid (∀ w : World, LO w → Calls Tryz.prog 12 #[.agg #[.int .i64 0, .int .i64 0, .int .i64 (-x), .int .i64 y], .agg #[.int .i64 0, .int .i64 t], .agg #[.int .i64 p, .int .i64 q]] w fun r' w' => r' = .returned (.tuple #[.agg #[.int .i64 0, .int .i64 V], .int .i64 0]) ∧ Below w.heap.size w w'))
    (KN : Hid (∀ w : World, LO w → Calls Tryz.prog 9 #[] w fun r' w' => r' = .returned (.bool true) ∧ Below w.heap.size w w'))
    (w : World) (hL : Hid (∀ W : World, Below w.heap.size w W → LO W)) :
    Calls Tryz.prog 5 #[.int .i64 d, .int .i64 u, .agg #[.int .i64 0, .int .i64 t], .agg #[.int .i64 p, .int .i64 q]] w fun r' w' => r' = .returned (.bool true) ∧ Below w.heap.size w w' := by
  have n1 : (n == 0) = false := by simp; omega
  have n2 : n ≠ 0 := by omega
  have n3 : n ≠ -1 := by omega
  have hpq' : (P + n == Q + n) = true := by simpa using hpq
  have hpq2 : Hid (P + n = Q + n) := hpq
  clear hpq
  have K0 : Hid (BS w [(w.heap.size + 1, [.int .i64 p, .int .i64 q]), (w.heap.size, [.int .i64 0, .int .i64 t])] ((w.alloc (.cells #[.int .i64 0, .int .i64 t] 23)).alloc (.cells #[.int .i64 p, .int .i64 q] 23))) := (((BS.start w).new [.int .i64 0, .int .i64 t] 23 rfl).new [.int .i64 p, .int .i64 q] 23 (by simp))
  go_enter Tryz.func5, Tryz.ntmps5
  go_wp2_with fail
  refine (BI.out _ (hL.out _ K0.out.1)).mono ?_
  rintro e W1 ⟨rfl, hb⟩
  have K1 := bsb K0 hb
  clear hb K0
  obtain ⟨c1_0_0, c1_0_1⟩ := (bo1 K1).c2
  obtain ⟨c1_1_0, c1_1_1⟩ := (bo2 K1).c2
  have Mz1 := bsn K1 [.int .i64 0, .int .i64 V] 23
  have lt1_0 := (bo1 K1).1
  have lt1_1 := (bo2 K1).1
  go_upto_region 9 with fail
  refine bs_to Mz1 ?_
  clear c1_0_0 c1_0_1 c1_1_0 c1_1_1
  intro W2 K2
  clear Mz1 K1
  obtain ⟨c2_0_0, c2_0_1⟩ := (bo1 K2).c2
  obtain ⟨c2_1_0, c2_1_1⟩ := (bo2 K2).c2
  obtain ⟨c2_2_0, c2_2_1⟩ := (bo3 K2).c2
  go_wp2_with fail
  refine (KN.out _ (hL.out _ K2.out.1)).mono ?_
  rintro e W3 ⟨rfl, hb⟩
  have K3 := bsb K2 hb
  clear c2_0_0 c2_0_1 c2_1_0 c2_1_1 c2_2_0 c2_2_1
  clear hb K2
  obtain ⟨c3_0_0, c3_0_1⟩ := (bo1 K3).c2
  obtain ⟨c3_1_0, c3_1_1⟩ := (bo2 K3).c2
  obtain ⟨c3_2_0, c3_2_1⟩ := (bo3 K3).c2
  go_wp2
  go_ret
  exact ⟨rfl, K3.out.1⟩

set_option maxRecDepth 100000 in
set_option maxHeartbeats 4000000 in
theorem wh_11n0 (d u i t p q x y n I V E : Int) (hx : d.tmod 1000 = x) (hy : u.tmod 86400000000000 = y) (x1 : -1000 < x) (x2 : x < 1000) (y1 : -86400000000000 < y) (y2 : y < 86400000000000) (sx : x < 0) (sy : y < 0) (hn : -x * 86400000000 + -y = n) (n0 : 0 ≤ n) (n9 : n < 1000000000000000) (hz : n = 0) (he : E ≠ 0)
    (BI : Hid (∀ w : World, LO w → Calls Tryz.prog 12 #[.agg #[.int .i64 0, .int .i64 0, .int .i64 (-x), .int .i64 (-y)], .agg #[.int .i64 i, .int .i64 t], .agg #[.int .i64 p, .int .i64 q]] w fun r' w' => r' = .returned (.tuple #[.agg #[.int .i64 I, .int .i64 V], .int .i64 E]) ∧ Below w.heap.size w w'))
    (KN : Hid (∀ w : World, LO w → Calls Tryz.prog 9 #[] w fun r' w' => r' = .returned (.bool true) ∧ Below w.heap.size w w'))
    (w : World) (hL : Hid (∀ W : World, Below w.heap.size w W → LO W)) :
    Calls Tryz.prog 5 #[.int .i64 d, .int .i64 u, .agg #[.int .i64 i, .int .i64 t], .agg #[.int .i64 p, .int .i64 q]] w fun r' w' => r' = .returned (.bool true) ∧ Below w.heap.size w w' := by
  have n1 : (n == 0) = true := by simpa using hz
  have e1 : (E != 0) = true := bne_iff_ne.2 he
  clear hz
  have K0 : Hid (BS w [(w.heap.size + 1, [.int .i64 p, .int .i64 q]), (w.heap.size, [.int .i64 i, .int .i64 t])] ((w.alloc (.cells #[.int .i64 i, .int .i64 t] 23)).alloc (.cells #[.int .i64 p, .int .i64 q] 23))) := (((BS.start w).new [.int .i64 i, .int .i64 t] 23 rfl).new [.int .i64 p, .int .i64 q] 23 (by simp))
  go_enter Tryz.func5, Tryz.ntmps5
  go_wp2_with fail
  refine (BI.out _ (hL.out _ K0.out.1)).mono ?_
  rintro e W1 ⟨rfl, hb⟩
  have K1 := bsb K0 hb
  clear hb K0
  obtain ⟨c1_0_0, c1_0_1⟩ := (bo1 K1).c2
  obtain ⟨c1_1_0, c1_1_1⟩ := (bo2 K1).c2
  have Mz1 := bsn K1 [.int .i64 I, .int .i64 V] 23
  have lt1_0 := (bo1 K1).1
  have lt1_1 := (bo2 K1).1
  go_upto_region 9 with fail
  refine bs_to Mz1 ?_
  clear c1_0_0 c1_0_1 c1_1_0 c1_1_1
  intro W2 K2
  clear Mz1 K1
  obtain ⟨c2_0_0, c2_0_1⟩ := (bo1 K2).c2
  obtain ⟨c2_1_0, c2_1_1⟩ := (bo2 K2).c2
  obtain ⟨c2_2_0, c2_2_1⟩ := (bo3 K2).c2
  go_wp2_with fail
  refine (KN.out _ (hL.out _ K2.out.1)).mono ?_
  rintro e W3 ⟨rfl, hb⟩
  have K3 := bsb K2 hb
  clear c2_0_0 c2_0_1 c2_1_0 c2_1_1 c2_2_0 c2_2_1
  clear hb K2
  obtain ⟨c3_0_0, c3_0_1⟩ := (bo1 K3).c2
  obtain ⟨c3_1_0, c3_1_1⟩ := (bo2 K3).c2
  obtain ⟨c3_2_0, c3_2_1⟩ := (bo3 K3).c2
  go_wp2
  go_ret
  exact ⟨rfl, K3.out.1⟩

set_option maxRecDepth 100000 in
set_option maxHeartbeats 4000000 in
theorem wh_11e (d u i t p q x y n I V E : Int) (hx : d.tmod 1000 = x) (hy : u.tmod 86400000000000 = y) (x1 : -1000 < x) (x2 : x < 1000) (y1 : -86400000000000 < y) (y2 : y < 86400000000000) (sx : x < 0) (sy : y < 0) (hn : -x * 86400000000 + -y = n) (n0 : 0 ≤ n) (n9 : n < 1000000000000000) (hz : n ≠ 0) (he : E ≠ 0)
    (BI : Hid (∀ w : World, LO w → Calls Tryz.prog 12 #[.agg #[.int .i64 0, .int .i64 0, .int .i64 (-x), .int .i64 (-y)], .agg #[.int .i64 i, .int .i64 t], .agg #[.int .i64 p, .int .i64 q]] w fun r' w' => r' = .returned (.tuple #[.agg #[.int .i64 I, .int .i64 V], .int .i64 E]) ∧ Below w.heap.size w w'))
    (KN : Hid (∀ w : World, LO w → Calls Tryz.prog 9 #[] w fun r' w' => r' = .returned (.bool true) ∧ Below w.heap.size w w'))
    (w : World) (hL : Hid (∀ W : World, Below w.heap.size w W → LO W)) :
    Calls Tryz.prog 5 #[.int .i64 d, .int .i64 u, .agg #[.int .i64 i, .int .i64 t], .agg #[.int .i64 p, .int .i64 q]] w fun r' w' => r' = .returned (.bool true) ∧ Below w.heap.size w w' := by
  have n1 : (n == 0) = false := by simpa using hz
  have e1 : (E != 0) = true := bne_iff_ne.2 he
  have K0 : Hid (BS w [(w.heap.size + 1, [.int .i64 p, .int .i64 q]), (w.heap.size, [.int .i64 i, .int .i64 t])] ((w.alloc (.cells #[.int .i64 i, .int .i64 t] 23)).alloc (.cells #[.int .i64 p, .int .i64 q] 23))) := (((BS.start w).new [.int .i64 i, .int .i64 t] 23 rfl).new [.int .i64 p, .int .i64 q] 23 (by simp))
  go_enter Tryz.func5, Tryz.ntmps5
  go_wp2_with fail
  refine (BI.out _ (hL.out _ K0.out.1)).mono ?_
  rintro e W1 ⟨rfl, hb⟩
  have K1 := bsb K0 hb
  clear hb K0
  obtain ⟨c1_0_0, c1_0_1⟩ := (bo1 K1).c2
  obtain ⟨c1_1_0, c1_1_1⟩ := (bo2 K1).c2
  have Mz1 := bsn K1 [.int .i64 I, .int .i64 V] 23
  have lt1_0 := (bo1 K1).1
  have lt1_1 := (bo2 K1).1
  go_upto_region 9 with fail
  refine bs_to Mz1 ?_
  clear c1_0_0 c1_0_1 c1_1_0 c1_1_1
  intro W2 K2
  clear Mz1 K1
  obtain ⟨c2_0_0, c2_0_1⟩ := (bo1 K2).c2
  obtain ⟨c2_1_0, c2_1_1⟩ := (bo2 K2).c2
  obtain ⟨c2_2_0, c2_2_1⟩ := (bo3 K2).c2
  go_wp2_with fail
  refine (KN.out _ (hL.out _ K2.out.1)).mono ?_
  rintro e W3 ⟨rfl, hb⟩
  have K3 := bsb K2 hb
  clear c2_0_0 c2_0_1 c2_1_0 c2_1_1 c2_2_0 c2_2_1
  clear hb K2
  obtain ⟨c3_0_0, c3_0_1⟩ := (bo1 K3).c2
  obtain ⟨c3_1_0, c3_1_1⟩ := (bo2 K3).c2
  obtain ⟨c3_2_0, c3_2_1⟩ := (bo3 K3).c2
  go_wp2
  go_ret
  exact ⟨rfl, K3.out.1⟩

set_option maxRecDepth 100000 in
set_option maxHeartbeats 4000000 in
theorem wh_11inf (d u i t p q x y n I V E : Int) (hx : d.tmod 1000 = x) (hy : u.tmod 86400000000000 = y) (x1 : -1000 < x) (x2 : x < 1000) (y1 : -86400000000000 < y) (y2 : y < 86400000000000) (sx : x < 0) (sy : y < 0) (hn : -x * 86400000000 + -y = n) (n0 : 0 ≤ n) (n9 : n < 1000000000000000) (hz : n ≠ 0) (hi : i ≠ 0)
    (BI : Hid (∀ w : World, LO w → Calls Tryz.prog 12 #[.agg #[.int .i64 0, .int .i64 0, .int .i64 (-x), .int .i64 (-y)], .agg #[.int .i64 i, .int .i64 t], .agg #[.int .i64 p, .int .i64 q]] w fun r' w' => r' = .returned (.tuple #[.agg #[.int .i64 I, .int .i64 V], .int .i64 0]) ∧ Below w.heap.size w w'))
    (KN : Hid (∀ w : World, LO w → Calls Tryz.prog 9 #[] w fun r' w' => r' = .returned (.bool true) ∧ Below w.heap.size w w'))
    (w : World) (hL : Hid (∀ W : World, Below w.heap.size w W → LO W)) :
    Calls Tryz.prog 5 #[.int .i64 d, .int .i64 u, .agg #[.int .i64 i, .int .i64 t], .agg #[.int .i64 p, .int .i64 q]] w fun r' w' => r' = .returned (.bool true) ∧ Below w.heap.size w w' := by
  have n1 : (n == 0) = false := by simpa using hz
  have e1 : (i != 0) = true := bne_iff_ne.2 hi
  have K0 : Hid (BS w [(w.heap.size + 1, [.int .i64 p, .int .i64 q]), (w.heap.size, [.int .i64 i, .int .i64 t])] ((w.alloc (.cells #[.int .i64 i, .int .i64 t] 23)).alloc (.cells #[.int .i64 p, .int .i64 q] 23))) := (((BS.start w).new [.int .i64 i, .int .i64 t] 23 rfl).new [.int .i64 p, .int .i64 q] 23 (by simp))
  go_enter Tryz.func5, Tryz.ntmps5
  go_wp2_with fail
  refine (BI.out _ (hL.out _ K0.out.1)).mono ?_
  rintro e W1 ⟨rfl, hb⟩
  have K1 := bsb K0 hb
  clear hb K0
  obtain ⟨c1_0_0, c1_0_1⟩ := (bo1 K1).c2
  obtain ⟨c1_1_0, c1_1_1⟩ := (bo2 K1).c2
  have Mz1 := bsn K1 [.int .i64 I, .int .i64 V] 23
  have lt1_0 := (bo1 K1).1
  have lt1_1 := (bo2 K1).1
  go_upto_region 9 with fail
  refine bs_to Mz1 ?_
  clear c1_0_0 c1_0_1 c1_1_0 c1_1_1
  intro W2 K2
  clear Mz1 K1
  obtain ⟨c2_0_0, c2_0_1⟩ := (bo1 K2).c2
  obtain ⟨c2_1_0, c2_1_1⟩ := (bo2 K2).c2
  obtain ⟨c2_2_0, c2_2_1⟩ := (bo3 K2).c2
  go_wp2_with fail
  refine (KN.out _ (hL.out _ K2.out.1)).mono ?_
  rintro e W3 ⟨rfl, hb⟩
  have K3 := bsb K2 hb
  clear c2_0_0 c2_0_1 c2_1_0 c2_1_1 c2_2_0 c2_2_1
  clear hb K2
  obtain ⟨c3_0_0, c3_0_1⟩ := (bo1 K3).c2
  obtain ⟨c3_1_0, c3_1_1⟩ := (bo2 K3).c2
  obtain ⟨c3_2_0, c3_2_1⟩ := (bo3 K3).c2
  go_wp2
  go_ret
  exact ⟨rfl, K3.out.1⟩

set_option maxRecDepth 100000 in
set_option maxHeartbeats 4000000 in
theorem wh_1100 (d u t p q x y n V P Q : Int) (hx : d.tmod 1000 = x) (hy : u.tmod 86400000000000 = y) (x1 : -1000 < x) (x2 : x < 1000) (y1 : -86400000000000 < y) (y2 : y < 86400000000000) (sx : x < 0) (sy : y < 0) (hn : -x * 86400000000 + -y = n) (n0 : 0 ≤ n) (n9 : n < 1000000000000000) (hz : 0 < n) (hP : V.tmod n = P) (hQ : q.tmod n = Q) (p1 : -n < P) (p2 : P < n) (q1 : -n < Q) (q2 : Q < n) (sp : ¬ P < 0) (sq : ¬ Q < 0) (h1 : V ≤ t) (h2 : t - V < n) (hpq : P = Q)
    (BI : Hid (∀ w : World, LO w → Calls Tryz.prog 12 #[.agg #[.int .i64 0, .int .i64 0, .int .i64 (-x), .int .i64 (-y)], .agg #[.int .i64 0, .int .i64 t], .agg #[.int .i64 p, .int .i64 q]] w fun r' w' => r' = .returned (.tuple #[.agg #[.int .i64 0, .int .i64 V], .int .i64 0]) ∧ Below w.heap.size w w'))
    (KN : Hid (∀ w : World, LO w → Calls Tryz.prog 9 #[] w fun r' w' => r' = .returned (.bool true) ∧ Below w.heap.size w w'))
    (w : World) (hL : Hid (∀ W : World, Below w.heap.size w W → LO W)) :
    Calls Tryz.prog 5 #[.int .i64 d, .int .i64 u, .agg #[.int .i64 0, .int .i64 t], .agg #[.int .i64 p, .int .i64 q]] w fun r' w' => r' = .returned (.bool true) ∧ Below w.heap.size w w' := by
  have n1 : (n == 0) = false := by simp; omega
  have n2 : n ≠ 0 := by omega
  have n3 : n ≠ -1 := by omega
  have hpq' : (P == Q) = true := by simpa using hpq
  have hpq2 : Hid (P = Q) := hpq
  clear hpq
  have K0 : Hid (BS w [(w.heap.size + 1, [.int .i64 p, .int .i64 q]), (w.heap.size, [.int .i64 0, .int .i64 t])] ((w.alloc (.cells #[.int .i64 0, .int .i64 t] 23)).alloc (.cells #[.int .i64 p, .int .i64 q] 23))) := (((BS.start w).new [.int .i64 0, .int .i64 t] 23 rfl).new [.int .i64 p, .int .i64 q] 23 (by simp))
  go_enter Tryz.func5, Tryz.ntmps5
  go_wp2_with fail
  refine (BI.out _ (hL.out _ K0.out.1)).mono ?_
  rintro e W1 ⟨rfl, hb⟩
  have K1 := bsb K0 hb
  clear hb K0
  obtain ⟨c1_0_0, c1_0_1⟩ := (bo1 K1).c2
  obtain ⟨c1_1_0, c1_1_1⟩ := (bo2 K1).c2
  have Mz1 := bsn K1 [.int .i64 0, .int .i64 V] 23
  have lt1_0 := (bo1 K1).1
  have lt1_1 := (bo2 K1).1
  go_upto_region 9 with fail
  refine bs_to Mz1 ?_
  clear c1_0_0 c1_0_1 c1_1_0 c1_1_1
  intro W2 K2
  clear Mz1 K1
  obtain ⟨c2_0_0, c2_0_1⟩ := (bo1 K2).c2
  obtain ⟨c2_1_0, c2_1_1⟩ := (bo2 K2).c2
  obtain ⟨c2_2_0, c2_2_1⟩ := (bo3 K2).c2
  go_wp2_with fail
  refine (KN.out _ (hL.out _ K2.out.1)).mono ?_
  rintro e W3 ⟨rfl, hb⟩
  have K3 := bsb K2 hb
  clear c2_0_0 c2_0_1 c2_1_0 c2_1_1 c2_2_0 c2_2_1
  clear hb K2
  obtain ⟨c3_0_0, c3_0_1⟩ := (bo1 K3).c2
  obtain ⟨c3_1_0, c3_1_1⟩ := (bo2 K3).c2
  obtain ⟨c3_2_0, c3_2_1⟩ := (bo3 K3).c2
  go_wp2
  go_ret
  exact ⟨rfl, K3.out.1⟩

set_option maxRecDepth 100000 in
set_option maxHeartbeats 4000000 in
theorem wh_1101 (d u t p q x y n V P Q : Int) (hx : d.tmod 1000 = x) (hy : u.tmod 86400000000000 = y) (x1 : -1000 < x) (x2 : x < 1000) (y1 : -86400000000000 < y) (y2 : y < 86400000000000) (sx : x < 0) (sy : y < 0) (hn : -x * 86400000000 + -y = n) (n0 : 0 ≤ n) (n9 : n < 1000000000000000) (hz : 0 < n) (hP : V.tmod n = P) (hQ : q.tmod n = Q) (p1 : -n < P) (p2 : P < n) (q1 : -n < Q) (q2 : Q < n) (sp : ¬ P < 0) (sq : Q < 0) (h1 : V ≤ t) (h2 : t - V < n) (hpq : P = Q + n)
    (BI : Hid (∀ w : World, LO w → Calls Tryz.prog 12 #[.agg #[.int .i64 0, .int .i64 0, .int .i64 (-x), .int .i64 (-y)], .agg #[.int .i64 0, .int .i64 t], .agg #[.int .i64 p, .int .i64 q]] w fun r' w' => r' = .returned (.tuple #[.agg #[.int .i64 0, .int .i64 V], .int .i64 0]) ∧ Below w.heap.size w w'))
    (KN : Hid (∀ w : World, LO w → Calls Tryz.prog 9 #[] w fun r' w' => r' = .returned (.bool true) ∧ Below w.heap.size w w'))
    (w : World) (hL : Hid (∀ W : World, Below w.heap.size w W → LO W)) :
    Calls Tryz.prog 5 #[.int .i64 d, .int .i64 u, .agg #[.int .i64 0, .int .i64 t], .agg #[.int .i64 p, .int .i64 q]] w fun r' w' => r' = .returned (.bool true) ∧ Below w.heap.size w w' := by
  have n1 : (n == 0) = false := by simp; omega
  have n2 : n ≠ 0 := by omega
  have n3 : n ≠ -1 := by omega
  have hpq' : (P == Q + n) = true := by simpa using hpq
  have hpq2 : Hid (P = Q + n) := hpq
  clear hpq
  have K0 : Hid (BS w [(w.heap.size + 1, [.int .i64 p, .int .i64 q]), (w.heap.size, [.int .i64 0, .int .i64 t])] ((w.alloc (.cells #[.int .i64 0, .int .i64 t] 23)).alloc (.cells #[.int .i64 p, .int .i64 q] 23))) := (((BS.start w).new [.int .i64 0, .int .i64 t] 23 rfl).new [.int .i64 p, .int .i64 q] 23 (by simp))
  go_enter Tryz.func5, Tryz.ntmps5
  go_wp2_with fail
  refine (BI.out _ (hL.out _ K0.out.1)).mono ?_
  rintro e W1 ⟨rfl, hb⟩
  have K1 := bsb K0 hb
  clear hb K0
  obtain ⟨c1_0_0, c1_0_1⟩ := (bo1 K1).c2
  obtain ⟨c1_1_0, c1_1_1⟩ := (bo2 K1).c2
  have Mz1 := bsn K1 [.int .i64 0, .int .i64 V] 23
  have lt1_0 := (bo1 K1).1
  have lt1_1 := (bo2 K1).1
  go_upto_region 9 with fail
  refine bs_to Mz1 ?_
  clear c1_0_0 c1_0_1 c1_1_0 c1_1_1
  intro W2 K2
  clear Mz1 K1
  obtain ⟨c2_0_0, c2_0_1⟩ := (bo1 K2).c2
  obtain ⟨c2_1_0, c2_1_1⟩ := (bo2 K2).c2
  obtain ⟨c2_2_0, c2_2_1⟩ := (bo3 K2).c2
  go_wp2_with fail
  refine (KN.out _ (hL.out _ K2.out.1)).mono ?_
  rintro e W3 ⟨rfl, hb⟩
  have K3 := bsb K2 hb
  clear c2_0_0 c2_0_1 c2_1_0 c2_1_1 c2_2_0 c2_2_1
  clear hb K2
  obtain ⟨c3_0_0, c3_0_1⟩ := (bo1 K3).c2
  obtain ⟨c3_1_0, c3_1_1⟩ := (bo2 K3).c2
  obtain ⟨c3_2_0, c3_2_1⟩ := (bo3 K3).c2
  go_wp2
  go_ret
  exact ⟨rfl, K3.out.1⟩

set_option maxRecDepth 100000 in
set_option maxHeartbeats 4000000 in
theorem wh_1110 (d u t p q x y n V P Q : Int) (hx : d.tmod 1000 = x) (hy : u.tmod 86400000000000 = y) (x1 : -1000 < x) (x2 : x < 1000) (y1 : -86400000000000 < y) (y2 : y < 86400000000000) (sx : x < 0) (sy : y < 0) (hn : -x * 86400000000 + -y = n) (n0 : 0 ≤ n) (n9 : n < 1000000000000000) (hz : 0 < n) (hP : V.tmod n = P) (hQ : q.tmod n = Q) (p1 : -n < P) (p2 : P < n) (q1 : -n < Q) (q2 : Q < n) (sp : P < 0) (sq : ¬ Q < 0) (h1 : V ≤ t) (h2 : t - V < n) (hpq : P + n = Q)
    (BI : Hid (∀ w : World, LO w → Calls Tryz.prog 12 #[.agg #[.int .i64 0, .int .i64 0, .int .i64 (-x), .int .i64 (-y)], .agg #[.int .i64 0, .int .i64 t], .agg #[.int .i64 p, .int .i64 q]] w fun r' w' => r' = .returned (.tuple #[.agg #[.int .i64 0, .int .i64 V], .int .i64 0]) ∧ Below w.heap.size w w'))
    (KN : Hid (∀ w : World, LO w → Calls Tryz.prog 9 #[] w fun r' w' => r' = .returned (.bool true) ∧ Below w.heap.size w w'))
    (w : World) (hL : Hid (∀ W : World, Below w.heap.size w W → LO W)) :
    Calls Tryz.prog 5 #[.int .i64 d, .int .i64 u, .agg #[.int .i64 0, .int .i64 t], .agg #[.int .i64 p, .int .i64 q]] w fun r' w' => r' = .returned (.bool true) ∧ Below w.heap.size w w' := by
  have n1 : (n == 0) = false := by simp; omega
  have n2 : n ≠ 0 := by omega
  have n3 : n ≠ -1 := by omega
  have hpq' : (P + n == Q) = true := by simpa using hpq
  have hpq2 : Hid (P + n = Q) := hpq
  clear hpq
  have K0 : Hid (BS w [(w.heap.size + 1, [.int .i64 p, .int .i64 q]), (w.heap.size, [.int .i64 0, .int .i64 t])] ((w.alloc (.cells #[.int .i64 0, .int .i64 t] 23)).alloc (.cells #[.int .i64 p, .int .i64 q] 23))) := (((BS.start w).new [.int .i64 0, .int .i64 t] 23 rfl).new [.int .i64 p, .int .i64 q] 23 (by simp))
  go_enter Tryz.func5, Tryz.ntmps5
  go_wp2_with fail
  refine (BI.out _ (hL.out _ K0.out.1)).mono ?_
  rintro e W1 ⟨rfl, hb⟩
  have K1 := bsb K0 hb
  clear hb K0
  obtain ⟨c1_0_0, c1_0_1⟩ := (bo1 K1).c2
  obtain ⟨c1_1_0, c1_1_1⟩ := (bo2 K1).c2
  have Mz1 := bsn K1 [.int .i64 0, .int .i64 V] 23
  have lt1_0 := (bo1 K1).1
  have lt1_1 := (bo2 K1).1
  go_upto_region 9 with fail
  refine bs_to Mz1 ?_
  clear c1_0_0 c1_0_1 c1_1_0 c1_1_1
  intro W2 K2
  clear Mz1 K1
  obtain ⟨c2_0_0, c2_0_1⟩ := (bo1 K2).c2
  obtain ⟨c2_1_0, c2_1_1⟩ := (bo2 K2).c2
  obtain ⟨c2_2_0, c2_2_1⟩ := (bo3 K2).c2
  go_wp2_with fail
  refine (KN.out _ (hL.out _ K2.out.1)).mono ?_
  rintro e W3 ⟨rfl, hb⟩
  have K3 := bsb K2 hb
  clear c2_0_0 c2_0_1 c2_1_0 c2_1_1 c2_2_0 c2_2_1
  clear hb K2
  obtain ⟨c3_0_0, c3_0_1⟩ := (bo1 K3).c2
  obtain ⟨c3_1_0, c3_1_1⟩ := (bo2 K3).c2
  obtain ⟨c3_2_0, c3_2_1⟩ := (bo3 K3).c2
  go_wp2
  go_ret
  exact ⟨rfl, K3.out.1⟩

set_option maxRecDepth 100000 in
set_option maxHeartbeats 4000000 in
theorem wh_1111 (d u t p q x y n V P Q : Int) (hx : d.tmod 1000 = x) (hy : u.tmod 86400000000000 = y) (x1 : -1000 < x) (x2 : x < 1000) (y1 : -86400000000000 < y) (y2 : y < 86400000000000) (sx : x < 0) (sy : y < 0) (hn : -x * 86400000000 + -y = n) (n0 : 0 ≤ n) (n9 : n < 1000000000000000) (hz : 0 < n) (hP : V.tmod n = P) (hQ : q.tmod n = Q) (p1 : -n < P) (p2 : P < n) (q1 : -n < Q) (q2 : Q < n) (sp : P < 0) (sq : Q < 0) (h1 : V ≤ t) (h2 : t - V < n) (hpq : P + n = Q + n)
    (BI : Hid (∀ w : World, LO w → Calls Tryz.prog 12 #[.agg #[.int .i64 0, .int .i64 0, .int .i64 (-x), .int .i64 (-y)], .agg #[.int .i64 0, .int .i64 t], .agg #[.int .i64 p, .int .i64 q]] w fun r' w' => r' = .returned (.tuple #[.agg #[.int .i64 0, .int .i64 V], .int .i64 0]) ∧ Below w.heap.size w w'))
    (KN : Hid (∀ w : World, LO w → Calls Tryz.prog 9 #[] w fun r' w' => r' = .returned (.bool true) ∧ Below w.heap.size w w'))
    (w : World) (hL : Hid (∀ W : World, Below w.heap.size w W → LO W)) :
    Calls Tryz.prog 5 #[.int .i64 d, .int .i64 u, .agg #[.int .i64 0, .int .i64 t], .agg #[.int .i64 p, .int .i64 q]] w fun r' w' => r' = .returned (.bool true) ∧ Below w.heap.size w w' := by
  have n1 : (n == 0) = false := by simp; omega
  have n2 : n ≠ 0 := by omega
  have n3 : n ≠ -1 := by omega
  have hpq' : (P + n == Q + n) = true := by simpa using hpq
  have hpq2 : Hid (P + n = Q + n) := hpq
  clear hpq
  have K0 : Hid (BS w [(w.heap.size + 1, [.int .i64 p, .int .i64 q]), (w.heap.size, [.int .i64 0, .int .i64 t])] ((w.alloc (.cells #[.int .i64 0, .int .i64 t] 23)).alloc (.cells #[.int .i64 p, .int .i64 q] 23))) := (((BS.start w).new [.int .i64 0, .int .i64 t] 23 rfl).new [.int .i64 p, .int .i64 q] 23 (by simp))
  go_enter Tryz.func5, Tryz.ntmps5
  go_wp2_with fail
  refine (BI.out _ (hL.out _ K0.out.1)).mono ?_
  rintro e W1 ⟨rfl, hb⟩
  have K1 := bsb K0 hb
  clear hb K0
  obtain ⟨c1_0_0, c1_0_1⟩ := (bo1 K1).c2
  obtain ⟨c1_1_0, c1_1_1⟩ := (bo2 K1).c2
  have Mz1 := bsn K1 [.int .i64 0, .int .i64 V] 23
  have lt1_0 := (bo1 K1).1
  have lt1_1 := (bo2 K1).1
  go_upto_region 9 with fail
  refine bs_to Mz1 ?_
  clear c1_0_0 c1_0_1 c1_1_0 c1_1_1
  intro W2 K2
  clear Mz1 K1
  obtain ⟨c2_0_0, c2_0_1⟩ := (bo1 K2).c2
  obtain ⟨c2_1_0, c2_1_1⟩ := (bo2 K2).c2
  obtain ⟨c2_2_0, c2_2_1⟩ := (bo3 K2).c2
  go_wp2_with fail
  refine (KN.out _ (hL.out _ K2.out.1)).mono ?_
  rintro e W3 ⟨rfl, hb⟩
  have K3 := bsb K2 hb
  clear c2_0_0 c2_0_1 c2_1_0 c2_1_1 c2_2_0 c2_2_1
  clear hb K2
  obtain ⟨c3_0_0, c3_0_1⟩ := (bo1 K3).c2
  obtain ⟨c3_1_0, c3_1_1⟩ := (bo2 K3).c2
  obtain ⟨c3_2_0, c3_2_1⟩ := (bo3 K3).c2
  go_wp2
  go_ret
  exact ⟨rfl, K3.out.1⟩


end Go.Proofs.YtofmmdfdiaahhaaGreatDoor
