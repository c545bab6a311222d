/- show.dated, timed, Date, Stamp and the reference's Date, moment, Stamp, over their callees. -/
import Derived.Test.YtmohhbgmbicklaaGreatDoorShSq
namespace Go.Proofs.YtmohhbgmbicklaaGreatDoor
open Go.RowKit
set_option linter.unusedVariables false

set_option maxRecDepth 100000 in
set_option maxHeartbeats 4000000 in
theorem dated_iso0 (d y m q r p : Int) (A B E G Y X : ByteArray) (y1 : 1 ≤ y) (y2 : y ≤ 10000000)
    (PA : Hid (∀ w : World, LT w → Calls Tryz.prog 40 #[.agg #[.int .i64 0, .int .i64 d]] w fun r' w' => r' = .returned (.tuple #[.int .i64 y, .int .i64 m, .int .i64 q, .int .i64 0]) ∧ Below w.heap.size w w'))
    (Q1 : Hid (∀ w : World, LT w → Calls Tryz.prog 41 #[.int .i64 (y / 100)] w fun r' w' => r' = .returned (.string A) ∧ Below w.heap.size w w'))
    (Q2 : Hid (∀ w : World, LT w → Calls Tryz.prog 41 #[.int .i64 (y % 100)] w fun r' w' => r' = .returned (.string B) ∧ Below w.heap.size w w'))
    (J1 : Hid (∀ (b : Nat) (w : World), Bx w b [.string A, .string B] → Calls Tryz.prog 20 #[.string ⟨#[]⟩, .slice (some ⟨b, 0, none⟩) 2 2] w fun r' w' => r' = .returned (.string (Y)) ∧ Below w.heap.size w w'))
    (Q3 : Hid (∀ w : World, LT w → Calls Tryz.prog 41 #[.int .i64 m] w fun r' w' => r' = .returned (.string E) ∧ Below w.heap.size w w'))
    (Q4 : Hid (∀ w : World, LT w → Calls Tryz.prog 41 #[.int .i64 q] w fun r' w' => r' = .returned (.string G) ∧ Below w.heap.size w w'))
    (J2 : Hid (∀ (b : Nat) (w : World), Bx w b [.string Y, .string E, .string G] → Calls Tryz.prog 20 #[.string ⟨#[45]⟩, .slice (some ⟨b, 0, none⟩) 3 3] w fun r' w' => r' = .returned (.string (X)) ∧ Below w.heap.size w w'))
    (w : World) (hL : Hid (∀ W : World, Below w.heap.size w W → LT W)) :
    Calls Tryz.prog 19 #[.agg #[.int .i64 0, .int .i64 d], .agg #[.int .i64 0, .int .i64 r, .int .i64 p]] w fun r' w' => r' = .returned (.tuple #[.string X, .string ⟨#[]⟩]) ∧ Below w.heap.size w w' := by
  have K0 : Hid (BS w [(w.heap.size + 1, [.int .i64 0, .int .i64 r, .int .i64 p]), (w.heap.size, [.int .i64 0, .int .i64 d])] ((w.alloc (.cells #[.int .i64 0, .int .i64 d] 23)).alloc (.cells #[.int .i64 0, .int .i64 r, .int .i64 p] 27))) := (((BS.start w).new [.int .i64 0, .int .i64 d] 23 rfl).new [.int .i64 0, .int .i64 r, .int .i64 p] 27 (by simp))
  go_enter Tryz.func19, Tryz.ntmps19
  go_wp2_with fail
  refine (PA.out _ (hL.out _ K0.out.1)).mono ?_
  rintro e W1 ⟨rfl, hb⟩
  have K1 := bsb K0 hb
  clear hb K0
  obtain ⟨c1_0_0, c1_0_1, c1_0_2⟩ := (bo1 K1).c3
  obtain ⟨c1_1_0, c1_1_1⟩ := (bo2 K1).c2
  go_wp2_with fail
  refine (Q1.out _ (hL.out _ K1.out.1)).mono ?_
  rintro e W2 ⟨rfl, hb⟩
  have K2 := bsb K1 hb
  clear c1_0_0 c1_0_1 c1_0_2 c1_1_0 c1_1_1
  clear hb K1
  obtain ⟨c2_0_0, c2_0_1, c2_0_2⟩ := (bo1 K2).c3
  obtain ⟨c2_1_0, c2_1_1⟩ := (bo2 K2).c2
  go_wp2_with fail
  refine (Q2.out _ (hL.out _ K2.out.1)).mono ?_
  rintro e W3 ⟨rfl, hb⟩
  have K3 := bsb K2 hb
  clear c2_0_0 c2_0_1 c2_0_2 c2_1_0 c2_1_1
  clear hb K2
  obtain ⟨c3_0_0, c3_0_1, c3_0_2⟩ := (bo1 K3).c3
  obtain ⟨c3_1_0, c3_1_1⟩ := (bo2 K3).c2
  have Kj4 : Hid (BS w [(W3.heap.size, [.string A, .string B]), (w.heap.size + 1, [.int .i64 0, .int .i64 r, .int .i64 p]), (w.heap.size, [.int .i64 0, .int .i64 d])] (W3.alloc (.cells #[.string A, .string B] 9))) := K3.out.new [.string A, .string B] 9 rfl
  go_wp2_with fail
  refine (J1.out _ _ (bo1 Kj4)).mono ?_
  rintro e W4 ⟨rfl, hb⟩
  have K4 := bsb Kj4 hb
  clear c3_0_0 c3_0_1 c3_0_2 c3_1_0 c3_1_1
  clear hb Kj4 K3
  go_wp2_with fail
  refine (Q3.out _ (hL.out _ K4.out.1)).mono ?_
  rintro e W5 ⟨rfl, hb⟩
  have K5 := bsb K4 hb
  clear hb K4
  obtain ⟨c5_0_0, c5_0_1⟩ := (bo1 K5).c2
  obtain ⟨c5_1_0, c5_1_1, c5_1_2⟩ := (bo2 K5).c3
  obtain ⟨c5_2_0, c5_2_1⟩ := (bo3 K5).c2
  go_wp2_with fail
  refine (Q4.out _ (hL.out _ K5.out.1)).mono ?_
  rintro e W6 ⟨rfl, hb⟩
  have K6 := bsb K5 hb
  clear c5_0_0 c5_0_1 c5_1_0 c5_1_1 c5_1_2 c5_2_0 c5_2_1
  clear hb K5
  obtain ⟨c6_0_0, c6_0_1⟩ := (bo1 K6).c2
  obtain ⟨c6_1_0, c6_1_1, c6_1_2⟩ := (bo2 K6).c3
  obtain ⟨c6_2_0, c6_2_1⟩ := (bo3 K6).c2
  obtain ⟨sy0, sy1, sy2⟩ := (bo2 K6).c3
  have Kj7 : Hid (BS w [(W6.heap.size, [.string Y, .string E, .string G]), (W3.heap.size, [.string A, .string B]), (w.heap.size + 1, [.int .i64 0, .int .i64 r, .int .i64 p]), (w.heap.size, [.int .i64 0, .int .i64 d])] (W6.alloc (.cells #[.string Y, .string E, .string G] 9))) := K6.out.new [.string Y, .string E, .string G] 9 rfl
  go_wp2_with fail
  refine (J2.out _ _ (bo1 Kj7)).mono ?_
  rintro e W7 ⟨rfl, hb⟩
  have K7 := bsb Kj7 hb
  clear c6_0_0 c6_0_1 c6_1_0 c6_1_1 c6_1_2 c6_2_0 c6_2_1
  clear hb Kj7 K6
  go_wp2
  go_ret2
  exact ⟨rfl, K7.out.1⟩


set_option maxRecDepth 100000 in
set_option maxHeartbeats 4000000 in
theorem dated_iso1 (d y m q r p : Int) (A B E G Y X : ByteArray) (y1 : y ≤ 0) (y2 : -10000000 ≤ y)
    (PA : Hid (∀ w : World, LT w → Calls Tryz.prog 40 #[.agg #[.int .i64 0, .int .i64 d]] w fun r' w' => r' = .returned (.tuple #[.int .i64 y, .int .i64 m, .int .i64 q, .int .i64 0]) ∧ Below w.heap.size w w'))
    (Q1 : Hid (∀ w : World, LT w → Calls Tryz.prog 41 #[.int .i64 ((1 - y) / 100)] w fun r' w' => r' = .returned (.string A) ∧ Below w.heap.size w w'))
    (Q2 : Hid (∀ w : World, LT w → Calls Tryz.prog 41 #[.int .i64 ((1 - y) % 100)] w fun r' w' => r' = .returned (.string B) ∧ Below w.heap.size w w'))
    (J1 : Hid (∀ (b : Nat) (w : World), Bx w b [.string A, .string B] → Calls Tryz.prog 20 #[.string ⟨#[]⟩, .slice (some ⟨b, 0, none⟩) 2 2] w fun r' w' => r' = .returned (.string (Y)) ∧ Below w.heap.size w w'))
    (Q3 : Hid (∀ w : World, LT w → Calls Tryz.prog 41 #[.int .i64 m] w fun r' w' => r' = .returned (.string E) ∧ Below w.heap.size w w'))
    (Q4 : Hid (∀ w : World, LT w → Calls Tryz.prog 41 #[.int .i64 q] w fun r' w' => r' = .returned (.string G) ∧ Below w.heap.size w w'))
    (J2 : Hid (∀ (b : Nat) (w : World), Bx w b [.string Y, .string E, .string G] → Calls Tryz.prog 20 #[.string ⟨#[45]⟩, .slice (some ⟨b, 0, none⟩) 3 3] w fun r' w' => r' = .returned (.string (X)) ∧ Below w.heap.size w w'))
    (w : World) (hL : Hid (∀ W : World, Below w.heap.size w W → LT W)) :
    Calls Tryz.prog 19 #[.agg #[.int .i64 0, .int .i64 d], .agg #[.int .i64 0, .int .i64 r, .int .i64 p]] w fun r' w' => r' = .returned (.tuple #[.string X, .string ⟨#[32, 66, 67]⟩]) ∧ Below w.heap.size w w' := by
  have K0 : Hid (BS w [(w.heap.size + 1, [.int .i64 0, .int .i64 r, .int .i64 p]), (w.heap.size, [.int .i64 0, .int .i64 d])] ((w.alloc (.cells #[.int .i64 0, .int .i64 d] 23)).alloc (.cells #[.int .i64 0, .int .i64 r, .int .i64 p] 27))) := (((BS.start w).new [.int .i64 0, .int .i64 d] 23 rfl).new [.int .i64 0, .int .i64 r, .int .i64 p] 27 (by simp))
  go_enter Tryz.func19, Tryz.ntmps19
  go_wp2_with fail
  refine (PA.out _ (hL.out _ K0.out.1)).mono ?_
  rintro e W1 ⟨rfl, hb⟩
  have K1 := bsb K0 hb
  clear hb K0
  obtain ⟨c1_0_0, c1_0_1, c1_0_2⟩ := (bo1 K1).c3
  obtain ⟨c1_1_0, c1_1_1⟩ := (bo2 K1).c2
  have y3 : y < 1 := by omega
  have y4 : 0 ≤ 1 - y := by omega
  go_wp2_with fail
  refine (Q1.out _ (hL.out _ K1.out.1)).mono ?_
  rintro e W2 ⟨rfl, hb⟩
  have K2 := bsb K1 hb
  clear c1_0_0 c1_0_1 c1_0_2 c1_1_0 c1_1_1
  clear hb K1
  obtain ⟨c2_0_0, c2_0_1, c2_0_2⟩ := (bo1 K2).c3
  obtain ⟨c2_1_0, c2_1_1⟩ := (bo2 K2).c2
  go_wp2_with fail
  refine (Q2.out _ (hL.out _ K2.out.1)).mono ?_
  rintro e W3 ⟨rfl, hb⟩
  have K3 := bsb K2 hb
  clear c2_0_0 c2_0_1 c2_0_2 c2_1_0 c2_1_1
  clear hb K2
  obtain ⟨c3_0_0, c3_0_1, c3_0_2⟩ := (bo1 K3).c3
  obtain ⟨c3_1_0, c3_1_1⟩ := (bo2 K3).c2
  have Kj4 : Hid (BS w [(W3.heap.size, [.string A, .string B]), (w.heap.size + 1, [.int .i64 0, .int .i64 r, .int .i64 p]), (w.heap.size, [.int .i64 0, .int .i64 d])] (W3.alloc (.cells #[.string A, .string B] 9))) := K3.out.new [.string A, .string B] 9 rfl
  go_wp2_with fail
  refine (J1.out _ _ (bo1 Kj4)).mono ?_
  rintro e W4 ⟨rfl, hb⟩
  have K4 := bsb Kj4 hb
  clear c3_0_0 c3_0_1 c3_0_2 c3_1_0 c3_1_1
  clear hb Kj4 K3
  go_wp2_with fail
  refine (Q3.out _ (hL.out _ K4.out.1)).mono ?_
  rintro e W5 ⟨rfl, hb⟩
  have K5 := bsb K4 hb
  clear hb K4
  obtain ⟨c5_0_0, c5_0_1⟩ := (bo1 K5).c2
  obtain ⟨c5_1_0, c5_1_1, c5_1_2⟩ := (bo2 K5).c3
  obtain ⟨c5_2_0, c5_2_1⟩ := (bo3 K5).c2
  go_wp2_with fail
  refine (Q4.out _ (hL.out _ K5.out.1)).mono ?_
  rintro e W6 ⟨rfl, hb⟩
  have K6 := bsb K5 hb
  clear c5_0_0 c5_0_1 c5_1_0 c5_1_1 c5_1_2 c5_2_0 c5_2_1
  clear hb K5
  obtain ⟨c6_0_0, c6_0_1⟩ := (bo1 K6).c2
  obtain ⟨c6_1_0, c6_1_1, c6_1_2⟩ := (bo2 K6).c3
  obtain ⟨c6_2_0, c6_2_1⟩ := (bo3 K6).c2
  obtain ⟨sy0, sy1, sy2⟩ := (bo2 K6).c3
  have Kj7 : Hid (BS w [(W6.heap.size, [.string Y, .string E, .string G]), (W3.heap.size, [.string A, .string B]), (w.heap.size + 1, [.int .i64 0, .int .i64 r, .int .i64 p]), (w.heap.size, [.int .i64 0, .int .i64 d])] (W6.alloc (.cells #[.string Y, .string E, .string G] 9))) := K6.out.new [.string Y, .string E, .string G] 9 rfl
  go_wp2_with fail
  refine (J2.out _ _ (bo1 Kj7)).mono ?_
  rintro e W7 ⟨rfl, hb⟩
  have K7 := bsb Kj7 hb
  clear c6_0_0 c6_0_1 c6_1_0 c6_1_1 c6_1_2 c6_2_0 c6_2_1
  clear hb Kj7 K6
  go_wp2
  go_ret2
  exact ⟨rfl, K7.out.1⟩


set_option maxRecDepth 100000 in
set_option maxHeartbeats 4000000 in
theorem dated_ymd0 (d y m q r p : Int) (A B E G Y X : ByteArray) (y1 : 1 ≤ y) (y2 : y ≤ 10000000)
    (PA : Hid (∀ w : World, LT w → Calls Tryz.prog 40 #[.agg #[.int .i64 0, .int .i64 d]] w fun r' w' => r' = .returned (.tuple #[.int .i64 y, .int .i64 m, .int .i64 q, .int .i64 0]) ∧ Below w.heap.size w w'))
    (Q1 : Hid (∀ w : World, LT w → Calls Tryz.prog 41 #[.int .i64 (y / 100)] w fun r' w' => r' = .returned (.string A) ∧ Below w.heap.size w w'))
    (Q2 : Hid (∀ w : World, LT w → Calls Tryz.prog 41 #[.int .i64 (y % 100)] w fun r' w' => r' = .returned (.string B) ∧ Below w.heap.size w w'))
    (J1 : Hid (∀ (b : Nat) (w : World), Bx w b [.string A, .string B] → Calls Tryz.prog 20 #[.string ⟨#[]⟩, .slice (some ⟨b, 0, none⟩) 2 2] w fun r' w' => r' = .returned (.string (Y)) ∧ Below w.heap.size w w'))
    (Q3 : Hid (∀ w : World, LT w → Calls Tryz.prog 41 #[.int .i64 m] w fun r' w' => r' = .returned (.string E) ∧ Below w.heap.size w w'))
    (Q4 : Hid (∀ w : World, LT w → Calls Tryz.prog 41 #[.int .i64 q] w fun r' w' => r' = .returned (.string G) ∧ Below w.heap.size w w'))
    (J2 : Hid (∀ (b : Nat) (w : World), Bx w b [.string Y, .string E, .string G] → Calls Tryz.prog 20 #[.string ⟨#[47]⟩, .slice (some ⟨b, 0, none⟩) 3 3] w fun r' w' => r' = .returned (.string (X)) ∧ Below w.heap.size w w'))
    (w : World) (hL : Hid (∀ W : World, Below w.heap.size w W → LT W)) :
    Calls Tryz.prog 19 #[.agg #[.int .i64 0, .int .i64 d], .agg #[.int .i64 1, .int .i64 0, .int .i64 p]] w fun r' w' => r' = .returned (.tuple #[.string X, .string ⟨#[]⟩]) ∧ Below w.heap.size w w' := by
  have K0 : Hid (BS w [(w.heap.size + 1, [.int .i64 1, .int .i64 0, .int .i64 p]), (w.heap.size, [.int .i64 0, .int .i64 d])] ((w.alloc (.cells #[.int .i64 0, .int .i64 d] 23)).alloc (.cells #[.int .i64 1, .int .i64 0, .int .i64 p] 27))) := (((BS.start w).new [.int .i64 0, .int .i64 d] 23 rfl).new [.int .i64 1, .int .i64 0, .int .i64 p] 27 (by simp))
  go_enter Tryz.func19, Tryz.ntmps19
  go_wp2_with fail
  refine (PA.out _ (hL.out _ K0.out.1)).mono ?_
  rintro e W1 ⟨rfl, hb⟩
  have K1 := bsb K0 hb
  clear hb K0
  obtain ⟨c1_0_0, c1_0_1, c1_0_2⟩ := (bo1 K1).c3
  obtain ⟨c1_1_0, c1_1_1⟩ := (bo2 K1).c2
  go_wp2_with fail
  refine (Q1.out _ (hL.out _ K1.out.1)).mono ?_
  rintro e W2 ⟨rfl, hb⟩
  have K2 := bsb K1 hb
  clear c1_0_0 c1_0_1 c1_0_2 c1_1_0 c1_1_1
  clear hb K1
  obtain ⟨c2_0_0, c2_0_1, c2_0_2⟩ := (bo1 K2).c3
  obtain ⟨c2_1_0, c2_1_1⟩ := (bo2 K2).c2
  go_wp2_with fail
  refine (Q2.out _ (hL.out _ K2.out.1)).mono ?_
  rintro e W3 ⟨rfl, hb⟩
  have K3 := bsb K2 hb
  clear c2_0_0 c2_0_1 c2_0_2 c2_1_0 c2_1_1
  clear hb K2
  obtain ⟨c3_0_0, c3_0_1, c3_0_2⟩ := (bo1 K3).c3
  obtain ⟨c3_1_0, c3_1_1⟩ := (bo2 K3).c2
  have Kj4 : Hid (BS w [(W3.heap.size, [.string A, .string B]), (w.heap.size + 1, [.int .i64 1, .int .i64 0, .int .i64 p]), (w.heap.size, [.int .i64 0, .int .i64 d])] (W3.alloc (.cells #[.string A, .string B] 9))) := K3.out.new [.string A, .string B] 9 rfl
  go_wp2_with fail
  refine (J1.out _ _ (bo1 Kj4)).mono ?_
  rintro e W4 ⟨rfl, hb⟩
  have K4 := bsb Kj4 hb
  clear c3_0_0 c3_0_1 c3_0_2 c3_1_0 c3_1_1
  clear hb Kj4 K3
  go_wp2_with fail
  refine (Q3.out _ (hL.out _ K4.out.1)).mono ?_
  rintro e W5 ⟨rfl, hb⟩
  have K5 := bsb K4 hb
  clear hb K4
  obtain ⟨c5_0_0, c5_0_1⟩ := (bo1 K5).c2
  obtain ⟨c5_1_0, c5_1_1, c5_1_2⟩ := (bo2 K5).c3
  obtain ⟨c5_2_0, c5_2_1⟩ := (bo3 K5).c2
  go_wp2_with fail
  refine (Q4.out _ (hL.out _ K5.out.1)).mono ?_
  rintro e W6 ⟨rfl, hb⟩
  have K6 := bsb K5 hb
  clear c5_0_0 c5_0_1 c5_1_0 c5_1_1 c5_1_2 c5_2_0 c5_2_1
  clear hb K5
  obtain ⟨c6_0_0, c6_0_1⟩ := (bo1 K6).c2
  obtain ⟨c6_1_0, c6_1_1, c6_1_2⟩ := (bo2 K6).c3
  obtain ⟨c6_2_0, c6_2_1⟩ := (bo3 K6).c2
  obtain ⟨sy0, sy1, sy2⟩ := (bo2 K6).c3
  have Kj7 : Hid (BS w [(W6.heap.size, [.string Y, .string E, .string G]), (W3.heap.size, [.string A, .string B]), (w.heap.size + 1, [.int .i64 1, .int .i64 0, .int .i64 p]), (w.heap.size, [.int .i64 0, .int .i64 d])] (W6.alloc (.cells #[.string Y, .string E, .string G] 9))) := K6.out.new [.string Y, .string E, .string G] 9 rfl
  go_wp2_with fail
  refine (J2.out _ _ (bo1 Kj7)).mono ?_
  rintro e W7 ⟨rfl, hb⟩
  have K7 := bsb Kj7 hb
  clear c6_0_0 c6_0_1 c6_1_0 c6_1_1 c6_1_2 c6_2_0 c6_2_1
  clear hb Kj7 K6
  go_wp2
  go_ret2
  exact ⟨rfl, K7.out.1⟩


set_option maxRecDepth 100000 in
set_option maxHeartbeats 4000000 in
theorem dated_ymd1 (d y m q r p : Int) (A B E G Y X : ByteArray) (y1 : y ≤ 0) (y2 : -10000000 ≤ y)
    (PA : Hid (∀ w : World, LT w → Calls Tryz.prog 40 #[.agg #[.int .i64 0, .int .i64 d]] w fun r' w' => r' = .returned (.tuple #[.int .i64 y, .int .i64 m, .int .i64 q, .int .i64 0]) ∧ Below w.heap.size w w'))
    (Q1 : Hid (∀ w : World, LT w → Calls Tryz.prog 41 #[.int .i64 ((1 - y) / 100)] w fun r' w' => r' = .returned (.string A) ∧ Below w.heap.size w w'))
    (Q2 : Hid (∀ w : World, LT w → Calls Tryz.prog 41 #[.int .i64 ((1 - y) % 100)] w fun r' w' => r' = .returned (.string B) ∧ Below w.heap.size w w'))
    (J1 : Hid (∀ (b : Nat) (w : World), Bx w b [.string A, .string B] → Calls Tryz.prog 20 #[.string ⟨#[]⟩, .slice (some ⟨b, 0, none⟩) 2 2] w fun r' w' => r' = .returned (.string (Y)) ∧ Below w.heap.size w w'))
    (Q3 : Hid (∀ w : World, LT w → Calls Tryz.prog 41 #[.int .i64 m] w fun r' w' => r' = .returned (.string E) ∧ Below w.heap.size w w'))
    (Q4 : Hid (∀ w : World, LT w → Calls Tryz.prog 41 #[.int .i64 q] w fun r' w' => r' = .returned (.string G) ∧ Below w.heap.size w w'))
    (J2 : Hid (∀ (b : Nat) (w : World), Bx w b [.string Y, .string E, .string G] → Calls Tryz.prog 20 #[.string ⟨#[47]⟩, .slice (some ⟨b, 0, none⟩) 3 3] w fun r' w' => r' = .returned (.string (X)) ∧ Below w.heap.size w w'))
    (w : World) (hL : Hid (∀ W : World, Below w.heap.size w W → LT W)) :
    Calls Tryz.prog 19 #[.agg #[.int .i64 0, .int .i64 d], .agg #[.int .i64 1, .int .i64 0, .int .i64 p]] w fun r' w' => r' = .returned (.tuple #[.string X, .string ⟨#[32, 66, 67]⟩]) ∧ Below w.heap.size w w' := by
  have K0 : Hid (BS w [(w.heap.size + 1, [.int .i64 1, .int .i64 0, .int .i64 p]), (w.heap.size, [.int .i64 0, .int .i64 d])] ((w.alloc (.cells #[.int .i64 0, .int .i64 d] 23)).alloc (.cells #[.int .i64 1, .int .i64 0, .int .i64 p] 27))) := (((BS.start w).new [.int .i64 0, .int .i64 d] 23 rfl).new [.int .i64 1, .int .i64 0, .int .i64 p] 27 (by simp))
  go_enter Tryz.func19, Tryz.ntmps19
  go_wp2_with fail
  refine (PA.out _ (hL.out _ K0.out.1)).mono ?_
  rintro e W1 ⟨rfl, hb⟩
  have K1 := bsb K0 hb
  clear hb K0
  obtain ⟨c1_0_0, c1_0_1, c1_0_2⟩ := (bo1 K1).c3
  obtain ⟨c1_1_0, c1_1_1⟩ := (bo2 K1).c2
  have y3 : y < 1 := by omega
  have y4 : 0 ≤ 1 - y := by omega
  go_wp2_with fail
  refine (Q1.out _ (hL.out _ K1.out.1)).mono ?_
  rintro e W2 ⟨rfl, hb⟩
  have K2 := bsb K1 hb
  clear c1_0_0 c1_0_1 c1_0_2 c1_1_0 c1_1_1
  clear hb K1
  obtain ⟨c2_0_0, c2_0_1, c2_0_2⟩ := (bo1 K2).c3
  obtain ⟨c2_1_0, c2_1_1⟩ := (bo2 K2).c2
  go_wp2_with fail
  refine (Q2.out _ (hL.out _ K2.out.1)).mono ?_
  rintro e W3 ⟨rfl, hb⟩
  have K3 := bsb K2 hb
  clear c2_0_0 c2_0_1 c2_0_2 c2_1_0 c2_1_1
  clear hb K2
  obtain ⟨c3_0_0, c3_0_1, c3_0_2⟩ := (bo1 K3).c3
  obtain ⟨c3_1_0, c3_1_1⟩ := (bo2 K3).c2
  have Kj4 : Hid (BS w [(W3.heap.size, [.string A, .string B]), (w.heap.size + 1, [.int .i64 1, .int .i64 0, .int .i64 p]), (w.heap.size, [.int .i64 0, .int .i64 d])] (W3.alloc (.cells #[.string A, .string B] 9))) := K3.out.new [.string A, .string B] 9 rfl
  go_wp2_with fail
  refine (J1.out _ _ (bo1 Kj4)).mono ?_
  rintro e W4 ⟨rfl, hb⟩
  have K4 := bsb Kj4 hb
  clear c3_0_0 c3_0_1 c3_0_2 c3_1_0 c3_1_1
  clear hb Kj4 K3
  go_wp2_with fail
  refine (Q3.out _ (hL.out _ K4.out.1)).mono ?_
  rintro e W5 ⟨rfl, hb⟩
  have K5 := bsb K4 hb
  clear hb K4
  obtain ⟨c5_0_0, c5_0_1⟩ := (bo1 K5).c2
  obtain ⟨c5_1_0, c5_1_1, c5_1_2⟩ := (bo2 K5).c3
  obtain ⟨c5_2_0, c5_2_1⟩ := (bo3 K5).c2
  go_wp2_with fail
  refine (Q4.out _ (hL.out _ K5.out.1)).mono ?_
  rintro e W6 ⟨rfl, hb⟩
  have K6 := bsb K5 hb
  clear c5_0_0 c5_0_1 c5_1_0 c5_1_1 c5_1_2 c5_2_0 c5_2_1
  clear hb K5
  obtain ⟨c6_0_0, c6_0_1⟩ := (bo1 K6).c2
  obtain ⟨c6_1_0, c6_1_1, c6_1_2⟩ := (bo2 K6).c3
  obtain ⟨c6_2_0, c6_2_1⟩ := (bo3 K6).c2
  obtain ⟨sy0, sy1, sy2⟩ := (bo2 K6).c3
  have Kj7 : Hid (BS w [(W6.heap.size, [.string Y, .string E, .string G]), (W3.heap.size, [.string A, .string B]), (w.heap.size + 1, [.int .i64 1, .int .i64 0, .int .i64 p]), (w.heap.size, [.int .i64 0, .int .i64 d])] (W6.alloc (.cells #[.string Y, .string E, .string G] 9))) := K6.out.new [.string Y, .string E, .string G] 9 rfl
  go_wp2_with fail
  refine (J2.out _ _ (bo1 Kj7)).mono ?_
  rintro e W7 ⟨rfl, hb⟩
  have K7 := bsb Kj7 hb
  clear c6_0_0 c6_0_1 c6_1_0 c6_1_1 c6_1_2 c6_2_0 c6_2_1
  clear hb Kj7 K6
  go_wp2
  go_ret2
  exact ⟨rfl, K7.out.1⟩


set_option maxRecDepth 100000 in
set_option maxHeartbeats 4000000 in
theorem dated_dmy0 (d y m q r p : Int) (A B E G Y X : ByteArray) (y1 : 1 ≤ y) (y2 : y ≤ 10000000)
    (PA : Hid (∀ w : World, LT w → Calls Tryz.prog 40 #[.agg #[.int .i64 0, .int .i64 d]] w fun r' w' => r' = .returned (.tuple #[.int .i64 y, .int .i64 m, .int .i64 q, .int .i64 0]) ∧ Below w.heap.size w w'))
    (Q1 : Hid (∀ w : World, LT w → Calls Tryz.prog 41 #[.int .i64 (y / 100)] w fun r' w' => r' = .returned (.string A) ∧ Below w.heap.size w w'))
    (Q2 : Hid (∀ w : World, LT w → Calls Tryz.prog 41 #[.int .i64 (y % 100)] w fun r' w' => r' = .returned (.string B) ∧ Below w.heap.size w w'))
    (J1 : Hid (∀ (b : Nat) (w : World), Bx w b [.string A, .string B] → Calls Tryz.prog 20 #[.string ⟨#[]⟩, .slice (some ⟨b, 0, none⟩) 2 2] w fun r' w' => r' = .returned (.string (Y)) ∧ Below w.heap.size w w'))
    (Q3 : Hid (∀ w : World, LT w → Calls Tryz.prog 41 #[.int .i64 m] w fun r' w' => r' = .returned (.string E) ∧ Below w.heap.size w w'))
    (Q4 : Hid (∀ w : World, LT w → Calls Tryz.prog 41 #[.int .i64 q] w fun r' w' => r' = .returned (.string G) ∧ Below w.heap.size w w'))
    (J2 : Hid (∀ (b : Nat) (w : World), Bx w b [.string G, .string E, .string Y] → Calls Tryz.prog 20 #[.string ⟨#[47]⟩, .slice (some ⟨b, 0, none⟩) 3 3] w fun r' w' => r' = .returned (.string (X)) ∧ Below w.heap.size w w'))
    (w : World) (hL : Hid (∀ W : World, Below w.heap.size w W → LT W)) :
    Calls Tryz.prog 19 #[.agg #[.int .i64 0, .int .i64 d], .agg #[.int .i64 1, .int .i64 1, .int .i64 p]] w fun r' w' => r' = .returned (.tuple #[.string X, .string ⟨#[]⟩]) ∧ Below w.heap.size w w' := by
  have K0 : Hid (BS w [(w.heap.size + 1, [.int .i64 1, .int .i64 1, .int .i64 p]), (w.heap.size, [.int .i64 0, .int .i64 d])] ((w.alloc (.cells #[.int .i64 0, .int .i64 d] 23)).alloc (.cells #[.int .i64 1, .int .i64 1, .int .i64 p] 27))) := (((BS.start w).new [.int .i64 0, .int .i64 d] 23 rfl).new [.int .i64 1, .int .i64 1, .int .i64 p] 27 (by simp))
  go_enter Tryz.func19, Tryz.ntmps19
  go_wp2_with fail
  refine (PA.out _ (hL.out _ K0.out.1)).mono ?_
  rintro e W1 ⟨rfl, hb⟩
  have K1 := bsb K0 hb
  clear hb K0
  obtain ⟨c1_0_0, c1_0_1, c1_0_2⟩ := (bo1 K1).c3
  obtain ⟨c1_1_0, c1_1_1⟩ := (bo2 K1).c2
  go_wp2_with fail
  refine (Q1.out _ (hL.out _ K1.out.1)).mono ?_
  rintro e W2 ⟨rfl, hb⟩
  have K2 := bsb K1 hb
  clear c1_0_0 c1_0_1 c1_0_2 c1_1_0 c1_1_1
  clear hb K1
  obtain ⟨c2_0_0, c2_0_1, c2_0_2⟩ := (bo1 K2).c3
  obtain ⟨c2_1_0, c2_1_1⟩ := (bo2 K2).c2
  go_wp2_with fail
  refine (Q2.out _ (hL.out _ K2.out.1)).mono ?_
  rintro e W3 ⟨rfl, hb⟩
  have K3 := bsb K2 hb
  clear c2_0_0 c2_0_1 c2_0_2 c2_1_0 c2_1_1
  clear hb K2
  obtain ⟨c3_0_0, c3_0_1, c3_0_2⟩ := (bo1 K3).c3
  obtain ⟨c3_1_0, c3_1_1⟩ := (bo2 K3).c2
  have Kj4 : Hid (BS w [(W3.heap.size, [.string A, .string B]), (w.heap.size + 1, [.int .i64 1, .int .i64 1, .int .i64 p]), (w.heap.size, [.int .i64 0, .int .i64 d])] (W3.alloc (.cells #[.string A, .string B] 9))) := K3.out.new [.string A, .string B] 9 rfl
  go_wp2_with fail
  refine (J1.out _ _ (bo1 Kj4)).mono ?_
  rintro e W4 ⟨rfl, hb⟩
  have K4 := bsb Kj4 hb
  clear c3_0_0 c3_0_1 c3_0_2 c3_1_0 c3_1_1
  clear hb Kj4 K3
  go_wp2_with fail
  refine (Q3.out _ (hL.out _ K4.out.1)).mono ?_
  rintro e W5 ⟨rfl, hb⟩
  have K5 := bsb K4 hb
  clear hb K4
  obtain ⟨c5_0_0, c5_0_1⟩ := (bo1 K5).c2
  obtain ⟨c5_1_0, c5_1_1, c5_1_2⟩ := (bo2 K5).c3
  obtain ⟨c5_2_0, c5_2_1⟩ := (bo3 K5).c2
  go_wp2_with fail
  refine (Q4.out _ (hL.out _ K5.out.1)).mono ?_
  rintro e W6 ⟨rfl, hb⟩
  have K6 := bsb K5 hb
  clear c5_0_0 c5_0_1 c5_1_0 c5_1_1 c5_1_2 c5_2_0 c5_2_1
  clear hb K5
  obtain ⟨c6_0_0, c6_0_1⟩ := (bo1 K6).c2
  obtain ⟨c6_1_0, c6_1_1, c6_1_2⟩ := (bo2 K6).c3
  obtain ⟨c6_2_0, c6_2_1⟩ := (bo3 K6).c2
  obtain ⟨sy0, sy1, sy2⟩ := (bo2 K6).c3
  have Kj7 : Hid (BS w [(W6.heap.size, [.string G, .string E, .string Y]), (W3.heap.size, [.string A, .string B]), (w.heap.size + 1, [.int .i64 1, .int .i64 1, .int .i64 p]), (w.heap.size, [.int .i64 0, .int .i64 d])] (W6.alloc (.cells #[.string G, .string E, .string Y] 9))) := K6.out.new [.string G, .string E, .string Y] 9 rfl
  go_wp2_with fail
  refine (J2.out _ _ (bo1 Kj7)).mono ?_
  rintro e W7 ⟨rfl, hb⟩
  have K7 := bsb Kj7 hb
  clear c6_0_0 c6_0_1 c6_1_0 c6_1_1 c6_1_2 c6_2_0 c6_2_1
  clear hb Kj7 K6
  go_wp2
  go_ret2
  exact ⟨rfl, K7.out.1⟩


set_option maxRecDepth 100000 in
set_option maxHeartbeats 4000000 in
theorem dated_dmy1 (d y m q r p : Int) (A B E G Y X : ByteArray) (y1 : y ≤ 0) (y2 : -10000000 ≤ y)
    (PA : Hid (∀ w : World, LT w → Calls Tryz.prog 40 #[.agg #[.int .i64 0, .int .i64 d]] w fun r' w' => r' = .returned (.tuple #[.int .i64 y, .int .i64 m, .int .i64 q, .int .i64 0]) ∧ Below w.heap.size w w'))
    (Q1 : Hid (∀ w : World, LT w → Calls Tryz.prog 41 #[.int .i64 ((1 - y) / 100)] w fun r' w' => r' = .returned (.string A) ∧ Below w.heap.size w w'))
    (Q2 : Hid (∀ w : World, LT w → Calls Tryz.prog 41 #[.int .i64 ((1 - y) % 100)] w fun r' w' => r' = .returned (.string B) ∧ Below w.heap.size w w'))
    (J1 : Hid (∀ (b : Nat) (w : World), Bx w b [.string A, .string B] → Calls Tryz.prog 20 #[.string ⟨#[]⟩, .slice (some ⟨b, 0, none⟩) 2 2] w fun r' w' => r' = .returned (.string (Y)) ∧ Below w.heap.size w w'))
    (Q3 : Hid (∀ w : World, LT w → Calls Tryz.prog 41 #[.int .i64 m] w fun r' w' => r' = .returned (.string E) ∧ Below w.heap.size w w'))
    (Q4 : Hid (∀ w : World, LT w → Calls Tryz.prog 41 #[.int .i64 q] w fun r' w' => r' = .returned (.string G) ∧ Below w.heap.size w w'))
    (J2 : Hid (∀ (b : Nat) (w : World), Bx w b [.string G, .string E, .string Y] → Calls Tryz.prog 20 #[.string ⟨#[47]⟩, .slice (some ⟨b, 0, none⟩) 3 3] w fun r' w' => r' = .returned (.string (X)) ∧ Below w.heap.size w w'))
    (w : World) (hL : Hid (∀ W : World, Below w.heap.size w W → LT W)) :
    Calls Tryz.prog 19 #[.agg #[.int .i64 0, .int .i64 d], .agg #[.int .i64 1, .int .i64 1, .int .i64 p]] w fun r' w' => r' = .returned (.tuple #[.string X, .string ⟨#[32, 66, 67]⟩]) ∧ Below w.heap.size w w' := by
  have K0 : Hid (BS w [(w.heap.size + 1, [.int .i64 1, .int .i64 1, .int .i64 p]), (w.heap.size, [.int .i64 0, .int .i64 d])] ((w.alloc (.cells #[.int .i64 0, .int .i64 d] 23)).alloc (.cells #[.int .i64 1, .int .i64 1, .int .i64 p] 27))) := (((BS.start w).new [.int .i64 0, .int .i64 d] 23 rfl).new [.int .i64 1, .int .i64 1, .int .i64 p] 27 (by simp))
  go_enter Tryz.func19, Tryz.ntmps19
  go_wp2_with fail
  refine (PA.out _ (hL.out _ K0.out.1)).mono ?_
  rintro e W1 ⟨rfl, hb⟩
  have K1 := bsb K0 hb
  clear hb K0
  obtain ⟨c1_0_0, c1_0_1, c1_0_2⟩ := (bo1 K1).c3
  obtain ⟨c1_1_0, c1_1_1⟩ := (bo2 K1).c2
  have y3 : y < 1 := by omega
  have y4 : 0 ≤ 1 - y := by omega
  go_wp2_with fail
  refine (Q1.out _ (hL.out _ K1.out.1)).mono ?_
  rintro e W2 ⟨rfl, hb⟩
  have K2 := bsb K1 hb
  clear c1_0_0 c1_0_1 c1_0_2 c1_1_0 c1_1_1
  clear hb K1
  obtain ⟨c2_0_0, c2_0_1, c2_0_2⟩ := (bo1 K2).c3
  obtain ⟨c2_1_0, c2_1_1⟩ := (bo2 K2).c2
  go_wp2_with fail
  refine (Q2.out _ (hL.out _ K2.out.1)).mono ?_
  rintro e W3 ⟨rfl, hb⟩
  have K3 := bsb K2 hb
  clear c2_0_0 c2_0_1 c2_0_2 c2_1_0 c2_1_1
  clear hb K2
  obtain ⟨c3_0_0, c3_0_1, c3_0_2⟩ := (bo1 K3).c3
  obtain ⟨c3_1_0, c3_1_1⟩ := (bo2 K3).c2
  have Kj4 : Hid (BS w [(W3.heap.size, [.string A, .string B]), (w.heap.size + 1, [.int .i64 1, .int .i64 1, .int .i64 p]), (w.heap.size, [.int .i64 0, .int .i64 d])] (W3.alloc (.cells #[.string A, .string B] 9))) := K3.out.new [.string A, .string B] 9 rfl
  go_wp2_with fail
  refine (J1.out _ _ (bo1 Kj4)).mono ?_
  rintro e W4 ⟨rfl, hb⟩
  have K4 := bsb Kj4 hb
  clear c3_0_0 c3_0_1 c3_0_2 c3_1_0 c3_1_1
  clear hb Kj4 K3
  go_wp2_with fail
  refine (Q3.out _ (hL.out _ K4.out.1)).mono ?_
  rintro e W5 ⟨rfl, hb⟩
  have K5 := bsb K4 hb
  clear hb K4
  obtain ⟨c5_0_0, c5_0_1⟩ := (bo1 K5).c2
  obtain ⟨c5_1_0, c5_1_1, c5_1_2⟩ := (bo2 K5).c3
  obtain ⟨c5_2_0, c5_2_1⟩ := (bo3 K5).c2
  go_wp2_with fail
  refine (Q4.out _ (hL.out _ K5.out.1)).mono ?_
  rintro e W6 ⟨rfl, hb⟩
  have K6 := bsb K5 hb
  clear c5_0_0 c5_0_1 c5_1_0 c5_1_1 c5_1_2 c5_2_0 c5_2_1
  clear hb K5
  obtain ⟨c6_0_0, c6_0_1⟩ := (bo1 K6).c2
  obtain ⟨c6_1_0, c6_1_1, c6_1_2⟩ := (bo2 K6).c3
  obtain ⟨c6_2_0, c6_2_1⟩ := (bo3 K6).c2
  obtain ⟨sy0, sy1, sy2⟩ := (bo2 K6).c3
  have Kj7 : Hid (BS w [(W6.heap.size, [.string G, .string E, .string Y]), (W3.heap.size, [.string A, .string B]), (w.heap.size + 1, [.int .i64 1, .int .i64 1, .int .i64 p]), (w.heap.size, [.int .i64 0, .int .i64 d])] (W6.alloc (.cells #[.string G, .string E, .string Y] 9))) := K6.out.new [.string G, .string E, .string Y] 9 rfl
  go_wp2_with fail
  refine (J2.out _ _ (bo1 Kj7)).mono ?_
  rintro e W7 ⟨rfl, hb⟩
  have K7 := bsb Kj7 hb
  clear c6_0_0 c6_0_1 c6_1_0 c6_1_1 c6_1_2 c6_2_0 c6_2_1
  clear hb Kj7 K6
  go_wp2
  go_ret2
  exact ⟨rfl, K7.out.1⟩


set_option maxRecDepth 100000 in
set_option maxHeartbeats 4000000 in
theorem dated_mdy0 (d y m q r p : Int) (A B E G Y X : ByteArray) (y1 : 1 ≤ y) (y2 : y ≤ 10000000)
    (PA : Hid (∀ w : World, LT w → Calls Tryz.prog 40 #[.agg #[.int .i64 0, .int .i64 d]] w fun r' w' => r' = .returned (.tuple #[.int .i64 y, .int .i64 m, .int .i64 q, .int .i64 0]) ∧ Below w.heap.size w w'))
    (Q1 : Hid (∀ w : World, LT w → Calls Tryz.prog 41 #[.int .i64 (y / 100)] w fun r' w' => r' = .returned (.string A) ∧ Below w.heap.size w w'))
    (Q2 : Hid (∀ w : World, LT w → Calls Tryz.prog 41 #[.int .i64 (y % 100)] w fun r' w' => r' = .returned (.string B) ∧ Below w.heap.size w w'))
    (J1 : Hid (∀ (b : Nat) (w : World), Bx w b [.string A, .string B] → Calls Tryz.prog 20 #[.string ⟨#[]⟩, .slice (some ⟨b, 0, none⟩) 2 2] w fun r' w' => r' = .returned (.string (Y)) ∧ Below w.heap.size w w'))
    (Q3 : Hid (∀ w : World, LT w → Calls Tryz.prog 41 #[.int .i64 m] w fun r' w' => r' = .returned (.string E) ∧ Below w.heap.size w w'))
    (Q4 : Hid (∀ w : World, LT w → Calls Tryz.prog 41 #[.int .i64 q] w fun r' w' => r' = .returned (.string G) ∧ Below w.heap.size w w'))
    (J2 : Hid (∀ (b : Nat) (w : World), Bx w b [.string E, .string G, .string Y] → Calls Tryz.prog 20 #[.string ⟨#[47]⟩, .slice (some ⟨b, 0, none⟩) 3 3] w fun r' w' => r' = .returned (.string (X)) ∧ Below w.heap.size w w'))
    (w : World) (hL : Hid (∀ W : World, Below w.heap.size w W → LT W)) :
    Calls Tryz.prog 19 #[.agg #[.int .i64 0, .int .i64 d], .agg #[.int .i64 1, .int .i64 2, .int .i64 p]] w fun r' w' => r' = .returned (.tuple #[.string X, .string ⟨#[]⟩]) ∧ Below w.heap.size w w' := by
  have K0 : Hid (BS w [(w.heap.size + 1, [.int .i64 1, .int .i64 2, .int .i64 p]), (w.heap.size, [.int .i64 0, .int .i64 d])] ((w.alloc (.cells #[.int .i64 0, .int .i64 d] 23)).alloc (.cells #[.int .i64 1, .int .i64 2, .int .i64 p] 27))) := (((BS.start w).new [.int .i64 0, .int .i64 d] 23 rfl).new [.int .i64 1, .int .i64 2, .int .i64 p] 27 (by simp))
  go_enter Tryz.func19, Tryz.ntmps19
  go_wp2_with fail
  refine (PA.out _ (hL.out _ K0.out.1)).mono ?_
  rintro e W1 ⟨rfl, hb⟩
  have K1 := bsb K0 hb
  clear hb K0
  obtain ⟨c1_0_0, c1_0_1, c1_0_2⟩ := (bo1 K1).c3
  obtain ⟨c1_1_0, c1_1_1⟩ := (bo2 K1).c2
  go_wp2_with fail
  refine (Q1.out _ (hL.out _ K1.out.1)).mono ?_
  rintro e W2 ⟨rfl, hb⟩
  have K2 := bsb K1 hb
  clear c1_0_0 c1_0_1 c1_0_2 c1_1_0 c1_1_1
  clear hb K1
  obtain ⟨c2_0_0, c2_0_1, c2_0_2⟩ := (bo1 K2).c3
  obtain ⟨c2_1_0, c2_1_1⟩ := (bo2 K2).c2
  go_wp2_with fail
  refine (Q2.out _ (hL.out _ K2.out.1)).mono ?_
  rintro e W3 ⟨rfl, hb⟩
  have K3 := bsb K2 hb
  clear c2_0_0 c2_0_1 c2_0_2 c2_1_0 c2_1_1
  clear hb K2
  obtain ⟨c3_0_0, c3_0_1, c3_0_2⟩ := (bo1 K3).c3
  obtain ⟨c3_1_0, c3_1_1⟩ := (bo2 K3).c2
  have Kj4 : Hid (BS w [(W3.heap.size, [.string A, .string B]), (w.heap.size + 1, [.int .i64 1, .int .i64 2, .int .i64 p]), (w.heap.size, [.int .i64 0, .int .i64 d])] (W3.alloc (.cells #[.string A, .string B] 9))) := K3.out.new [.string A, .string B] 9 rfl
  go_wp2_with fail
  refine (J1.out _ _ (bo1 Kj4)).mono ?_
  rintro e W4 ⟨rfl, hb⟩
  have K4 := bsb Kj4 hb
  clear c3_0_0 c3_0_1 c3_0_2 c3_1_0 c3_1_1
  clear hb Kj4 K3
  go_wp2_with fail
  refine (Q3.out _ (hL.out _ K4.out.1)).mono ?_
  rintro e W5 ⟨rfl, hb⟩
  have K5 := bsb K4 hb
  clear hb K4
  obtain ⟨c5_0_0, c5_0_1⟩ := (bo1 K5).c2
  obtain ⟨c5_1_0, c5_1_1, c5_1_2⟩ := (bo2 K5).c3
  obtain ⟨c5_2_0, c5_2_1⟩ := (bo3 K5).c2
  go_wp2_with fail
  refine (Q4.out _ (hL.out _ K5.out.1)).mono ?_
  rintro e W6 ⟨rfl, hb⟩
  have K6 := bsb K5 hb
  clear c5_0_0 c5_0_1 c5_1_0 c5_1_1 c5_1_2 c5_2_0 c5_2_1
  clear hb K5
  obtain ⟨c6_0_0, c6_0_1⟩ := (bo1 K6).c2
  obtain ⟨c6_1_0, c6_1_1, c6_1_2⟩ := (bo2 K6).c3
  obtain ⟨c6_2_0, c6_2_1⟩ := (bo3 K6).c2
  obtain ⟨sy0, sy1, sy2⟩ := (bo2 K6).c3
  have Kj7 : Hid (BS w [(W6.heap.size, [.string E, .string G, .string Y]), (W3.heap.size, [.string A, .string B]), (w.heap.size + 1, [.int .i64 1, .int .i64 2, .int .i64 p]), (w.heap.size, [.int .i64 0, .int .i64 d])] (W6.alloc (.cells #[.string E, .string G, .string Y] 9))) := K6.out.new [.string E, .string G, .string Y] 9 rfl
  go_wp2_with fail
  refine (J2.out _ _ (bo1 Kj7)).mono ?_
  rintro e W7 ⟨rfl, hb⟩
  have K7 := bsb Kj7 hb
  clear c6_0_0 c6_0_1 c6_1_0 c6_1_1 c6_1_2 c6_2_0 c6_2_1
  clear hb Kj7 K6
  go_wp2
  go_ret2
  exact ⟨rfl, K7.out.1⟩


set_option maxRecDepth 100000 in
set_option maxHeartbeats 4000000 in
theorem dated_mdy1 (d y m q r p : Int) (A B E G Y X : ByteArray) (y1 : y ≤ 0) (y2 : -10000000 ≤ y)
    (PA : Hid (∀ w : World, LT w → Calls Tryz.prog 40 #[.agg #[.int .i64 0, .int .i64 d]] w fun r' w' => r' = .returned (.tuple #[.int .i64 y, .int .i64 m, .int .i64 q, .int .i64 0]) ∧ Below w.heap.size w w'))
    (Q1 : Hid (∀ w : World, LT w → Calls Tryz.prog 41 #[.int .i64 ((1 - y) / 100)] w fun r' w' => r' = .returned (.string A) ∧ Below w.heap.size w w'))
    (Q2 : Hid (∀ w : World, LT w → Calls Tryz.prog 41 #[.int .i64 ((1 - y) % 100)] w fun r' w' => r' = .returned (.string B) ∧ Below w.heap.size w w'))
    (J1 : Hid (∀ (b : Nat) (w : World), Bx w b [.string A, .string B] → Calls Tryz.prog 20 #[.string ⟨#[]⟩, .slice (some ⟨b, 0, none⟩) 2 2] w fun r' w' => r' = .returned (.string (Y)) ∧ Below w.heap.size w w'))
    (Q3 : Hid (∀ w : World, LT w → Calls Tryz.prog 41 #[.int .i64 m] w fun r' w' => r' = .returned (.string E) ∧ Below w.heap.size w w'))
    (Q4 : Hid (∀ w : World, LT w → Calls Tryz.prog 41 #[.int .i64 q] w fun r' w' => r' = .returned (.string G) ∧ Below w.heap.size w w'))
    (J2 : Hid (∀ (b : Nat) (w : World), Bx w b [.string E, .string G, .string Y] → Calls Tryz.prog 20 #[.string ⟨#[47]⟩, .slice (some ⟨b, 0, none⟩) 3 3] w fun r' w' => r' = .returned (.string (X)) ∧ Below w.heap.size w w'))
    (w : World) (hL : Hid (∀ W : World, Below w.heap.size w W → LT W)) :
    Calls Tryz.prog 19 #[.agg #[.int .i64 0, .int .i64 d], .agg #[.int .i64 1, .int .i64 2, .int .i64 p]] w fun r' w' => r' = .returned (.tuple #[.string X, .string ⟨#[32, 66, 67]⟩]) ∧ Below w.heap.size w w' := by
  have K0 : Hid (BS w [(w.heap.size + 1, [.int .i64 1, .int .i64 2, .int .i64 p]), (w.heap.size, [.int .i64 0, .int .i64 d])] ((w.alloc (.cells #[.int .i64 0, .int .i64 d] 23)).alloc (.cells #[.int .i64 1, .int .i64 2, .int .i64 p] 27))) := (((BS.start w).new [.int .i64 0, .int .i64 d] 23 rfl).new [.int .i64 1, .int .i64 2, .int .i64 p] 27 (by simp))
  go_enter Tryz.func19, Tryz.ntmps19
  go_wp2_with fail
  refine (PA.out _ (hL.out _ K0.out.1)).mono ?_
  rintro e W1 ⟨rfl, hb⟩
  have K1 := bsb K0 hb
  clear hb K0
  obtain ⟨c1_0_0, c1_0_1, c1_0_2⟩ := (bo1 K1).c3
  obtain ⟨c1_1_0, c1_1_1⟩ := (bo2 K1).c2
  have y3 : y < 1 := by omega
  have y4 : 0 ≤ 1 - y := by omega
  go_wp2_with fail
  refine (Q1.out _ (hL.out _ K1.out.1)).mono ?_
  rintro e W2 ⟨rfl, hb⟩
  have K2 := bsb K1 hb
  clear c1_0_0 c1_0_1 c1_0_2 c1_1_0 c1_1_1
  clear hb K1
  obtain ⟨c2_0_0, c2_0_1, c2_0_2⟩ := (bo1 K2).c3
  obtain ⟨c2_1_0, c2_1_1⟩ := (bo2 K2).c2
  go_wp2_with fail
  refine (Q2.out _ (hL.out _ K2.out.1)).mono ?_
  rintro e W3 ⟨rfl, hb⟩
  have K3 := bsb K2 hb
  clear c2_0_0 c2_0_1 c2_0_2 c2_1_0 c2_1_1
  clear hb K2
  obtain ⟨c3_0_0, c3_0_1, c3_0_2⟩ := (bo1 K3).c3
  obtain ⟨c3_1_0, c3_1_1⟩ := (bo2 K3).c2
  have Kj4 : Hid (BS w [(W3.heap.size, [.string A, .string B]), (w.heap.size + 1, [.int .i64 1, .int .i64 2, .int .i64 p]), (w.heap.size, [.int .i64 0, .int .i64 d])] (W3.alloc (.cells #[.string A, .string B] 9))) := K3.out.new [.string A, .string B] 9 rfl
  go_wp2_with fail
  refine (J1.out _ _ (bo1 Kj4)).mono ?_
  rintro e W4 ⟨rfl, hb⟩
  have K4 := bsb Kj4 hb
  clear c3_0_0 c3_0_1 c3_0_2 c3_1_0 c3_1_1
  clear hb Kj4 K3
  go_wp2_with fail
  refine (Q3.out _ (hL.out _ K4.out.1)).mono ?_
  rintro e W5 ⟨rfl, hb⟩
  have K5 := bsb K4 hb
  clear hb K4
  obtain ⟨c5_0_0, c5_0_1⟩ := (bo1 K5).c2
  obtain ⟨c5_1_0, c5_1_1, c5_1_2⟩ := (bo2 K5).c3
  obtain ⟨c5_2_0, c5_2_1⟩ := (bo3 K5).c2
  go_wp2_with fail
  refine (Q4.out _ (hL.out _ K5.out.1)).mono ?_
  rintro e W6 ⟨rfl, hb⟩
  have K6 := bsb K5 hb
  clear c5_0_0 c5_0_1 c5_1_0 c5_1_1 c5_1_2 c5_2_0 c5_2_1
  clear hb K5
  obtain ⟨c6_0_0, c6_0_1⟩ := (bo1 K6).c2
  obtain ⟨c6_1_0, c6_1_1, c6_1_2⟩ := (bo2 K6).c3
  obtain ⟨c6_2_0, c6_2_1⟩ := (bo3 K6).c2
  obtain ⟨sy0, sy1, sy2⟩ := (bo2 K6).c3
  have Kj7 : Hid (BS w [(W6.heap.size, [.string E, .string G, .string Y]), (W3.heap.size, [.string A, .string B]), (w.heap.size + 1, [.int .i64 1, .int .i64 2, .int .i64 p]), (w.heap.size, [.int .i64 0, .int .i64 d])] (W6.alloc (.cells #[.string E, .string G, .string Y] 9))) := K6.out.new [.string E, .string G, .string Y] 9 rfl
  go_wp2_with fail
  refine (J2.out _ _ (bo1 Kj7)).mono ?_
  rintro e W7 ⟨rfl, hb⟩
  have K7 := bsb Kj7 hb
  clear c6_0_0 c6_0_1 c6_1_0 c6_1_1 c6_1_2 c6_2_0 c6_2_1
  clear hb Kj7 K6
  go_wp2
  go_ret2
  exact ⟨rfl, K7.out.1⟩


set_option maxRecDepth 100000 in
set_option maxHeartbeats 4000000 in
theorem date_no1 (i d o r p : Int)
    (S1 : Hid (∀ w : World, Calls Tryz.prog 10 #[.agg #[.int .i64 o, .int .i64 r, .int .i64 p]] w fun r' w' => r' = .returned (.bool false) ∧ Below w.heap.size w w'))
    (w : World) :
    Calls Tryz.prog 6 #[.agg #[.int .i64 i, .int .i64 d], .agg #[.int .i64 o, .int .i64 r, .int .i64 p]] w fun r' w' => r' = .returned (.tuple #[.string ⟨#[]⟩, .int .i64 1]) ∧ Below w.heap.size w w' := by
  have K0 : Hid (BS w [(w.heap.size + 1, [.int .i64 o, .int .i64 r, .int .i64 p]), (w.heap.size, [.int .i64 i, .int .i64 d])] ((w.alloc (.cells #[.int .i64 i, .int .i64 d] 23)).alloc (.cells #[.int .i64 o, .int .i64 r, .int .i64 p] 27))) := (((BS.start w).new [.int .i64 i, .int .i64 d] 23 rfl).new [.int .i64 o, .int .i64 r, .int .i64 p] 27 (by simp))
  go_enter Tryz.func6, Tryz.ntmps6
  go_wp2_with fail
  refine (S1.out _).mono ?_
  rintro e W1 ⟨rfl, hb⟩
  have K1 := bsb K0 hb
  clear hb K0
  obtain ⟨c1_0_0, c1_0_1, c1_0_2⟩ := (bo1 K1).c3
  obtain ⟨c1_1_0, c1_1_1⟩ := (bo2 K1).c2
  go_wp2
  go_ret2
  exact ⟨rfl, K1.out.1⟩


set_option maxRecDepth 100000 in
set_option maxHeartbeats 4000000 in
theorem date_no2 (i d o r p : Int)
    (S1 : Hid (∀ w : World, Calls Tryz.prog 10 #[.agg #[.int .i64 o, .int .i64 r, .int .i64 p]] w fun r' w' => r' = .returned (.bool true) ∧ Below w.heap.size w w'))
    (R1 : Hid (∀ w : World, LT w → Calls Tryz.prog 17 #[.agg #[.int .i64 i, .int .i64 d]] w fun r' w' => r' = .returned (.bool false) ∧ Below w.heap.size w w'))
    (w : World) (hL : Hid (∀ W : World, Below w.heap.size w W → LT W)) :
    Calls Tryz.prog 6 #[.agg #[.int .i64 i, .int .i64 d], .agg #[.int .i64 o, .int .i64 r, .int .i64 p]] w fun r' w' => r' = .returned (.tuple #[.string ⟨#[]⟩, .int .i64 1]) ∧ Below w.heap.size w w' := by
  have K0 : Hid (BS w [(w.heap.size + 1, [.int .i64 o, .int .i64 r, .int .i64 p]), (w.heap.size, [.int .i64 i, .int .i64 d])] ((w.alloc (.cells #[.int .i64 i, .int .i64 d] 23)).alloc (.cells #[.int .i64 o, .int .i64 r, .int .i64 p] 27))) := (((BS.start w).new [.int .i64 i, .int .i64 d] 23 rfl).new [.int .i64 o, .int .i64 r, .int .i64 p] 27 (by simp))
  go_enter Tryz.func6, Tryz.ntmps6
  go_wp2_with fail
  refine (S1.out _).mono ?_
  rintro e W1 ⟨rfl, hb⟩
  have K1 := bsb K0 hb
  clear hb K0
  obtain ⟨c1_0_0, c1_0_1, c1_0_2⟩ := (bo1 K1).c3
  obtain ⟨c1_1_0, c1_1_1⟩ := (bo2 K1).c2
  go_wp2_with fail
  refine (R1.out _ (hL.out _ K1.out.1)).mono ?_
  rintro e W2 ⟨rfl, hb⟩
  have K2 := bsb K1 hb
  clear c1_0_0 c1_0_1 c1_0_2 c1_1_0 c1_1_1
  clear hb K1
  obtain ⟨c2_0_0, c2_0_1, c2_0_2⟩ := (bo1 K2).c3
  obtain ⟨c2_1_0, c2_1_1⟩ := (bo2 K2).c2
  go_wp2
  go_ret2
  exact ⟨rfl, K2.out.1⟩


set_option maxRecDepth 100000 in
set_option maxHeartbeats 4000000 in
theorem date_inf (i d o r p : Int) (X : ByteArray) (hi : i ≠ 0)
    (S1 : Hid (∀ w : World, Calls Tryz.prog 10 #[.agg #[.int .i64 o, .int .i64 r, .int .i64 p]] w fun r' w' => r' = .returned (.bool true) ∧ Below w.heap.size w w'))
    (R1 : Hid (∀ w : World, LT w → Calls Tryz.prog 17 #[.agg #[.int .i64 i, .int .i64 d]] w fun r' w' => r' = .returned (.bool true) ∧ Below w.heap.size w w'))
    (EN : Hid (∀ w : World, Calls Tryz.prog 18 #[.int .i64 i] w fun r' w' => r' = .returned (.string X) ∧ Below w.heap.size w w'))
    (w : World) (hL : Hid (∀ W : World, Below w.heap.size w W → LT W)) :
    Calls Tryz.prog 6 #[.agg #[.int .i64 i, .int .i64 d], .agg #[.int .i64 o, .int .i64 r, .int .i64 p]] w fun r' w' => r' = .returned (.tuple #[.string X, .int .i64 0]) ∧ Below w.heap.size w w' := by
  have i1 : (i != 0) = true := bne_iff_ne.2 hi
  have K0 : Hid (BS w [(w.heap.size + 1, [.int .i64 o, .int .i64 r, .int .i64 p]), (w.heap.size, [.int .i64 i, .int .i64 d])] ((w.alloc (.cells #[.int .i64 i, .int .i64 d] 23)).alloc (.cells #[.int .i64 o, .int .i64 r, .int .i64 p] 27))) := (((BS.start w).new [.int .i64 i, .int .i64 d] 23 rfl).new [.int .i64 o, .int .i64 r, .int .i64 p] 27 (by simp))
  go_enter Tryz.func6, Tryz.ntmps6
  go_wp2_with fail
  refine (S1.out _).mono ?_
  rintro e W1 ⟨rfl, hb⟩
  have K1 := bsb K0 hb
  clear hb K0
  obtain ⟨c1_0_0, c1_0_1, c1_0_2⟩ := (bo1 K1).c3
  obtain ⟨c1_1_0, c1_1_1⟩ := (bo2 K1).c2
  go_wp2_with fail
  refine (R1.out _ (hL.out _ K1.out.1)).mono ?_
  rintro e W2 ⟨rfl, hb⟩
  have K2 := bsb K1 hb
  clear c1_0_0 c1_0_1 c1_0_2 c1_1_0 c1_1_1
  clear hb K1
  obtain ⟨c2_0_0, c2_0_1, c2_0_2⟩ := (bo1 K2).c3
  obtain ⟨c2_1_0, c2_1_1⟩ := (bo2 K2).c2
  go_wp2_with fail
  refine (EN.out _).mono ?_
  rintro e W3 ⟨rfl, hb⟩
  have K3 := bsb K2 hb
  clear c2_0_0 c2_0_1 c2_0_2 c2_1_0 c2_1_1
  clear hb K2
  obtain ⟨c3_0_0, c3_0_1, c3_0_2⟩ := (bo1 K3).c3
  obtain ⟨c3_1_0, c3_1_1⟩ := (bo2 K3).c2
  go_wp2
  go_ret2
  exact ⟨rfl, K3.out.1⟩


set_option maxRecDepth 100000 in
set_option maxHeartbeats 4000000 in
theorem date_ok (d o r p : Int) (X E Y : ByteArray)
    (S1 : Hid (∀ w : World, Calls Tryz.prog 10 #[.agg #[.int .i64 o, .int .i64 r, .int .i64 p]] w fun r' w' => r' = .returned (.bool true) ∧ Below w.heap.size w w'))
    (R1 : Hid (∀ w : World, LT w → Calls Tryz.prog 17 #[.agg #[.int .i64 0, .int .i64 d]] w fun r' w' => r' = .returned (.bool true) ∧ Below w.heap.size w w'))
    (DD : Hid (∀ w : World, LT w → Calls Tryz.prog 19 #[.agg #[.int .i64 0, .int .i64 d], .agg #[.int .i64 o, .int .i64 r, .int .i64 p]] w fun r' w' => r' = .returned (.tuple #[.string X, .string E]) ∧ Below w.heap.size w w'))
    (J1 : Hid (∀ (b : Nat) (w : World), Bx w b [.string X, .string E] → Calls Tryz.prog 20 #[.string ⟨#[]⟩, .slice (some ⟨b, 0, none⟩) 2 2] w fun r' w' => r' = .returned (.string (Y)) ∧ Below w.heap.size w w'))
    (w : World) (hL : Hid (∀ W : World, Below w.heap.size w W → LT W)) :
    Calls Tryz.prog 6 #[.agg #[.int .i64 0, .int .i64 d], .agg #[.int .i64 o, .int .i64 r, .int .i64 p]] w fun r' w' => r' = .returned (.tuple #[.string Y, .int .i64 0]) ∧ Below w.heap.size w w' := by
  have K0 : Hid (BS w [(w.heap.size + 1, [.int .i64 o, .int .i64 r, .int .i64 p]), (w.heap.size, [.int .i64 0, .int .i64 d])] ((w.alloc (.cells #[.int .i64 0, .int .i64 d] 23)).alloc (.cells #[.int .i64 o, .int .i64 r, .int .i64 p] 27))) := (((BS.start w).new [.int .i64 0, .int .i64 d] 23 rfl).new [.int .i64 o, .int .i64 r, .int .i64 p] 27 (by simp))
  go_enter Tryz.func6, Tryz.ntmps6
  go_wp2_with fail
  refine (S1.out _).mono ?_
  rintro e W1 ⟨rfl, hb⟩
  have K1 := bsb K0 hb
  clear hb K0
  obtain ⟨c1_0_0, c1_0_1, c1_0_2⟩ := (bo1 K1).c3
  obtain ⟨c1_1_0, c1_1_1⟩ := (bo2 K1).c2
  go_wp2_with fail
  refine (R1.out _ (hL.out _ K1.out.1)).mono ?_
  rintro e W2 ⟨rfl, hb⟩
  have K2 := bsb K1 hb
  clear c1_0_0 c1_0_1 c1_0_2 c1_1_0 c1_1_1
  clear hb K1
  obtain ⟨c2_0_0, c2_0_1, c2_0_2⟩ := (bo1 K2).c3
  obtain ⟨c2_1_0, c2_1_1⟩ := (bo2 K2).c2
  go_wp2_with fail
  refine (DD.out _ (hL.out _ K2.out.1)).mono ?_
  rintro e W3 ⟨rfl, hb⟩
  have K3 := bsb K2 hb
  clear c2_0_0 c2_0_1 c2_0_2 c2_1_0 c2_1_1
  clear hb K2
  obtain ⟨c3_0_0, c3_0_1, c3_0_2⟩ := (bo1 K3).c3
  obtain ⟨c3_1_0, c3_1_1⟩ := (bo2 K3).c2
  have Kj4 : Hid (BS w [(W3.heap.size, [.string X, .string E]), (w.heap.size + 1, [.int .i64 o, .int .i64 r, .int .i64 p]), (w.heap.size, [.int .i64 0, .int .i64 d])] (W3.alloc (.cells #[.string X, .string E] 9))) := K3.out.new [.string X, .string E] 9 rfl
  go_wp2_with fail
  refine (J1.out _ _ (bo1 Kj4)).mono ?_
  rintro e W4 ⟨rfl, hb⟩
  have K4 := bsb Kj4 hb
  clear c3_0_0 c3_0_1 c3_0_2 c3_1_0 c3_1_1
  clear hb Kj4 K3
  go_wp2
  go_ret2
  exact ⟨rfl, K4.out.1⟩


set_option maxRecDepth 100000 in
set_option maxHeartbeats 4000000 in
theorem timed_inf (i u o r p : Int) (X : ByteArray) (hi : i ≠ 0)
    (EN : Hid (∀ w : World, Calls Tryz.prog 18 #[.int .i64 i] w fun r' w' => r' = .returned (.string X) ∧ Below w.heap.size w w'))
    (w : World) :
    Calls Tryz.prog 25 #[.agg #[.int .i64 i, .int .i64 u], .agg #[.int .i64 o, .int .i64 r, .int .i64 p], .slice none 0 0] w fun r' w' => r' = .returned (.string X) ∧ Below w.heap.size w w' := by
  have i1 : (i != 0) = true := bne_iff_ne.2 hi
  have K0 : Hid (BS w [(w.heap.size + 1, [.int .i64 o, .int .i64 r, .int .i64 p]), (w.heap.size, [.int .i64 i, .int .i64 u])] ((w.alloc (.cells #[.int .i64 i, .int .i64 u] 25)).alloc (.cells #[.int .i64 o, .int .i64 r, .int .i64 p] 27))) := (((BS.start w).new [.int .i64 i, .int .i64 u] 25 rfl).new [.int .i64 o, .int .i64 r, .int .i64 p] 27 (by simp))
  go_enter Tryz.func25, Tryz.ntmps25
  go_wp2_with fail
  refine (EN.out _).mono ?_
  rintro e W1 ⟨rfl, hb⟩
  have K1 := bsb K0 hb
  clear hb K0
  obtain ⟨c1_0_0, c1_0_1, c1_0_2⟩ := (bo1 K1).c3
  obtain ⟨c1_1_0, c1_1_1⟩ := (bo2 K1).c2
  go_wp2
  go_ret
  exact ⟨rfl, K1.out.1⟩


set_option maxRecDepth 100000 in
set_option maxHeartbeats 4000000 in
theorem timed_ok (u o r p d us : Int) (X E M Y : ByteArray)
    (OF : Hid (∀ w : World, LT w → Calls Tryz.prog 48 #[.agg #[.int .i64 0, .int .i64 u]] w fun r' w' => r' = .returned (.tuple #[.agg #[.int .i64 0, .int .i64 d], .int .i64 us, .int .i64 0]) ∧ Below w.heap.size w w'))
    (TX : Hid (∀ w : World, LT w → Calls Tryz.prog 49 #[.int .i64 us] w fun r' w' => r' = .returned (.tuple #[.string M, .int .i64 0]) ∧ Below w.heap.size w w'))
    (DD : Hid (∀ w : World, LT w → Calls Tryz.prog 19 #[.agg #[.int .i64 0, .int .i64 d], .agg #[.int .i64 o, .int .i64 r, .int .i64 p]] w fun r' w' => r' = .returned (.tuple #[.string X, .string E]) ∧ Below w.heap.size w w'))
    (J0 : Hid (∀ w : World, Calls Tryz.prog 20 #[.string ⟨#[]⟩, .slice none 0 0] w fun r' w' => r' = .returned (.string ⟨#[]⟩) ∧ Below w.heap.size w w'))
    (J1 : Hid (∀ (b : Nat) (w : World), Bx w b [.string X, .string ⟨#[32]⟩, .string M, .string ⟨#[]⟩, .string E] → Calls Tryz.prog 20 #[.string ⟨#[]⟩, .slice (some ⟨b, 0, none⟩) 5 5] w fun r' w' => r' = .returned (.string (Y)) ∧ Below w.heap.size w w'))
    (w : World) (hL : Hid (∀ W : World, Below w.heap.size w W → LT W)) :
    Calls Tryz.prog 25 #[.agg #[.int .i64 0, .int .i64 u], .agg #[.int .i64 o, .int .i64 r, .int .i64 p], .slice none 0 0] w fun r' w' => r' = .returned (.string Y) ∧ Below w.heap.size w w' := by
  have K0 : Hid (BS w [(w.heap.size + 1, [.int .i64 o, .int .i64 r, .int .i64 p]), (w.heap.size, [.int .i64 0, .int .i64 u])] ((w.alloc (.cells #[.int .i64 0, .int .i64 u] 25)).alloc (.cells #[.int .i64 o, .int .i64 r, .int .i64 p] 27))) := (((BS.start w).new [.int .i64 0, .int .i64 u] 25 rfl).new [.int .i64 o, .int .i64 r, .int .i64 p] 27 (by simp))
  go_enter Tryz.func25, Tryz.ntmps25
  go_wp2_with fail
  refine (OF.out _ (hL.out _ K0.out.1)).mono ?_
  rintro e W1 ⟨rfl, hb⟩
  have K1 := bsb K0 hb
  clear hb K0
  obtain ⟨c1_0_0, c1_0_1, c1_0_2⟩ := (bo1 K1).c3
  obtain ⟨c1_1_0, c1_1_1⟩ := (bo2 K1).c2
  have Mz1 := bsn K1 [.int .i64 0, .int .i64 d] 23
  have lt1_0 := (bo1 K1).1
  have lt1_1 := (bo2 K1).1
  go_upto_region 4 with fail
  refine bs_to Mz1 ?_
  clear c1_0_0 c1_0_1 c1_0_2 c1_1_0 c1_1_1
  intro W2 K2
  clear Mz1 K1
  obtain ⟨c2_0_0, c2_0_1⟩ := (bo1 K2).c2
  obtain ⟨c2_1_0, c2_1_1, c2_1_2⟩ := (bo2 K2).c3
  obtain ⟨c2_2_0, c2_2_1⟩ := (bo3 K2).c2
  go_wp2_with fail
  refine (TX.out _ (hL.out _ K2.out.1)).mono ?_
  rintro e W3 ⟨rfl, hb⟩
  have K3 := bsb K2 hb
  clear c2_0_0 c2_0_1 c2_1_0 c2_1_1 c2_1_2 c2_2_0 c2_2_1
  clear hb K2
  obtain ⟨c3_0_0, c3_0_1⟩ := (bo1 K3).c2
  obtain ⟨c3_1_0, c3_1_1, c3_1_2⟩ := (bo2 K3).c3
  obtain ⟨c3_2_0, c3_2_1⟩ := (bo3 K3).c2
  go_wp2_with fail
  refine (DD.out _ (hL.out _ K3.out.1)).mono ?_
  rintro e W4 ⟨rfl, hb⟩
  have K4 := bsb K3 hb
  clear c3_0_0 c3_0_1 c3_1_0 c3_1_1 c3_1_2 c3_2_0 c3_2_1
  clear hb K3
  obtain ⟨c4_0_0, c4_0_1⟩ := (bo1 K4).c2
  obtain ⟨c4_1_0, c4_1_1, c4_1_2⟩ := (bo2 K4).c3
  obtain ⟨c4_2_0, c4_2_1⟩ := (bo3 K4).c2
  go_wp2_with fail
  refine (J0.out _).mono ?_
  rintro e W5 ⟨rfl, hb⟩
  have K5 := bsb K4 hb
  clear c4_0_0 c4_0_1 c4_1_0 c4_1_1 c4_1_2 c4_2_0 c4_2_1
  clear hb K4
  obtain ⟨c5_0_0, c5_0_1⟩ := (bo1 K5).c2
  obtain ⟨c5_1_0, c5_1_1, c5_1_2⟩ := (bo2 K5).c3
  obtain ⟨c5_2_0, c5_2_1⟩ := (bo3 K5).c2
  have Kj6 : Hid (BS w [(W5.heap.size, [.string X, .string ⟨#[32]⟩, .string M, .string ⟨#[]⟩, .string E]), (W1.heap.size, [.int .i64 0, .int .i64 d]), (w.heap.size + 1, [.int .i64 o, .int .i64 r, .int .i64 p]), (w.heap.size, [.int .i64 0, .int .i64 u])] (W5.alloc (.cells #[.string X, .string ⟨#[32]⟩, .string M, .string ⟨#[]⟩, .string E] 9))) := K5.out.new [.string X, .string ⟨#[32]⟩, .string M, .string ⟨#[]⟩, .string E] 9 rfl
  go_wp2_with fail
  refine (J1.out _ _ (bo1 Kj6)).mono ?_
  rintro e W6 ⟨rfl, hb⟩
  have K6 := bsb Kj6 hb
  clear c5_0_0 c5_0_1 c5_1_0 c5_1_1 c5_1_2 c5_2_0 c5_2_1
  clear hb Kj6 K5
  go_wp2
  go_ret
  exact ⟨rfl, K6.out.1⟩


set_option maxRecDepth 100000 in
set_option maxHeartbeats 4000000 in
theorem st_no1 (i u o r p : Int)
    (S1 : Hid (∀ w : World, Calls Tryz.prog 10 #[.agg #[.int .i64 o, .int .i64 r, .int .i64 p]] w fun r' w' => r' = .returned (.bool false) ∧ Below w.heap.size w w'))
    (w : World) :
    Calls Tryz.prog 8 #[.agg #[.int .i64 i, .int .i64 u], .agg #[.int .i64 o, .int .i64 r, .int .i64 p]] w fun r' w' => r' = .returned (.tuple #[.string ⟨#[]⟩, .int .i64 1]) ∧ Below w.heap.size w w' := by
  have K0 : Hid (BS w [(w.heap.size + 1, [.int .i64 o, .int .i64 r, .int .i64 p]), (w.heap.size, [.int .i64 i, .int .i64 u])] ((w.alloc (.cells #[.int .i64 i, .int .i64 u] 25)).alloc (.cells #[.int .i64 o, .int .i64 r, .int .i64 p] 27))) := (((BS.start w).new [.int .i64 i, .int .i64 u] 25 rfl).new [.int .i64 o, .int .i64 r, .int .i64 p] 27 (by simp))
  go_enter Tryz.func8, Tryz.ntmps8
  go_wp2_with fail
  refine (S1.out _).mono ?_
  rintro e W1 ⟨rfl, hb⟩
  have K1 := bsb K0 hb
  clear hb K0
  obtain ⟨c1_0_0, c1_0_1, c1_0_2⟩ := (bo1 K1).c3
  obtain ⟨c1_1_0, c1_1_1⟩ := (bo2 K1).c2
  go_wp2
  go_ret2
  exact ⟨rfl, K1.out.1⟩


set_option maxRecDepth 100000 in
set_option maxHeartbeats 4000000 in
theorem st_no2 (i u o r p : Int)
    (S1 : Hid (∀ w : World, Calls Tryz.prog 10 #[.agg #[.int .i64 o, .int .i64 r, .int .i64 p]] w fun r' w' => r' = .returned (.bool true) ∧ Below w.heap.size w w'))
    (R1 : Hid (∀ w : World, LT w → Calls Tryz.prog 24 #[.agg #[.int .i64 i, .int .i64 u]] w fun r' w' => r' = .returned (.bool false) ∧ Below w.heap.size w w'))
    (w : World) (hL : Hid (∀ W : World, Below w.heap.size w W → LT W)) :
    Calls Tryz.prog 8 #[.agg #[.int .i64 i, .int .i64 u], .agg #[.int .i64 o, .int .i64 r, .int .i64 p]] w fun r' w' => r' = .returned (.tuple #[.string ⟨#[]⟩, .int .i64 1]) ∧ Below w.heap.size w w' := by
  have K0 : Hid (BS w [(w.heap.size + 1, [.int .i64 o, .int .i64 r, .int .i64 p]), (w.heap.size, [.int .i64 i, .int .i64 u])] ((w.alloc (.cells #[.int .i64 i, .int .i64 u] 25)).alloc (.cells #[.int .i64 o, .int .i64 r, .int .i64 p] 27))) := (((BS.start w).new [.int .i64 i, .int .i64 u] 25 rfl).new [.int .i64 o, .int .i64 r, .int .i64 p] 27 (by simp))
  go_enter Tryz.func8, Tryz.ntmps8
  go_wp2_with fail
  refine (S1.out _).mono ?_
  rintro e W1 ⟨rfl, hb⟩
  have K1 := bsb K0 hb
  clear hb K0
  obtain ⟨c1_0_0, c1_0_1, c1_0_2⟩ := (bo1 K1).c3
  obtain ⟨c1_1_0, c1_1_1⟩ := (bo2 K1).c2
  go_wp2_with fail
  refine (R1.out _ (hL.out _ K1.out.1)).mono ?_
  rintro e W2 ⟨rfl, hb⟩
  have K2 := bsb K1 hb
  clear c1_0_0 c1_0_1 c1_0_2 c1_1_0 c1_1_1
  clear hb K1
  obtain ⟨c2_0_0, c2_0_1, c2_0_2⟩ := (bo1 K2).c3
  obtain ⟨c2_1_0, c2_1_1⟩ := (bo2 K2).c2
  go_wp2
  go_ret2
  exact ⟨rfl, K2.out.1⟩


set_option maxRecDepth 100000 in
set_option maxHeartbeats 4000000 in
theorem st_ok (i u o r p : Int) (X : ByteArray)
    (S1 : Hid (∀ w : World, Calls Tryz.prog 10 #[.agg #[.int .i64 o, .int .i64 r, .int .i64 p]] w fun r' w' => r' = .returned (.bool true) ∧ Below w.heap.size w w'))
    (R1 : Hid (∀ w : World, LT w → Calls Tryz.prog 24 #[.agg #[.int .i64 i, .int .i64 u]] w fun r' w' => r' = .returned (.bool true) ∧ Below w.heap.size w w'))
    (TM : Hid (∀ w : World, LT w → Calls Tryz.prog 25 #[.agg #[.int .i64 i, .int .i64 u], .agg #[.int .i64 o, .int .i64 r, .int .i64 p], .slice none 0 0] w fun r' w' => r' = .returned (.string X) ∧ Below w.heap.size w w'))
    (w : World) (hL : Hid (∀ W : World, Below w.heap.size w W → LT W)) :
    Calls Tryz.prog 8 #[.agg #[.int .i64 i, .int .i64 u], .agg #[.int .i64 o, .int .i64 r, .int .i64 p]] w fun r' w' => r' = .returned (.tuple #[.string X, .int .i64 0]) ∧ Below w.heap.size w w' := by
  have K0 : Hid (BS w [(w.heap.size + 1, [.int .i64 o, .int .i64 r, .int .i64 p]), (w.heap.size, [.int .i64 i, .int .i64 u])] ((w.alloc (.cells #[.int .i64 i, .int .i64 u] 25)).alloc (.cells #[.int .i64 o, .int .i64 r, .int .i64 p] 27))) := (((BS.start w).new [.int .i64 i, .int .i64 u] 25 rfl).new [.int .i64 o, .int .i64 r, .int .i64 p] 27 (by simp))
  go_enter Tryz.func8, Tryz.ntmps8
  go_wp2_with fail
  refine (S1.out _).mono ?_
  rintro e W1 ⟨rfl, hb⟩
  have K1 := bsb K0 hb
  clear hb K0
  obtain ⟨c1_0_0, c1_0_1, c1_0_2⟩ := (bo1 K1).c3
  obtain ⟨c1_1_0, c1_1_1⟩ := (bo2 K1).c2
  go_wp2_with fail
  refine (R1.out _ (hL.out _ K1.out.1)).mono ?_
  rintro e W2 ⟨rfl, hb⟩
  have K2 := bsb K1 hb
  clear c1_0_0 c1_0_1 c1_0_2 c1_1_0 c1_1_1
  clear hb K1
  obtain ⟨c2_0_0, c2_0_1, c2_0_2⟩ := (bo1 K2).c3
  obtain ⟨c2_1_0, c2_1_1⟩ := (bo2 K2).c2
  go_wp2_with fail
  refine (TM.out _ (hL.out _ K2.out.1)).mono ?_
  rintro e W3 ⟨rfl, hb⟩
  have K3 := bsb K2 hb
  clear c2_0_0 c2_0_1 c2_0_2 c2_1_0 c2_1_1
  clear hb K2
  obtain ⟨c3_0_0, c3_0_1, c3_0_2⟩ := (bo1 K3).c3
  obtain ⟨c3_1_0, c3_1_1⟩ := (bo2 K3).c2
  go_wp2
  go_ret2
  exact ⟨rfl, K3.out.1⟩


set_option maxRecDepth 100000 in
set_option maxHeartbeats 4000000 in
theorem rdate_no1 (i d o r p : Int)
    (R1 : Hid (∀ w : World, Calls Tryz.prog 21 #[.agg #[.int .i64 i, .int .i64 d]] w fun r' w' => r' = .returned (.bool false) ∧ Below w.heap.size w w'))
    (w : World) :
    Calls Tryz.prog 7 #[.agg #[.int .i64 i, .int .i64 d], .agg #[.int .i64 o, .int .i64 r, .int .i64 p]] w fun r' w' => r' = .returned (.tuple #[.string ⟨#[]⟩, .int .i64 1]) ∧ Below w.heap.size w w' := by
  have K0 : Hid (BS w [(w.heap.size + 1, [.int .i64 o, .int .i64 r, .int .i64 p]), (w.heap.size, [.int .i64 i, .int .i64 d])] ((w.alloc (.cells #[.int .i64 i, .int .i64 d] 23)).alloc (.cells #[.int .i64 o, .int .i64 r, .int .i64 p] 27))) := (((BS.start w).new [.int .i64 i, .int .i64 d] 23 rfl).new [.int .i64 o, .int .i64 r, .int .i64 p] 27 (by simp))
  go_enter Tryz.func7, Tryz.ntmps7
  go_wp2_with fail
  refine (R1.out _).mono ?_
  rintro e W1 ⟨rfl, hb⟩
  have K1 := bsb K0 hb
  clear hb K0
  obtain ⟨c1_0_0, c1_0_1, c1_0_2⟩ := (bo1 K1).c3
  obtain ⟨c1_1_0, c1_1_1⟩ := (bo2 K1).c2
  go_wp2
  go_ret2
  exact ⟨rfl, K1.out.1⟩


set_option maxRecDepth 100000 in
set_option maxHeartbeats 4000000 in
theorem rdate_no2 (i d o r p : Int)
    (R1 : Hid (∀ w : World, Calls Tryz.prog 21 #[.agg #[.int .i64 i, .int .i64 d]] w fun r' w' => r' = .returned (.bool true) ∧ Below w.heap.size w w'))
    (S1 : Hid (∀ w : World, Calls Tryz.prog 11 #[.agg #[.int .i64 o, .int .i64 r, .int .i64 p]] w fun r' w' => r' = .returned (.bool false) ∧ Below w.heap.size w w'))
    (w : World) :
    Calls Tryz.prog 7 #[.agg #[.int .i64 i, .int .i64 d], .agg #[.int .i64 o, .int .i64 r, .int .i64 p]] w fun r' w' => r' = .returned (.tuple #[.string ⟨#[]⟩, .int .i64 1]) ∧ Below w.heap.size w w' := by
  have K0 : Hid (BS w [(w.heap.size + 1, [.int .i64 o, .int .i64 r, .int .i64 p]), (w.heap.size, [.int .i64 i, .int .i64 d])] ((w.alloc (.cells #[.int .i64 i, .int .i64 d] 23)).alloc (.cells #[.int .i64 o, .int .i64 r, .int .i64 p] 27))) := (((BS.start w).new [.int .i64 i, .int .i64 d] 23 rfl).new [.int .i64 o, .int .i64 r, .int .i64 p] 27 (by simp))
  go_enter Tryz.func7, Tryz.ntmps7
  go_wp2_with fail
  refine (R1.out _).mono ?_
  rintro e W1 ⟨rfl, hb⟩
  have K1 := bsb K0 hb
  clear hb K0
  obtain ⟨c1_0_0, c1_0_1, c1_0_2⟩ := (bo1 K1).c3
  obtain ⟨c1_1_0, c1_1_1⟩ := (bo2 K1).c2
  go_wp2_with fail
  refine (S1.out _).mono ?_
  rintro e W2 ⟨rfl, hb⟩
  have K2 := bsb K1 hb
  clear c1_0_0 c1_0_1 c1_0_2 c1_1_0 c1_1_1
  clear hb K1
  obtain ⟨c2_0_0, c2_0_1, c2_0_2⟩ := (bo1 K2).c3
  obtain ⟨c2_1_0, c2_1_1⟩ := (bo2 K2).c2
  go_wp2
  go_ret2
  exact ⟨rfl, K2.out.1⟩


set_option maxRecDepth 100000 in
set_option maxHeartbeats 4000000 in
theorem rdate_inf (i d o r p : Int) (X : ByteArray) (hi : i ≠ 0)
    (R1 : Hid (∀ w : World, Calls Tryz.prog 21 #[.agg #[.int .i64 i, .int .i64 d]] w fun r' w' => r' = .returned (.bool true) ∧ Below w.heap.size w w'))
    (S1 : Hid (∀ w : World, Calls Tryz.prog 11 #[.agg #[.int .i64 o, .int .i64 r, .int .i64 p]] w fun r' w' => r' = .returned (.bool true) ∧ Below w.heap.size w w'))
    (EN : Hid (∀ w : World, Calls Tryz.prog 22 #[.int .i64 i] w fun r' w' => r' = .returned (.string X) ∧ Below w.heap.size w w'))
    (w : World) :
    Calls Tryz.prog 7 #[.agg #[.int .i64 i, .int .i64 d], .agg #[.int .i64 o, .int .i64 r, .int .i64 p]] w fun r' w' => r' = .returned (.tuple #[.string X, .int .i64 0]) ∧ Below w.heap.size w w' := by
  have i1 : (i != 0) = true := bne_iff_ne.2 hi
  have K0 : Hid (BS w [(w.heap.size + 1, [.int .i64 o, .int .i64 r, .int .i64 p]), (w.heap.size, [.int .i64 i, .int .i64 d])] ((w.alloc (.cells #[.int .i64 i, .int .i64 d] 23)).alloc (.cells #[.int .i64 o, .int .i64 r, .int .i64 p] 27))) := (((BS.start w).new [.int .i64 i, .int .i64 d] 23 rfl).new [.int .i64 o, .int .i64 r, .int .i64 p] 27 (by simp))
  go_enter Tryz.func7, Tryz.ntmps7
  go_wp2_with fail
  refine (R1.out _).mono ?_
  rintro e W1 ⟨rfl, hb⟩
  have K1 := bsb K0 hb
  clear hb K0
  obtain ⟨c1_0_0, c1_0_1, c1_0_2⟩ := (bo1 K1).c3
  obtain ⟨c1_1_0, c1_1_1⟩ := (bo2 K1).c2
  go_wp2_with fail
  refine (S1.out _).mono ?_
  rintro e W2 ⟨rfl, hb⟩
  have K2 := bsb K1 hb
  clear c1_0_0 c1_0_1 c1_0_2 c1_1_0 c1_1_1
  clear hb K1
  obtain ⟨c2_0_0, c2_0_1, c2_0_2⟩ := (bo1 K2).c3
  obtain ⟨c2_1_0, c2_1_1⟩ := (bo2 K2).c2
  go_wp2_with fail
  refine (EN.out _).mono ?_
  rintro e W3 ⟨rfl, hb⟩
  have K3 := bsb K2 hb
  clear c2_0_0 c2_0_1 c2_0_2 c2_1_0 c2_1_1
  clear hb K2
  obtain ⟨c3_0_0, c3_0_1, c3_0_2⟩ := (bo1 K3).c3
  obtain ⟨c3_1_0, c3_1_1⟩ := (bo2 K3).c2
  go_wp2
  go_ret2
  exact ⟨rfl, K3.out.1⟩


set_option maxRecDepth 100000 in
set_option maxHeartbeats 4000000 in
theorem rdate_ok (d o r p : Int) (X E : ByteArray) (zX : X.size ≤ 100) (zE : E.size ≤ 100)
    (R1 : Hid (∀ w : World, Calls Tryz.prog 21 #[.agg #[.int .i64 0, .int .i64 d]] w fun r' w' => r' = .returned (.bool true) ∧ Below w.heap.size w w'))
    (S1 : Hid (∀ w : World, Calls Tryz.prog 11 #[.agg #[.int .i64 o, .int .i64 r, .int .i64 p]] w fun r' w' => r' = .returned (.bool true) ∧ Below w.heap.size w w'))
    (DD : Hid (∀ w : World, Calls Tryz.prog 23 #[.agg #[.int .i64 0, .int .i64 d], .agg #[.int .i64 o, .int .i64 r, .int .i64 p]] w fun r' w' => r' = .returned (.tuple #[.string X, .string E]) ∧ Below w.heap.size w w'))
    (w : World) :
    Calls Tryz.prog 7 #[.agg #[.int .i64 0, .int .i64 d], .agg #[.int .i64 o, .int .i64 r, .int .i64 p]] w fun r' w' => r' = .returned (.tuple #[.string (X ++ E), .int .i64 0]) ∧ Below w.heap.size w w' := by
  have K0 : Hid (BS w [(w.heap.size + 1, [.int .i64 o, .int .i64 r, .int .i64 p]), (w.heap.size, [.int .i64 0, .int .i64 d])] ((w.alloc (.cells #[.int .i64 0, .int .i64 d] 23)).alloc (.cells #[.int .i64 o, .int .i64 r, .int .i64 p] 27))) := (((BS.start w).new [.int .i64 0, .int .i64 d] 23 rfl).new [.int .i64 o, .int .i64 r, .int .i64 p] 27 (by simp))
  go_enter Tryz.func7, Tryz.ntmps7
  go_wp2_with fail
  refine (R1.out _).mono ?_
  rintro e W1 ⟨rfl, hb⟩
  have K1 := bsb K0 hb
  clear hb K0
  obtain ⟨c1_0_0, c1_0_1, c1_0_2⟩ := (bo1 K1).c3
  obtain ⟨c1_1_0, c1_1_1⟩ := (bo2 K1).c2
  go_wp2_with fail
  refine (S1.out _).mono ?_
  rintro e W2 ⟨rfl, hb⟩
  have K2 := bsb K1 hb
  clear c1_0_0 c1_0_1 c1_0_2 c1_1_0 c1_1_1
  clear hb K1
  obtain ⟨c2_0_0, c2_0_1, c2_0_2⟩ := (bo1 K2).c3
  obtain ⟨c2_1_0, c2_1_1⟩ := (bo2 K2).c2
  go_wp2_with fail
  refine (DD.out _).mono ?_
  rintro e W3 ⟨rfl, hb⟩
  have K3 := bsb K2 hb
  clear c2_0_0 c2_0_1 c2_0_2 c2_1_0 c2_1_1
  clear hb K2
  obtain ⟨c3_0_0, c3_0_1, c3_0_2⟩ := (bo1 K3).c3
  obtain ⟨c3_1_0, c3_1_1⟩ := (bo2 K3).c2
  go_wp2
  go_ret2
  exact ⟨rfl, K3.out.1⟩


set_option maxRecDepth 100000 in
set_option maxHeartbeats 4000000 in
theorem rmom (u o r p d us : Int) (X E M : ByteArray) (zX : X.size ≤ 100) (zE : E.size ≤ 100) (zM : M.size ≤ 100)
    (OF : Hid (∀ w : World, Calls Tryz.prog 51 #[.agg #[.int .i64 0, .int .i64 u]] w fun r' w' => r' = .returned (.tuple #[.agg #[.int .i64 0, .int .i64 d], .int .i64 us, .int .i64 0]) ∧ Below w.heap.size w w'))
    (DD : Hid (∀ w : World, Calls Tryz.prog 23 #[.agg #[.int .i64 0, .int .i64 d], .agg #[.int .i64 o, .int .i64 r, .int .i64 p]] w fun r' w' => r' = .returned (.tuple #[.string X, .string E]) ∧ Below w.heap.size w w'))
    (TX : Hid (∀ w : World, Calls Tryz.prog 52 #[.int .i64 us] w fun r' w' => r' = .returned (.tuple #[.string M, .int .i64 0]) ∧ Below w.heap.size w w'))
    (w : World) :
    Calls Tryz.prog 27 #[.agg #[.int .i64 0, .int .i64 u], .agg #[.int .i64 o, .int .i64 r, .int .i64 p]] w fun r' w' => r' = .returned (.tuple #[.string (X ++ ⟨#[32]⟩ ++ M), .string E]) ∧ Below w.heap.size w w' := by
  have K0 : Hid (BS w [(w.heap.size + 1, [.int .i64 o, .int .i64 r, .int .i64 p]), (w.heap.size, [.int .i64 0, .int .i64 u])] ((w.alloc (.cells #[.int .i64 0, .int .i64 u] 25)).alloc (.cells #[.int .i64 o, .int .i64 r, .int .i64 p] 27))) := (((BS.start w).new [.int .i64 0, .int .i64 u] 25 rfl).new [.int .i64 o, .int .i64 r, .int .i64 p] 27 (by simp))
  go_enter Tryz.func27, Tryz.ntmps27
  go_wp2_with fail
  refine (OF.out _).mono ?_
  rintro e W1 ⟨rfl, hb⟩
  have K1 := bsb K0 hb
  clear hb K0
  obtain ⟨c1_0_0, c1_0_1, c1_0_2⟩ := (bo1 K1).c3
  obtain ⟨c1_1_0, c1_1_1⟩ := (bo2 K1).c2
  have Mz1 := bsn K1 [.int .i64 0, .int .i64 d] 23
  have lt1_0 := (bo1 K1).1
  have lt1_1 := (bo2 K1).1
  go_upto_region 2 with fail
  refine bs_to Mz1 ?_
  clear c1_0_0 c1_0_1 c1_0_2 c1_1_0 c1_1_1
  intro W2 K2
  clear Mz1 K1
  obtain ⟨c2_0_0, c2_0_1⟩ := (bo1 K2).c2
  obtain ⟨c2_1_0, c2_1_1, c2_1_2⟩ := (bo2 K2).c3
  obtain ⟨c2_2_0, c2_2_1⟩ := (bo3 K2).c2
  go_wp2_with fail
  refine (DD.out _).mono ?_
  rintro e W3 ⟨rfl, hb⟩
  have K3 := bsb K2 hb
  clear c2_0_0 c2_0_1 c2_1_0 c2_1_1 c2_1_2 c2_2_0 c2_2_1
  clear hb K2
  obtain ⟨c3_0_0, c3_0_1⟩ := (bo1 K3).c2
  obtain ⟨c3_1_0, c3_1_1, c3_1_2⟩ := (bo2 K3).c3
  obtain ⟨c3_2_0, c3_2_1⟩ := (bo3 K3).c2
  go_wp2_with fail
  refine (TX.out _).mono ?_
  rintro e W4 ⟨rfl, hb⟩
  have K4 := bsb K3 hb
  clear c3_0_0 c3_0_1 c3_1_0 c3_1_1 c3_1_2 c3_2_0 c3_2_1
  clear hb K3
  obtain ⟨c4_0_0, c4_0_1⟩ := (bo1 K4).c2
  obtain ⟨c4_1_0, c4_1_1, c4_1_2⟩ := (bo2 K4).c3
  obtain ⟨c4_2_0, c4_2_1⟩ := (bo3 K4).c2
  go_wp2
  go_ret2
  exact ⟨rfl, K4.out.1⟩


set_option maxRecDepth 100000 in
set_option maxHeartbeats 4000000 in
theorem rst_no1 (i u o r p : Int)
    (R1 : Hid (∀ w : World, Calls Tryz.prog 26 #[.agg #[.int .i64 i, .int .i64 u]] w fun r' w' => r' = .returned (.bool false) ∧ Below w.heap.size w w'))
    (w : World) :
    Calls Tryz.prog 9 #[.agg #[.int .i64 i, .int .i64 u], .agg #[.int .i64 o, .int .i64 r, .int .i64 p]] w fun r' w' => r' = .returned (.tuple #[.string ⟨#[]⟩, .int .i64 1]) ∧ Below w.heap.size w w' := by
  have K0 : Hid (BS w [(w.heap.size + 1, [.int .i64 o, .int .i64 r, .int .i64 p]), (w.heap.size, [.int .i64 i, .int .i64 u])] ((w.alloc (.cells #[.int .i64 i, .int .i64 u] 25)).alloc (.cells #[.int .i64 o, .int .i64 r, .int .i64 p] 27))) := (((BS.start w).new [.int .i64 i, .int .i64 u] 25 rfl).new [.int .i64 o, .int .i64 r, .int .i64 p] 27 (by simp))
  go_enter Tryz.func9, Tryz.ntmps9
  go_wp2_with fail
  refine (R1.out _).mono ?_
  rintro e W1 ⟨rfl, hb⟩
  have K1 := bsb K0 hb
  clear hb K0
  obtain ⟨c1_0_0, c1_0_1, c1_0_2⟩ := (bo1 K1).c3
  obtain ⟨c1_1_0, c1_1_1⟩ := (bo2 K1).c2
  go_wp2
  go_ret2
  exact ⟨rfl, K1.out.1⟩


set_option maxRecDepth 100000 in
set_option maxHeartbeats 4000000 in
theorem rst_no2 (i u o r p : Int)
    (R1 : Hid (∀ w : World, Calls Tryz.prog 26 #[.agg #[.int .i64 i, .int .i64 u]] w fun r' w' => r' = .returned (.bool true) ∧ Below w.heap.size w w'))
    (S1 : Hid (∀ w : World, Calls Tryz.prog 11 #[.agg #[.int .i64 o, .int .i64 r, .int .i64 p]] w fun r' w' => r' = .returned (.bool false) ∧ Below w.heap.size w w'))
    (w : World) :
    Calls Tryz.prog 9 #[.agg #[.int .i64 i, .int .i64 u], .agg #[.int .i64 o, .int .i64 r, .int .i64 p]] w fun r' w' => r' = .returned (.tuple #[.string ⟨#[]⟩, .int .i64 1]) ∧ Below w.heap.size w w' := by
  have K0 : Hid (BS w [(w.heap.size + 1, [.int .i64 o, .int .i64 r, .int .i64 p]), (w.heap.size, [.int .i64 i, .int .i64 u])] ((w.alloc (.cells #[.int .i64 i, .int .i64 u] 25)).alloc (.cells #[.int .i64 o, .int .i64 r, .int .i64 p] 27))) := (((BS.start w).new [.int .i64 i, .int .i64 u] 25 rfl).new [.int .i64 o, .int .i64 r, .int .i64 p] 27 (by simp))
  go_enter Tryz.func9, Tryz.ntmps9
  go_wp2_with fail
  refine (R1.out _).mono ?_
  rintro e W1 ⟨rfl, hb⟩
  have K1 := bsb K0 hb
  clear hb K0
  obtain ⟨c1_0_0, c1_0_1, c1_0_2⟩ := (bo1 K1).c3
  obtain ⟨c1_1_0, c1_1_1⟩ := (bo2 K1).c2
  go_wp2_with fail
  refine (S1.out _).mono ?_
  rintro e W2 ⟨rfl, hb⟩
  have K2 := bsb K1 hb
  clear c1_0_0 c1_0_1 c1_0_2 c1_1_0 c1_1_1
  clear hb K1
  obtain ⟨c2_0_0, c2_0_1, c2_0_2⟩ := (bo1 K2).c3
  obtain ⟨c2_1_0, c2_1_1⟩ := (bo2 K2).c2
  go_wp2
  go_ret2
  exact ⟨rfl, K2.out.1⟩


set_option maxRecDepth 100000 in
set_option maxHeartbeats 4000000 in
theorem rst_inf (i u o r p : Int) (X : ByteArray) (hi : i ≠ 0)
    (R1 : Hid (∀ w : World, Calls Tryz.prog 26 #[.agg #[.int .i64 i, .int .i64 u]] w fun r' w' => r' = .returned (.bool true) ∧ Below w.heap.size w w'))
    (S1 : Hid (∀ w : World, Calls Tryz.prog 11 #[.agg #[.int .i64 o, .int .i64 r, .int .i64 p]] w fun r' w' => r' = .returned (.bool true) ∧ Below w.heap.size w w'))
    (EN : Hid (∀ w : World, Calls Tryz.prog 22 #[.int .i64 i] w fun r' w' => r' = .returned (.string X) ∧ Below w.heap.size w w'))
    (w : World) :
    Calls Tryz.prog 9 #[.agg #[.int .i64 i, .int .i64 u], .agg #[.int .i64 o, .int .i64 r, .int .i64 p]] w fun r' w' => r' = .returned (.tuple #[.string X, .int .i64 0]) ∧ Below w.heap.size w w' := by
  have i1 : (i != 0) = true := bne_iff_ne.2 hi
  have K0 : Hid (BS w [(w.heap.size + 1, [.int .i64 o, .int .i64 r, .int .i64 p]), (w.heap.size, [.int .i64 i, .int .i64 u])] ((w.alloc (.cells #[.int .i64 i, .int .i64 u] 25)).alloc (.cells #[.int .i64 o, .int .i64 r, .int .i64 p] 27))) := (((BS.start w).new [.int .i64 i, .int .i64 u] 25 rfl).new [.int .i64 o, .int .i64 r, .int .i64 p] 27 (by simp))
  go_enter Tryz.func9, Tryz.ntmps9
  go_wp2_with fail
  refine (R1.out _).mono ?_
  rintro e W1 ⟨rfl, hb⟩
  have K1 := bsb K0 hb
  clear hb K0
  obtain ⟨c1_0_0, c1_0_1, c1_0_2⟩ := (bo1 K1).c3
  obtain ⟨c1_1_0, c1_1_1⟩ := (bo2 K1).c2
  go_wp2_with fail
  refine (S1.out _).mono ?_
  rintro e W2 ⟨rfl, hb⟩
  have K2 := bsb K1 hb
  clear c1_0_0 c1_0_1 c1_0_2 c1_1_0 c1_1_1
  clear hb K1
  obtain ⟨c2_0_0, c2_0_1, c2_0_2⟩ := (bo1 K2).c3
  obtain ⟨c2_1_0, c2_1_1⟩ := (bo2 K2).c2
  go_wp2_with fail
  refine (EN.out _).mono ?_
  rintro e W3 ⟨rfl, hb⟩
  have K3 := bsb K2 hb
  clear c2_0_0 c2_0_1 c2_0_2 c2_1_0 c2_1_1
  clear hb K2
  obtain ⟨c3_0_0, c3_0_1, c3_0_2⟩ := (bo1 K3).c3
  obtain ⟨c3_1_0, c3_1_1⟩ := (bo2 K3).c2
  go_wp2
  go_ret2
  exact ⟨rfl, K3.out.1⟩


set_option maxRecDepth 100000 in
set_option maxHeartbeats 4000000 in
theorem rst_ok (u o r p : Int) (X E : ByteArray) (zX : X.size ≤ 500) (zE : E.size ≤ 100)
    (R1 : Hid (∀ w : World, Calls Tryz.prog 26 #[.agg #[.int .i64 0, .int .i64 u]] w fun r' w' => r' = .returned (.bool true) ∧ Below w.heap.size w w'))
    (S1 : Hid (∀ w : World, Calls Tryz.prog 11 #[.agg #[.int .i64 o, .int .i64 r, .int .i64 p]] w fun r' w' => r' = .returned (.bool true) ∧ Below w.heap.size w w'))
    (DD : Hid (∀ w : World, Calls Tryz.prog 27 #[.agg #[.int .i64 0, .int .i64 u], .agg #[.int .i64 o, .int .i64 r, .int .i64 p]] w fun r' w' => r' = .returned (.tuple #[.string X, .string E]) ∧ Below w.heap.size w w'))
    (w : World) :
    Calls Tryz.prog 9 #[.agg #[.int .i64 0, .int .i64 u], .agg #[.int .i64 o, .int .i64 r, .int .i64 p]] w fun r' w' => r' = .returned (.tuple #[.string (X ++ E), .int .i64 0]) ∧ Below w.heap.size w w' := by
  have K0 : Hid (BS w [(w.heap.size + 1, [.int .i64 o, .int .i64 r, .int .i64 p]), (w.heap.size, [.int .i64 0, .int .i64 u])] ((w.alloc (.cells #[.int .i64 0, .int .i64 u] 25)).alloc (.cells #[.int .i64 o, .int .i64 r, .int .i64 p] 27))) := (((BS.start w).new [.int .i64 0, .int .i64 u] 25 rfl).new [.int .i64 o, .int .i64 r, .int .i64 p] 27 (by simp))
  go_enter Tryz.func9, Tryz.ntmps9
  go_wp2_with fail
  refine (R1.out _).mono ?_
  rintro e W1 ⟨rfl, hb⟩
  have K1 := bsb K0 hb
  clear hb K0
  obtain ⟨c1_0_0, c1_0_1, c1_0_2⟩ := (bo1 K1).c3
  obtain ⟨c1_1_0, c1_1_1⟩ := (bo2 K1).c2
  go_wp2_with fail
  refine (S1.out _).mono ?_
  rintro e W2 ⟨rfl, hb⟩
  have K2 := bsb K1 hb
  clear c1_0_0 c1_0_1 c1_0_2 c1_1_0 c1_1_1
  clear hb K1
  obtain ⟨c2_0_0, c2_0_1, c2_0_2⟩ := (bo1 K2).c3
  obtain ⟨c2_1_0, c2_1_1⟩ := (bo2 K2).c2
  go_wp2_with fail
  refine (DD.out _).mono ?_
  rintro e W3 ⟨rfl, hb⟩
  have K3 := bsb K2 hb
  clear c2_0_0 c2_0_1 c2_0_2 c2_1_0 c2_1_1
  clear hb K2
  obtain ⟨c3_0_0, c3_0_1, c3_0_2⟩ := (bo1 K3).c3
  obtain ⟨c3_1_0, c3_1_1⟩ := (bo2 K3).c2
  go_wp2
  go_ret2
  exact ⟨rfl, K3.out.1⟩



end Go.Proofs.YtmohhbgmbicklaaGreatDoor
