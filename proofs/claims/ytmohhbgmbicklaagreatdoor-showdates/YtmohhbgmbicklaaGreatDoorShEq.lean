/- The reference's date in every style, over its callees. -/
import Derived.Test.YtmohhbgmbicklaaGreatDoorShSq
import Derived.Deep.CutRange
import Derived.Deep.DeepCutAuto
namespace Go.Proofs.YtmohhbgmbicklaaGreatDoor
open Go.RowKit
set_option linter.unusedVariables false

/-- a text with noughts before it, up to four. -/
def pad4 (s : ByteArray) : ByteArray := ⟨(List.replicate (4 - s.size) 48).toArray⟩ ++ s
theorem pad4_step (s : ByteArray) (h : s.size < 4) : pad4 (⟨#[48]⟩ ++ s) = pad4 s := by
  unfold pad4
  have e : (⟨#[48]⟩ ++ s : ByteArray).size = s.size + 1 := by rw [ByteArray.size_append]; show 1 + s.size = _; omega
  rw [e, show 4 - s.size = (4 - (s.size + 1)) + 1 by omega, List.replicate_succ']
  apply ByteArray.ext
  apply Array.ext'
  simp
theorem pad4_stop (s : ByteArray) (h : ¬ s.size < 4) : pad4 s = s := by
  unfold pad4
  rw [show 4 - s.size = 0 by omega]
  apply ByteArray.ext
  simp


set_option maxRecDepth 100000 in
set_option maxHeartbeats 4000000 in
theorem rdt_iso0 (d y m q r p : Int) (D A B P : ByteArray) (zD : D.size ≤ 100) (zA : A.size ≤ 100) (zB : B.size ≤ 100) (HPD : Hid (pad4 D = P)) (y1 : 1 ≤ y) (y2 : y ≤ 10000000)
    (PA : Hid (∀ w : World, Calls Tryz.prog 44 #[.agg #[.int .i64 0, .int .i64 d]] w fun r' w' => r' = .returned (.tuple #[.int .i64 y, .int .i64 m, .int .i64 q, .int .i64 0]) ∧ Below w.heap.size w w'))
    (DG : Hid (∀ w : World, Calls Tryz.prog 45 #[.int .i64 y] w fun r' w' => r' = .returned (.string D) ∧ Below w.heap.size w w'))
    (TA : Hid (∀ w : World, Calls Tryz.prog 46 #[.int .i64 m] w fun r' w' => r' = .returned (.string A) ∧ Below w.heap.size w w'))
    (TB : Hid (∀ w : World, Calls Tryz.prog 46 #[.int .i64 q] w fun r' w' => r' = .returned (.string B) ∧ Below w.heap.size w w'))
    (w : World) :
    Calls Tryz.prog 23 #[.agg #[.int .i64 0, .int .i64 d], .agg #[.int .i64 0, .int .i64 r, .int .i64 p]] w fun r' w' => r' = .returned (.tuple #[.string (P ++ ⟨#[45]⟩ ++ A ++ ⟨#[45]⟩ ++ B), .string ⟨#[]⟩]) ∧ Below w.heap.size w w' := by
  have K0 : Hid (BS w [(w.heap.size + 1, [.int .i64 0, .int .i64 r, .int .i64 p]), (w.heap.size, [.int .i64 0, .int .i64 d])] ((w.alloc (.cells #[.int .i64 0, .int .i64 d] 23)).alloc (.cells #[.int .i64 0, .int .i64 r, .int .i64 p] 27))) := (((BS.start w).new [.int .i64 0, .int .i64 d] 23 rfl).new [.int .i64 0, .int .i64 r, .int .i64 p] 27 (by simp))
  go_enter Tryz.func23, Tryz.ntmps23
  go_wp2_with fail
  refine (PA.out _).mono ?_
  rintro e W1 ⟨rfl, hb⟩
  have K1 := bsb K0 hb
  clear hb K0
  obtain ⟨c1_0_0, c1_0_1, c1_0_2⟩ := (bo1 K1).c3
  obtain ⟨c1_1_0, c1_1_1⟩ := (bo2 K1).c2
  go_wp2_with fail
  refine (DG.out _).mono ?_
  rintro e W2 ⟨rfl, hb⟩
  have K2 := bsb K1 hb
  clear c1_0_0 c1_0_1 c1_0_2 c1_1_0 c1_1_1
  clear hb K1
  obtain ⟨c2_0_0, c2_0_1, c2_0_2⟩ := (bo1 K2).c3
  obtain ⟨c2_1_0, c2_1_1⟩ := (bo2 K2).c2
  go_wp2_with fail
  go_loopw [11] (fun v W => ∃ s : ByteArray, v = .string s ∧ W = W2 ∧ Hid (pad4 s = P) ∧ s.size ≤ 100) (fun v _ => match v with | .string s => 4 - s.size | _ => 0)
  case atStart => exact ⟨D, rfl, rfl, HPD, zD⟩
  case round =>
    obtain ⟨s, rfl, hwr, HP, zs⟩ := hrel
    obtain rfl := hwr
    by_cases h4 : s.size < 4
    · have HP' : Hid (pad4 (⟨#[48]⟩ ++ s) = P) := (pad4_step s h4).trans HP.out
      have h4' : (s.size : Int) < 4 := by omega
      have e : (⟨#[48]⟩ ++ s : ByteArray).size = s.size + 1 := by rw [ByteArray.size_append]; show 1 + s.size = _; omega
      have HE : Hid ((⟨#[48]⟩ ++ s : ByteArray).size = s.size + 1) := e
      clear e HP
      go_wp2_with fail
      go_roundw
      case rel => exact ⟨_, rfl, (by first | trivial | rfl), HP', by rw [HE.out]; omega⟩
      case measure =>
        show 4 - (⟨#[48]⟩ ++ s : ByteArray).size < 4 - s.size
        rw [HE.out]
        omega
    · have h4' : ¬ (s.size : Int) < 4 := by omega
      obtain rfl : s = P := by rw [← HP.out, pad4_stop s h4]
      clear HP HPD
      go_wp2_with fail
      refine (TA.out _).mono ?_
      rintro e W3 ⟨rfl, hb⟩
      have K3 := bsb K2 hb
      clear c2_0_0 c2_0_1 c2_0_2 c2_1_0 c2_1_1
      clear hb K2
      obtain ⟨c3_0_0, c3_0_1, c3_0_2⟩ := (bo1 K3).c3
      obtain ⟨c3_1_0, c3_1_1⟩ := (bo2 K3).c2
      go_wp2_with fail
      refine (TB.out _).mono ?_
      rintro e W4 ⟨rfl, hb⟩
      have K4 := bsb K3 hb
      clear c3_0_0 c3_0_1 c3_0_2 c3_1_0 c3_1_1
      clear hb K3
      obtain ⟨c4_0_0, c4_0_1, c4_0_2⟩ := (bo1 K4).c3
      obtain ⟨c4_1_0, c4_1_1⟩ := (bo2 K4).c2
      go_wp2
      go_ret2
      exact ⟨rfl, K4.out.1⟩


set_option maxRecDepth 100000 in
set_option maxHeartbeats 4000000 in
theorem rdt_iso1 (d y m q r p : Int) (D A B P : ByteArray) (zD : D.size ≤ 100) (zA : A.size ≤ 100) (zB : B.size ≤ 100) (HPD : Hid (pad4 D = P)) (y1 : y ≤ 0) (y2 : -10000000 ≤ y)
    (PA : Hid (∀ w : World, Calls Tryz.prog 44 #[.agg #[.int .i64 0, .int .i64 d]] w fun r' w' => r' = .returned (.tuple #[.int .i64 y, .int .i64 m, .int .i64 q, .int .i64 0]) ∧ Below w.heap.size w w'))
    (DG : Hid (∀ w : World, Calls Tryz.prog 45 #[.int .i64 (1 - y)] w fun r' w' => r' = .returned (.string D) ∧ Below w.heap.size w w'))
    (TA : Hid (∀ w : World, Calls Tryz.prog 46 #[.int .i64 m] w fun r' w' => r' = .returned (.string A) ∧ Below w.heap.size w w'))
    (TB : Hid (∀ w : World, Calls Tryz.prog 46 #[.int .i64 q] w fun r' w' => r' = .returned (.string B) ∧ Below w.heap.size w w'))
    (w : World) :
    Calls Tryz.prog 23 #[.agg #[.int .i64 0, .int .i64 d], .agg #[.int .i64 0, .int .i64 r, .int .i64 p]] w fun r' w' => r' = .returned (.tuple #[.string (P ++ ⟨#[45]⟩ ++ A ++ ⟨#[45]⟩ ++ B), .string ⟨#[32, 66, 67]⟩]) ∧ Below w.heap.size w w' := by
  have K0 : Hid (BS w [(w.heap.size + 1, [.int .i64 0, .int .i64 r, .int .i64 p]), (w.heap.size, [.int .i64 0, .int .i64 d])] ((w.alloc (.cells #[.int .i64 0, .int .i64 d] 23)).alloc (.cells #[.int .i64 0, .int .i64 r, .int .i64 p] 27))) := (((BS.start w).new [.int .i64 0, .int .i64 d] 23 rfl).new [.int .i64 0, .int .i64 r, .int .i64 p] 27 (by simp))
  go_enter Tryz.func23, Tryz.ntmps23
  go_wp2_with fail
  refine (PA.out _).mono ?_
  rintro e W1 ⟨rfl, hb⟩
  have K1 := bsb K0 hb
  clear hb K0
  obtain ⟨c1_0_0, c1_0_1, c1_0_2⟩ := (bo1 K1).c3
  obtain ⟨c1_1_0, c1_1_1⟩ := (bo2 K1).c2
  have y3 : y < 1 := by omega
  go_wp2_with fail
  refine (DG.out _).mono ?_
  rintro e W2 ⟨rfl, hb⟩
  have K2 := bsb K1 hb
  clear c1_0_0 c1_0_1 c1_0_2 c1_1_0 c1_1_1
  clear hb K1
  obtain ⟨c2_0_0, c2_0_1, c2_0_2⟩ := (bo1 K2).c3
  obtain ⟨c2_1_0, c2_1_1⟩ := (bo2 K2).c2
  go_wp2_with fail
  go_loopw [11] (fun v W => ∃ s : ByteArray, v = .string s ∧ W = W2 ∧ Hid (pad4 s = P) ∧ s.size ≤ 100) (fun v _ => match v with | .string s => 4 - s.size | _ => 0)
  case atStart => exact ⟨D, rfl, rfl, HPD, zD⟩
  case round =>
    obtain ⟨s, rfl, hwr, HP, zs⟩ := hrel
    obtain rfl := hwr
    by_cases h4 : s.size < 4
    · have HP' : Hid (pad4 (⟨#[48]⟩ ++ s) = P) := (pad4_step s h4).trans HP.out
      have h4' : (s.size : Int) < 4 := by omega
      have e : (⟨#[48]⟩ ++ s : ByteArray).size = s.size + 1 := by rw [ByteArray.size_append]; show 1 + s.size = _; omega
      have HE : Hid ((⟨#[48]⟩ ++ s : ByteArray).size = s.size + 1) := e
      clear e HP
      go_wp2_with fail
      go_roundw
      case rel => exact ⟨_, rfl, (by first | trivial | rfl), HP', by rw [HE.out]; omega⟩
      case measure =>
        show 4 - (⟨#[48]⟩ ++ s : ByteArray).size < 4 - s.size
        rw [HE.out]
        omega
    · have h4' : ¬ (s.size : Int) < 4 := by omega
      obtain rfl : s = P := by rw [← HP.out, pad4_stop s h4]
      clear HP HPD
      go_wp2_with fail
      refine (TA.out _).mono ?_
      rintro e W3 ⟨rfl, hb⟩
      have K3 := bsb K2 hb
      clear c2_0_0 c2_0_1 c2_0_2 c2_1_0 c2_1_1
      clear hb K2
      obtain ⟨c3_0_0, c3_0_1, c3_0_2⟩ := (bo1 K3).c3
      obtain ⟨c3_1_0, c3_1_1⟩ := (bo2 K3).c2
      go_wp2_with fail
      refine (TB.out _).mono ?_
      rintro e W4 ⟨rfl, hb⟩
      have K4 := bsb K3 hb
      clear c3_0_0 c3_0_1 c3_0_2 c3_1_0 c3_1_1
      clear hb K3
      obtain ⟨c4_0_0, c4_0_1, c4_0_2⟩ := (bo1 K4).c3
      obtain ⟨c4_1_0, c4_1_1⟩ := (bo2 K4).c2
      go_wp2
      go_ret2
      exact ⟨rfl, K4.out.1⟩


set_option maxRecDepth 100000 in
set_option maxHeartbeats 4000000 in
theorem rdt_ymd0 (d y m q r p : Int) (D A B P : ByteArray) (zD : D.size ≤ 100) (zA : A.size ≤ 100) (zB : B.size ≤ 100) (HPD : Hid (pad4 D = P)) (y1 : 1 ≤ y) (y2 : y ≤ 10000000)
    (PA : Hid (∀ w : World, Calls Tryz.prog 44 #[.agg #[.int .i64 0, .int .i64 d]] w fun r' w' => r' = .returned (.tuple #[.int .i64 y, .int .i64 m, .int .i64 q, .int .i64 0]) ∧ Below w.heap.size w w'))
    (DG : Hid (∀ w : World, Calls Tryz.prog 45 #[.int .i64 y] w fun r' w' => r' = .returned (.string D) ∧ Below w.heap.size w w'))
    (TA : Hid (∀ w : World, Calls Tryz.prog 46 #[.int .i64 m] w fun r' w' => r' = .returned (.string A) ∧ Below w.heap.size w w'))
    (TB : Hid (∀ w : World, Calls Tryz.prog 46 #[.int .i64 q] w fun r' w' => r' = .returned (.string B) ∧ Below w.heap.size w w'))
    (w : World) :
    Calls Tryz.prog 23 #[.agg #[.int .i64 0, .int .i64 d], .agg #[.int .i64 1, .int .i64 0, .int .i64 p]] w fun r' w' => r' = .returned (.tuple #[.string (P ++ ⟨#[47]⟩ ++ A ++ ⟨#[47]⟩ ++ B), .string ⟨#[]⟩]) ∧ Below w.heap.size w w' := by
  have K0 : Hid (BS w [(w.heap.size + 1, [.int .i64 1, .int .i64 0, .int .i64 p]), (w.heap.size, [.int .i64 0, .int .i64 d])] ((w.alloc (.cells #[.int .i64 0, .int .i64 d] 23)).alloc (.cells #[.int .i64 1, .int .i64 0, .int .i64 p] 27))) := (((BS.start w).new [.int .i64 0, .int .i64 d] 23 rfl).new [.int .i64 1, .int .i64 0, .int .i64 p] 27 (by simp))
  go_enter Tryz.func23, Tryz.ntmps23
  go_wp2_with fail
  refine (PA.out _).mono ?_
  rintro e W1 ⟨rfl, hb⟩
  have K1 := bsb K0 hb
  clear hb K0
  obtain ⟨c1_0_0, c1_0_1, c1_0_2⟩ := (bo1 K1).c3
  obtain ⟨c1_1_0, c1_1_1⟩ := (bo2 K1).c2
  go_wp2_with fail
  refine (DG.out _).mono ?_
  rintro e W2 ⟨rfl, hb⟩
  have K2 := bsb K1 hb
  clear c1_0_0 c1_0_1 c1_0_2 c1_1_0 c1_1_1
  clear hb K1
  obtain ⟨c2_0_0, c2_0_1, c2_0_2⟩ := (bo1 K2).c3
  obtain ⟨c2_1_0, c2_1_1⟩ := (bo2 K2).c2
  go_wp2_with fail
  go_loopw [11] (fun v W => ∃ s : ByteArray, v = .string s ∧ W = W2 ∧ Hid (pad4 s = P) ∧ s.size ≤ 100) (fun v _ => match v with | .string s => 4 - s.size | _ => 0)
  case atStart => exact ⟨D, rfl, rfl, HPD, zD⟩
  case round =>
    obtain ⟨s, rfl, hwr, HP, zs⟩ := hrel
    obtain rfl := hwr
    by_cases h4 : s.size < 4
    · have HP' : Hid (pad4 (⟨#[48]⟩ ++ s) = P) := (pad4_step s h4).trans HP.out
      have h4' : (s.size : Int) < 4 := by omega
      have e : (⟨#[48]⟩ ++ s : ByteArray).size = s.size + 1 := by rw [ByteArray.size_append]; show 1 + s.size = _; omega
      have HE : Hid ((⟨#[48]⟩ ++ s : ByteArray).size = s.size + 1) := e
      clear e HP
      go_wp2_with fail
      go_roundw
      case rel => exact ⟨_, rfl, (by first | trivial | rfl), HP', by rw [HE.out]; omega⟩
      case measure =>
        show 4 - (⟨#[48]⟩ ++ s : ByteArray).size < 4 - s.size
        rw [HE.out]
        omega
    · have h4' : ¬ (s.size : Int) < 4 := by omega
      obtain rfl : s = P := by rw [← HP.out, pad4_stop s h4]
      clear HP HPD
      go_wp2_with fail
      refine (TA.out _).mono ?_
      rintro e W3 ⟨rfl, hb⟩
      have K3 := bsb K2 hb
      clear c2_0_0 c2_0_1 c2_0_2 c2_1_0 c2_1_1
      clear hb K2
      obtain ⟨c3_0_0, c3_0_1, c3_0_2⟩ := (bo1 K3).c3
      obtain ⟨c3_1_0, c3_1_1⟩ := (bo2 K3).c2
      go_wp2_with fail
      refine (TB.out _).mono ?_
      rintro e W4 ⟨rfl, hb⟩
      have K4 := bsb K3 hb
      clear c3_0_0 c3_0_1 c3_0_2 c3_1_0 c3_1_1
      clear hb K3
      obtain ⟨c4_0_0, c4_0_1, c4_0_2⟩ := (bo1 K4).c3
      obtain ⟨c4_1_0, c4_1_1⟩ := (bo2 K4).c2
      go_wp2
      go_ret2
      exact ⟨rfl, K4.out.1⟩


set_option maxRecDepth 100000 in
set_option maxHeartbeats 4000000 in
theorem rdt_ymd1 (d y m q r p : Int) (D A B P : ByteArray) (zD : D.size ≤ 100) (zA : A.size ≤ 100) (zB : B.size ≤ 100) (HPD : Hid (pad4 D = P)) (y1 : y ≤ 0) (y2 : -10000000 ≤ y)
    (PA : Hid (∀ w : World, Calls Tryz.prog 44 #[.agg #[.int .i64 0, .int .i64 d]] w fun r' w' => r' = .returned (.tuple #[.int .i64 y, .int .i64 m, .int .i64 q, .int .i64 0]) ∧ Below w.heap.size w w'))
    (DG : Hid (∀ w : World, Calls Tryz.prog 45 #[.int .i64 (1 - y)] w fun r' w' => r' = .returned (.string D) ∧ Below w.heap.size w w'))
    (TA : Hid (∀ w : World, Calls Tryz.prog 46 #[.int .i64 m] w fun r' w' => r' = .returned (.string A) ∧ Below w.heap.size w w'))
    (TB : Hid (∀ w : World, Calls Tryz.prog 46 #[.int .i64 q] w fun r' w' => r' = .returned (.string B) ∧ Below w.heap.size w w'))
    (w : World) :
    Calls Tryz.prog 23 #[.agg #[.int .i64 0, .int .i64 d], .agg #[.int .i64 1, .int .i64 0, .int .i64 p]] w fun r' w' => r' = .returned (.tuple #[.string (P ++ ⟨#[47]⟩ ++ A ++ ⟨#[47]⟩ ++ B), .string ⟨#[32, 66, 67]⟩]) ∧ Below w.heap.size w w' := by
  have K0 : Hid (BS w [(w.heap.size + 1, [.int .i64 1, .int .i64 0, .int .i64 p]), (w.heap.size, [.int .i64 0, .int .i64 d])] ((w.alloc (.cells #[.int .i64 0, .int .i64 d] 23)).alloc (.cells #[.int .i64 1, .int .i64 0, .int .i64 p] 27))) := (((BS.start w).new [.int .i64 0, .int .i64 d] 23 rfl).new [.int .i64 1, .int .i64 0, .int .i64 p] 27 (by simp))
  go_enter Tryz.func23, Tryz.ntmps23
  go_wp2_with fail
  refine (PA.out _).mono ?_
  rintro e W1 ⟨rfl, hb⟩
  have K1 := bsb K0 hb
  clear hb K0
  obtain ⟨c1_0_0, c1_0_1, c1_0_2⟩ := (bo1 K1).c3
  obtain ⟨c1_1_0, c1_1_1⟩ := (bo2 K1).c2
  have y3 : y < 1 := by omega
  go_wp2_with fail
  refine (DG.out _).mono ?_
  rintro e W2 ⟨rfl, hb⟩
  have K2 := bsb K1 hb
  clear c1_0_0 c1_0_1 c1_0_2 c1_1_0 c1_1_1
  clear hb K1
  obtain ⟨c2_0_0, c2_0_1, c2_0_2⟩ := (bo1 K2).c3
  obtain ⟨c2_1_0, c2_1_1⟩ := (bo2 K2).c2
  go_wp2_with fail
  go_loopw [11] (fun v W => ∃ s : ByteArray, v = .string s ∧ W = W2 ∧ Hid (pad4 s = P) ∧ s.size ≤ 100) (fun v _ => match v with | .string s => 4 - s.size | _ => 0)
  case atStart => exact ⟨D, rfl, rfl, HPD, zD⟩
  case round =>
    obtain ⟨s, rfl, hwr, HP, zs⟩ := hrel
    obtain rfl := hwr
    by_cases h4 : s.size < 4
    · have HP' : Hid (pad4 (⟨#[48]⟩ ++ s) = P) := (pad4_step s h4).trans HP.out
      have h4' : (s.size : Int) < 4 := by omega
      have e : (⟨#[48]⟩ ++ s : ByteArray).size = s.size + 1 := by rw [ByteArray.size_append]; show 1 + s.size = _; omega
      have HE : Hid ((⟨#[48]⟩ ++ s : ByteArray).size = s.size + 1) := e
      clear e HP
      go_wp2_with fail
      go_roundw
      case rel => exact ⟨_, rfl, (by first | trivial | rfl), HP', by rw [HE.out]; omega⟩
      case measure =>
        show 4 - (⟨#[48]⟩ ++ s : ByteArray).size < 4 - s.size
        rw [HE.out]
        omega
    · have h4' : ¬ (s.size : Int) < 4 := by omega
      obtain rfl : s = P := by rw [← HP.out, pad4_stop s h4]
      clear HP HPD
      go_wp2_with fail
      refine (TA.out _).mono ?_
      rintro e W3 ⟨rfl, hb⟩
      have K3 := bsb K2 hb
      clear c2_0_0 c2_0_1 c2_0_2 c2_1_0 c2_1_1
      clear hb K2
      obtain ⟨c3_0_0, c3_0_1, c3_0_2⟩ := (bo1 K3).c3
      obtain ⟨c3_1_0, c3_1_1⟩ := (bo2 K3).c2
      go_wp2_with fail
      refine (TB.out _).mono ?_
      rintro e W4 ⟨rfl, hb⟩
      have K4 := bsb K3 hb
      clear c3_0_0 c3_0_1 c3_0_2 c3_1_0 c3_1_1
      clear hb K3
      obtain ⟨c4_0_0, c4_0_1, c4_0_2⟩ := (bo1 K4).c3
      obtain ⟨c4_1_0, c4_1_1⟩ := (bo2 K4).c2
      go_wp2
      go_ret2
      exact ⟨rfl, K4.out.1⟩


set_option maxRecDepth 100000 in
set_option maxHeartbeats 4000000 in
theorem rdt_dmy0 (d y m q r p : Int) (D A B P : ByteArray) (zD : D.size ≤ 100) (zA : A.size ≤ 100) (zB : B.size ≤ 100) (HPD : Hid (pad4 D = P)) (y1 : 1 ≤ y) (y2 : y ≤ 10000000)
    (PA : Hid (∀ w : World, Calls Tryz.prog 44 #[.agg #[.int .i64 0, .int .i64 d]] w fun r' w' => r' = .returned (.tuple #[.int .i64 y, .int .i64 m, .int .i64 q, .int .i64 0]) ∧ Below w.heap.size w w'))
    (DG : Hid (∀ w : World, Calls Tryz.prog 45 #[.int .i64 y] w fun r' w' => r' = .returned (.string D) ∧ Below w.heap.size w w'))
    (TA : Hid (∀ w : World, Calls Tryz.prog 46 #[.int .i64 m] w fun r' w' => r' = .returned (.string A) ∧ Below w.heap.size w w'))
    (TB : Hid (∀ w : World, Calls Tryz.prog 46 #[.int .i64 q] w fun r' w' => r' = .returned (.string B) ∧ Below w.heap.size w w'))
    (w : World) :
    Calls Tryz.prog 23 #[.agg #[.int .i64 0, .int .i64 d], .agg #[.int .i64 1, .int .i64 1, .int .i64 p]] w fun r' w' => r' = .returned (.tuple #[.string (B ++ ⟨#[47]⟩ ++ A ++ ⟨#[47]⟩ ++ P), .string ⟨#[]⟩]) ∧ Below w.heap.size w w' := by
  have K0 : Hid (BS w [(w.heap.size + 1, [.int .i64 1, .int .i64 1, .int .i64 p]), (w.heap.size, [.int .i64 0, .int .i64 d])] ((w.alloc (.cells #[.int .i64 0, .int .i64 d] 23)).alloc (.cells #[.int .i64 1, .int .i64 1, .int .i64 p] 27))) := (((BS.start w).new [.int .i64 0, .int .i64 d] 23 rfl).new [.int .i64 1, .int .i64 1, .int .i64 p] 27 (by simp))
  go_enter Tryz.func23, Tryz.ntmps23
  go_wp2_with fail
  refine (PA.out _).mono ?_
  rintro e W1 ⟨rfl, hb⟩
  have K1 := bsb K0 hb
  clear hb K0
  obtain ⟨c1_0_0, c1_0_1, c1_0_2⟩ := (bo1 K1).c3
  obtain ⟨c1_1_0, c1_1_1⟩ := (bo2 K1).c2
  go_wp2_with fail
  refine (DG.out _).mono ?_
  rintro e W2 ⟨rfl, hb⟩
  have K2 := bsb K1 hb
  clear c1_0_0 c1_0_1 c1_0_2 c1_1_0 c1_1_1
  clear hb K1
  obtain ⟨c2_0_0, c2_0_1, c2_0_2⟩ := (bo1 K2).c3
  obtain ⟨c2_1_0, c2_1_1⟩ := (bo2 K2).c2
  go_wp2_with fail
  go_loopw [11] (fun v W => ∃ s : ByteArray, v = .string s ∧ W = W2 ∧ Hid (pad4 s = P) ∧ s.size ≤ 100) (fun v _ => match v with | .string s => 4 - s.size | _ => 0)
  case atStart => exact ⟨D, rfl, rfl, HPD, zD⟩
  case round =>
    obtain ⟨s, rfl, hwr, HP, zs⟩ := hrel
    obtain rfl := hwr
    by_cases h4 : s.size < 4
    · have HP' : Hid (pad4 (⟨#[48]⟩ ++ s) = P) := (pad4_step s h4).trans HP.out
      have h4' : (s.size : Int) < 4 := by omega
      have e : (⟨#[48]⟩ ++ s : ByteArray).size = s.size + 1 := by rw [ByteArray.size_append]; show 1 + s.size = _; omega
      have HE : Hid ((⟨#[48]⟩ ++ s : ByteArray).size = s.size + 1) := e
      clear e HP
      go_wp2_with fail
      go_roundw
      case rel => exact ⟨_, rfl, (by first | trivial | rfl), HP', by rw [HE.out]; omega⟩
      case measure =>
        show 4 - (⟨#[48]⟩ ++ s : ByteArray).size < 4 - s.size
        rw [HE.out]
        omega
    · have h4' : ¬ (s.size : Int) < 4 := by omega
      obtain rfl : s = P := by rw [← HP.out, pad4_stop s h4]
      clear HP HPD
      go_wp2_with fail
      refine (TA.out _).mono ?_
      rintro e W3 ⟨rfl, hb⟩
      have K3 := bsb K2 hb
      clear c2_0_0 c2_0_1 c2_0_2 c2_1_0 c2_1_1
      clear hb K2
      obtain ⟨c3_0_0, c3_0_1, c3_0_2⟩ := (bo1 K3).c3
      obtain ⟨c3_1_0, c3_1_1⟩ := (bo2 K3).c2
      go_wp2_with fail
      refine (TB.out _).mono ?_
      rintro e W4 ⟨rfl, hb⟩
      have K4 := bsb K3 hb
      clear c3_0_0 c3_0_1 c3_0_2 c3_1_0 c3_1_1
      clear hb K3
      obtain ⟨c4_0_0, c4_0_1, c4_0_2⟩ := (bo1 K4).c3
      obtain ⟨c4_1_0, c4_1_1⟩ := (bo2 K4).c2
      go_wp2
      go_ret2
      exact ⟨rfl, K4.out.1⟩


set_option maxRecDepth 100000 in
set_option maxHeartbeats 4000000 in
theorem rdt_dmy1 (d y m q r p : Int) (D A B P : ByteArray) (zD : D.size ≤ 100) (zA : A.size ≤ 100) (zB : B.size ≤ 100) (HPD : Hid (pad4 D = P)) (y1 : y ≤ 0) (y2 : -10000000 ≤ y)
    (PA : Hid (∀ w : World, Calls Tryz.prog 44 #[.agg #[.int .i64 0, .int .i64 d]] w fun r' w' => r' = .returned (.tuple #[.int .i64 y, .int .i64 m, .int .i64 q, .int .i64 0]) ∧ Below w.heap.size w w'))
    (DG : Hid (∀ w : World, Calls Tryz.prog 45 #[.int .i64 (1 - y)] w fun r' w' => r' = .returned (.string D) ∧ Below w.heap.size w w'))
    (TA : Hid (∀ w : World, Calls Tryz.prog 46 #[.int .i64 m] w fun r' w' => r' = .returned (.string A) ∧ Below w.heap.size w w'))
    (TB : Hid (∀ w : World, Calls Tryz.prog 46 #[.int .i64 q] w fun r' w' => r' = .returned (.string B) ∧ Below w.heap.size w w'))
    (w : World) :
    Calls Tryz.prog 23 #[.agg #[.int .i64 0, .int .i64 d], .agg #[.int .i64 1, .int .i64 1, .int .i64 p]] w fun r' w' => r' = .returned (.tuple #[.string (B ++ ⟨#[47]⟩ ++ A ++ ⟨#[47]⟩ ++ P), .string ⟨#[32, 66, 67]⟩]) ∧ Below w.heap.size w w' := by
  have K0 : Hid (BS w [(w.heap.size + 1, [.int .i64 1, .int .i64 1, .int .i64 p]), (w.heap.size, [.int .i64 0, .int .i64 d])] ((w.alloc (.cells #[.int .i64 0, .int .i64 d] 23)).alloc (.cells #[.int .i64 1, .int .i64 1, .int .i64 p] 27))) := (((BS.start w).new [.int .i64 0, .int .i64 d] 23 rfl).new [.int .i64 1, .int .i64 1, .int .i64 p] 27 (by simp))
  go_enter Tryz.func23, Tryz.ntmps23
  go_wp2_with fail
  refine (PA.out _).mono ?_
  rintro e W1 ⟨rfl, hb⟩
  have K1 := bsb K0 hb
  clear hb K0
  obtain ⟨c1_0_0, c1_0_1, c1_0_2⟩ := (bo1 K1).c3
  obtain ⟨c1_1_0, c1_1_1⟩ := (bo2 K1).c2
  have y3 : y < 1 := by omega
  go_wp2_with fail
  refine (DG.out _).mono ?_
  rintro e W2 ⟨rfl, hb⟩
  have K2 := bsb K1 hb
  clear c1_0_0 c1_0_1 c1_0_2 c1_1_0 c1_1_1
  clear hb K1
  obtain ⟨c2_0_0, c2_0_1, c2_0_2⟩ := (bo1 K2).c3
  obtain ⟨c2_1_0, c2_1_1⟩ := (bo2 K2).c2
  go_wp2_with fail
  go_loopw [11] (fun v W => ∃ s : ByteArray, v = .string s ∧ W = W2 ∧ Hid (pad4 s = P) ∧ s.size ≤ 100) (fun v _ => match v with | .string s => 4 - s.size | _ => 0)
  case atStart => exact ⟨D, rfl, rfl, HPD, zD⟩
  case round =>
    obtain ⟨s, rfl, hwr, HP, zs⟩ := hrel
    obtain rfl := hwr
    by_cases h4 : s.size < 4
    · have HP' : Hid (pad4 (⟨#[48]⟩ ++ s) = P) := (pad4_step s h4).trans HP.out
      have h4' : (s.size : Int) < 4 := by omega
      have e : (⟨#[48]⟩ ++ s : ByteArray).size = s.size + 1 := by rw [ByteArray.size_append]; show 1 + s.size = _; omega
      have HE : Hid ((⟨#[48]⟩ ++ s : ByteArray).size = s.size + 1) := e
      clear e HP
      go_wp2_with fail
      go_roundw
      case rel => exact ⟨_, rfl, (by first | trivial | rfl), HP', by rw [HE.out]; omega⟩
      case measure =>
        show 4 - (⟨#[48]⟩ ++ s : ByteArray).size < 4 - s.size
        rw [HE.out]
        omega
    · have h4' : ¬ (s.size : Int) < 4 := by omega
      obtain rfl : s = P := by rw [← HP.out, pad4_stop s h4]
      clear HP HPD
      go_wp2_with fail
      refine (TA.out _).mono ?_
      rintro e W3 ⟨rfl, hb⟩
      have K3 := bsb K2 hb
      clear c2_0_0 c2_0_1 c2_0_2 c2_1_0 c2_1_1
      clear hb K2
      obtain ⟨c3_0_0, c3_0_1, c3_0_2⟩ := (bo1 K3).c3
      obtain ⟨c3_1_0, c3_1_1⟩ := (bo2 K3).c2
      go_wp2_with fail
      refine (TB.out _).mono ?_
      rintro e W4 ⟨rfl, hb⟩
      have K4 := bsb K3 hb
      clear c3_0_0 c3_0_1 c3_0_2 c3_1_0 c3_1_1
      clear hb K3
      obtain ⟨c4_0_0, c4_0_1, c4_0_2⟩ := (bo1 K4).c3
      obtain ⟨c4_1_0, c4_1_1⟩ := (bo2 K4).c2
      go_wp2
      go_ret2
      exact ⟨rfl, K4.out.1⟩


set_option maxRecDepth 100000 in
set_option maxHeartbeats 4000000 in
theorem rdt_mdy0 (d y m q r p : Int) (D A B P : ByteArray) (zD : D.size ≤ 100) (zA : A.size ≤ 100) (zB : B.size ≤ 100) (HPD : Hid (pad4 D = P)) (y1 : 1 ≤ y) (y2 : y ≤ 10000000)
    (PA : Hid (∀ w : World, Calls Tryz.prog 44 #[.agg #[.int .i64 0, .int .i64 d]] w fun r' w' => r' = .returned (.tuple #[.int .i64 y, .int .i64 m, .int .i64 q, .int .i64 0]) ∧ Below w.heap.size w w'))
    (DG : Hid (∀ w : World, Calls Tryz.prog 45 #[.int .i64 y] w fun r' w' => r' = .returned (.string D) ∧ Below w.heap.size w w'))
    (TA : Hid (∀ w : World, Calls Tryz.prog 46 #[.int .i64 m] w fun r' w' => r' = .returned (.string A) ∧ Below w.heap.size w w'))
    (TB : Hid (∀ w : World, Calls Tryz.prog 46 #[.int .i64 q] w fun r' w' => r' = .returned (.string B) ∧ Below w.heap.size w w'))
    (w : World) :
    Calls Tryz.prog 23 #[.agg #[.int .i64 0, .int .i64 d], .agg #[.int .i64 1, .int .i64 2, .int .i64 p]] w fun r' w' => r' = .returned (.tuple #[.string (A ++ ⟨#[47]⟩ ++ B ++ ⟨#[47]⟩ ++ P), .string ⟨#[]⟩]) ∧ Below w.heap.size w w' := by
  have K0 : Hid (BS w [(w.heap.size + 1, [.int .i64 1, .int .i64 2, .int .i64 p]), (w.heap.size, [.int .i64 0, .int .i64 d])] ((w.alloc (.cells #[.int .i64 0, .int .i64 d] 23)).alloc (.cells #[.int .i64 1, .int .i64 2, .int .i64 p] 27))) := (((BS.start w).new [.int .i64 0, .int .i64 d] 23 rfl).new [.int .i64 1, .int .i64 2, .int .i64 p] 27 (by simp))
  go_enter Tryz.func23, Tryz.ntmps23
  go_wp2_with fail
  refine (PA.out _).mono ?_
  rintro e W1 ⟨rfl, hb⟩
  have K1 := bsb K0 hb
  clear hb K0
  obtain ⟨c1_0_0, c1_0_1, c1_0_2⟩ := (bo1 K1).c3
  obtain ⟨c1_1_0, c1_1_1⟩ := (bo2 K1).c2
  go_wp2_with fail
  refine (DG.out _).mono ?_
  rintro e W2 ⟨rfl, hb⟩
  have K2 := bsb K1 hb
  clear c1_0_0 c1_0_1 c1_0_2 c1_1_0 c1_1_1
  clear hb K1
  obtain ⟨c2_0_0, c2_0_1, c2_0_2⟩ := (bo1 K2).c3
  obtain ⟨c2_1_0, c2_1_1⟩ := (bo2 K2).c2
  go_wp2_with fail
  go_loopw [11] (fun v W => ∃ s : ByteArray, v = .string s ∧ W = W2 ∧ Hid (pad4 s = P) ∧ s.size ≤ 100) (fun v _ => match v with | .string s => 4 - s.size | _ => 0)
  case atStart => exact ⟨D, rfl, rfl, HPD, zD⟩
  case round =>
    obtain ⟨s, rfl, hwr, HP, zs⟩ := hrel
    obtain rfl := hwr
    by_cases h4 : s.size < 4
    · have HP' : Hid (pad4 (⟨#[48]⟩ ++ s) = P) := (pad4_step s h4).trans HP.out
      have h4' : (s.size : Int) < 4 := by omega
      have e : (⟨#[48]⟩ ++ s : ByteArray).size = s.size + 1 := by rw [ByteArray.size_append]; show 1 + s.size = _; omega
      have HE : Hid ((⟨#[48]⟩ ++ s : ByteArray).size = s.size + 1) := e
      clear e HP
      go_wp2_with fail
      go_roundw
      case rel => exact ⟨_, rfl, (by first | trivial | rfl), HP', by rw [HE.out]; omega⟩
      case measure =>
        show 4 - (⟨#[48]⟩ ++ s : ByteArray).size < 4 - s.size
        rw [HE.out]
        omega
    · have h4' : ¬ (s.size : Int) < 4 := by omega
      obtain rfl : s = P := by rw [← HP.out, pad4_stop s h4]
      clear HP HPD
      go_wp2_with fail
      refine (TA.out _).mono ?_
      rintro e W3 ⟨rfl, hb⟩
      have K3 := bsb K2 hb
      clear c2_0_0 c2_0_1 c2_0_2 c2_1_0 c2_1_1
      clear hb K2
      obtain ⟨c3_0_0, c3_0_1, c3_0_2⟩ := (bo1 K3).c3
      obtain ⟨c3_1_0, c3_1_1⟩ := (bo2 K3).c2
      go_wp2_with fail
      refine (TB.out _).mono ?_
      rintro e W4 ⟨rfl, hb⟩
      have K4 := bsb K3 hb
      clear c3_0_0 c3_0_1 c3_0_2 c3_1_0 c3_1_1
      clear hb K3
      obtain ⟨c4_0_0, c4_0_1, c4_0_2⟩ := (bo1 K4).c3
      obtain ⟨c4_1_0, c4_1_1⟩ := (bo2 K4).c2
      go_wp2
      go_ret2
      exact ⟨rfl, K4.out.1⟩


set_option maxRecDepth 100000 in
set_option maxHeartbeats 4000000 in
theorem rdt_mdy1 (d y m q r p : Int) (D A B P : ByteArray) (zD : D.size ≤ 100) (zA : A.size ≤ 100) (zB : B.size ≤ 100) (HPD : Hid (pad4 D = P)) (y1 : y ≤ 0) (y2 : -10000000 ≤ y)
    (PA : Hid (∀ w : World, Calls Tryz.prog 44 #[.agg #[.int .i64 0, .int .i64 d]] w fun r' w' => r' = .returned (.tuple #[.int .i64 y, .int .i64 m, .int .i64 q, .int .i64 0]) ∧ Below w.heap.size w w'))
    (DG : Hid (∀ w : World, Calls Tryz.prog 45 #[.int .i64 (1 - y)] w fun r' w' => r' = .returned (.string D) ∧ Below w.heap.size w w'))
    (TA : Hid (∀ w : World, Calls Tryz.prog 46 #[.int .i64 m] w fun r' w' => r' = .returned (.string A) ∧ Below w.heap.size w w'))
    (TB : Hid (∀ w : World, Calls Tryz.prog 46 #[.int .i64 q] w fun r' w' => r' = .returned (.string B) ∧ Below w.heap.size w w'))
    (w : World) :
    Calls Tryz.prog 23 #[.agg #[.int .i64 0, .int .i64 d], .agg #[.int .i64 1, .int .i64 2, .int .i64 p]] w fun r' w' => r' = .returned (.tuple #[.string (A ++ ⟨#[47]⟩ ++ B ++ ⟨#[47]⟩ ++ P), .string ⟨#[32, 66, 67]⟩]) ∧ Below w.heap.size w w' := by
  have K0 : Hid (BS w [(w.heap.size + 1, [.int .i64 1, .int .i64 2, .int .i64 p]), (w.heap.size, [.int .i64 0, .int .i64 d])] ((w.alloc (.cells #[.int .i64 0, .int .i64 d] 23)).alloc (.cells #[.int .i64 1, .int .i64 2, .int .i64 p] 27))) := (((BS.start w).new [.int .i64 0, .int .i64 d] 23 rfl).new [.int .i64 1, .int .i64 2, .int .i64 p] 27 (by simp))
  go_enter Tryz.func23, Tryz.ntmps23
  go_wp2_with fail
  refine (PA.out _).mono ?_
  rintro e W1 ⟨rfl, hb⟩
  have K1 := bsb K0 hb
  clear hb K0
  obtain ⟨c1_0_0, c1_0_1, c1_0_2⟩ := (bo1 K1).c3
  obtain ⟨c1_1_0, c1_1_1⟩ := (bo2 K1).c2
  have y3 : y < 1 := by omega
  go_wp2_with fail
  refine (DG.out _).mono ?_
  rintro e W2 ⟨rfl, hb⟩
  have K2 := bsb K1 hb
  clear c1_0_0 c1_0_1 c1_0_2 c1_1_0 c1_1_1
  clear hb K1
  obtain ⟨c2_0_0, c2_0_1, c2_0_2⟩ := (bo1 K2).c3
  obtain ⟨c2_1_0, c2_1_1⟩ := (bo2 K2).c2
  go_wp2_with fail
  go_loopw [11] (fun v W => ∃ s : ByteArray, v = .string s ∧ W = W2 ∧ Hid (pad4 s = P) ∧ s.size ≤ 100) (fun v _ => match v with | .string s => 4 - s.size | _ => 0)
  case atStart => exact ⟨D, rfl, rfl, HPD, zD⟩
  case round =>
    obtain ⟨s, rfl, hwr, HP, zs⟩ := hrel
    obtain rfl := hwr
    by_cases h4 : s.size < 4
    · have HP' : Hid (pad4 (⟨#[48]⟩ ++ s) = P) := (pad4_step s h4).trans HP.out
      have h4' : (s.size : Int) < 4 := by omega
      have e : (⟨#[48]⟩ ++ s : ByteArray).size = s.size + 1 := by rw [ByteArray.size_append]; show 1 + s.size = _; omega
      have HE : Hid ((⟨#[48]⟩ ++ s : ByteArray).size = s.size + 1) := e
      clear e HP
      go_wp2_with fail
      go_roundw
      case rel => exact ⟨_, rfl, (by first | trivial | rfl), HP', by rw [HE.out]; omega⟩
      case measure =>
        show 4 - (⟨#[48]⟩ ++ s : ByteArray).size < 4 - s.size
        rw [HE.out]
        omega
    · have h4' : ¬ (s.size : Int) < 4 := by omega
      obtain rfl : s = P := by rw [← HP.out, pad4_stop s h4]
      clear HP HPD
      go_wp2_with fail
      refine (TA.out _).mono ?_
      rintro e W3 ⟨rfl, hb⟩
      have K3 := bsb K2 hb
      clear c2_0_0 c2_0_1 c2_0_2 c2_1_0 c2_1_1
      clear hb K2
      obtain ⟨c3_0_0, c3_0_1, c3_0_2⟩ := (bo1 K3).c3
      obtain ⟨c3_1_0, c3_1_1⟩ := (bo2 K3).c2
      go_wp2_with fail
      refine (TB.out _).mono ?_
      rintro e W4 ⟨rfl, hb⟩
      have K4 := bsb K3 hb
      clear c3_0_0 c3_0_1 c3_0_2 c3_1_0 c3_1_1
      clear hb K3
      obtain ⟨c4_0_0, c4_0_1, c4_0_2⟩ := (bo1 K4).c3
      obtain ⟨c4_1_0, c4_1_1⟩ := (bo2 K4).c2
      go_wp2
      go_ret2
      exact ⟨rfl, K4.out.1⟩



end Go.Proofs.YtmohhbgmbicklaaGreatDoor
