/- Contracts: when.ReadAt, when.ReadSave, whole. -/
import Derived.Test.YtgnfkkcagbbhmaaGreatDoorWhnHq
namespace Go.Proofs.YtgnfkkcagbbhmaaGreatDoor
open Go.RowKit
set_option linter.unusedVariables false

set_option maxRecDepth 100000 in
set_option maxHeartbeats 4000000 in
theorem rat_dash (s : ByteArray) (h : s = ⟨#[45]⟩)
    (w : World) :
    Calls Tryz.prog 194 #[.string s] w fun e w' => e = .returned (.tuple #[.agg #[.int .i64 0, .int .u8 119], .int .i64 0]) ∧ Below w.heap.size w w' := by
  subst h
  have S0 : Hid (ResA w w.heap.size (w.alloc (.cells #[.int .i64 0, .int .u8 0] 83))) := ResA.new w _
  go_enter Tryz.func194, Tryz.ntmps194
  have HB : Hid (Below w.heap.size w (w.alloc (.cells #[.int .i64 0, .int .u8 0] 83))) := S0.out.2.2.2.2.2
  go_wp2
  refine bodyPost_ret (v := .tuple #[.agg #[.int .i64 0, .int .u8 119], .int .i64 0]) (by simp [results, Tryz.results194, go_sem]) rfl ⟨rfl, ?_⟩
  exact (Below.refl _ _).alloc (Nat.le_refl _) _

set_option maxRecDepth 100000 in
set_option maxHeartbeats 4000000 in
theorem rat_yes (s RS : ByteArray) (U k : Int) (hs : s.toList ≠ [45]) (hk : k ≠ 0)
    (SE : Hid (∀ w : World, Calls Tryz.prog 195 #[.string s] w fun e w' => e = .returned (.tuple #[.int .i64 U, .string RS, .bool true]) ∧ Below w.heap.size w w'))
    (CK : Hid (∀ w : World, Calls Tryz.prog 196 #[.string RS] w fun e w' => e = .returned (.int .u8 k) ∧ Below w.heap.size w w'))
    (w : World) :
    Calls Tryz.prog 194 #[.string s] w fun e w' => e = .returned (.tuple #[.agg #[.int .i64 U, .int .u8 k], .int .i64 0]) ∧ Below w.heap.size w w' := by
  have n1 : (s.toList == [45]) = false := beq_eq_false_iff_ne.2 (fun e => hs e)
  have k1 : (k == 0) = false := beq_eq_false_iff_ne.2 hk
  have S0 : Hid (ResA w w.heap.size (w.alloc (.cells #[.int .i64 0, .int .u8 0] 83))) := ResA.new w _
  go_enter Tryz.func194, Tryz.ntmps194
  go_wp2_with fail
  refine (SE.out _).mono ?_
  rintro e w1 ⟨rfl, hb⟩
  have S1 : Hid (ResA w w.heap.size w1) := S0.out.below hb
  clear hb S0
  go_wp2_with fail
  refine (CK.out _).mono ?_
  rintro e w2 ⟨rfl, hb⟩
  have S2 : Hid (ResA w w.heap.size w2) := S1.out.below hb
  clear hb S1
  obtain ⟨q1, q2, q3, q5, q6, q8⟩ := S2.out
  obtain ⟨y1, y2⟩ := two_set (x := .int .i64 U) (y := .int .u8 k) q2 q3
  have HB : Hid (Below w.heap.size w w2) := q8
  clear q8
  go_wp2
  refine bodyPost_ret (v := .tuple #[.agg #[.int .i64 U, .int .u8 k], .int .i64 0]) (by simp [results, Tryz.results194, go_sem, y1, y2]) rfl ⟨rfl, ?_⟩
  exact (HB.out.setCell (Nat.le_refl _) _).setCell (Nat.le_refl _) _

set_option maxRecDepth 100000 in
set_option maxHeartbeats 4000000 in
theorem rat_no1 (s RS : ByteArray) (U k : Int) (hs : s.toList ≠ [45])
    (SE : Hid (∀ w : World, Calls Tryz.prog 195 #[.string s] w fun e w' => e = .returned (.tuple #[.int .i64 U, .string RS, .bool false]) ∧ Below w.heap.size w w'))
    (CK : Hid (∀ w : World, Calls Tryz.prog 196 #[.string RS] w fun e w' => e = .returned (.int .u8 k) ∧ Below w.heap.size w w'))
    (w : World) :
    Calls Tryz.prog 194 #[.string s] w fun e w' => e = .returned (.tuple #[.agg #[.int .i64 0, .int .u8 0], .int .i64 21]) ∧ Below w.heap.size w w' := by
  have n1 : (s.toList == [45]) = false := beq_eq_false_iff_ne.2 (fun e => hs e)
  have S0 : Hid (ResA w w.heap.size (w.alloc (.cells #[.int .i64 0, .int .u8 0] 83))) := ResA.new w _
  go_enter Tryz.func194, Tryz.ntmps194
  go_wp2_with fail
  refine (SE.out _).mono ?_
  rintro e w1 ⟨rfl, hb⟩
  have S1 : Hid (ResA w w.heap.size w1) := S0.out.below hb
  clear hb S0
  go_wp2_with fail
  refine (CK.out _).mono ?_
  rintro e w2 ⟨rfl, hb⟩
  have S2 : Hid (ResA w w.heap.size w2) := S1.out.below hb
  clear hb S1
  obtain ⟨q1, q2, q3, q5, q6, q8⟩ := S2.out
  obtain ⟨y1, y2⟩ := two_set (x := .int .i64 0) (y := .int .u8 0) q2 q3
  have HB : Hid (Below w.heap.size w w2) := q8
  clear q8
  go_wp2
  refine bodyPost_ret (v := .tuple #[.agg #[.int .i64 0, .int .u8 0], .int .i64 21]) (by simp [results, Tryz.results194, go_sem, y1, y2]) rfl ⟨rfl, ?_⟩
  exact (HB.out.setCell (Nat.le_refl _) _).setCell (Nat.le_refl _) _

set_option maxRecDepth 100000 in
set_option maxHeartbeats 4000000 in
theorem rat_no2 (s RS : ByteArray) (U : Int) (hs : s.toList ≠ [45])
    (SE : Hid (∀ w : World, Calls Tryz.prog 195 #[.string s] w fun e w' => e = .returned (.tuple #[.int .i64 U, .string RS, .bool true]) ∧ Below w.heap.size w w'))
    (CK : Hid (∀ w : World, Calls Tryz.prog 196 #[.string RS] w fun e w' => e = .returned (.int .u8 0) ∧ Below w.heap.size w w'))
    (w : World) :
    Calls Tryz.prog 194 #[.string s] w fun e w' => e = .returned (.tuple #[.agg #[.int .i64 0, .int .u8 0], .int .i64 21]) ∧ Below w.heap.size w w' := by
  have n1 : (s.toList == [45]) = false := beq_eq_false_iff_ne.2 (fun e => hs e)
  have S0 : Hid (ResA w w.heap.size (w.alloc (.cells #[.int .i64 0, .int .u8 0] 83))) := ResA.new w _
  go_enter Tryz.func194, Tryz.ntmps194
  go_wp2_with fail
  refine (SE.out _).mono ?_
  rintro e w1 ⟨rfl, hb⟩
  have S1 : Hid (ResA w w.heap.size w1) := S0.out.below hb
  clear hb S0
  go_wp2_with fail
  refine (CK.out _).mono ?_
  rintro e w2 ⟨rfl, hb⟩
  have S2 : Hid (ResA w w.heap.size w2) := S1.out.below hb
  clear hb S1
  obtain ⟨q1, q2, q3, q5, q6, q8⟩ := S2.out
  obtain ⟨y1, y2⟩ := two_set (x := .int .i64 0) (y := .int .u8 0) q2 q3
  have HB : Hid (Below w.heap.size w w2) := q8
  clear q8
  go_wp2
  refine bodyPost_ret (v := .tuple #[.agg #[.int .i64 0, .int .u8 0], .int .i64 21]) (by simp [results, Tryz.results194, go_sem, y1, y2]) rfl ⟨rfl, ?_⟩
  exact (HB.out.setCell (Nat.le_refl _) _).setCell (Nat.le_refl _) _

set_option maxRecDepth 100000 in
set_option maxHeartbeats 4000000 in
theorem rsv_dash (s : ByteArray) (h : s = ⟨#[45]⟩)
    (w : World) :
    Calls Tryz.prog 206 #[.string s] w fun e w' => e = .returned (.tuple #[.int .i64 0, .int .i64 0]) ∧ Below w.heap.size w w' := by
  subst h
  go_enter Tryz.func206, Tryz.ntmps206
  go_wp2
  go_ret2
  exact ⟨rfl, Below.refl _ _⟩

set_option maxRecDepth 100000 in
set_option maxHeartbeats 4000000 in
theorem rsv_pos (s DG RS : ByteArray) (U : Int) (hs : s.toList ≠ [45]) (hr : RS = ⟨#[]⟩) (u0 : 0 ≤ U) (u1 : U ≤ 9000000000000000000)
    (CP : Hid (∀ w : World, Calls Tryz.prog 103 #[.string s, .string ⟨#[45]⟩] w fun e w' => e = .returned (.tuple #[.string DG, .bool false]) ∧ w' = w))
    (SE : Hid (∀ w : World, Calls Tryz.prog 195 #[.string DG] w fun e w' => e = .returned (.tuple #[.int .i64 U, .string RS, .bool true]) ∧ Below w.heap.size w w'))
    (w : World) :
    Calls Tryz.prog 206 #[.string s] w fun e w' => e = .returned (.tuple #[.int .i64 U, .int .i64 0]) ∧ Below w.heap.size w w' := by
  have n1 : (s.toList == [45]) = false := beq_eq_false_iff_ne.2 (fun e => hs e)
  subst hr
  go_enter Tryz.func206, Tryz.ntmps206
  go_wp2_with fail
  refine (CP.out _).mono ?_
  rintro e w1 ⟨rfl, rfl⟩
  go_wp2_with fail
  refine (SE.out _).mono ?_
  rintro e w2 ⟨rfl, hb⟩
  have HB : Hid (Below _ _ w2) := hb
  clear hb
  go_wp2
  go_ret2
  exact ⟨rfl, HB.out⟩

set_option maxRecDepth 100000 in
set_option maxHeartbeats 4000000 in
theorem rsv_neg (s DG RS : ByteArray) (U : Int) (hs : s.toList ≠ [45]) (hr : RS = ⟨#[]⟩) (u0 : 0 ≤ U) (u1 : U ≤ 9000000000000000000)
    (CP : Hid (∀ w : World, Calls Tryz.prog 103 #[.string s, .string ⟨#[45]⟩] w fun e w' => e = .returned (.tuple #[.string DG, .bool true]) ∧ w' = w))
    (SE : Hid (∀ w : World, Calls Tryz.prog 195 #[.string DG] w fun e w' => e = .returned (.tuple #[.int .i64 U, .string RS, .bool true]) ∧ Below w.heap.size w w'))
    (w : World) :
    Calls Tryz.prog 206 #[.string s] w fun e w' => e = .returned (.tuple #[.int .i64 (-U), .int .i64 0]) ∧ Below w.heap.size w w' := by
  have n1 : (s.toList == [45]) = false := beq_eq_false_iff_ne.2 (fun e => hs e)
  subst hr
  go_enter Tryz.func206, Tryz.ntmps206
  go_wp2_with fail
  refine (CP.out _).mono ?_
  rintro e w1 ⟨rfl, rfl⟩
  go_wp2_with fail
  refine (SE.out _).mono ?_
  rintro e w2 ⟨rfl, hb⟩
  have HB : Hid (Below _ _ w2) := hb
  clear hb
  go_wp2
  go_ret2
  exact ⟨rfl, HB.out⟩

set_option maxRecDepth 100000 in
set_option maxHeartbeats 4000000 in
theorem rsv_no1_true (s DG RS : ByteArray) (U : Int) (hs : s.toList ≠ [45])
    (CP : Hid (∀ w : World, Calls Tryz.prog 103 #[.string s, .string ⟨#[45]⟩] w fun e w' => e = .returned (.tuple #[.string DG, .bool true]) ∧ w' = w))
    (SE : Hid (∀ w : World, Calls Tryz.prog 195 #[.string DG] w fun e w' => e = .returned (.tuple #[.int .i64 U, .string RS, .bool false]) ∧ Below w.heap.size w w'))
    (w : World) :
    Calls Tryz.prog 206 #[.string s] w fun e w' => e = .returned (.tuple #[.int .i64 0, .int .i64 21]) ∧ Below w.heap.size w w' := by
  have n1 : (s.toList == [45]) = false := beq_eq_false_iff_ne.2 (fun e => hs e)
  go_enter Tryz.func206, Tryz.ntmps206
  go_wp2_with fail
  refine (CP.out _).mono ?_
  rintro e w1 ⟨rfl, rfl⟩
  go_wp2_with fail
  refine (SE.out _).mono ?_
  rintro e w2 ⟨rfl, hb⟩
  have HB : Hid (Below _ _ w2) := hb
  clear hb
  go_wp2
  go_ret2
  exact ⟨rfl, HB.out⟩

set_option maxRecDepth 100000 in
set_option maxHeartbeats 4000000 in
theorem rsv_no2_true (s DG RS : ByteArray) (U : Int) (hs : s.toList ≠ [45]) (hr : RS.size ≠ 0)
    (CP : Hid (∀ w : World, Calls Tryz.prog 103 #[.string s, .string ⟨#[45]⟩] w fun e w' => e = .returned (.tuple #[.string DG, .bool true]) ∧ w' = w))
    (SE : Hid (∀ w : World, Calls Tryz.prog 195 #[.string DG] w fun e w' => e = .returned (.tuple #[.int .i64 U, .string RS, .bool true]) ∧ Below w.heap.size w w'))
    (w : World) :
    Calls Tryz.prog 206 #[.string s] w fun e w' => e = .returned (.tuple #[.int .i64 0, .int .i64 21]) ∧ Below w.heap.size w w' := by
  have n1 : (s.toList == [45]) = false := beq_eq_false_iff_ne.2 (fun e => hs e)
  obtain ⟨r1, r2⟩ := Wrd.toList_ne hr
  have r3 : (RS.toList != []) = true := by simp [bne, r2]
  go_enter Tryz.func206, Tryz.ntmps206
  go_wp2_with fail
  refine (CP.out _).mono ?_
  rintro e w1 ⟨rfl, rfl⟩
  go_wp2_with fail
  refine (SE.out _).mono ?_
  rintro e w2 ⟨rfl, hb⟩
  have HB : Hid (Below _ _ w2) := hb
  clear hb
  go_wp2
  go_ret2
  exact ⟨rfl, HB.out⟩

set_option maxRecDepth 100000 in
set_option maxHeartbeats 4000000 in
theorem rsv_no1_false (s DG RS : ByteArray) (U : Int) (hs : s.toList ≠ [45])
    (CP : Hid (∀ w : World, Calls Tryz.prog 103 #[.string s, .string ⟨#[45]⟩] w fun e w' => e = .returned (.tuple #[.string DG, .bool false]) ∧ w' = w))
    (SE : Hid (∀ w : World, Calls Tryz.prog 195 #[.string DG] w fun e w' => e = .returned (.tuple #[.int .i64 U, .string RS, .bool false]) ∧ Below w.heap.size w w'))
    (w : World) :
    Calls Tryz.prog 206 #[.string s] w fun e w' => e = .returned (.tuple #[.int .i64 0, .int .i64 21]) ∧ Below w.heap.size w w' := by
  have n1 : (s.toList == [45]) = false := beq_eq_false_iff_ne.2 (fun e => hs e)
  go_enter Tryz.func206, Tryz.ntmps206
  go_wp2_with fail
  refine (CP.out _).mono ?_
  rintro e w1 ⟨rfl, rfl⟩
  go_wp2_with fail
  refine (SE.out _).mono ?_
  rintro e w2 ⟨rfl, hb⟩
  have HB : Hid (Below _ _ w2) := hb
  clear hb
  go_wp2
  go_ret2
  exact ⟨rfl, HB.out⟩

set_option maxRecDepth 100000 in
set_option maxHeartbeats 4000000 in
theorem rsv_no2_false (s DG RS : ByteArray) (U : Int) (hs : s.toList ≠ [45]) (hr : RS.size ≠ 0)
    (CP : Hid (∀ w : World, Calls Tryz.prog 103 #[.string s, .string ⟨#[45]⟩] w fun e w' => e = .returned (.tuple #[.string DG, .bool false]) ∧ w' = w))
    (SE : Hid (∀ w : World, Calls Tryz.prog 195 #[.string DG] w fun e w' => e = .returned (.tuple #[.int .i64 U, .string RS, .bool true]) ∧ Below w.heap.size w w'))
    (w : World) :
    Calls Tryz.prog 206 #[.string s] w fun e w' => e = .returned (.tuple #[.int .i64 0, .int .i64 21]) ∧ Below w.heap.size w w' := by
  have n1 : (s.toList == [45]) = false := beq_eq_false_iff_ne.2 (fun e => hs e)
  obtain ⟨r1, r2⟩ := Wrd.toList_ne hr
  have r3 : (RS.toList != []) = true := by simp [bne, r2]
  go_enter Tryz.func206, Tryz.ntmps206
  go_wp2_with fail
  refine (CP.out _).mono ?_
  rintro e w1 ⟨rfl, rfl⟩
  go_wp2_with fail
  refine (SE.out _).mono ?_
  rintro e w2 ⟨rfl, hb⟩
  have HB : Hid (Below _ _ w2) := hb
  clear hb
  go_wp2
  go_ret2
  exact ⟨rfl, HB.out⟩

end Go.Proofs.YtgnfkkcagbbhmaaGreatDoor
