/- the reference's part, unit, size, sql, iso over their callees. -/
import Derived.Test.YtmohhbgmbicklaaDoorShPq
import Derived.Deep.CutRange
import Derived.Deep.DeepCutAuto
import Derived.Test.YtmohhbgmbicklaaDoorShQq
namespace Go.Proofs.YtmohhbgmbicklaaDoor
open Go.RowKit
set_option linter.unusedVariables false

set_option maxRecDepth 100000 in
set_option maxHeartbeats 4000000 in
theorem rsz_n (n : Int) (n1 : -9223372036854775807 ≤ n) (n9 : n ≤ 9223372036854775807) (h : n < 0)
    (w : World) :
    Calls Tryd.prog 34 #[.int .i64 n] w fun r' w' => r' = .returned (.tuple #[.int .i64 (-n), .string ⟨#[45]⟩]) ∧ Below w.heap.size w w' := by
  have K0 : Hid (BS w [] w) := (BS.start w)
  go_enter Tryd.func34, Tryd.ntmps34
  go_wp2
  go_ret2
  exact ⟨rfl, K0.out.1⟩


set_option maxRecDepth 100000 in
set_option maxHeartbeats 4000000 in
theorem rsz_p (n : Int) (n1 : -9223372036854775807 ≤ n) (n9 : n ≤ 9223372036854775807) (h : ¬ n < 0)
    (w : World) :
    Calls Tryd.prog 34 #[.int .i64 n] w fun r' w' => r' = .returned (.tuple #[.int .i64 n, .string ⟨#[43]⟩]) ∧ Below w.heap.size w w' := by
  have K0 : Hid (BS w [] w) := (BS.start w)
  go_enter Tryd.func34, Tryd.ntmps34
  go_wp2
  go_ret2
  exact ⟨rfl, K0.out.1⟩


set_option maxRecDepth 100000 in
set_option maxHeartbeats 4000000 in
theorem pt_0 (l : ByteArray)
    (w : World) :
    Calls Tryd.prog 38 #[.int .i64 0, .string l] w fun r' w' => r' = .returned (.string ⟨#[]⟩) ∧ Below w.heap.size w w' := by
  have K0 : Hid (BS w [] w) := (BS.start w)
  go_enter Tryd.func38, Tryd.ntmps38
  go_wp2
  go_ret
  exact ⟨rfl, K0.out.1⟩


set_option maxRecDepth 100000 in
set_option maxHeartbeats 4000000 in
theorem pt_n (n : Int) (l A : ByteArray) (hn : n ≠ 0) (zl : l.size ≤ 10) (zA : A.size ≤ 100)
    (DG : Hid (∀ w : World, Calls Tryd.prog 35 #[.int .i64 n] w fun r' w' => r' = .returned (.string A) ∧ Below w.heap.size w w'))
    (w : World) :
    Calls Tryd.prog 38 #[.int .i64 n, .string l] w fun r' w' => r' = .returned (.string (A ++ l)) ∧ Below w.heap.size w w' := by
  have n1 : (n == 0) = false := by simpa using hn
  have K0 : Hid (BS w [] w) := (BS.start w)
  go_enter Tryd.func38, Tryd.ntmps38
  go_wp2_with fail
  refine (DG.out _).mono ?_
  rintro e W1 ⟨rfl, hb⟩
  have K1 := bsb K0 hb
  clear hb K0
  go_wp2
  go_ret
  exact ⟨rfl, K1.out.1⟩


set_option maxRecDepth 100000 in
set_option maxHeartbeats 4000000 in
theorem un_1a (was : Int) (l A : ByteArray) (zl : l.size ≤ 10) (zA : A.size ≤ 100) (hu : ¬ was < 0)
    (DG : Hid (∀ w : World, Calls Tryd.prog 35 #[.int .i64 1] w fun r' w' => r' = .returned (.string A) ∧ Below w.heap.size w w'))
    (w : World) :
    Calls Tryd.prog 39 #[.int .i64 1, .string l, .int .i64 was] w fun r' w' => r' = .returned (.string (A ++ ⟨#[32]⟩ ++ l)) ∧ Below w.heap.size w w' := by
  have K0 : Hid (BS w [] w) := (BS.start w)
  go_enter Tryd.func39, Tryd.ntmps39
  go_wp2_with fail
  refine (DG.out _).mono ?_
  rintro e W1 ⟨rfl, hb⟩
  have K1 := bsb K0 hb
  clear hb K0
  go_wp2
  go_ret
  exact ⟨rfl, K1.out.1⟩


set_option maxRecDepth 100000 in
set_option maxHeartbeats 4000000 in
theorem un_1c (was : Int) (l A : ByteArray) (zl : l.size ≤ 10) (zA : A.size ≤ 100) (hu : was < 0) (hg : 0 < (1 : Int))
    (DG : Hid (∀ w : World, Calls Tryd.prog 35 #[.int .i64 1] w fun r' w' => r' = .returned (.string A) ∧ Below w.heap.size w w'))
    (w : World) :
    Calls Tryd.prog 39 #[.int .i64 1, .string l, .int .i64 was] w fun r' w' => r' = .returned (.string (⟨#[43]⟩ ++ (A ++ ⟨#[32]⟩ ++ l))) ∧ Below w.heap.size w w' := by
  have K0 : Hid (BS w [] w) := (BS.start w)
  go_enter Tryd.func39, Tryd.ntmps39
  go_wp2_with fail
  refine (DG.out _).mono ?_
  rintro e W1 ⟨rfl, hb⟩
  have K1 := bsb K0 hb
  clear hb K0
  go_wp2
  go_ret
  exact ⟨rfl, K1.out.1⟩


set_option maxRecDepth 100000 in
set_option maxHeartbeats 4000000 in
theorem un_xa (n was : Int) (l A : ByteArray) (zl : l.size ≤ 10) (zA : A.size ≤ 100) (hv : n ≠ 1) (hu : ¬ was < 0)
    (DG : Hid (∀ w : World, Calls Tryd.prog 35 #[.int .i64 n] w fun r' w' => r' = .returned (.string A) ∧ Below w.heap.size w w'))
    (w : World) :
    Calls Tryd.prog 39 #[.int .i64 n, .string l, .int .i64 was] w fun r' w' => r' = .returned (.string (A ++ ⟨#[32]⟩ ++ l ++ ⟨#[115]⟩)) ∧ Below w.heap.size w w' := by
  have n1 : (n != 1) = true := bne_iff_ne.2 hv
  have K0 : Hid (BS w [] w) := (BS.start w)
  go_enter Tryd.func39, Tryd.ntmps39
  go_wp2_with fail
  refine (DG.out _).mono ?_
  rintro e W1 ⟨rfl, hb⟩
  have K1 := bsb K0 hb
  clear hb K0
  go_wp2
  go_ret
  exact ⟨rfl, K1.out.1⟩


set_option maxRecDepth 100000 in
set_option maxHeartbeats 4000000 in
theorem un_xb (n was : Int) (l A : ByteArray) (zl : l.size ≤ 10) (zA : A.size ≤ 100) (hv : n ≠ 1) (hu : was < 0) (hg : ¬ 0 < n)
    (DG : Hid (∀ w : World, Calls Tryd.prog 35 #[.int .i64 n] w fun r' w' => r' = .returned (.string A) ∧ Below w.heap.size w w'))
    (w : World) :
    Calls Tryd.prog 39 #[.int .i64 n, .string l, .int .i64 was] w fun r' w' => r' = .returned (.string (A ++ ⟨#[32]⟩ ++ l ++ ⟨#[115]⟩)) ∧ Below w.heap.size w w' := by
  have n1 : (n != 1) = true := bne_iff_ne.2 hv
  have K0 : Hid (BS w [] w) := (BS.start w)
  go_enter Tryd.func39, Tryd.ntmps39
  go_wp2_with fail
  refine (DG.out _).mono ?_
  rintro e W1 ⟨rfl, hb⟩
  have K1 := bsb K0 hb
  clear hb K0
  go_wp2
  go_ret
  exact ⟨rfl, K1.out.1⟩


set_option maxRecDepth 100000 in
set_option maxHeartbeats 4000000 in
theorem un_xc (n was : Int) (l A : ByteArray) (zl : l.size ≤ 10) (zA : A.size ≤ 100) (hv : n ≠ 1) (hu : was < 0) (hg : 0 < n)
    (DG : Hid (∀ w : World, Calls Tryd.prog 35 #[.int .i64 n] w fun r' w' => r' = .returned (.string A) ∧ Below w.heap.size w w'))
    (w : World) :
    Calls Tryd.prog 39 #[.int .i64 n, .string l, .int .i64 was] w fun r' w' => r' = .returned (.string (⟨#[43]⟩ ++ (A ++ ⟨#[32]⟩ ++ l ++ ⟨#[115]⟩))) ∧ Below w.heap.size w w' := by
  have n1 : (n != 1) = true := bne_iff_ne.2 hv
  have K0 : Hid (BS w [] w) := (BS.start w)
  go_enter Tryd.func39, Tryd.ntmps39
  go_wp2_with fail
  refine (DG.out _).mono ?_
  rintro e W1 ⟨rfl, hb⟩
  have K1 := bsb K0 hb
  clear hb K0
  go_wp2
  go_ret
  exact ⟨rfl, K1.out.1⟩


set_option maxRecDepth 100000 in
set_option maxHeartbeats 4000000 in
theorem rsql_run (M D U m d u : Int) (A1 A2 A3 S1 S2 S3 E1 E2 E3 F : ByteArray) (m0 : 0 ≤ m) (m9 : m ≤ 9223372036854775807) (u0 : 0 ≤ u) (u9 : u ≤ 9223372036854775807) (zA1 : A1.size ≤ 100) (zA2 : A2.size ≤ 100) (zA3 : A3.size ≤ 100) (zS1 : S1.size ≤ 100) (zS2 : S2.size ≤ 100) (zS3 : S3.size ≤ 100) (zE1 : E1.size ≤ 100) (zE2 : E2.size ≤ 100) (zE3 : E3.size ≤ 100) (zF : F.size ≤ 100)
    (Z1 : Hid (∀ w : World, Calls Tryd.prog 34 #[.int .i64 M] w fun r' w' => r' = .returned (.tuple #[.int .i64 m, .string S1]) ∧ Below w.heap.size w w'))
    (Z2 : Hid (∀ w : World, Calls Tryd.prog 34 #[.int .i64 D] w fun r' w' => r' = .returned (.tuple #[.int .i64 d, .string S2]) ∧ Below w.heap.size w w'))
    (Z3 : Hid (∀ w : World, Calls Tryd.prog 34 #[.int .i64 U] w fun r' w' => r' = .returned (.tuple #[.int .i64 u, .string S3]) ∧ Below w.heap.size w w'))
    (G4 : Hid (∀ w : World, Calls Tryd.prog 35 #[.int .i64 (m / 12)] w fun r' w' => r' = .returned (.string E1) ∧ Below w.heap.size w w'))
    (G5 : Hid (∀ w : World, Calls Tryd.prog 35 #[.int .i64 (m % 12)] w fun r' w' => r' = .returned (.string E2) ∧ Below w.heap.size w w'))
    (G6 : Hid (∀ w : World, Calls Tryd.prog 35 #[.int .i64 d] w fun r' w' => r' = .returned (.string E3) ∧ Below w.heap.size w w'))
    (G1 : Hid (∀ w : World, Calls Tryd.prog 35 #[.int .i64 (u / 1000000 / 3600)] w fun r' w' => r' = .returned (.string A1) ∧ Below w.heap.size w w'))
    (G2 : Hid (∀ w : World, Calls Tryd.prog 36 #[.int .i64 (u / 1000000 / 60 % 60)] w fun r' w' => r' = .returned (.string A2) ∧ Below w.heap.size w w'))
    (G3 : Hid (∀ w : World, Calls Tryd.prog 36 #[.int .i64 (u / 1000000 % 60)] w fun r' w' => r' = .returned (.string A3) ∧ Below w.heap.size w w'))
    (G7 : Hid (∀ w : World, Calls Tryd.prog 37 #[.int .i64 (u % 1000000)] w fun r' w' => r' = .returned (.string F) ∧ Below w.heap.size w w'))
    (w : World) :
    Calls Tryd.prog 16 #[.agg #[.int .i64 0, .int .i64 M, .int .i64 D, .int .i64 U]] w fun r' w' => r' = .returned (.string (S1 ++ E1 ++ ⟨#[45]⟩ ++ E2 ++ ⟨#[32]⟩ ++ S2 ++ E3 ++ ⟨#[32]⟩ ++ S3 ++ A1 ++ ⟨#[58]⟩ ++ A2 ++ ⟨#[58]⟩ ++ A3 ++ F)) ∧ Below w.heap.size w w' := by
  have K0 : Hid (BS w [(w.heap.size, [.int .i64 0, .int .i64 M, .int .i64 D, .int .i64 U])] (w.alloc (.cells #[.int .i64 0, .int .i64 M, .int .i64 D, .int .i64 U] 23))) := ((BS.start w).new [.int .i64 0, .int .i64 M, .int .i64 D, .int .i64 U] 23 rfl)
  go_enter Tryd.func16, Tryd.ntmps16
  go_wp2_with fail
  refine (Z1.out _).mono ?_
  rintro e W1 ⟨rfl, hb⟩
  have K1 := bsb K0 hb
  clear hb K0
  obtain ⟨c1_0_0, c1_0_1, c1_0_2, c1_0_3⟩ := (bo1 K1).c4
  go_wp2_with fail
  refine (Z2.out _).mono ?_
  rintro e W2 ⟨rfl, hb⟩
  have K2 := bsb K1 hb
  clear c1_0_0 c1_0_1 c1_0_2 c1_0_3
  clear hb K1
  obtain ⟨c2_0_0, c2_0_1, c2_0_2, c2_0_3⟩ := (bo1 K2).c4
  go_wp2_with fail
  refine (Z3.out _).mono ?_
  rintro e W3 ⟨rfl, hb⟩
  have K3 := bsb K2 hb
  clear c2_0_0 c2_0_1 c2_0_2 c2_0_3
  clear hb K2
  obtain ⟨c3_0_0, c3_0_1, c3_0_2, c3_0_3⟩ := (bo1 K3).c4
  go_wp2_with fail
  refine (G4.out _).mono ?_
  rintro e W4 ⟨rfl, hb⟩
  have K4 := bsb K3 hb
  clear c3_0_0 c3_0_1 c3_0_2 c3_0_3
  clear hb K3
  obtain ⟨c4_0_0, c4_0_1, c4_0_2, c4_0_3⟩ := (bo1 K4).c4
  go_wp2_with fail
  refine (G5.out _).mono ?_
  rintro e W5 ⟨rfl, hb⟩
  have K5 := bsb K4 hb
  clear c4_0_0 c4_0_1 c4_0_2 c4_0_3
  clear hb K4
  obtain ⟨c5_0_0, c5_0_1, c5_0_2, c5_0_3⟩ := (bo1 K5).c4
  go_wp2_with fail
  refine (G6.out _).mono ?_
  rintro e W6 ⟨rfl, hb⟩
  have K6 := bsb K5 hb
  clear c5_0_0 c5_0_1 c5_0_2 c5_0_3
  clear hb K5
  obtain ⟨c6_0_0, c6_0_1, c6_0_2, c6_0_3⟩ := (bo1 K6).c4
  go_wp2_with fail
  refine (G1.out _).mono ?_
  rintro e W7 ⟨rfl, hb⟩
  have K7 := bsb K6 hb
  clear c6_0_0 c6_0_1 c6_0_2 c6_0_3
  clear hb K6
  obtain ⟨c7_0_0, c7_0_1, c7_0_2, c7_0_3⟩ := (bo1 K7).c4
  go_wp2_with fail
  refine (G2.out _).mono ?_
  rintro e W8 ⟨rfl, hb⟩
  have K8 := bsb K7 hb
  clear c7_0_0 c7_0_1 c7_0_2 c7_0_3
  clear hb K7
  obtain ⟨c8_0_0, c8_0_1, c8_0_2, c8_0_3⟩ := (bo1 K8).c4
  go_wp2_with fail
  refine (G3.out _).mono ?_
  rintro e W9 ⟨rfl, hb⟩
  have K9 := bsb K8 hb
  clear c8_0_0 c8_0_1 c8_0_2 c8_0_3
  clear hb K8
  obtain ⟨c9_0_0, c9_0_1, c9_0_2, c9_0_3⟩ := (bo1 K9).c4
  go_wp2_with fail
  refine (G7.out _).mono ?_
  rintro e W10 ⟨rfl, hb⟩
  have K10 := bsb K9 hb
  clear c9_0_0 c9_0_1 c9_0_2 c9_0_3
  clear hb K9
  obtain ⟨c10_0_0, c10_0_1, c10_0_2, c10_0_3⟩ := (bo1 K10).c4
  go_wp2
  go_ret
  exact ⟨rfl, K10.out.1⟩


set_option maxRecDepth 100000 in
set_option maxHeartbeats 4000000 in
theorem riso_z (M D y m : Int) (T1 T2 T3 X : ByteArray) (hy : M.tdiv 12 = y) (hm : M.tmod 12 = m) (y1 : -9223372036854775808 ≤ y) (y9 : y ≤ 9223372036854775807) (m1 : -9223372036854775808 ≤ m) (m9 : m ≤ 9223372036854775807) (hX : (⟨#[80]⟩ : ByteArray) ++ T1 ++ T2 ++ T3 = X) (zT1 : T1.size ≤ 300) (zT2 : T2.size ≤ 300) (zT3 : T3.size ≤ 300) (zX : X.size ≤ 300) (hE : ((X).toList == [80]) = true)
    (M1 : Hid (∀ w : World, Calls Tryd.prog 38 #[.int .i64 y, .string ⟨#[89]⟩] w fun r' w' => r' = .returned (.string T1) ∧ Below w.heap.size w w'))
    (M2 : Hid (∀ w : World, Calls Tryd.prog 38 #[.int .i64 m, .string ⟨#[77]⟩] w fun r' w' => r' = .returned (.string T2) ∧ Below w.heap.size w w'))
    (M3 : Hid (∀ w : World, Calls Tryd.prog 38 #[.int .i64 D, .string ⟨#[68]⟩] w fun r' w' => r' = .returned (.string T3) ∧ Below w.heap.size w w'))
    (w : World) :
    Calls Tryd.prog 17 #[.agg #[.int .i64 0, .int .i64 M, .int .i64 D, .int .i64 0]] w fun r' w' => r' = .returned (.string (⟨#[80, 84, 48, 83]⟩)) ∧ Below w.heap.size w w' := by
  have w_y : IntKind.i64.wrap y = y := by rw [IntKind.wrap_i64]; omega
  have w_m : IntKind.i64.wrap m = m := by rw [IntKind.wrap_i64]; omega
  have c1 : ¬ 9223372036854775807 < 1 + T1.size := by omega
  have c2 : ¬ 9223372036854775807 < 1 + T1.size + T2.size := by omega
  have c3 : ¬ 9223372036854775807 < 1 + T1.size + T2.size + T3.size := by omega
  have K0 : Hid (BS w [(w.heap.size, [.int .i64 0, .int .i64 M, .int .i64 D, .int .i64 0])] (w.alloc (.cells #[.int .i64 0, .int .i64 M, .int .i64 D, .int .i64 0] 23))) := ((BS.start w).new [.int .i64 0, .int .i64 M, .int .i64 D, .int .i64 0] 23 rfl)
  go_enter Tryd.func17, Tryd.ntmps17
  go_upto_region 1 with fail
  refine bs_to K0 ?_
  clear K0
  intro W0 K0
  go_cut [3] (fun v0 wx => v0 = .string X ∧ Hid (BS w [(w.heap.size, [.int .i64 0, .int .i64 M, .int .i64 D, .int .i64 0])] wx))
  case first =>
    refine wp_region_held_drew (S := BS w [(w.heap.size, [.int .i64 0, .int .i64 M, .int .i64 D, .int .i64 0])]) (by kernel_rfl) K0.out.drew (fun hHeld => ?_)
    refine wpAnyH_take (i := 0) (v := ?_) (oi := { dst := some 6, op := _, type := _, pos := _, after := _, guard := none }) rfl (by kernel_rfl) (by kernel_rfl) (by kernel_rfl) (fun _ _ _ h => h) (Or.inl ⟨by kernel_rfl, ?_⟩) (by assumption) ?_
    case refine_2 => (intro w9 hSw; clear hSw; go_simp; try with_reducible rfl)
    simp only [Act.put, List.setIfInBounds_toArray, List.set_cons_zero, List.set_cons_succ]
    refine wpAnyH_take (i := 1) (v := ?_) (oi := { dst := some 7, op := _, type := _, pos := _, after := _, guard := none }) rfl (by kernel_rfl) (by kernel_rfl) (by kernel_rfl) (fun _ _ _ h => h) (Or.inl ⟨by kernel_rfl, ?_⟩) (by assumption) ?_
    case refine_2 => (intro w9 hSw; have l0_0 := (hSw.at (w.heap.size) [.int .i64 0, .int .i64 M, .int .i64 D, .int .i64 0] (by simp)).c 0 rfl; have l0_1 := (hSw.at (w.heap.size) [.int .i64 0, .int .i64 M, .int .i64 D, .int .i64 0] (by simp)).c 1 rfl; have l0_2 := (hSw.at (w.heap.size) [.int .i64 0, .int .i64 M, .int .i64 D, .int .i64 0] (by simp)).c 2 rfl; have l0_3 := (hSw.at (w.heap.size) [.int .i64 0, .int .i64 M, .int .i64 D, .int .i64 0] (by simp)).c 3 rfl; clear hSw; go_simp; try with_reducible rfl)
    simp only [Act.put, List.setIfInBounds_toArray, List.set_cons_zero, List.set_cons_succ]
    refine wpAnyH_take (i := 2) (v := ?_) (oi := { dst := some 8, op := _, type := _, pos := _, after := _, guard := none }) rfl (by kernel_rfl) (by kernel_rfl) (by kernel_rfl) (fun _ _ _ h => h) (Or.inl ⟨by kernel_rfl, ?_⟩) (by assumption) ?_
    case refine_2 => (intro w9 hSw; clear hSw; go_simp; try with_reducible rfl)
    simp only [Act.put, List.setIfInBounds_toArray, List.set_cons_zero, List.set_cons_succ]
    refine wpAnyH_take (i := 5) (v := ?_) (oi := { dst := some 11, op := _, type := _, pos := _, after := _, guard := none }) rfl (by kernel_rfl) (by kernel_rfl) (by kernel_rfl) (fun _ _ _ h => h) (Or.inl ⟨by kernel_rfl, ?_⟩) (by assumption) ?_
    case refine_2 => (intro w9 hSw; clear hSw; go_simp; try with_reducible rfl)
    simp only [Act.put, List.setIfInBounds_toArray, List.set_cons_zero, List.set_cons_succ]
    refine wpAnyH_take (i := 6) (v := ?_) (oi := { dst := some 12, op := _, type := _, pos := _, after := _, guard := none }) rfl (by kernel_rfl) (by kernel_rfl) (by kernel_rfl) (fun _ _ _ h => h) (Or.inl ⟨by kernel_rfl, ?_⟩) (by assumption) ?_
    case refine_2 => (intro w9 hSw; have l0_0 := (hSw.at (w.heap.size) [.int .i64 0, .int .i64 M, .int .i64 D, .int .i64 0] (by simp)).c 0 rfl; have l0_1 := (hSw.at (w.heap.size) [.int .i64 0, .int .i64 M, .int .i64 D, .int .i64 0] (by simp)).c 1 rfl; have l0_2 := (hSw.at (w.heap.size) [.int .i64 0, .int .i64 M, .int .i64 D, .int .i64 0] (by simp)).c 2 rfl; have l0_3 := (hSw.at (w.heap.size) [.int .i64 0, .int .i64 M, .int .i64 D, .int .i64 0] (by simp)).c 3 rfl; clear hSw; go_simp; try with_reducible rfl)
    simp only [Act.put, List.setIfInBounds_toArray, List.set_cons_zero, List.set_cons_succ]
    refine wpAnyH_take (i := 7) (v := ?_) (oi := { dst := some 13, op := _, type := _, pos := _, after := _, guard := none }) rfl (by kernel_rfl) (by kernel_rfl) (by kernel_rfl) (fun _ _ _ h => h) (Or.inl ⟨by kernel_rfl, ?_⟩) (by assumption) ?_
    case refine_2 => (intro w9 hSw; clear hSw; go_simp; try with_reducible rfl)
    simp only [Act.put, List.setIfInBounds_toArray, List.set_cons_zero, List.set_cons_succ]
    refine wpAnyH_take (i := 10) (v := ?_) (oi := { dst := some 16, op := _, type := _, pos := _, after := _, guard := none }) rfl (by kernel_rfl) (by kernel_rfl) (by kernel_rfl) (fun _ _ _ h => h) (Or.inl ⟨by kernel_rfl, ?_⟩) (by assumption) ?_
    case refine_2 => (intro w9 hSw; clear hSw; go_simp; try with_reducible rfl)
    simp only [Act.put, List.setIfInBounds_toArray, List.set_cons_zero, List.set_cons_succ]
    refine wpAnyH_take (i := 11) (v := ?_) (oi := { dst := some 17, op := _, type := _, pos := _, after := _, guard := none }) rfl (by kernel_rfl) (by kernel_rfl) (by kernel_rfl) (fun _ _ _ h => h) (Or.inl ⟨by kernel_rfl, ?_⟩) (by assumption) ?_
    case refine_2 => (intro w9 hSw; have l0_0 := (hSw.at (w.heap.size) [.int .i64 0, .int .i64 M, .int .i64 D, .int .i64 0] (by simp)).c 0 rfl; have l0_1 := (hSw.at (w.heap.size) [.int .i64 0, .int .i64 M, .int .i64 D, .int .i64 0] (by simp)).c 1 rfl; have l0_2 := (hSw.at (w.heap.size) [.int .i64 0, .int .i64 M, .int .i64 D, .int .i64 0] (by simp)).c 2 rfl; have l0_3 := (hSw.at (w.heap.size) [.int .i64 0, .int .i64 M, .int .i64 D, .int .i64 0] (by simp)).c 3 rfl; clear hSw; go_simp; try with_reducible rfl)
    simp only [Act.put, List.setIfInBounds_toArray, List.set_cons_zero, List.set_cons_succ]
    refine wpAnyH_ready (rs := [3]) (by kernel_rfl) (by simp) (AllReadyH.cons (o := { dst := some 9, op := _, type := _, pos := _, after := _, guard := none }) rfl (fun K hK => ?_) AllReadyH.nil)
    go_simp
    refine (M1.out _).mono ?_
    rintro e v1 ⟨rfl, hb1⟩
    refine hK.out _ _ (hHeld.below hb1) (fun hHeld => ?_)
    clear hK K hb1
    refine wpAnyH_take (i := 4) (v := ?_) (oi := { dst := some 10, op := _, type := _, pos := _, after := _, guard := none }) rfl (by kernel_rfl) (by kernel_rfl) (by kernel_rfl) (fun _ _ _ h => h) (Or.inl ⟨by kernel_rfl, ?_⟩) (by assumption) ?_
    case refine_2 => (intro w9 hSw; clear hSw; go_simp; try with_reducible rfl)
    simp only [Act.put, List.setIfInBounds_toArray, List.set_cons_zero, List.set_cons_succ]
    refine wpAnyH_ready (rs := [8]) (by kernel_rfl) (by simp) (AllReadyH.cons (o := { dst := some 14, op := _, type := _, pos := _, after := _, guard := none }) rfl (fun K hK => ?_) AllReadyH.nil)
    go_simp
    refine (M2.out _).mono ?_
    rintro e v2 ⟨rfl, hb2⟩
    refine hK.out _ _ (hHeld.below hb2) (fun hHeld => ?_)
    clear hK K hb2
    refine wpAnyH_take (i := 9) (v := ?_) (oi := { dst := some 15, op := _, type := _, pos := _, after := _, guard := none }) rfl (by kernel_rfl) (by kernel_rfl) (by kernel_rfl) (fun _ _ _ h => h) (Or.inl ⟨by kernel_rfl, ?_⟩) (by assumption) ?_
    case refine_2 => (intro w9 hSw; clear hSw; go_simp; try with_reducible rfl)
    simp only [Act.put, List.setIfInBounds_toArray, List.set_cons_zero, List.set_cons_succ]
    refine wpAnyH_ready (rs := [12]) (by kernel_rfl) (by simp) (AllReadyH.cons (o := { dst := some 18, op := _, type := _, pos := _, after := _, guard := none }) rfl (fun K hK => ?_) AllReadyH.nil)
    go_simp
    refine (M3.out _).mono ?_
    rintro e v3 ⟨rfl, hb3⟩
    refine hK.out _ _ (hHeld.below hb3) (fun hHeld => ?_)
    clear hK K hb3
    refine wpAnyH_take (i := 13) (v := ?_) (oi := { dst := some 19, op := _, type := _, pos := _, after := _, guard := none }) rfl (by kernel_rfl) (by kernel_rfl) (by kernel_rfl) (fun _ _ _ h => h) (Or.inl ⟨by kernel_rfl, ?_⟩) (by assumption) ?_
    case refine_2 => (intro w9 hSw; clear hSw; go_simp; try with_reducible rfl)
    simp only [Act.put, List.setIfInBounds_toArray, List.set_cons_zero, List.set_cons_succ]
    refine wpAnyH_take (i := 14) (v := ?_) (oi := { dst := some 3, op := _, type := _, pos := _, after := _, guard := none }) rfl (by kernel_rfl) (by kernel_rfl) (by kernel_rfl) (fun _ _ _ h => h) (Or.inl ⟨by kernel_rfl, ?_⟩) (by assumption) ?_
    case refine_2 => (intro w9 hSw; clear hSw; go_simp; try with_reducible rfl)
    simp only [Act.put, List.setIfInBounds_toArray, List.set_cons_zero, List.set_cons_succ]
    refine wpAnyH_done (by kernel_rfl) ?_ _
    go_wp2_with fail
    go_meet
    case rel => exact ⟨rfl, hHeld⟩
  case rest =>
    obtain ⟨rfl, K1⟩ := hcut
    clear K0
    obtain ⟨c1_0_0, c1_0_1, c1_0_2, c1_0_3⟩ := (bo1 K1).c4
    go_wp2
    go_ret
    exact ⟨rfl, K1.out.1⟩


set_option maxRecDepth 100000 in
set_option maxHeartbeats 4000000 in
theorem riso_d (M D y m : Int) (T1 T2 T3 X : ByteArray) (hy : M.tdiv 12 = y) (hm : M.tmod 12 = m) (y1 : -9223372036854775808 ≤ y) (y9 : y ≤ 9223372036854775807) (m1 : -9223372036854775808 ≤ m) (m9 : m ≤ 9223372036854775807) (hX : (⟨#[80]⟩ : ByteArray) ++ T1 ++ T2 ++ T3 = X) (zT1 : T1.size ≤ 300) (zT2 : T2.size ≤ 300) (zT3 : T3.size ≤ 300) (zX : X.size ≤ 300) (hE : ((X).toList == [80]) = false)
    (M1 : Hid (∀ w : World, Calls Tryd.prog 38 #[.int .i64 y, .string ⟨#[89]⟩] w fun r' w' => r' = .returned (.string T1) ∧ Below w.heap.size w w'))
    (M2 : Hid (∀ w : World, Calls Tryd.prog 38 #[.int .i64 m, .string ⟨#[77]⟩] w fun r' w' => r' = .returned (.string T2) ∧ Below w.heap.size w w'))
    (M3 : Hid (∀ w : World, Calls Tryd.prog 38 #[.int .i64 D, .string ⟨#[68]⟩] w fun r' w' => r' = .returned (.string T3) ∧ Below w.heap.size w w'))
    (w : World) :
    Calls Tryd.prog 17 #[.agg #[.int .i64 0, .int .i64 M, .int .i64 D, .int .i64 0]] w fun r' w' => r' = .returned (.string (X)) ∧ Below w.heap.size w w' := by
  have w_y : IntKind.i64.wrap y = y := by rw [IntKind.wrap_i64]; omega
  have w_m : IntKind.i64.wrap m = m := by rw [IntKind.wrap_i64]; omega
  have c1 : ¬ 9223372036854775807 < 1 + T1.size := by omega
  have c2 : ¬ 9223372036854775807 < 1 + T1.size + T2.size := by omega
  have c3 : ¬ 9223372036854775807 < 1 + T1.size + T2.size + T3.size := by omega
  have K0 : Hid (BS w [(w.heap.size, [.int .i64 0, .int .i64 M, .int .i64 D, .int .i64 0])] (w.alloc (.cells #[.int .i64 0, .int .i64 M, .int .i64 D, .int .i64 0] 23))) := ((BS.start w).new [.int .i64 0, .int .i64 M, .int .i64 D, .int .i64 0] 23 rfl)
  go_enter Tryd.func17, Tryd.ntmps17
  go_upto_region 1 with fail
  refine bs_to K0 ?_
  clear K0
  intro W0 K0
  go_cut [3] (fun v0 wx => v0 = .string X ∧ Hid (BS w [(w.heap.size, [.int .i64 0, .int .i64 M, .int .i64 D, .int .i64 0])] wx))
  case first =>
    refine wp_region_held_drew (S := BS w [(w.heap.size, [.int .i64 0, .int .i64 M, .int .i64 D, .int .i64 0])]) (by kernel_rfl) K0.out.drew (fun hHeld => ?_)
    refine wpAnyH_take (i := 0) (v := ?_) (oi := { dst := some 6, op := _, type := _, pos := _, after := _, guard := none }) rfl (by kernel_rfl) (by kernel_rfl) (by kernel_rfl) (fun _ _ _ h => h) (Or.inl ⟨by kernel_rfl, ?_⟩) (by assumption) ?_
    case refine_2 => (intro w9 hSw; clear hSw; go_simp; try with_reducible rfl)
    simp only [Act.put, List.setIfInBounds_toArray, List.set_cons_zero, List.set_cons_succ]
    refine wpAnyH_take (i := 1) (v := ?_) (oi := { dst := some 7, op := _, type := _, pos := _, after := _, guard := none }) rfl (by kernel_rfl) (by kernel_rfl) (by kernel_rfl) (fun _ _ _ h => h) (Or.inl ⟨by kernel_rfl, ?_⟩) (by assumption) ?_
    case refine_2 => (intro w9 hSw; have l0_0 := (hSw.at (w.heap.size) [.int .i64 0, .int .i64 M, .int .i64 D, .int .i64 0] (by simp)).c 0 rfl; have l0_1 := (hSw.at (w.heap.size) [.int .i64 0, .int .i64 M, .int .i64 D, .int .i64 0] (by simp)).c 1 rfl; have l0_2 := (hSw.at (w.heap.size) [.int .i64 0, .int .i64 M, .int .i64 D, .int .i64 0] (by simp)).c 2 rfl; have l0_3 := (hSw.at (w.heap.size) [.int .i64 0, .int .i64 M, .int .i64 D, .int .i64 0] (by simp)).c 3 rfl; clear hSw; go_simp; try with_reducible rfl)
    simp only [Act.put, List.setIfInBounds_toArray, List.set_cons_zero, List.set_cons_succ]
    refine wpAnyH_take (i := 2) (v := ?_) (oi := { dst := some 8, op := _, type := _, pos := _, after := _, guard := none }) rfl (by kernel_rfl) (by kernel_rfl) (by kernel_rfl) (fun _ _ _ h => h) (Or.inl ⟨by kernel_rfl, ?_⟩) (by assumption) ?_
    case refine_2 => (intro w9 hSw; clear hSw; go_simp; try with_reducible rfl)
    simp only [Act.put, List.setIfInBounds_toArray, List.set_cons_zero, List.set_cons_succ]
    refine wpAnyH_take (i := 5) (v := ?_) (oi := { dst := some 11, op := _, type := _, pos := _, after := _, guard := none }) rfl (by kernel_rfl) (by kernel_rfl) (by kernel_rfl) (fun _ _ _ h => h) (Or.inl ⟨by kernel_rfl, ?_⟩) (by assumption) ?_
    case refine_2 => (intro w9 hSw; clear hSw; go_simp; try with_reducible rfl)
    simp only [Act.put, List.setIfInBounds_toArray, List.set_cons_zero, List.set_cons_succ]
    refine wpAnyH_take (i := 6) (v := ?_) (oi := { dst := some 12, op := _, type := _, pos := _, after := _, guard := none }) rfl (by kernel_rfl) (by kernel_rfl) (by kernel_rfl) (fun _ _ _ h => h) (Or.inl ⟨by kernel_rfl, ?_⟩) (by assumption) ?_
    case refine_2 => (intro w9 hSw; have l0_0 := (hSw.at (w.heap.size) [.int .i64 0, .int .i64 M, .int .i64 D, .int .i64 0] (by simp)).c 0 rfl; have l0_1 := (hSw.at (w.heap.size) [.int .i64 0, .int .i64 M, .int .i64 D, .int .i64 0] (by simp)).c 1 rfl; have l0_2 := (hSw.at (w.heap.size) [.int .i64 0, .int .i64 M, .int .i64 D, .int .i64 0] (by simp)).c 2 rfl; have l0_3 := (hSw.at (w.heap.size) [.int .i64 0, .int .i64 M, .int .i64 D, .int .i64 0] (by simp)).c 3 rfl; clear hSw; go_simp; try with_reducible rfl)
    simp only [Act.put, List.setIfInBounds_toArray, List.set_cons_zero, List.set_cons_succ]
    refine wpAnyH_take (i := 7) (v := ?_) (oi := { dst := some 13, op := _, type := _, pos := _, after := _, guard := none }) rfl (by kernel_rfl) (by kernel_rfl) (by kernel_rfl) (fun _ _ _ h => h) (Or.inl ⟨by kernel_rfl, ?_⟩) (by assumption) ?_
    case refine_2 => (intro w9 hSw; clear hSw; go_simp; try with_reducible rfl)
    simp only [Act.put, List.setIfInBounds_toArray, List.set_cons_zero, List.set_cons_succ]
    refine wpAnyH_take (i := 10) (v := ?_) (oi := { dst := some 16, op := _, type := _, pos := _, after := _, guard := none }) rfl (by kernel_rfl) (by kernel_rfl) (by kernel_rfl) (fun _ _ _ h => h) (Or.inl ⟨by kernel_rfl, ?_⟩) (by assumption) ?_
    case refine_2 => (intro w9 hSw; clear hSw; go_simp; try with_reducible rfl)
    simp only [Act.put, List.setIfInBounds_toArray, List.set_cons_zero, List.set_cons_succ]
    refine wpAnyH_take (i := 11) (v := ?_) (oi := { dst := some 17, op := _, type := _, pos := _, after := _, guard := none }) rfl (by kernel_rfl) (by kernel_rfl) (by kernel_rfl) (fun _ _ _ h => h) (Or.inl ⟨by kernel_rfl, ?_⟩) (by assumption) ?_
    case refine_2 => (intro w9 hSw; have l0_0 := (hSw.at (w.heap.size) [.int .i64 0, .int .i64 M, .int .i64 D, .int .i64 0] (by simp)).c 0 rfl; have l0_1 := (hSw.at (w.heap.size) [.int .i64 0, .int .i64 M, .int .i64 D, .int .i64 0] (by simp)).c 1 rfl; have l0_2 := (hSw.at (w.heap.size) [.int .i64 0, .int .i64 M, .int .i64 D, .int .i64 0] (by simp)).c 2 rfl; have l0_3 := (hSw.at (w.heap.size) [.int .i64 0, .int .i64 M, .int .i64 D, .int .i64 0] (by simp)).c 3 rfl; clear hSw; go_simp; try with_reducible rfl)
    simp only [Act.put, List.setIfInBounds_toArray, List.set_cons_zero, List.set_cons_succ]
    refine wpAnyH_ready (rs := [3]) (by kernel_rfl) (by simp) (AllReadyH.cons (o := { dst := some 9, op := _, type := _, pos := _, after := _, guard := none }) rfl (fun K hK => ?_) AllReadyH.nil)
    go_simp
    refine (M1.out _).mono ?_
    rintro e v1 ⟨rfl, hb1⟩
    refine hK.out _ _ (hHeld.below hb1) (fun hHeld => ?_)
    clear hK K hb1
    refine wpAnyH_take (i := 4) (v := ?_) (oi := { dst := some 10, op := _, type := _, pos := _, after := _, guard := none }) rfl (by kernel_rfl) (by kernel_rfl) (by kernel_rfl) (fun _ _ _ h => h) (Or.inl ⟨by kernel_rfl, ?_⟩) (by assumption) ?_
    case refine_2 => (intro w9 hSw; clear hSw; go_simp; try with_reducible rfl)
    simp only [Act.put, List.setIfInBounds_toArray, List.set_cons_zero, List.set_cons_succ]
    refine wpAnyH_ready (rs := [8]) (by kernel_rfl) (by simp) (AllReadyH.cons (o := { dst := some 14, op := _, type := _, pos := _, after := _, guard := none }) rfl (fun K hK => ?_) AllReadyH.nil)
    go_simp
    refine (M2.out _).mono ?_
    rintro e v2 ⟨rfl, hb2⟩
    refine hK.out _ _ (hHeld.below hb2) (fun hHeld => ?_)
    clear hK K hb2
    refine wpAnyH_take (i := 9) (v := ?_) (oi := { dst := some 15, op := _, type := _, pos := _, after := _, guard := none }) rfl (by kernel_rfl) (by kernel_rfl) (by kernel_rfl) (fun _ _ _ h => h) (Or.inl ⟨by kernel_rfl, ?_⟩) (by assumption) ?_
    case refine_2 => (intro w9 hSw; clear hSw; go_simp; try with_reducible rfl)
    simp only [Act.put, List.setIfInBounds_toArray, List.set_cons_zero, List.set_cons_succ]
    refine wpAnyH_ready (rs := [12]) (by kernel_rfl) (by simp) (AllReadyH.cons (o := { dst := some 18, op := _, type := _, pos := _, after := _, guard := none }) rfl (fun K hK => ?_) AllReadyH.nil)
    go_simp
    refine (M3.out _).mono ?_
    rintro e v3 ⟨rfl, hb3⟩
    refine hK.out _ _ (hHeld.below hb3) (fun hHeld => ?_)
    clear hK K hb3
    refine wpAnyH_take (i := 13) (v := ?_) (oi := { dst := some 19, op := _, type := _, pos := _, after := _, guard := none }) rfl (by kernel_rfl) (by kernel_rfl) (by kernel_rfl) (fun _ _ _ h => h) (Or.inl ⟨by kernel_rfl, ?_⟩) (by assumption) ?_
    case refine_2 => (intro w9 hSw; clear hSw; go_simp; try with_reducible rfl)
    simp only [Act.put, List.setIfInBounds_toArray, List.set_cons_zero, List.set_cons_succ]
    refine wpAnyH_take (i := 14) (v := ?_) (oi := { dst := some 3, op := _, type := _, pos := _, after := _, guard := none }) rfl (by kernel_rfl) (by kernel_rfl) (by kernel_rfl) (fun _ _ _ h => h) (Or.inl ⟨by kernel_rfl, ?_⟩) (by assumption) ?_
    case refine_2 => (intro w9 hSw; clear hSw; go_simp; try with_reducible rfl)
    simp only [Act.put, List.setIfInBounds_toArray, List.set_cons_zero, List.set_cons_succ]
    refine wpAnyH_done (by kernel_rfl) ?_ _
    go_wp2_with fail
    go_meet
    case rel => exact ⟨rfl, hHeld⟩
  case rest =>
    obtain ⟨rfl, K1⟩ := hcut
    clear K0
    obtain ⟨c1_0_0, c1_0_1, c1_0_2, c1_0_3⟩ := (bo1 K1).c4
    go_wp2
    go_ret
    exact ⟨rfl, K1.out.1⟩


set_option maxRecDepth 100000 in
set_option maxHeartbeats 4000000 in
theorem riso_t0 (M D U y m Q h q mi us : Int) (T1 T2 T3 X T4 T5 Y A F : ByteArray) (hy : M.tdiv 12 = y) (hm : M.tmod 12 = m) (y1 : -9223372036854775808 ≤ y) (y9 : y ≤ 9223372036854775807) (m1 : -9223372036854775808 ≤ m) (m9 : m ≤ 9223372036854775807) (hX : (⟨#[80]⟩ : ByteArray) ++ T1 ++ T2 ++ T3 = X) (zT1 : T1.size ≤ 300) (zT2 : T2.size ≤ 300) (zT3 : T3.size ≤ 300) (zX : X.size ≤ 300) (hU : U ≠ 0) (g1 : U.tdiv 1000000 = Q) (hh : Q.tdiv 3600 = h) (hq : Q.tdiv 60 = q) (hi : q.tmod 60 = mi) (hu : U.tmod 60000000 = us) (Q1 : -9223372036854775808 ≤ Q) (Q9 : Q ≤ 9223372036854775807) (h1 : -9223372036854775808 ≤ h) (h9 : h ≤ 9223372036854775807) (q1 : -9223372036854775808 ≤ q) (q9 : q ≤ 9223372036854775807) (mi1 : -9223372036854775808 ≤ mi) (mi9 : mi ≤ 9223372036854775807) (us1 : -9223372036854775808 ≤ us) (us9 : us ≤ 9223372036854775807) (hY : X ++ ⟨#[84]⟩ ++ T4 ++ T5 = Y) (zT4 : T4.size ≤ 300) (zT5 : T5.size ≤ 300) (zY : Y.size ≤ 300) (zA : A.size ≤ 300) (zF : F.size ≤ 300)  (hE : ((Y).toList == [80]) = false)
    (M1 : Hid (∀ w : World, Calls Tryd.prog 38 #[.int .i64 y, .string ⟨#[89]⟩] w fun r' w' => r' = .returned (.string T1) ∧ Below w.heap.size w w'))
    (M2 : Hid (∀ w : World, Calls Tryd.prog 38 #[.int .i64 m, .string ⟨#[77]⟩] w fun r' w' => r' = .returned (.string T2) ∧ Below w.heap.size w w'))
    (M3 : Hid (∀ w : World, Calls Tryd.prog 38 #[.int .i64 D, .string ⟨#[68]⟩] w fun r' w' => r' = .returned (.string T3) ∧ Below w.heap.size w w'))
    (M4 : Hid (∀ w : World, Calls Tryd.prog 38 #[.int .i64 h, .string ⟨#[72]⟩] w fun r' w' => r' = .returned (.string T4) ∧ Below w.heap.size w w'))
    (M5 : Hid (∀ w : World, Calls Tryd.prog 38 #[.int .i64 mi, .string ⟨#[77]⟩] w fun r' w' => r' = .returned (.string T5) ∧ Below w.heap.size w w'))
    (SZ : Hid (∀ w : World, Calls Tryd.prog 34 #[.int .i64 us] w fun r' w' => r' = .returned (.tuple #[.int .i64 0, .string ⟨#[43]⟩]) ∧ Below w.heap.size w w'))
    (w : World) :
    Calls Tryd.prog 17 #[.agg #[.int .i64 0, .int .i64 M, .int .i64 D, .int .i64 U]] w fun r' w' => r' = .returned (.string (Y)) ∧ Below w.heap.size w w' := by
  have w_y : IntKind.i64.wrap y = y := by rw [IntKind.wrap_i64]; omega
  have w_m : IntKind.i64.wrap m = m := by rw [IntKind.wrap_i64]; omega
  have c1 : ¬ 9223372036854775807 < 1 + T1.size := by omega
  have c2 : ¬ 9223372036854775807 < 1 + T1.size + T2.size := by omega
  have c3 : ¬ 9223372036854775807 < 1 + T1.size + T2.size + T3.size := by omega
  have c4 : ¬ 9223372036854775807 < X.size + 1 := by omega
  have c5 : ¬ 9223372036854775807 < X.size + 1 + T4.size := by omega
  have c6 : ¬ 9223372036854775807 < X.size + 1 + T4.size + T5.size := by omega
  have w_Q : IntKind.i64.wrap Q = Q := by rw [IntKind.wrap_i64]; omega
  have w_h : IntKind.i64.wrap h = h := by rw [IntKind.wrap_i64]; omega
  have w_q : IntKind.i64.wrap q = q := by rw [IntKind.wrap_i64]; omega
  have w_mi : IntKind.i64.wrap mi = mi := by rw [IntKind.wrap_i64]; omega
  have w_us : IntKind.i64.wrap us = us := by rw [IntKind.wrap_i64]; omega
  have n1 : (U != 0) = true := bne_iff_ne.2 hU
  have K0 : Hid (BS w [(w.heap.size, [.int .i64 0, .int .i64 M, .int .i64 D, .int .i64 U])] (w.alloc (.cells #[.int .i64 0, .int .i64 M, .int .i64 D, .int .i64 U] 23))) := ((BS.start w).new [.int .i64 0, .int .i64 M, .int .i64 D, .int .i64 U] 23 rfl)
  go_enter Tryd.func17, Tryd.ntmps17
  go_upto_region 1 with fail
  refine bs_to K0 ?_
  clear K0
  intro W0 K0
  go_cut [3] (fun v0 wx => v0 = .string X ∧ Hid (BS w [(w.heap.size, [.int .i64 0, .int .i64 M, .int .i64 D, .int .i64 U])] wx))
  case first =>
    refine wp_region_held_drew (S := BS w [(w.heap.size, [.int .i64 0, .int .i64 M, .int .i64 D, .int .i64 U])]) (by kernel_rfl) K0.out.drew (fun hHeld => ?_)
    refine wpAnyH_take (i := 0) (v := ?_) (oi := { dst := some 6, op := _, type := _, pos := _, after := _, guard := none }) rfl (by kernel_rfl) (by kernel_rfl) (by kernel_rfl) (fun _ _ _ h => h) (Or.inl ⟨by kernel_rfl, ?_⟩) (by assumption) ?_
    case refine_2 => (intro w9 hSw; clear hSw; go_simp; try with_reducible rfl)
    simp only [Act.put, List.setIfInBounds_toArray, List.set_cons_zero, List.set_cons_succ]
    refine wpAnyH_take (i := 1) (v := ?_) (oi := { dst := some 7, op := _, type := _, pos := _, after := _, guard := none }) rfl (by kernel_rfl) (by kernel_rfl) (by kernel_rfl) (fun _ _ _ h => h) (Or.inl ⟨by kernel_rfl, ?_⟩) (by assumption) ?_
    case refine_2 => (intro w9 hSw; have l0_0 := (hSw.at (w.heap.size) [.int .i64 0, .int .i64 M, .int .i64 D, .int .i64 U] (by simp)).c 0 rfl; have l0_1 := (hSw.at (w.heap.size) [.int .i64 0, .int .i64 M, .int .i64 D, .int .i64 U] (by simp)).c 1 rfl; have l0_2 := (hSw.at (w.heap.size) [.int .i64 0, .int .i64 M, .int .i64 D, .int .i64 U] (by simp)).c 2 rfl; have l0_3 := (hSw.at (w.heap.size) [.int .i64 0, .int .i64 M, .int .i64 D, .int .i64 U] (by simp)).c 3 rfl; clear hSw; go_simp; try with_reducible rfl)
    simp only [Act.put, List.setIfInBounds_toArray, List.set_cons_zero, List.set_cons_succ]
    refine wpAnyH_take (i := 2) (v := ?_) (oi := { dst := some 8, op := _, type := _, pos := _, after := _, guard := none }) rfl (by kernel_rfl) (by kernel_rfl) (by kernel_rfl) (fun _ _ _ h => h) (Or.inl ⟨by kernel_rfl, ?_⟩) (by assumption) ?_
    case refine_2 => (intro w9 hSw; clear hSw; go_simp; try with_reducible rfl)
    simp only [Act.put, List.setIfInBounds_toArray, List.set_cons_zero, List.set_cons_succ]
    refine wpAnyH_take (i := 5) (v := ?_) (oi := { dst := some 11, op := _, type := _, pos := _, after := _, guard := none }) rfl (by kernel_rfl) (by kernel_rfl) (by kernel_rfl) (fun _ _ _ h => h) (Or.inl ⟨by kernel_rfl, ?_⟩) (by assumption) ?_
    case refine_2 => (intro w9 hSw; clear hSw; go_simp; try with_reducible rfl)
    simp only [Act.put, List.setIfInBounds_toArray, List.set_cons_zero, List.set_cons_succ]
    refine wpAnyH_take (i := 6) (v := ?_) (oi := { dst := some 12, op := _, type := _, pos := _, after := _, guard := none }) rfl (by kernel_rfl) (by kernel_rfl) (by kernel_rfl) (fun _ _ _ h => h) (Or.inl ⟨by kernel_rfl, ?_⟩) (by assumption) ?_
    case refine_2 => (intro w9 hSw; have l0_0 := (hSw.at (w.heap.size) [.int .i64 0, .int .i64 M, .int .i64 D, .int .i64 U] (by simp)).c 0 rfl; have l0_1 := (hSw.at (w.heap.size) [.int .i64 0, .int .i64 M, .int .i64 D, .int .i64 U] (by simp)).c 1 rfl; have l0_2 := (hSw.at (w.heap.size) [.int .i64 0, .int .i64 M, .int .i64 D, .int .i64 U] (by simp)).c 2 rfl; have l0_3 := (hSw.at (w.heap.size) [.int .i64 0, .int .i64 M, .int .i64 D, .int .i64 U] (by simp)).c 3 rfl; clear hSw; go_simp; try with_reducible rfl)
    simp only [Act.put, List.setIfInBounds_toArray, List.set_cons_zero, List.set_cons_succ]
    refine wpAnyH_take (i := 7) (v := ?_) (oi := { dst := some 13, op := _, type := _, pos := _, after := _, guard := none }) rfl (by kernel_rfl) (by kernel_rfl) (by kernel_rfl) (fun _ _ _ h => h) (Or.inl ⟨by kernel_rfl, ?_⟩) (by assumption) ?_
    case refine_2 => (intro w9 hSw; clear hSw; go_simp; try with_reducible rfl)
    simp only [Act.put, List.setIfInBounds_toArray, List.set_cons_zero, List.set_cons_succ]
    refine wpAnyH_take (i := 10) (v := ?_) (oi := { dst := some 16, op := _, type := _, pos := _, after := _, guard := none }) rfl (by kernel_rfl) (by kernel_rfl) (by kernel_rfl) (fun _ _ _ h => h) (Or.inl ⟨by kernel_rfl, ?_⟩) (by assumption) ?_
    case refine_2 => (intro w9 hSw; clear hSw; go_simp; try with_reducible rfl)
    simp only [Act.put, List.setIfInBounds_toArray, List.set_cons_zero, List.set_cons_succ]
    refine wpAnyH_take (i := 11) (v := ?_) (oi := { dst := some 17, op := _, type := _, pos := _, after := _, guard := none }) rfl (by kernel_rfl) (by kernel_rfl) (by kernel_rfl) (fun _ _ _ h => h) (Or.inl ⟨by kernel_rfl, ?_⟩) (by assumption) ?_
    case refine_2 => (intro w9 hSw; have l0_0 := (hSw.at (w.heap.size) [.int .i64 0, .int .i64 M, .int .i64 D, .int .i64 U] (by simp)).c 0 rfl; have l0_1 := (hSw.at (w.heap.size) [.int .i64 0, .int .i64 M, .int .i64 D, .int .i64 U] (by simp)).c 1 rfl; have l0_2 := (hSw.at (w.heap.size) [.int .i64 0, .int .i64 M, .int .i64 D, .int .i64 U] (by simp)).c 2 rfl; have l0_3 := (hSw.at (w.heap.size) [.int .i64 0, .int .i64 M, .int .i64 D, .int .i64 U] (by simp)).c 3 rfl; clear hSw; go_simp; try with_reducible rfl)
    simp only [Act.put, List.setIfInBounds_toArray, List.set_cons_zero, List.set_cons_succ]
    refine wpAnyH_ready (rs := [3]) (by kernel_rfl) (by simp) (AllReadyH.cons (o := { dst := some 9, op := _, type := _, pos := _, after := _, guard := none }) rfl (fun K hK => ?_) AllReadyH.nil)
    go_simp
    refine (M1.out _).mono ?_
    rintro e v1 ⟨rfl, hb1⟩
    refine hK.out _ _ (hHeld.below hb1) (fun hHeld => ?_)
    clear hK K hb1
    refine wpAnyH_take (i := 4) (v := ?_) (oi := { dst := some 10, op := _, type := _, pos := _, after := _, guard := none }) rfl (by kernel_rfl) (by kernel_rfl) (by kernel_rfl) (fun _ _ _ h => h) (Or.inl ⟨by kernel_rfl, ?_⟩) (by assumption) ?_
    case refine_2 => (intro w9 hSw; clear hSw; go_simp; try with_reducible rfl)
    simp only [Act.put, List.setIfInBounds_toArray, List.set_cons_zero, List.set_cons_succ]
    refine wpAnyH_ready (rs := [8]) (by kernel_rfl) (by simp) (AllReadyH.cons (o := { dst := some 14, op := _, type := _, pos := _, after := _, guard := none }) rfl (fun K hK => ?_) AllReadyH.nil)
    go_simp
    refine (M2.out _).mono ?_
    rintro e v2 ⟨rfl, hb2⟩
    refine hK.out _ _ (hHeld.below hb2) (fun hHeld => ?_)
    clear hK K hb2
    refine wpAnyH_take (i := 9) (v := ?_) (oi := { dst := some 15, op := _, type := _, pos := _, after := _, guard := none }) rfl (by kernel_rfl) (by kernel_rfl) (by kernel_rfl) (fun _ _ _ h => h) (Or.inl ⟨by kernel_rfl, ?_⟩) (by assumption) ?_
    case refine_2 => (intro w9 hSw; clear hSw; go_simp; try with_reducible rfl)
    simp only [Act.put, List.setIfInBounds_toArray, List.set_cons_zero, List.set_cons_succ]
    refine wpAnyH_ready (rs := [12]) (by kernel_rfl) (by simp) (AllReadyH.cons (o := { dst := some 18, op := _, type := _, pos := _, after := _, guard := none }) rfl (fun K hK => ?_) AllReadyH.nil)
    go_simp
    refine (M3.out _).mono ?_
    rintro e v3 ⟨rfl, hb3⟩
    refine hK.out _ _ (hHeld.below hb3) (fun hHeld => ?_)
    clear hK K hb3
    refine wpAnyH_take (i := 13) (v := ?_) (oi := { dst := some 19, op := _, type := _, pos := _, after := _, guard := none }) rfl (by kernel_rfl) (by kernel_rfl) (by kernel_rfl) (fun _ _ _ h => h) (Or.inl ⟨by kernel_rfl, ?_⟩) (by assumption) ?_
    case refine_2 => (intro w9 hSw; clear hSw; go_simp; try with_reducible rfl)
    simp only [Act.put, List.setIfInBounds_toArray, List.set_cons_zero, List.set_cons_succ]
    refine wpAnyH_take (i := 14) (v := ?_) (oi := { dst := some 3, op := _, type := _, pos := _, after := _, guard := none }) rfl (by kernel_rfl) (by kernel_rfl) (by kernel_rfl) (fun _ _ _ h => h) (Or.inl ⟨by kernel_rfl, ?_⟩) (by assumption) ?_
    case refine_2 => (intro w9 hSw; clear hSw; go_simp; try with_reducible rfl)
    simp only [Act.put, List.setIfInBounds_toArray, List.set_cons_zero, List.set_cons_succ]
    refine wpAnyH_done (by kernel_rfl) ?_ _
    go_wp2_with fail
    go_meet
    case rel => exact ⟨rfl, hHeld⟩
  case rest =>
    obtain ⟨rfl, K1⟩ := hcut
    clear K0
    obtain ⟨c1_0_0, c1_0_1, c1_0_2, c1_0_3⟩ := (bo1 K1).c4
    go_upto_region 3 with fail
    clear c1_0_0 c1_0_1 c1_0_2 c1_0_3
    go_cut [3] (fun v0 wx => v0 = .string Y ∧ Hid (BS w [(w.heap.size, [.int .i64 0, .int .i64 M, .int .i64 D, .int .i64 U])] wx))
    case first =>
      refine wp_region_held_drew (S := BS w [(w.heap.size, [.int .i64 0, .int .i64 M, .int .i64 D, .int .i64 U])]) (by kernel_rfl) K1.out.drew (fun hHeld => ?_)
      refine wpAnyH_take (i := 0) (v := ?_) (oi := { dst := some 23, op := _, type := _, pos := _, after := _, guard := none }) rfl (by kernel_rfl) (by kernel_rfl) (by kernel_rfl) (fun _ _ _ h => h) (Or.inl ⟨by kernel_rfl, ?_⟩) (by assumption) ?_
      case refine_2 => (intro w9 hSw; clear hSw; go_simp; try with_reducible rfl)
      simp only [Act.put, List.setIfInBounds_toArray, List.set_cons_zero, List.set_cons_succ]
      refine wpAnyH_take (i := 1) (v := ?_) (oi := { dst := some 24, op := _, type := _, pos := _, after := _, guard := none }) rfl (by kernel_rfl) (by kernel_rfl) (by kernel_rfl) (fun _ _ _ h => h) (Or.inl ⟨by kernel_rfl, ?_⟩) (by assumption) ?_
      case refine_2 => (intro w9 hSw; clear hSw; go_simp; try with_reducible rfl)
      simp only [Act.put, List.setIfInBounds_toArray, List.set_cons_zero, List.set_cons_succ]
      refine wpAnyH_take (i := 2) (v := ?_) (oi := { dst := some 25, op := _, type := _, pos := _, after := _, guard := none }) rfl (by kernel_rfl) (by kernel_rfl) (by kernel_rfl) (fun _ _ _ h => h) (Or.inl ⟨by kernel_rfl, ?_⟩) (by assumption) ?_
      case refine_2 => (intro w9 hSw; clear hSw; go_simp; try with_reducible rfl)
      simp only [Act.put, List.setIfInBounds_toArray, List.set_cons_zero, List.set_cons_succ]
      refine wpAnyH_take (i := 3) (v := ?_) (oi := { dst := some 26, op := _, type := _, pos := _, after := _, guard := none }) rfl (by kernel_rfl) (by kernel_rfl) (by kernel_rfl) (fun _ _ _ h => h) (Or.inl ⟨by kernel_rfl, ?_⟩) (by assumption) ?_
      case refine_2 => (intro w9 hSw; have l0_0 := (hSw.at (w.heap.size) [.int .i64 0, .int .i64 M, .int .i64 D, .int .i64 U] (by simp)).c 0 rfl; have l0_1 := (hSw.at (w.heap.size) [.int .i64 0, .int .i64 M, .int .i64 D, .int .i64 U] (by simp)).c 1 rfl; have l0_2 := (hSw.at (w.heap.size) [.int .i64 0, .int .i64 M, .int .i64 D, .int .i64 U] (by simp)).c 2 rfl; have l0_3 := (hSw.at (w.heap.size) [.int .i64 0, .int .i64 M, .int .i64 D, .int .i64 U] (by simp)).c 3 rfl; clear hSw; go_simp; try with_reducible rfl)
      simp only [Act.put, List.setIfInBounds_toArray, List.set_cons_zero, List.set_cons_succ]
      refine wpAnyH_take (i := 4) (v := ?_) (oi := { dst := some 27, op := _, type := _, pos := _, after := _, guard := none }) rfl (by kernel_rfl) (by kernel_rfl) (by kernel_rfl) (fun _ _ _ h => h) (Or.inl ⟨by kernel_rfl, ?_⟩) (by assumption) ?_
      case refine_2 => (intro w9 hSw; clear hSw; go_simp; try with_reducible rfl)
      simp only [Act.put, List.setIfInBounds_toArray, List.set_cons_zero, List.set_cons_succ]
      refine wpAnyH_take (i := 5) (v := ?_) (oi := { dst := some 28, op := _, type := _, pos := _, after := _, guard := none }) rfl (by kernel_rfl) (by kernel_rfl) (by kernel_rfl) (fun _ _ _ h => h) (Or.inl ⟨by kernel_rfl, ?_⟩) (by assumption) ?_
      case refine_2 => (intro w9 hSw; clear hSw; go_simp; try with_reducible rfl)
      simp only [Act.put, List.setIfInBounds_toArray, List.set_cons_zero, List.set_cons_succ]
      refine wpAnyH_take (i := 8) (v := ?_) (oi := { dst := some 31, op := _, type := _, pos := _, after := _, guard := none }) rfl (by kernel_rfl) (by kernel_rfl) (by kernel_rfl) (fun _ _ _ h => h) (Or.inl ⟨by kernel_rfl, ?_⟩) (by assumption) ?_
      case refine_2 => (intro w9 hSw; clear hSw; go_simp; try with_reducible rfl)
      simp only [Act.put, List.setIfInBounds_toArray, List.set_cons_zero, List.set_cons_succ]
      refine wpAnyH_take (i := 9) (v := ?_) (oi := { dst := some 32, op := _, type := _, pos := _, after := _, guard := none }) rfl (by kernel_rfl) (by kernel_rfl) (by kernel_rfl) (fun _ _ _ h => h) (Or.inl ⟨by kernel_rfl, ?_⟩) (by assumption) ?_
      case refine_2 => (intro w9 hSw; have l0_0 := (hSw.at (w.heap.size) [.int .i64 0, .int .i64 M, .int .i64 D, .int .i64 U] (by simp)).c 0 rfl; have l0_1 := (hSw.at (w.heap.size) [.int .i64 0, .int .i64 M, .int .i64 D, .int .i64 U] (by simp)).c 1 rfl; have l0_2 := (hSw.at (w.heap.size) [.int .i64 0, .int .i64 M, .int .i64 D, .int .i64 U] (by simp)).c 2 rfl; have l0_3 := (hSw.at (w.heap.size) [.int .i64 0, .int .i64 M, .int .i64 D, .int .i64 U] (by simp)).c 3 rfl; clear hSw; go_simp; try with_reducible rfl)
      simp only [Act.put, List.setIfInBounds_toArray, List.set_cons_zero, List.set_cons_succ]
      refine wpAnyH_take (i := 10) (v := ?_) (oi := { dst := some 33, op := _, type := _, pos := _, after := _, guard := none }) rfl (by kernel_rfl) (by kernel_rfl) (by kernel_rfl) (fun _ _ _ h => h) (Or.inl ⟨by kernel_rfl, ?_⟩) (by assumption) ?_
      case refine_2 => (intro w9 hSw; clear hSw; go_simp; try with_reducible rfl)
      simp only [Act.put, List.setIfInBounds_toArray, List.set_cons_zero, List.set_cons_succ]
      refine wpAnyH_take (i := 11) (v := ?_) (oi := { dst := some 34, op := _, type := _, pos := _, after := _, guard := none }) rfl (by kernel_rfl) (by kernel_rfl) (by kernel_rfl) (fun _ _ _ h => h) (Or.inl ⟨by kernel_rfl, ?_⟩) (by assumption) ?_
      case refine_2 => (intro w9 hSw; clear hSw; go_simp; try with_reducible rfl)
      simp only [Act.put, List.setIfInBounds_toArray, List.set_cons_zero, List.set_cons_succ]
      refine wpAnyH_take (i := 12) (v := ?_) (oi := { dst := some 35, op := _, type := _, pos := _, after := _, guard := none }) rfl (by kernel_rfl) (by kernel_rfl) (by kernel_rfl) (fun _ _ _ h => h) (Or.inl ⟨by kernel_rfl, ?_⟩) (by assumption) ?_
      case refine_2 => (intro w9 hSw; clear hSw; go_simp; try with_reducible rfl)
      simp only [Act.put, List.setIfInBounds_toArray, List.set_cons_zero, List.set_cons_succ]
      refine wpAnyH_ready (rs := [6]) (by kernel_rfl) (by simp) (AllReadyH.cons (o := { dst := some 29, op := _, type := _, pos := _, after := _, guard := none }) rfl (fun K hK => ?_) AllReadyH.nil)
      go_simp
      refine (M4.out _).mono ?_
      rintro e v1 ⟨rfl, hb1⟩
      refine hK.out _ _ (hHeld.below hb1) (fun hHeld => ?_)
      clear hK K hb1
      refine wpAnyH_take (i := 7) (v := ?_) (oi := { dst := some 30, op := _, type := _, pos := _, after := _, guard := none }) rfl (by kernel_rfl) (by kernel_rfl) (by kernel_rfl) (fun _ _ _ h => h) (Or.inl ⟨by kernel_rfl, ?_⟩) (by assumption) ?_
      case refine_2 => (intro w9 hSw; clear hSw; go_simp; try with_reducible rfl)
      simp only [Act.put, List.setIfInBounds_toArray, List.set_cons_zero, List.set_cons_succ]
      refine wpAnyH_ready (rs := [13]) (by kernel_rfl) (by simp) (AllReadyH.cons (o := { dst := some 36, op := _, type := _, pos := _, after := _, guard := none }) rfl (fun K hK => ?_) AllReadyH.nil)
      go_simp
      refine (M5.out _).mono ?_
      rintro e v2 ⟨rfl, hb2⟩
      refine hK.out _ _ (hHeld.below hb2) (fun hHeld => ?_)
      clear hK K hb2
      refine wpAnyH_take (i := 14) (v := ?_) (oi := { dst := some 37, op := _, type := _, pos := _, after := _, guard := none }) rfl (by kernel_rfl) (by kernel_rfl) (by kernel_rfl) (fun _ _ _ h => h) (Or.inl ⟨by kernel_rfl, ?_⟩) (by assumption) ?_
      case refine_2 => (intro w9 hSw; clear hSw; go_simp; try with_reducible rfl)
      simp only [Act.put, List.setIfInBounds_toArray, List.set_cons_zero, List.set_cons_succ]
      refine wpAnyH_take (i := 15) (v := ?_) (oi := { dst := some 3, op := _, type := _, pos := _, after := _, guard := none }) rfl (by kernel_rfl) (by kernel_rfl) (by kernel_rfl) (fun _ _ _ h => h) (Or.inl ⟨by kernel_rfl, ?_⟩) (by assumption) ?_
      case refine_2 => (intro w9 hSw; clear hSw; go_simp; try with_reducible rfl)
      simp only [Act.put, List.setIfInBounds_toArray, List.set_cons_zero, List.set_cons_succ]
      refine wpAnyH_done (by kernel_rfl) ?_ _
      go_wp2_with fail
      go_meet
      case rel => exact ⟨rfl, hHeld⟩
    case rest =>
      obtain ⟨rfl, K2⟩ := hcut
      clear K1
      obtain ⟨c2_0_0, c2_0_1, c2_0_2, c2_0_3⟩ := (bo1 K2).c4
      go_wp2_with fail
      refine (SZ.out _).mono ?_
      rintro e W3 ⟨rfl, hb⟩
      have K3 := bsb K2 hb
      clear c2_0_0 c2_0_1 c2_0_2 c2_0_3
      clear hb K2
      obtain ⟨c3_0_0, c3_0_1, c3_0_2, c3_0_3⟩ := (bo1 K3).c4
      go_wp2
      go_ret
      exact ⟨rfl, K3.out.1⟩


set_option maxRecDepth 100000 in
set_option maxHeartbeats 4000000 in
theorem riso_tn (M D U y m Q h q mi us u : Int) (T1 T2 T3 X T4 T5 Y A F : ByteArray) (hy : M.tdiv 12 = y) (hm : M.tmod 12 = m) (y1 : -9223372036854775808 ≤ y) (y9 : y ≤ 9223372036854775807) (m1 : -9223372036854775808 ≤ m) (m9 : m ≤ 9223372036854775807) (hX : (⟨#[80]⟩ : ByteArray) ++ T1 ++ T2 ++ T3 = X) (zT1 : T1.size ≤ 300) (zT2 : T2.size ≤ 300) (zT3 : T3.size ≤ 300) (zX : X.size ≤ 300) (hU : U ≠ 0) (g1 : U.tdiv 1000000 = Q) (hh : Q.tdiv 3600 = h) (hq : Q.tdiv 60 = q) (hi : q.tmod 60 = mi) (hu : U.tmod 60000000 = us) (Q1 : -9223372036854775808 ≤ Q) (Q9 : Q ≤ 9223372036854775807) (h1 : -9223372036854775808 ≤ h) (h9 : h ≤ 9223372036854775807) (q1 : -9223372036854775808 ≤ q) (q9 : q ≤ 9223372036854775807) (mi1 : -9223372036854775808 ≤ mi) (mi9 : mi ≤ 9223372036854775807) (us1 : -9223372036854775808 ≤ us) (us9 : us ≤ 9223372036854775807) (hY : X ++ ⟨#[84]⟩ ++ T4 ++ T5 = Y) (zT4 : T4.size ≤ 300) (zT5 : T5.size ≤ 300) (zY : Y.size ≤ 300) (zA : A.size ≤ 300) (zF : F.size ≤ 300) (u0 : 0 ≤ u) (u9' : u ≤ 9223372036854775807) (hn : u ≠ 0) (hE : ((Y ++ ⟨#[45]⟩ ++ A ++ F ++ ⟨#[83]⟩).toList == [80]) = false)
    (M1 : Hid (∀ w : World, Calls Tryd.prog 38 #[.int .i64 y, .string ⟨#[89]⟩] w fun r' w' => r' = .returned (.string T1) ∧ Below w.heap.size w w'))
    (M2 : Hid (∀ w : World, Calls Tryd.prog 38 #[.int .i64 m, .string ⟨#[77]⟩] w fun r' w' => r' = .returned (.string T2) ∧ Below w.heap.size w w'))
    (M3 : Hid (∀ w : World, Calls Tryd.prog 38 #[.int .i64 D, .string ⟨#[68]⟩] w fun r' w' => r' = .returned (.string T3) ∧ Below w.heap.size w w'))
    (M4 : Hid (∀ w : World, Calls Tryd.prog 38 #[.int .i64 h, .string ⟨#[72]⟩] w fun r' w' => r' = .returned (.string T4) ∧ Below w.heap.size w w'))
    (M5 : Hid (∀ w : World, Calls Tryd.prog 38 #[.int .i64 mi, .string ⟨#[77]⟩] w fun r' w' => r' = .returned (.string T5) ∧ Below w.heap.size w w'))
    (SZ : Hid (∀ w : World, Calls Tryd.prog 34 #[.int .i64 us] w fun r' w' => r' = .returned (.tuple #[.int .i64 u, .string ⟨#[45]⟩]) ∧ Below w.heap.size w w'))
    (DG : Hid (∀ w : World, Calls Tryd.prog 35 #[.int .i64 (u / 1000000)] w fun r' w' => r' = .returned (.string A) ∧ Below w.heap.size w w'))
    (FR : Hid (∀ w : World, Calls Tryd.prog 37 #[.int .i64 (u % 1000000)] w fun r' w' => r' = .returned (.string F) ∧ Below w.heap.size w w'))
    (w : World) :
    Calls Tryd.prog 17 #[.agg #[.int .i64 0, .int .i64 M, .int .i64 D, .int .i64 U]] w fun r' w' => r' = .returned (.string (Y ++ ⟨#[45]⟩ ++ A ++ F ++ ⟨#[83]⟩)) ∧ Below w.heap.size w w' := by
  have w_y : IntKind.i64.wrap y = y := by rw [IntKind.wrap_i64]; omega
  have w_m : IntKind.i64.wrap m = m := by rw [IntKind.wrap_i64]; omega
  have c1 : ¬ 9223372036854775807 < 1 + T1.size := by omega
  have c2 : ¬ 9223372036854775807 < 1 + T1.size + T2.size := by omega
  have c3 : ¬ 9223372036854775807 < 1 + T1.size + T2.size + T3.size := by omega
  have c4 : ¬ 9223372036854775807 < X.size + 1 := by omega
  have c5 : ¬ 9223372036854775807 < X.size + 1 + T4.size := by omega
  have c6 : ¬ 9223372036854775807 < X.size + 1 + T4.size + T5.size := by omega
  have w_Q : IntKind.i64.wrap Q = Q := by rw [IntKind.wrap_i64]; omega
  have w_h : IntKind.i64.wrap h = h := by rw [IntKind.wrap_i64]; omega
  have w_q : IntKind.i64.wrap q = q := by rw [IntKind.wrap_i64]; omega
  have w_mi : IntKind.i64.wrap mi = mi := by rw [IntKind.wrap_i64]; omega
  have w_us : IntKind.i64.wrap us = us := by rw [IntKind.wrap_i64]; omega
  have n1 : (U != 0) = true := bne_iff_ne.2 hU
  have n2 : (u != 0) = true := bne_iff_ne.2 hn
  have K0 : Hid (BS w [(w.heap.size, [.int .i64 0, .int .i64 M, .int .i64 D, .int .i64 U])] (w.alloc (.cells #[.int .i64 0, .int .i64 M, .int .i64 D, .int .i64 U] 23))) := ((BS.start w).new [.int .i64 0, .int .i64 M, .int .i64 D, .int .i64 U] 23 rfl)
  go_enter Tryd.func17, Tryd.ntmps17
  go_upto_region 1 with fail
  refine bs_to K0 ?_
  clear K0
  intro W0 K0
  go_cut [3] (fun v0 wx => v0 = .string X ∧ Hid (BS w [(w.heap.size, [.int .i64 0, .int .i64 M, .int .i64 D, .int .i64 U])] wx))
  case first =>
    refine wp_region_held_drew (S := BS w [(w.heap.size, [.int .i64 0, .int .i64 M, .int .i64 D, .int .i64 U])]) (by kernel_rfl) K0.out.drew (fun hHeld => ?_)
    refine wpAnyH_take (i := 0) (v := ?_) (oi := { dst := some 6, op := _, type := _, pos := _, after := _, guard := none }) rfl (by kernel_rfl) (by kernel_rfl) (by kernel_rfl) (fun _ _ _ h => h) (Or.inl ⟨by kernel_rfl, ?_⟩) (by assumption) ?_
    case refine_2 => (intro w9 hSw; clear hSw; go_simp; try with_reducible rfl)
    simp only [Act.put, List.setIfInBounds_toArray, List.set_cons_zero, List.set_cons_succ]
    refine wpAnyH_take (i := 1) (v := ?_) (oi := { dst := some 7, op := _, type := _, pos := _, after := _, guard := none }) rfl (by kernel_rfl) (by kernel_rfl) (by kernel_rfl) (fun _ _ _ h => h) (Or.inl ⟨by kernel_rfl, ?_⟩) (by assumption) ?_
    case refine_2 => (intro w9 hSw; have l0_0 := (hSw.at (w.heap.size) [.int .i64 0, .int .i64 M, .int .i64 D, .int .i64 U] (by simp)).c 0 rfl; have l0_1 := (hSw.at (w.heap.size) [.int .i64 0, .int .i64 M, .int .i64 D, .int .i64 U] (by simp)).c 1 rfl; have l0_2 := (hSw.at (w.heap.size) [.int .i64 0, .int .i64 M, .int .i64 D, .int .i64 U] (by simp)).c 2 rfl; have l0_3 := (hSw.at (w.heap.size) [.int .i64 0, .int .i64 M, .int .i64 D, .int .i64 U] (by simp)).c 3 rfl; clear hSw; go_simp; try with_reducible rfl)
    simp only [Act.put, List.setIfInBounds_toArray, List.set_cons_zero, List.set_cons_succ]
    refine wpAnyH_take (i := 2) (v := ?_) (oi := { dst := some 8, op := _, type := _, pos := _, after := _, guard := none }) rfl (by kernel_rfl) (by kernel_rfl) (by kernel_rfl) (fun _ _ _ h => h) (Or.inl ⟨by kernel_rfl, ?_⟩) (by assumption) ?_
    case refine_2 => (intro w9 hSw; clear hSw; go_simp; try with_reducible rfl)
    simp only [Act.put, List.setIfInBounds_toArray, List.set_cons_zero, List.set_cons_succ]
    refine wpAnyH_take (i := 5) (v := ?_) (oi := { dst := some 11, op := _, type := _, pos := _, after := _, guard := none }) rfl (by kernel_rfl) (by kernel_rfl) (by kernel_rfl) (fun _ _ _ h => h) (Or.inl ⟨by kernel_rfl, ?_⟩) (by assumption) ?_
    case refine_2 => (intro w9 hSw; clear hSw; go_simp; try with_reducible rfl)
    simp only [Act.put, List.setIfInBounds_toArray, List.set_cons_zero, List.set_cons_succ]
    refine wpAnyH_take (i := 6) (v := ?_) (oi := { dst := some 12, op := _, type := _, pos := _, after := _, guard := none }) rfl (by kernel_rfl) (by kernel_rfl) (by kernel_rfl) (fun _ _ _ h => h) (Or.inl ⟨by kernel_rfl, ?_⟩) (by assumption) ?_
    case refine_2 => (intro w9 hSw; have l0_0 := (hSw.at (w.heap.size) [.int .i64 0, .int .i64 M, .int .i64 D, .int .i64 U] (by simp)).c 0 rfl; have l0_1 := (hSw.at (w.heap.size) [.int .i64 0, .int .i64 M, .int .i64 D, .int .i64 U] (by simp)).c 1 rfl; have l0_2 := (hSw.at (w.heap.size) [.int .i64 0, .int .i64 M, .int .i64 D, .int .i64 U] (by simp)).c 2 rfl; have l0_3 := (hSw.at (w.heap.size) [.int .i64 0, .int .i64 M, .int .i64 D, .int .i64 U] (by simp)).c 3 rfl; clear hSw; go_simp; try with_reducible rfl)
    simp only [Act.put, List.setIfInBounds_toArray, List.set_cons_zero, List.set_cons_succ]
    refine wpAnyH_take (i := 7) (v := ?_) (oi := { dst := some 13, op := _, type := _, pos := _, after := _, guard := none }) rfl (by kernel_rfl) (by kernel_rfl) (by kernel_rfl) (fun _ _ _ h => h) (Or.inl ⟨by kernel_rfl, ?_⟩) (by assumption) ?_
    case refine_2 => (intro w9 hSw; clear hSw; go_simp; try with_reducible rfl)
    simp only [Act.put, List.setIfInBounds_toArray, List.set_cons_zero, List.set_cons_succ]
    refine wpAnyH_take (i := 10) (v := ?_) (oi := { dst := some 16, op := _, type := _, pos := _, after := _, guard := none }) rfl (by kernel_rfl) (by kernel_rfl) (by kernel_rfl) (fun _ _ _ h => h) (Or.inl ⟨by kernel_rfl, ?_⟩) (by assumption) ?_
    case refine_2 => (intro w9 hSw; clear hSw; go_simp; try with_reducible rfl)
    simp only [Act.put, List.setIfInBounds_toArray, List.set_cons_zero, List.set_cons_succ]
    refine wpAnyH_take (i := 11) (v := ?_) (oi := { dst := some 17, op := _, type := _, pos := _, after := _, guard := none }) rfl (by kernel_rfl) (by kernel_rfl) (by kernel_rfl) (fun _ _ _ h => h) (Or.inl ⟨by kernel_rfl, ?_⟩) (by assumption) ?_
    case refine_2 => (intro w9 hSw; have l0_0 := (hSw.at (w.heap.size) [.int .i64 0, .int .i64 M, .int .i64 D, .int .i64 U] (by simp)).c 0 rfl; have l0_1 := (hSw.at (w.heap.size) [.int .i64 0, .int .i64 M, .int .i64 D, .int .i64 U] (by simp)).c 1 rfl; have l0_2 := (hSw.at (w.heap.size) [.int .i64 0, .int .i64 M, .int .i64 D, .int .i64 U] (by simp)).c 2 rfl; have l0_3 := (hSw.at (w.heap.size) [.int .i64 0, .int .i64 M, .int .i64 D, .int .i64 U] (by simp)).c 3 rfl; clear hSw; go_simp; try with_reducible rfl)
    simp only [Act.put, List.setIfInBounds_toArray, List.set_cons_zero, List.set_cons_succ]
    refine wpAnyH_ready (rs := [3]) (by kernel_rfl) (by simp) (AllReadyH.cons (o := { dst := some 9, op := _, type := _, pos := _, after := _, guard := none }) rfl (fun K hK => ?_) AllReadyH.nil)
    go_simp
    refine (M1.out _).mono ?_
    rintro e v1 ⟨rfl, hb1⟩
    refine hK.out _ _ (hHeld.below hb1) (fun hHeld => ?_)
    clear hK K hb1
    refine wpAnyH_take (i := 4) (v := ?_) (oi := { dst := some 10, op := _, type := _, pos := _, after := _, guard := none }) rfl (by kernel_rfl) (by kernel_rfl) (by kernel_rfl) (fun _ _ _ h => h) (Or.inl ⟨by kernel_rfl, ?_⟩) (by assumption) ?_
    case refine_2 => (intro w9 hSw; clear hSw; go_simp; try with_reducible rfl)
    simp only [Act.put, List.setIfInBounds_toArray, List.set_cons_zero, List.set_cons_succ]
    refine wpAnyH_ready (rs := [8]) (by kernel_rfl) (by simp) (AllReadyH.cons (o := { dst := some 14, op := _, type := _, pos := _, after := _, guard := none }) rfl (fun K hK => ?_) AllReadyH.nil)
    go_simp
    refine (M2.out _).mono ?_
    rintro e v2 ⟨rfl, hb2⟩
    refine hK.out _ _ (hHeld.below hb2) (fun hHeld => ?_)
    clear hK K hb2
    refine wpAnyH_take (i := 9) (v := ?_) (oi := { dst := some 15, op := _, type := _, pos := _, after := _, guard := none }) rfl (by kernel_rfl) (by kernel_rfl) (by kernel_rfl) (fun _ _ _ h => h) (Or.inl ⟨by kernel_rfl, ?_⟩) (by assumption) ?_
    case refine_2 => (intro w9 hSw; clear hSw; go_simp; try with_reducible rfl)
    simp only [Act.put, List.setIfInBounds_toArray, List.set_cons_zero, List.set_cons_succ]
    refine wpAnyH_ready (rs := [12]) (by kernel_rfl) (by simp) (AllReadyH.cons (o := { dst := some 18, op := _, type := _, pos := _, after := _, guard := none }) rfl (fun K hK => ?_) AllReadyH.nil)
    go_simp
    refine (M3.out _).mono ?_
    rintro e v3 ⟨rfl, hb3⟩
    refine hK.out _ _ (hHeld.below hb3) (fun hHeld => ?_)
    clear hK K hb3
    refine wpAnyH_take (i := 13) (v := ?_) (oi := { dst := some 19, op := _, type := _, pos := _, after := _, guard := none }) rfl (by kernel_rfl) (by kernel_rfl) (by kernel_rfl) (fun _ _ _ h => h) (Or.inl ⟨by kernel_rfl, ?_⟩) (by assumption) ?_
    case refine_2 => (intro w9 hSw; clear hSw; go_simp; try with_reducible rfl)
    simp only [Act.put, List.setIfInBounds_toArray, List.set_cons_zero, List.set_cons_succ]
    refine wpAnyH_take (i := 14) (v := ?_) (oi := { dst := some 3, op := _, type := _, pos := _, after := _, guard := none }) rfl (by kernel_rfl) (by kernel_rfl) (by kernel_rfl) (fun _ _ _ h => h) (Or.inl ⟨by kernel_rfl, ?_⟩) (by assumption) ?_
    case refine_2 => (intro w9 hSw; clear hSw; go_simp; try with_reducible rfl)
    simp only [Act.put, List.setIfInBounds_toArray, List.set_cons_zero, List.set_cons_succ]
    refine wpAnyH_done (by kernel_rfl) ?_ _
    go_wp2_with fail
    go_meet
    case rel => exact ⟨rfl, hHeld⟩
  case rest =>
    obtain ⟨rfl, K1⟩ := hcut
    clear K0
    obtain ⟨c1_0_0, c1_0_1, c1_0_2, c1_0_3⟩ := (bo1 K1).c4
    go_upto_region 3 with fail
    clear c1_0_0 c1_0_1 c1_0_2 c1_0_3
    go_cut [3] (fun v0 wx => v0 = .string Y ∧ Hid (BS w [(w.heap.size, [.int .i64 0, .int .i64 M, .int .i64 D, .int .i64 U])] wx))
    case first =>
      refine wp_region_held_drew (S := BS w [(w.heap.size, [.int .i64 0, .int .i64 M, .int .i64 D, .int .i64 U])]) (by kernel_rfl) K1.out.drew (fun hHeld => ?_)
      refine wpAnyH_take (i := 0) (v := ?_) (oi := { dst := some 23, op := _, type := _, pos := _, after := _, guard := none }) rfl (by kernel_rfl) (by kernel_rfl) (by kernel_rfl) (fun _ _ _ h => h) (Or.inl ⟨by kernel_rfl, ?_⟩) (by assumption) ?_
      case refine_2 => (intro w9 hSw; clear hSw; go_simp; try with_reducible rfl)
      simp only [Act.put, List.setIfInBounds_toArray, List.set_cons_zero, List.set_cons_succ]
      refine wpAnyH_take (i := 1) (v := ?_) (oi := { dst := some 24, op := _, type := _, pos := _, after := _, guard := none }) rfl (by kernel_rfl) (by kernel_rfl) (by kernel_rfl) (fun _ _ _ h => h) (Or.inl ⟨by kernel_rfl, ?_⟩) (by assumption) ?_
      case refine_2 => (intro w9 hSw; clear hSw; go_simp; try with_reducible rfl)
      simp only [Act.put, List.setIfInBounds_toArray, List.set_cons_zero, List.set_cons_succ]
      refine wpAnyH_take (i := 2) (v := ?_) (oi := { dst := some 25, op := _, type := _, pos := _, after := _, guard := none }) rfl (by kernel_rfl) (by kernel_rfl) (by kernel_rfl) (fun _ _ _ h => h) (Or.inl ⟨by kernel_rfl, ?_⟩) (by assumption) ?_
      case refine_2 => (intro w9 hSw; clear hSw; go_simp; try with_reducible rfl)
      simp only [Act.put, List.setIfInBounds_toArray, List.set_cons_zero, List.set_cons_succ]
      refine wpAnyH_take (i := 3) (v := ?_) (oi := { dst := some 26, op := _, type := _, pos := _, after := _, guard := none }) rfl (by kernel_rfl) (by kernel_rfl) (by kernel_rfl) (fun _ _ _ h => h) (Or.inl ⟨by kernel_rfl, ?_⟩) (by assumption) ?_
      case refine_2 => (intro w9 hSw; have l0_0 := (hSw.at (w.heap.size) [.int .i64 0, .int .i64 M, .int .i64 D, .int .i64 U] (by simp)).c 0 rfl; have l0_1 := (hSw.at (w.heap.size) [.int .i64 0, .int .i64 M, .int .i64 D, .int .i64 U] (by simp)).c 1 rfl; have l0_2 := (hSw.at (w.heap.size) [.int .i64 0, .int .i64 M, .int .i64 D, .int .i64 U] (by simp)).c 2 rfl; have l0_3 := (hSw.at (w.heap.size) [.int .i64 0, .int .i64 M, .int .i64 D, .int .i64 U] (by simp)).c 3 rfl; clear hSw; go_simp; try with_reducible rfl)
      simp only [Act.put, List.setIfInBounds_toArray, List.set_cons_zero, List.set_cons_succ]
      refine wpAnyH_take (i := 4) (v := ?_) (oi := { dst := some 27, op := _, type := _, pos := _, after := _, guard := none }) rfl (by kernel_rfl) (by kernel_rfl) (by kernel_rfl) (fun _ _ _ h => h) (Or.inl ⟨by kernel_rfl, ?_⟩) (by assumption) ?_
      case refine_2 => (intro w9 hSw; clear hSw; go_simp; try with_reducible rfl)
      simp only [Act.put, List.setIfInBounds_toArray, List.set_cons_zero, List.set_cons_succ]
      refine wpAnyH_take (i := 5) (v := ?_) (oi := { dst := some 28, op := _, type := _, pos := _, after := _, guard := none }) rfl (by kernel_rfl) (by kernel_rfl) (by kernel_rfl) (fun _ _ _ h => h) (Or.inl ⟨by kernel_rfl, ?_⟩) (by assumption) ?_
      case refine_2 => (intro w9 hSw; clear hSw; go_simp; try with_reducible rfl)
      simp only [Act.put, List.setIfInBounds_toArray, List.set_cons_zero, List.set_cons_succ]
      refine wpAnyH_take (i := 8) (v := ?_) (oi := { dst := some 31, op := _, type := _, pos := _, after := _, guard := none }) rfl (by kernel_rfl) (by kernel_rfl) (by kernel_rfl) (fun _ _ _ h => h) (Or.inl ⟨by kernel_rfl, ?_⟩) (by assumption) ?_
      case refine_2 => (intro w9 hSw; clear hSw; go_simp; try with_reducible rfl)
      simp only [Act.put, List.setIfInBounds_toArray, List.set_cons_zero, List.set_cons_succ]
      refine wpAnyH_take (i := 9) (v := ?_) (oi := { dst := some 32, op := _, type := _, pos := _, after := _, guard := none }) rfl (by kernel_rfl) (by kernel_rfl) (by kernel_rfl) (fun _ _ _ h => h) (Or.inl ⟨by kernel_rfl, ?_⟩) (by assumption) ?_
      case refine_2 => (intro w9 hSw; have l0_0 := (hSw.at (w.heap.size) [.int .i64 0, .int .i64 M, .int .i64 D, .int .i64 U] (by simp)).c 0 rfl; have l0_1 := (hSw.at (w.heap.size) [.int .i64 0, .int .i64 M, .int .i64 D, .int .i64 U] (by simp)).c 1 rfl; have l0_2 := (hSw.at (w.heap.size) [.int .i64 0, .int .i64 M, .int .i64 D, .int .i64 U] (by simp)).c 2 rfl; have l0_3 := (hSw.at (w.heap.size) [.int .i64 0, .int .i64 M, .int .i64 D, .int .i64 U] (by simp)).c 3 rfl; clear hSw; go_simp; try with_reducible rfl)
      simp only [Act.put, List.setIfInBounds_toArray, List.set_cons_zero, List.set_cons_succ]
      refine wpAnyH_take (i := 10) (v := ?_) (oi := { dst := some 33, op := _, type := _, pos := _, after := _, guard := none }) rfl (by kernel_rfl) (by kernel_rfl) (by kernel_rfl) (fun _ _ _ h => h) (Or.inl ⟨by kernel_rfl, ?_⟩) (by assumption) ?_
      case refine_2 => (intro w9 hSw; clear hSw; go_simp; try with_reducible rfl)
      simp only [Act.put, List.setIfInBounds_toArray, List.set_cons_zero, List.set_cons_succ]
      refine wpAnyH_take (i := 11) (v := ?_) (oi := { dst := some 34, op := _, type := _, pos := _, after := _, guard := none }) rfl (by kernel_rfl) (by kernel_rfl) (by kernel_rfl) (fun _ _ _ h => h) (Or.inl ⟨by kernel_rfl, ?_⟩) (by assumption) ?_
      case refine_2 => (intro w9 hSw; clear hSw; go_simp; try with_reducible rfl)
      simp only [Act.put, List.setIfInBounds_toArray, List.set_cons_zero, List.set_cons_succ]
      refine wpAnyH_take (i := 12) (v := ?_) (oi := { dst := some 35, op := _, type := _, pos := _, after := _, guard := none }) rfl (by kernel_rfl) (by kernel_rfl) (by kernel_rfl) (fun _ _ _ h => h) (Or.inl ⟨by kernel_rfl, ?_⟩) (by assumption) ?_
      case refine_2 => (intro w9 hSw; clear hSw; go_simp; try with_reducible rfl)
      simp only [Act.put, List.setIfInBounds_toArray, List.set_cons_zero, List.set_cons_succ]
      refine wpAnyH_ready (rs := [6]) (by kernel_rfl) (by simp) (AllReadyH.cons (o := { dst := some 29, op := _, type := _, pos := _, after := _, guard := none }) rfl (fun K hK => ?_) AllReadyH.nil)
      go_simp
      refine (M4.out _).mono ?_
      rintro e v1 ⟨rfl, hb1⟩
      refine hK.out _ _ (hHeld.below hb1) (fun hHeld => ?_)
      clear hK K hb1
      refine wpAnyH_take (i := 7) (v := ?_) (oi := { dst := some 30, op := _, type := _, pos := _, after := _, guard := none }) rfl (by kernel_rfl) (by kernel_rfl) (by kernel_rfl) (fun _ _ _ h => h) (Or.inl ⟨by kernel_rfl, ?_⟩) (by assumption) ?_
      case refine_2 => (intro w9 hSw; clear hSw; go_simp; try with_reducible rfl)
      simp only [Act.put, List.setIfInBounds_toArray, List.set_cons_zero, List.set_cons_succ]
      refine wpAnyH_ready (rs := [13]) (by kernel_rfl) (by simp) (AllReadyH.cons (o := { dst := some 36, op := _, type := _, pos := _, after := _, guard := none }) rfl (fun K hK => ?_) AllReadyH.nil)
      go_simp
      refine (M5.out _).mono ?_
      rintro e v2 ⟨rfl, hb2⟩
      refine hK.out _ _ (hHeld.below hb2) (fun hHeld => ?_)
      clear hK K hb2
      refine wpAnyH_take (i := 14) (v := ?_) (oi := { dst := some 37, op := _, type := _, pos := _, after := _, guard := none }) rfl (by kernel_rfl) (by kernel_rfl) (by kernel_rfl) (fun _ _ _ h => h) (Or.inl ⟨by kernel_rfl, ?_⟩) (by assumption) ?_
      case refine_2 => (intro w9 hSw; clear hSw; go_simp; try with_reducible rfl)
      simp only [Act.put, List.setIfInBounds_toArray, List.set_cons_zero, List.set_cons_succ]
      refine wpAnyH_take (i := 15) (v := ?_) (oi := { dst := some 3, op := _, type := _, pos := _, after := _, guard := none }) rfl (by kernel_rfl) (by kernel_rfl) (by kernel_rfl) (fun _ _ _ h => h) (Or.inl ⟨by kernel_rfl, ?_⟩) (by assumption) ?_
      case refine_2 => (intro w9 hSw; clear hSw; go_simp; try with_reducible rfl)
      simp only [Act.put, List.setIfInBounds_toArray, List.set_cons_zero, List.set_cons_succ]
      refine wpAnyH_done (by kernel_rfl) ?_ _
      go_wp2_with fail
      go_meet
      case rel => exact ⟨rfl, hHeld⟩
    case rest =>
      obtain ⟨rfl, K2⟩ := hcut
      clear K1
      obtain ⟨c2_0_0, c2_0_1, c2_0_2, c2_0_3⟩ := (bo1 K2).c4
      go_wp2_with fail
      refine (SZ.out _).mono ?_
      rintro e W3 ⟨rfl, hb⟩
      have K3 := bsb K2 hb
      clear c2_0_0 c2_0_1 c2_0_2 c2_0_3
      clear hb K2
      obtain ⟨c3_0_0, c3_0_1, c3_0_2, c3_0_3⟩ := (bo1 K3).c4
      go_wp2_with fail
      refine (DG.out _).mono ?_
      rintro e W4 ⟨rfl, hb⟩
      have K4 := bsb K3 hb
      clear c3_0_0 c3_0_1 c3_0_2 c3_0_3
      clear hb K3
      obtain ⟨c4_0_0, c4_0_1, c4_0_2, c4_0_3⟩ := (bo1 K4).c4
      go_wp2_with fail
      refine (FR.out _).mono ?_
      rintro e W5 ⟨rfl, hb⟩
      have K5 := bsb K4 hb
      clear c4_0_0 c4_0_1 c4_0_2 c4_0_3
      clear hb K4
      obtain ⟨c5_0_0, c5_0_1, c5_0_2, c5_0_3⟩ := (bo1 K5).c4
      go_wp2
      go_ret
      exact ⟨rfl, K5.out.1⟩


set_option maxRecDepth 100000 in
set_option maxHeartbeats 4000000 in
theorem riso_tp (M D U y m Q h q mi us u : Int) (T1 T2 T3 X T4 T5 Y A F : ByteArray) (hy : M.tdiv 12 = y) (hm : M.tmod 12 = m) (y1 : -9223372036854775808 ≤ y) (y9 : y ≤ 9223372036854775807) (m1 : -9223372036854775808 ≤ m) (m9 : m ≤ 9223372036854775807) (hX : (⟨#[80]⟩ : ByteArray) ++ T1 ++ T2 ++ T3 = X) (zT1 : T1.size ≤ 300) (zT2 : T2.size ≤ 300) (zT3 : T3.size ≤ 300) (zX : X.size ≤ 300) (hU : U ≠ 0) (g1 : U.tdiv 1000000 = Q) (hh : Q.tdiv 3600 = h) (hq : Q.tdiv 60 = q) (hi : q.tmod 60 = mi) (hu : U.tmod 60000000 = us) (Q1 : -9223372036854775808 ≤ Q) (Q9 : Q ≤ 9223372036854775807) (h1 : -9223372036854775808 ≤ h) (h9 : h ≤ 9223372036854775807) (q1 : -9223372036854775808 ≤ q) (q9 : q ≤ 9223372036854775807) (mi1 : -9223372036854775808 ≤ mi) (mi9 : mi ≤ 9223372036854775807) (us1 : -9223372036854775808 ≤ us) (us9 : us ≤ 9223372036854775807) (hY : X ++ ⟨#[84]⟩ ++ T4 ++ T5 = Y) (zT4 : T4.size ≤ 300) (zT5 : T5.size ≤ 300) (zY : Y.size ≤ 300) (zA : A.size ≤ 300) (zF : F.size ≤ 300) (u0 : 0 ≤ u) (u9' : u ≤ 9223372036854775807) (hn : u ≠ 0) (hE : ((Y ++ A ++ F ++ ⟨#[83]⟩).toList == [80]) = false)
    (M1 : Hid (∀ w : World, Calls Tryd.prog 38 #[.int .i64 y, .string ⟨#[89]⟩] w fun r' w' => r' = .returned (.string T1) ∧ Below w.heap.size w w'))
    (M2 : Hid (∀ w : World, Calls Tryd.prog 38 #[.int .i64 m, .string ⟨#[77]⟩] w fun r' w' => r' = .returned (.string T2) ∧ Below w.heap.size w w'))
    (M3 : Hid (∀ w : World, Calls Tryd.prog 38 #[.int .i64 D, .string ⟨#[68]⟩] w fun r' w' => r' = .returned (.string T3) ∧ Below w.heap.size w w'))
    (M4 : Hid (∀ w : World, Calls Tryd.prog 38 #[.int .i64 h, .string ⟨#[72]⟩] w fun r' w' => r' = .returned (.string T4) ∧ Below w.heap.size w w'))
    (M5 : Hid (∀ w : World, Calls Tryd.prog 38 #[.int .i64 mi, .string ⟨#[77]⟩] w fun r' w' => r' = .returned (.string T5) ∧ Below w.heap.size w w'))
    (SZ : Hid (∀ w : World, Calls Tryd.prog 34 #[.int .i64 us] w fun r' w' => r' = .returned (.tuple #[.int .i64 u, .string ⟨#[43]⟩]) ∧ Below w.heap.size w w'))
    (DG : Hid (∀ w : World, Calls Tryd.prog 35 #[.int .i64 (u / 1000000)] w fun r' w' => r' = .returned (.string A) ∧ Below w.heap.size w w'))
    (FR : Hid (∀ w : World, Calls Tryd.prog 37 #[.int .i64 (u % 1000000)] w fun r' w' => r' = .returned (.string F) ∧ Below w.heap.size w w'))
    (w : World) :
    Calls Tryd.prog 17 #[.agg #[.int .i64 0, .int .i64 M, .int .i64 D, .int .i64 U]] w fun r' w' => r' = .returned (.string (Y ++ A ++ F ++ ⟨#[83]⟩)) ∧ Below w.heap.size w w' := by
  have w_y : IntKind.i64.wrap y = y := by rw [IntKind.wrap_i64]; omega
  have w_m : IntKind.i64.wrap m = m := by rw [IntKind.wrap_i64]; omega
  have c1 : ¬ 9223372036854775807 < 1 + T1.size := by omega
  have c2 : ¬ 9223372036854775807 < 1 + T1.size + T2.size := by omega
  have c3 : ¬ 9223372036854775807 < 1 + T1.size + T2.size + T3.size := by omega
  have c4 : ¬ 9223372036854775807 < X.size + 1 := by omega
  have c5 : ¬ 9223372036854775807 < X.size + 1 + T4.size := by omega
  have c6 : ¬ 9223372036854775807 < X.size + 1 + T4.size + T5.size := by omega
  have w_Q : IntKind.i64.wrap Q = Q := by rw [IntKind.wrap_i64]; omega
  have w_h : IntKind.i64.wrap h = h := by rw [IntKind.wrap_i64]; omega
  have w_q : IntKind.i64.wrap q = q := by rw [IntKind.wrap_i64]; omega
  have w_mi : IntKind.i64.wrap mi = mi := by rw [IntKind.wrap_i64]; omega
  have w_us : IntKind.i64.wrap us = us := by rw [IntKind.wrap_i64]; omega
  have n1 : (U != 0) = true := bne_iff_ne.2 hU
  have n2 : (u != 0) = true := bne_iff_ne.2 hn
  have K0 : Hid (BS w [(w.heap.size, [.int .i64 0, .int .i64 M, .int .i64 D, .int .i64 U])] (w.alloc (.cells #[.int .i64 0, .int .i64 M, .int .i64 D, .int .i64 U] 23))) := ((BS.start w).new [.int .i64 0, .int .i64 M, .int .i64 D, .int .i64 U] 23 rfl)
  go_enter Tryd.func17, Tryd.ntmps17
  go_upto_region 1 with fail
  refine bs_to K0 ?_
  clear K0
  intro W0 K0
  go_cut [3] (fun v0 wx => v0 = .string X ∧ Hid (BS w [(w.heap.size, [.int .i64 0, .int .i64 M, .int .i64 D, .int .i64 U])] wx))
  case first =>
    refine wp_region_held_drew (S := BS w [(w.heap.size, [.int .i64 0, .int .i64 M, .int .i64 D, .int .i64 U])]) (by kernel_rfl) K0.out.drew (fun hHeld => ?_)
    refine wpAnyH_take (i := 0) (v := ?_) (oi := { dst := some 6, op := _, type := _, pos := _, after := _, guard := none }) rfl (by kernel_rfl) (by kernel_rfl) (by kernel_rfl) (fun _ _ _ h => h) (Or.inl ⟨by kernel_rfl, ?_⟩) (by assumption) ?_
    case refine_2 => (intro w9 hSw; clear hSw; go_simp; try with_reducible rfl)
    simp only [Act.put, List.setIfInBounds_toArray, List.set_cons_zero, List.set_cons_succ]
    refine wpAnyH_take (i := 1) (v := ?_) (oi := { dst := some 7, op := _, type := _, pos := _, after := _, guard := none }) rfl (by kernel_rfl) (by kernel_rfl) (by kernel_rfl) (fun _ _ _ h => h) (Or.inl ⟨by kernel_rfl, ?_⟩) (by assumption) ?_
    case refine_2 => (intro w9 hSw; have l0_0 := (hSw.at (w.heap.size) [.int .i64 0, .int .i64 M, .int .i64 D, .int .i64 U] (by simp)).c 0 rfl; have l0_1 := (hSw.at (w.heap.size) [.int .i64 0, .int .i64 M, .int .i64 D, .int .i64 U] (by simp)).c 1 rfl; have l0_2 := (hSw.at (w.heap.size) [.int .i64 0, .int .i64 M, .int .i64 D, .int .i64 U] (by simp)).c 2 rfl; have l0_3 := (hSw.at (w.heap.size) [.int .i64 0, .int .i64 M, .int .i64 D, .int .i64 U] (by simp)).c 3 rfl; clear hSw; go_simp; try with_reducible rfl)
    simp only [Act.put, List.setIfInBounds_toArray, List.set_cons_zero, List.set_cons_succ]
    refine wpAnyH_take (i := 2) (v := ?_) (oi := { dst := some 8, op := _, type := _, pos := _, after := _, guard := none }) rfl (by kernel_rfl) (by kernel_rfl) (by kernel_rfl) (fun _ _ _ h => h) (Or.inl ⟨by kernel_rfl, ?_⟩) (by assumption) ?_
    case refine_2 => (intro w9 hSw; clear hSw; go_simp; try with_reducible rfl)
    simp only [Act.put, List.setIfInBounds_toArray, List.set_cons_zero, List.set_cons_succ]
    refine wpAnyH_take (i := 5) (v := ?_) (oi := { dst := some 11, op := _, type := _, pos := _, after := _, guard := none }) rfl (by kernel_rfl) (by kernel_rfl) (by kernel_rfl) (fun _ _ _ h => h) (Or.inl ⟨by kernel_rfl, ?_⟩) (by assumption) ?_
    case refine_2 => (intro w9 hSw; clear hSw; go_simp; try with_reducible rfl)
    simp only [Act.put, List.setIfInBounds_toArray, List.set_cons_zero, List.set_cons_succ]
    refine wpAnyH_take (i := 6) (v := ?_) (oi := { dst := some 12, op := _, type := _, pos := _, after := _, guard := none }) rfl (by kernel_rfl) (by kernel_rfl) (by kernel_rfl) (fun _ _ _ h => h) (Or.inl ⟨by kernel_rfl, ?_⟩) (by assumption) ?_
    case refine_2 => (intro w9 hSw; have l0_0 := (hSw.at (w.heap.size) [.int .i64 0, .int .i64 M, .int .i64 D, .int .i64 U] (by simp)).c 0 rfl; have l0_1 := (hSw.at (w.heap.size) [.int .i64 0, .int .i64 M, .int .i64 D, .int .i64 U] (by simp)).c 1 rfl; have l0_2 := (hSw.at (w.heap.size) [.int .i64 0, .int .i64 M, .int .i64 D, .int .i64 U] (by simp)).c 2 rfl; have l0_3 := (hSw.at (w.heap.size) [.int .i64 0, .int .i64 M, .int .i64 D, .int .i64 U] (by simp)).c 3 rfl; clear hSw; go_simp; try with_reducible rfl)
    simp only [Act.put, List.setIfInBounds_toArray, List.set_cons_zero, List.set_cons_succ]
    refine wpAnyH_take (i := 7) (v := ?_) (oi := { dst := some 13, op := _, type := _, pos := _, after := _, guard := none }) rfl (by kernel_rfl) (by kernel_rfl) (by kernel_rfl) (fun _ _ _ h => h) (Or.inl ⟨by kernel_rfl, ?_⟩) (by assumption) ?_
    case refine_2 => (intro w9 hSw; clear hSw; go_simp; try with_reducible rfl)
    simp only [Act.put, List.setIfInBounds_toArray, List.set_cons_zero, List.set_cons_succ]
    refine wpAnyH_take (i := 10) (v := ?_) (oi := { dst := some 16, op := _, type := _, pos := _, after := _, guard := none }) rfl (by kernel_rfl) (by kernel_rfl) (by kernel_rfl) (fun _ _ _ h => h) (Or.inl ⟨by kernel_rfl, ?_⟩) (by assumption) ?_
    case refine_2 => (intro w9 hSw; clear hSw; go_simp; try with_reducible rfl)
    simp only [Act.put, List.setIfInBounds_toArray, List.set_cons_zero, List.set_cons_succ]
    refine wpAnyH_take (i := 11) (v := ?_) (oi := { dst := some 17, op := _, type := _, pos := _, after := _, guard := none }) rfl (by kernel_rfl) (by kernel_rfl) (by kernel_rfl) (fun _ _ _ h => h) (Or.inl ⟨by kernel_rfl, ?_⟩) (by assumption) ?_
    case refine_2 => (intro w9 hSw; have l0_0 := (hSw.at (w.heap.size) [.int .i64 0, .int .i64 M, .int .i64 D, .int .i64 U] (by simp)).c 0 rfl; have l0_1 := (hSw.at (w.heap.size) [.int .i64 0, .int .i64 M, .int .i64 D, .int .i64 U] (by simp)).c 1 rfl; have l0_2 := (hSw.at (w.heap.size) [.int .i64 0, .int .i64 M, .int .i64 D, .int .i64 U] (by simp)).c 2 rfl; have l0_3 := (hSw.at (w.heap.size) [.int .i64 0, .int .i64 M, .int .i64 D, .int .i64 U] (by simp)).c 3 rfl; clear hSw; go_simp; try with_reducible rfl)
    simp only [Act.put, List.setIfInBounds_toArray, List.set_cons_zero, List.set_cons_succ]
    refine wpAnyH_ready (rs := [3]) (by kernel_rfl) (by simp) (AllReadyH.cons (o := { dst := some 9, op := _, type := _, pos := _, after := _, guard := none }) rfl (fun K hK => ?_) AllReadyH.nil)
    go_simp
    refine (M1.out _).mono ?_
    rintro e v1 ⟨rfl, hb1⟩
    refine hK.out _ _ (hHeld.below hb1) (fun hHeld => ?_)
    clear hK K hb1
    refine wpAnyH_take (i := 4) (v := ?_) (oi := { dst := some 10, op := _, type := _, pos := _, after := _, guard := none }) rfl (by kernel_rfl) (by kernel_rfl) (by kernel_rfl) (fun _ _ _ h => h) (Or.inl ⟨by kernel_rfl, ?_⟩) (by assumption) ?_
    case refine_2 => (intro w9 hSw; clear hSw; go_simp; try with_reducible rfl)
    simp only [Act.put, List.setIfInBounds_toArray, List.set_cons_zero, List.set_cons_succ]
    refine wpAnyH_ready (rs := [8]) (by kernel_rfl) (by simp) (AllReadyH.cons (o := { dst := some 14, op := _, type := _, pos := _, after := _, guard := none }) rfl (fun K hK => ?_) AllReadyH.nil)
    go_simp
    refine (M2.out _).mono ?_
    rintro e v2 ⟨rfl, hb2⟩
    refine hK.out _ _ (hHeld.below hb2) (fun hHeld => ?_)
    clear hK K hb2
    refine wpAnyH_take (i := 9) (v := ?_) (oi := { dst := some 15, op := _, type := _, pos := _, after := _, guard := none }) rfl (by kernel_rfl) (by kernel_rfl) (by kernel_rfl) (fun _ _ _ h => h) (Or.inl ⟨by kernel_rfl, ?_⟩) (by assumption) ?_
    case refine_2 => (intro w9 hSw; clear hSw; go_simp; try with_reducible rfl)
    simp only [Act.put, List.setIfInBounds_toArray, List.set_cons_zero, List.set_cons_succ]
    refine wpAnyH_ready (rs := [12]) (by kernel_rfl) (by simp) (AllReadyH.cons (o := { dst := some 18, op := _, type := _, pos := _, after := _, guard := none }) rfl (fun K hK => ?_) AllReadyH.nil)
    go_simp
    refine (M3.out _).mono ?_
    rintro e v3 ⟨rfl, hb3⟩
    refine hK.out _ _ (hHeld.below hb3) (fun hHeld => ?_)
    clear hK K hb3
    refine wpAnyH_take (i := 13) (v := ?_) (oi := { dst := some 19, op := _, type := _, pos := _, after := _, guard := none }) rfl (by kernel_rfl) (by kernel_rfl) (by kernel_rfl) (fun _ _ _ h => h) (Or.inl ⟨by kernel_rfl, ?_⟩) (by assumption) ?_
    case refine_2 => (intro w9 hSw; clear hSw; go_simp; try with_reducible rfl)
    simp only [Act.put, List.setIfInBounds_toArray, List.set_cons_zero, List.set_cons_succ]
    refine wpAnyH_take (i := 14) (v := ?_) (oi := { dst := some 3, op := _, type := _, pos := _, after := _, guard := none }) rfl (by kernel_rfl) (by kernel_rfl) (by kernel_rfl) (fun _ _ _ h => h) (Or.inl ⟨by kernel_rfl, ?_⟩) (by assumption) ?_
    case refine_2 => (intro w9 hSw; clear hSw; go_simp; try with_reducible rfl)
    simp only [Act.put, List.setIfInBounds_toArray, List.set_cons_zero, List.set_cons_succ]
    refine wpAnyH_done (by kernel_rfl) ?_ _
    go_wp2_with fail
    go_meet
    case rel => exact ⟨rfl, hHeld⟩
  case rest =>
    obtain ⟨rfl, K1⟩ := hcut
    clear K0
    obtain ⟨c1_0_0, c1_0_1, c1_0_2, c1_0_3⟩ := (bo1 K1).c4
    go_upto_region 3 with fail
    clear c1_0_0 c1_0_1 c1_0_2 c1_0_3
    go_cut [3] (fun v0 wx => v0 = .string Y ∧ Hid (BS w [(w.heap.size, [.int .i64 0, .int .i64 M, .int .i64 D, .int .i64 U])] wx))
    case first =>
      refine wp_region_held_drew (S := BS w [(w.heap.size, [.int .i64 0, .int .i64 M, .int .i64 D, .int .i64 U])]) (by kernel_rfl) K1.out.drew (fun hHeld => ?_)
      refine wpAnyH_take (i := 0) (v := ?_) (oi := { dst := some 23, op := _, type := _, pos := _, after := _, guard := none }) rfl (by kernel_rfl) (by kernel_rfl) (by kernel_rfl) (fun _ _ _ h => h) (Or.inl ⟨by kernel_rfl, ?_⟩) (by assumption) ?_
      case refine_2 => (intro w9 hSw; clear hSw; go_simp; try with_reducible rfl)
      simp only [Act.put, List.setIfInBounds_toArray, List.set_cons_zero, List.set_cons_succ]
      refine wpAnyH_take (i := 1) (v := ?_) (oi := { dst := some 24, op := _, type := _, pos := _, after := _, guard := none }) rfl (by kernel_rfl) (by kernel_rfl) (by kernel_rfl) (fun _ _ _ h => h) (Or.inl ⟨by kernel_rfl, ?_⟩) (by assumption) ?_
      case refine_2 => (intro w9 hSw; clear hSw; go_simp; try with_reducible rfl)
      simp only [Act.put, List.setIfInBounds_toArray, List.set_cons_zero, List.set_cons_succ]
      refine wpAnyH_take (i := 2) (v := ?_) (oi := { dst := some 25, op := _, type := _, pos := _, after := _, guard := none }) rfl (by kernel_rfl) (by kernel_rfl) (by kernel_rfl) (fun _ _ _ h => h) (Or.inl ⟨by kernel_rfl, ?_⟩) (by assumption) ?_
      case refine_2 => (intro w9 hSw; clear hSw; go_simp; try with_reducible rfl)
      simp only [Act.put, List.setIfInBounds_toArray, List.set_cons_zero, List.set_cons_succ]
      refine wpAnyH_take (i := 3) (v := ?_) (oi := { dst := some 26, op := _, type := _, pos := _, after := _, guard := none }) rfl (by kernel_rfl) (by kernel_rfl) (by kernel_rfl) (fun _ _ _ h => h) (Or.inl ⟨by kernel_rfl, ?_⟩) (by assumption) ?_
      case refine_2 => (intro w9 hSw; have l0_0 := (hSw.at (w.heap.size) [.int .i64 0, .int .i64 M, .int .i64 D, .int .i64 U] (by simp)).c 0 rfl; have l0_1 := (hSw.at (w.heap.size) [.int .i64 0, .int .i64 M, .int .i64 D, .int .i64 U] (by simp)).c 1 rfl; have l0_2 := (hSw.at (w.heap.size) [.int .i64 0, .int .i64 M, .int .i64 D, .int .i64 U] (by simp)).c 2 rfl; have l0_3 := (hSw.at (w.heap.size) [.int .i64 0, .int .i64 M, .int .i64 D, .int .i64 U] (by simp)).c 3 rfl; clear hSw; go_simp; try with_reducible rfl)
      simp only [Act.put, List.setIfInBounds_toArray, List.set_cons_zero, List.set_cons_succ]
      refine wpAnyH_take (i := 4) (v := ?_) (oi := { dst := some 27, op := _, type := _, pos := _, after := _, guard := none }) rfl (by kernel_rfl) (by kernel_rfl) (by kernel_rfl) (fun _ _ _ h => h) (Or.inl ⟨by kernel_rfl, ?_⟩) (by assumption) ?_
      case refine_2 => (intro w9 hSw; clear hSw; go_simp; try with_reducible rfl)
      simp only [Act.put, List.setIfInBounds_toArray, List.set_cons_zero, List.set_cons_succ]
      refine wpAnyH_take (i := 5) (v := ?_) (oi := { dst := some 28, op := _, type := _, pos := _, after := _, guard := none }) rfl (by kernel_rfl) (by kernel_rfl) (by kernel_rfl) (fun _ _ _ h => h) (Or.inl ⟨by kernel_rfl, ?_⟩) (by assumption) ?_
      case refine_2 => (intro w9 hSw; clear hSw; go_simp; try with_reducible rfl)
      simp only [Act.put, List.setIfInBounds_toArray, List.set_cons_zero, List.set_cons_succ]
      refine wpAnyH_take (i := 8) (v := ?_) (oi := { dst := some 31, op := _, type := _, pos := _, after := _, guard := none }) rfl (by kernel_rfl) (by kernel_rfl) (by kernel_rfl) (fun _ _ _ h => h) (Or.inl ⟨by kernel_rfl, ?_⟩) (by assumption) ?_
      case refine_2 => (intro w9 hSw; clear hSw; go_simp; try with_reducible rfl)
      simp only [Act.put, List.setIfInBounds_toArray, List.set_cons_zero, List.set_cons_succ]
      refine wpAnyH_take (i := 9) (v := ?_) (oi := { dst := some 32, op := _, type := _, pos := _, after := _, guard := none }) rfl (by kernel_rfl) (by kernel_rfl) (by kernel_rfl) (fun _ _ _ h => h) (Or.inl ⟨by kernel_rfl, ?_⟩) (by assumption) ?_
      case refine_2 => (intro w9 hSw; have l0_0 := (hSw.at (w.heap.size) [.int .i64 0, .int .i64 M, .int .i64 D, .int .i64 U] (by simp)).c 0 rfl; have l0_1 := (hSw.at (w.heap.size) [.int .i64 0, .int .i64 M, .int .i64 D, .int .i64 U] (by simp)).c 1 rfl; have l0_2 := (hSw.at (w.heap.size) [.int .i64 0, .int .i64 M, .int .i64 D, .int .i64 U] (by simp)).c 2 rfl; have l0_3 := (hSw.at (w.heap.size) [.int .i64 0, .int .i64 M, .int .i64 D, .int .i64 U] (by simp)).c 3 rfl; clear hSw; go_simp; try with_reducible rfl)
      simp only [Act.put, List.setIfInBounds_toArray, List.set_cons_zero, List.set_cons_succ]
      refine wpAnyH_take (i := 10) (v := ?_) (oi := { dst := some 33, op := _, type := _, pos := _, after := _, guard := none }) rfl (by kernel_rfl) (by kernel_rfl) (by kernel_rfl) (fun _ _ _ h => h) (Or.inl ⟨by kernel_rfl, ?_⟩) (by assumption) ?_
      case refine_2 => (intro w9 hSw; clear hSw; go_simp; try with_reducible rfl)
      simp only [Act.put, List.setIfInBounds_toArray, List.set_cons_zero, List.set_cons_succ]
      refine wpAnyH_take (i := 11) (v := ?_) (oi := { dst := some 34, op := _, type := _, pos := _, after := _, guard := none }) rfl (by kernel_rfl) (by kernel_rfl) (by kernel_rfl) (fun _ _ _ h => h) (Or.inl ⟨by kernel_rfl, ?_⟩) (by assumption) ?_
      case refine_2 => (intro w9 hSw; clear hSw; go_simp; try with_reducible rfl)
      simp only [Act.put, List.setIfInBounds_toArray, List.set_cons_zero, List.set_cons_succ]
      refine wpAnyH_take (i := 12) (v := ?_) (oi := { dst := some 35, op := _, type := _, pos := _, after := _, guard := none }) rfl (by kernel_rfl) (by kernel_rfl) (by kernel_rfl) (fun _ _ _ h => h) (Or.inl ⟨by kernel_rfl, ?_⟩) (by assumption) ?_
      case refine_2 => (intro w9 hSw; clear hSw; go_simp; try with_reducible rfl)
      simp only [Act.put, List.setIfInBounds_toArray, List.set_cons_zero, List.set_cons_succ]
      refine wpAnyH_ready (rs := [6]) (by kernel_rfl) (by simp) (AllReadyH.cons (o := { dst := some 29, op := _, type := _, pos := _, after := _, guard := none }) rfl (fun K hK => ?_) AllReadyH.nil)
      go_simp
      refine (M4.out _).mono ?_
      rintro e v1 ⟨rfl, hb1⟩
      refine hK.out _ _ (hHeld.below hb1) (fun hHeld => ?_)
      clear hK K hb1
      refine wpAnyH_take (i := 7) (v := ?_) (oi := { dst := some 30, op := _, type := _, pos := _, after := _, guard := none }) rfl (by kernel_rfl) (by kernel_rfl) (by kernel_rfl) (fun _ _ _ h => h) (Or.inl ⟨by kernel_rfl, ?_⟩) (by assumption) ?_
      case refine_2 => (intro w9 hSw; clear hSw; go_simp; try with_reducible rfl)
      simp only [Act.put, List.setIfInBounds_toArray, List.set_cons_zero, List.set_cons_succ]
      refine wpAnyH_ready (rs := [13]) (by kernel_rfl) (by simp) (AllReadyH.cons (o := { dst := some 36, op := _, type := _, pos := _, after := _, guard := none }) rfl (fun K hK => ?_) AllReadyH.nil)
      go_simp
      refine (M5.out _).mono ?_
      rintro e v2 ⟨rfl, hb2⟩
      refine hK.out _ _ (hHeld.below hb2) (fun hHeld => ?_)
      clear hK K hb2
      refine wpAnyH_take (i := 14) (v := ?_) (oi := { dst := some 37, op := _, type := _, pos := _, after := _, guard := none }) rfl (by kernel_rfl) (by kernel_rfl) (by kernel_rfl) (fun _ _ _ h => h) (Or.inl ⟨by kernel_rfl, ?_⟩) (by assumption) ?_
      case refine_2 => (intro w9 hSw; clear hSw; go_simp; try with_reducible rfl)
      simp only [Act.put, List.setIfInBounds_toArray, List.set_cons_zero, List.set_cons_succ]
      refine wpAnyH_take (i := 15) (v := ?_) (oi := { dst := some 3, op := _, type := _, pos := _, after := _, guard := none }) rfl (by kernel_rfl) (by kernel_rfl) (by kernel_rfl) (fun _ _ _ h => h) (Or.inl ⟨by kernel_rfl, ?_⟩) (by assumption) ?_
      case refine_2 => (intro w9 hSw; clear hSw; go_simp; try with_reducible rfl)
      simp only [Act.put, List.setIfInBounds_toArray, List.set_cons_zero, List.set_cons_succ]
      refine wpAnyH_done (by kernel_rfl) ?_ _
      go_wp2_with fail
      go_meet
      case rel => exact ⟨rfl, hHeld⟩
    case rest =>
      obtain ⟨rfl, K2⟩ := hcut
      clear K1
      obtain ⟨c2_0_0, c2_0_1, c2_0_2, c2_0_3⟩ := (bo1 K2).c4
      go_wp2_with fail
      refine (SZ.out _).mono ?_
      rintro e W3 ⟨rfl, hb⟩
      have K3 := bsb K2 hb
      clear c2_0_0 c2_0_1 c2_0_2 c2_0_3
      clear hb K2
      obtain ⟨c3_0_0, c3_0_1, c3_0_2, c3_0_3⟩ := (bo1 K3).c4
      go_wp2_with fail
      refine (DG.out _).mono ?_
      rintro e W4 ⟨rfl, hb⟩
      have K4 := bsb K3 hb
      clear c3_0_0 c3_0_1 c3_0_2 c3_0_3
      clear hb K3
      obtain ⟨c4_0_0, c4_0_1, c4_0_2, c4_0_3⟩ := (bo1 K4).c4
      go_wp2_with fail
      refine (FR.out _).mono ?_
      rintro e W5 ⟨rfl, hb⟩
      have K5 := bsb K4 hb
      clear c4_0_0 c4_0_1 c4_0_2 c4_0_3
      clear hb K4
      obtain ⟨c5_0_0, c5_0_1, c5_0_2, c5_0_3⟩ := (bo1 K5).c4
      go_wp2
      go_ret
      exact ⟨rfl, K5.out.1⟩



end Go.Proofs.YtmohhbgmbicklaaDoor
