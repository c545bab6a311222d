/- show.bySQL, byISO over their callees. -/
import Derived.Test.YtmohhbgmbicklaaGreatDoorShPq
import Derived.Laws.StructEq
namespace Go.Proofs.YtmohhbgmbicklaaGreatDoor
open Go.RowKit
set_option linter.unusedVariables false

theorem bx_held {w V : World} {l : List (Nat × List Value)} (cs : List Value) {t : TypeId} (h : BS w l (V.alloc (.cells cs.toArray t))) : Hid (Bx (V.alloc (.cells cs.toArray t)) V.heap.size cs) := Bx.new V cs t

set_option maxRecDepth 100000 in
set_option maxHeartbeats 4000000 in
theorem sql_run (M D U m d u : Int) (A1 A2 A3 S1 S2 S3 E1 E2 E3 F : ByteArray) (m0 : 0 ≤ m) (m9 : m ≤ 9223372036854775807) (u0 : 0 ≤ u) (u9 : u ≤ 9223372036854775807)
    (Z1 : Hid (∀ w : World, Calls Tryz.prog 59 #[.int .i64 M] w fun r' w' => r' = .returned (.int .i64 m) ∧ w' = w))
    (Z2 : Hid (∀ w : World, Calls Tryz.prog 59 #[.int .i64 D] w fun r' w' => r' = .returned (.int .i64 d) ∧ w' = w))
    (Z3 : Hid (∀ w : World, Calls Tryz.prog 59 #[.int .i64 U] w fun r' w' => r' = .returned (.int .i64 u) ∧ w' = w))
    (G1 : Hid (∀ w : World, Clk.Tab w → Calls Tryz.prog 60 #[.int .i64 (u / 3600000000)] w fun r' w' => r' = .returned (.string A1) ∧ Below w.heap.size w w'))
    (G2 : Hid (∀ w : World, Clk.Tab w → Calls Tryz.prog 41 #[.int .i64 (u / 60000000 % 60)] w fun r' w' => r' = .returned (.string A2) ∧ Below w.heap.size w w'))
    (G3 : Hid (∀ w : World, Clk.Tab w → Calls Tryz.prog 41 #[.int .i64 (u / 1000000 % 60)] w fun r' w' => r' = .returned (.string A3) ∧ Below w.heap.size w w'))
    (J1 : Hid (∀ (b : Nat) (w : World), Bx w b [.string A1, .string A2, .string A3] → Calls Tryz.prog 20 #[.string ⟨#[58]⟩, .slice (some ⟨b, 0, none⟩) 3 3] w fun r' w' => r' = .returned (.string (A1 ++ ⟨#[58]⟩ ++ A2 ++ ⟨#[58]⟩ ++ A3)) ∧ Below w.heap.size w w'))
    (P1 : Hid (∀ w : World, Calls Tryz.prog 61 #[.int .i64 M] w fun r' w' => r' = .returned (.string S1) ∧ w' = w))
    (G4 : Hid (∀ w : World, Clk.Tab w → Calls Tryz.prog 60 #[.int .i64 (m / 12)] w fun r' w' => r' = .returned (.string E1) ∧ Below w.heap.size w w'))
    (G5 : Hid (∀ w : World, Clk.Tab w → Calls Tryz.prog 60 #[.int .i64 (m % 12)] w fun r' w' => r' = .returned (.string E2) ∧ Below w.heap.size w w'))
    (J2 : Hid (∀ (b : Nat) (w : World), Bx w b [.string S1, .string E1, .string ⟨#[45]⟩, .string E2] → Calls Tryz.prog 20 #[.string ⟨#[]⟩, .slice (some ⟨b, 0, none⟩) 4 4] w fun r' w' => r' = .returned (.string (S1 ++ E1 ++ ⟨#[45]⟩ ++ E2)) ∧ Below w.heap.size w w'))
    (P2 : Hid (∀ w : World, Calls Tryz.prog 61 #[.int .i64 D] w fun r' w' => r' = .returned (.string S2) ∧ w' = w))
    (G6 : Hid (∀ w : World, Clk.Tab w → Calls Tryz.prog 60 #[.int .i64 d] w fun r' w' => r' = .returned (.string E3) ∧ Below w.heap.size w w'))
    (J3 : Hid (∀ (b : Nat) (w : World), Bx w b [.string S2, .string E3] → Calls Tryz.prog 20 #[.string ⟨#[]⟩, .slice (some ⟨b, 0, none⟩) 2 2] w fun r' w' => r' = .returned (.string (S2 ++ E3)) ∧ Below w.heap.size w w'))
    (P3 : Hid (∀ w : World, Calls Tryz.prog 61 #[.int .i64 U] w fun r' w' => r' = .returned (.string S3) ∧ w' = w))
    (G7 : Hid (∀ w : World, Clk.Tab w → Calls Tryz.prog 62 #[.int .i64 (u % 1000000)] w fun r' w' => r' = .returned (.string F) ∧ Below w.heap.size w w'))
    (J4 : Hid (∀ (b : Nat) (w : World), Bx w b [.string S3, .string (A1 ++ ⟨#[58]⟩ ++ A2 ++ ⟨#[58]⟩ ++ A3), .string F] → Calls Tryz.prog 20 #[.string ⟨#[]⟩, .slice (some ⟨b, 0, none⟩) 3 3] w fun r' w' => r' = .returned (.string (S3 ++ (A1 ++ ⟨#[58]⟩ ++ A2 ++ ⟨#[58]⟩ ++ A3) ++ F)) ∧ Below w.heap.size w w'))
    (J5 : Hid (∀ (b : Nat) (w : World), Bx w b [.string (S1 ++ E1 ++ ⟨#[45]⟩ ++ E2), .string (S2 ++ E3), .string (S3 ++ (A1 ++ ⟨#[58]⟩ ++ A2 ++ ⟨#[58]⟩ ++ A3) ++ F)] → Calls Tryz.prog 20 #[.string ⟨#[32]⟩, .slice (some ⟨b, 0, none⟩) 3 3] w fun r' w' => r' = .returned (.string ((S1 ++ E1 ++ ⟨#[45]⟩ ++ E2) ++ ⟨#[32]⟩ ++ (S2 ++ E3) ++ ⟨#[32]⟩ ++ (S3 ++ (A1 ++ ⟨#[58]⟩ ++ A2 ++ ⟨#[58]⟩ ++ A3) ++ F))) ∧ Below w.heap.size w w'))
    (w : World) (hL : Hid (∀ W : World, Below w.heap.size w W → Clk.Tab W)) :
    Calls Tryz.prog 35 #[.agg #[.int .i64 0, .int .i64 M, .int .i64 D, .int .i64 U]] w fun r' w' => r' = .returned (.string ((S1 ++ E1 ++ ⟨#[45]⟩ ++ E2) ++ ⟨#[32]⟩ ++ (S2 ++ E3) ++ ⟨#[32]⟩ ++ (S3 ++ (A1 ++ ⟨#[58]⟩ ++ A2 ++ ⟨#[58]⟩ ++ A3) ++ F))) ∧ Below w.heap.size w w' := by
  have q1 : m.tdiv 12 = m / 12 := Int.tdiv_eq_ediv_of_nonneg m0
  have q2 : m.tmod 12 = m % 12 := Int.tmod_eq_emod_of_nonneg m0
  have q3 : u.tmod 1000000 = u % 1000000 := Int.tmod_eq_emod_of_nonneg u0
  have q5 : IntKind.i64.wrap (m / 12) = m / 12 := by rw [IntKind.wrap_i64]; omega
  have K0 : Hid (BS w [(w.heap.size, [.int .i64 0, .int .i64 M, .int .i64 D, .int .i64 U])] (w.alloc (.cells #[.int .i64 0, .int .i64 M, .int .i64 D, .int .i64 U] 40))) := ((BS.start w).new [.int .i64 0, .int .i64 M, .int .i64 D, .int .i64 U] 40 rfl)
  go_enter Tryz.func35, Tryz.ntmps35
  go_upto_region 1 with fail
  refine bs_to K0 ?_
  clear K0
  intro W0 K0
  go_cut [3, 4, 5] (fun v0 v1 v2 wx => v0 = .int .i64 m ∧ v1 = .int .i64 d ∧ v2 = .int .i64 u ∧ Hid (BS w [(w.heap.size, [.int .i64 0, .int .i64 M, .int .i64 D, .int .i64 U])] wx))
  case first =>
    refine wp_region_held_drew (S := BS w [(w.heap.size, [.int .i64 0, .int .i64 M, .int .i64 D, .int .i64 U])]) (by kernel_rfl) K0.out.drew (fun hHeld => ?_)
    refine wpAnyH_take (i := 0) (v := ?_) (oi := { dst := some 7, op := _, type := _, pos := _, after := _, guard := none }) rfl (by kernel_rfl) (by kernel_rfl) (by kernel_rfl) (fun _ _ _ h => h) (Or.inl ⟨by kernel_rfl, ?_⟩) (by assumption) ?_
    case refine_2 => (intro w9 hSw; clear hSw; go_simp; try with_reducible rfl)
    simp only [Act.put, List.setIfInBounds_toArray, List.set_cons_zero, List.set_cons_succ]
    refine wpAnyH_take (i := 1) (v := ?_) (oi := { dst := some 8, op := _, type := _, pos := _, after := _, guard := none }) rfl (by kernel_rfl) (by kernel_rfl) (by kernel_rfl) (fun _ _ _ h => h) (Or.inl ⟨by kernel_rfl, ?_⟩) (by assumption) ?_
    case refine_2 => (intro w9 hSw; have l0_0 := (hSw.at (w.heap.size) [.int .i64 0, .int .i64 M, .int .i64 D, .int .i64 U] (by simp)).c 0 rfl; have l0_1 := (hSw.at (w.heap.size) [.int .i64 0, .int .i64 M, .int .i64 D, .int .i64 U] (by simp)).c 1 rfl; have l0_2 := (hSw.at (w.heap.size) [.int .i64 0, .int .i64 M, .int .i64 D, .int .i64 U] (by simp)).c 2 rfl; have l0_3 := (hSw.at (w.heap.size) [.int .i64 0, .int .i64 M, .int .i64 D, .int .i64 U] (by simp)).c 3 rfl; clear hSw; go_simp; try with_reducible rfl)
    simp only [Act.put, List.setIfInBounds_toArray, List.set_cons_zero, List.set_cons_succ]
    refine wpAnyH_take (i := 3) (v := ?_) (oi := { dst := some 10, op := _, type := _, pos := _, after := _, guard := none }) rfl (by kernel_rfl) (by kernel_rfl) (by kernel_rfl) (fun _ _ _ h => h) (Or.inl ⟨by kernel_rfl, ?_⟩) (by assumption) ?_
    case refine_2 => (intro w9 hSw; clear hSw; go_simp; try with_reducible rfl)
    simp only [Act.put, List.setIfInBounds_toArray, List.set_cons_zero, List.set_cons_succ]
    refine wpAnyH_take (i := 4) (v := ?_) (oi := { dst := some 11, op := _, type := _, pos := _, after := _, guard := none }) rfl (by kernel_rfl) (by kernel_rfl) (by kernel_rfl) (fun _ _ _ h => h) (Or.inl ⟨by kernel_rfl, ?_⟩) (by assumption) ?_
    case refine_2 => (intro w9 hSw; have l0_0 := (hSw.at (w.heap.size) [.int .i64 0, .int .i64 M, .int .i64 D, .int .i64 U] (by simp)).c 0 rfl; have l0_1 := (hSw.at (w.heap.size) [.int .i64 0, .int .i64 M, .int .i64 D, .int .i64 U] (by simp)).c 1 rfl; have l0_2 := (hSw.at (w.heap.size) [.int .i64 0, .int .i64 M, .int .i64 D, .int .i64 U] (by simp)).c 2 rfl; have l0_3 := (hSw.at (w.heap.size) [.int .i64 0, .int .i64 M, .int .i64 D, .int .i64 U] (by simp)).c 3 rfl; clear hSw; go_simp; try with_reducible rfl)
    simp only [Act.put, List.setIfInBounds_toArray, List.set_cons_zero, List.set_cons_succ]
    refine wpAnyH_take (i := 6) (v := ?_) (oi := { dst := some 13, op := _, type := _, pos := _, after := _, guard := none }) rfl (by kernel_rfl) (by kernel_rfl) (by kernel_rfl) (fun _ _ _ h => h) (Or.inl ⟨by kernel_rfl, ?_⟩) (by assumption) ?_
    case refine_2 => (intro w9 hSw; clear hSw; go_simp; try with_reducible rfl)
    simp only [Act.put, List.setIfInBounds_toArray, List.set_cons_zero, List.set_cons_succ]
    refine wpAnyH_take (i := 7) (v := ?_) (oi := { dst := some 14, op := _, type := _, pos := _, after := _, guard := none }) rfl (by kernel_rfl) (by kernel_rfl) (by kernel_rfl) (fun _ _ _ h => h) (Or.inl ⟨by kernel_rfl, ?_⟩) (by assumption) ?_
    case refine_2 => (intro w9 hSw; have l0_0 := (hSw.at (w.heap.size) [.int .i64 0, .int .i64 M, .int .i64 D, .int .i64 U] (by simp)).c 0 rfl; have l0_1 := (hSw.at (w.heap.size) [.int .i64 0, .int .i64 M, .int .i64 D, .int .i64 U] (by simp)).c 1 rfl; have l0_2 := (hSw.at (w.heap.size) [.int .i64 0, .int .i64 M, .int .i64 D, .int .i64 U] (by simp)).c 2 rfl; have l0_3 := (hSw.at (w.heap.size) [.int .i64 0, .int .i64 M, .int .i64 D, .int .i64 U] (by simp)).c 3 rfl; clear hSw; go_simp; try with_reducible rfl)
    simp only [Act.put, List.setIfInBounds_toArray, List.set_cons_zero, List.set_cons_succ]
    refine wpAnyH_ready (rs := [2]) (by kernel_rfl) (by simp) (AllReadyH.cons (o := { dst := some 9, op := _, type := _, pos := _, after := _, guard := none }) rfl (fun K hK => ?_) AllReadyH.nil)
    go_simp
    refine (Z1.out _).mono ?_
    rintro e v1 ⟨rfl, hw1⟩
    rw [hw1]
    clear hw1 v1
    refine hK.out _ _ hHeld (fun hHeld => ?_)
    clear hK K
    refine wpAnyH_ready (rs := [5]) (by kernel_rfl) (by simp) (AllReadyH.cons (o := { dst := some 12, op := _, type := _, pos := _, after := _, guard := none }) rfl (fun K hK => ?_) AllReadyH.nil)
    go_simp
    refine (Z2.out _).mono ?_
    rintro e v2 ⟨rfl, hw2⟩
    rw [hw2]
    clear hw2 v2
    refine hK.out _ _ hHeld (fun hHeld => ?_)
    clear hK K
    refine wpAnyH_ready (rs := [8]) (by kernel_rfl) (by simp) (AllReadyH.cons (o := { dst := some 15, op := _, type := _, pos := _, after := _, guard := none }) rfl (fun K hK => ?_) AllReadyH.nil)
    go_simp
    refine (Z3.out _).mono ?_
    rintro e v3 ⟨rfl, hw3⟩
    rw [hw3]
    clear hw3 v3
    refine hK.out _ _ hHeld (fun hHeld => ?_)
    clear hK K
    refine wpAnyH_take (i := 9) (v := ?_) (oi := { dst := some 3, op := _, type := _, pos := _, after := _, guard := none }) rfl (by kernel_rfl) (by kernel_rfl) (by kernel_rfl) (fun _ _ _ h => h) (Or.inl ⟨by kernel_rfl, ?_⟩) (by assumption) ?_
    case refine_2 => (intro w9 hSw; clear hSw; go_simp; try with_reducible rfl)
    simp only [Act.put, List.setIfInBounds_toArray, List.set_cons_zero, List.set_cons_succ]
    refine wpAnyH_take (i := 10) (v := ?_) (oi := { dst := some 4, op := _, type := _, pos := _, after := _, guard := none }) rfl (by kernel_rfl) (by kernel_rfl) (by kernel_rfl) (fun _ _ _ h => h) (Or.inl ⟨by kernel_rfl, ?_⟩) (by assumption) ?_
    case refine_2 => (intro w9 hSw; clear hSw; go_simp; try with_reducible rfl)
    simp only [Act.put, List.setIfInBounds_toArray, List.set_cons_zero, List.set_cons_succ]
    refine wpAnyH_take (i := 11) (v := ?_) (oi := { dst := some 5, op := _, type := _, pos := _, after := _, guard := none }) rfl (by kernel_rfl) (by kernel_rfl) (by kernel_rfl) (fun _ _ _ h => h) (Or.inl ⟨by kernel_rfl, ?_⟩) (by assumption) ?_
    case refine_2 => (intro w9 hSw; clear hSw; go_simp; try with_reducible rfl)
    simp only [Act.put, List.setIfInBounds_toArray, List.set_cons_zero, List.set_cons_succ]
    refine wpAnyH_done (by kernel_rfl) ?_ _
    go_wp2_with fail
    go_meet
    case rel => exact ⟨rfl, rfl, rfl, hHeld⟩
  case rest =>
    obtain ⟨rfl, rfl, rfl, K1⟩ := hcut
    clear K0
    obtain ⟨c1_0_0, c1_0_1, c1_0_2, c1_0_3⟩ := (bo1 K1).c4
    go_wp2_with fail
    refine (G1.out _ (hL.out _ K1.out.1)).mono ?_
    rintro e W2 ⟨rfl, hb⟩
    have K2 := bsb K1 hb
    clear c1_0_0 c1_0_1 c1_0_2 c1_0_3
    clear hb K1
    obtain ⟨c2_0_0, c2_0_1, c2_0_2, c2_0_3⟩ := (bo1 K2).c4
    go_wp2_with fail
    refine (G2.out _ (hL.out _ K2.out.1)).mono ?_
    rintro e W3 ⟨rfl, hb⟩
    have K3 := bsb K2 hb
    clear c2_0_0 c2_0_1 c2_0_2 c2_0_3
    clear hb K2
    obtain ⟨c3_0_0, c3_0_1, c3_0_2, c3_0_3⟩ := (bo1 K3).c4
    go_wp2_with fail
    refine (G3.out _ (hL.out _ K3.out.1)).mono ?_
    rintro e W4 ⟨rfl, hb⟩
    have K4 := bsb K3 hb
    clear c3_0_0 c3_0_1 c3_0_2 c3_0_3
    clear hb K3
    obtain ⟨c4_0_0, c4_0_1, c4_0_2, c4_0_3⟩ := (bo1 K4).c4
    have Kj5 : Hid (BS w [(W4.heap.size, [.string A1, .string A2, .string A3]), (w.heap.size, [.int .i64 0, .int .i64 M, .int .i64 D, .int .i64 U])] (W4.alloc (.cells #[.string A1, .string A2, .string A3] 9))) := K4.out.new [.string A1, .string A2, .string A3] 9 rfl
    go_wp2_with fail
    refine (J1.out _ _ (bo1 Kj5)).mono ?_
    rintro e W5 ⟨rfl, hb⟩
    have K5 := bsb Kj5 hb
    clear c4_0_0 c4_0_1 c4_0_2 c4_0_3
    clear hb Kj5 K4
    obtain ⟨c5_0_0, c5_0_1, c5_0_2⟩ := (bo1 K5).c3
    obtain ⟨c5_1_0, c5_1_1, c5_1_2, c5_1_3⟩ := (bo2 K5).c4
    have K6 := K5.out.tail
    have Kx : Hid (BS w [(w.heap.size, [.int .i64 0, .int .i64 M, .int .i64 D, .int .i64 U])] W5) := K6
    clear c5_0_0 c5_0_1 c5_0_2 c5_1_0 c5_1_1 c5_1_2 c5_1_3
    go_upto_region 3 with fail
    refine wp_region_held_drew (S := BS w [(w.heap.size, [.int .i64 0, .int .i64 M, .int .i64 D, .int .i64 U])]) (by kernel_rfl) Kx.out.drew (fun hHeld => ?_)
    refine wpAnyH_take (i := 0) (v := ?_) (oi := { dst := some 29, op := _, type := _, pos := _, after := _, guard := none }) rfl (by kernel_rfl) (by kernel_rfl) (by kernel_rfl) (fun _ _ _ h => h) (Or.inl ⟨by kernel_rfl, ?_⟩) (by assumption) ?_
    case refine_2 => (intro w9 hSw; clear hSw; go_simp; try with_reducible rfl)
    simp only [Act.put, List.setIfInBounds_toArray, List.set_cons_zero, List.set_cons_succ]
    refine wpAnyH_take (i := 1) (v := ?_) (oi := { dst := some 30, op := _, type := _, pos := _, after := _, guard := none }) rfl (by kernel_rfl) (by kernel_rfl) (by kernel_rfl) (fun _ _ _ h => h) (Or.inl ⟨by kernel_rfl, ?_⟩) (by assumption) ?_
    case refine_2 => (intro w9 hSw; have l0_0 := (hSw.at (w.heap.size) [.int .i64 0, .int .i64 M, .int .i64 D, .int .i64 U] (by simp)).c 0 rfl; have l0_1 := (hSw.at (w.heap.size) [.int .i64 0, .int .i64 M, .int .i64 D, .int .i64 U] (by simp)).c 1 rfl; have l0_2 := (hSw.at (w.heap.size) [.int .i64 0, .int .i64 M, .int .i64 D, .int .i64 U] (by simp)).c 2 rfl; have l0_3 := (hSw.at (w.heap.size) [.int .i64 0, .int .i64 M, .int .i64 D, .int .i64 U] (by simp)).c 3 rfl; clear hSw; go_simp; try with_reducible rfl)
    simp only [Act.put, List.setIfInBounds_toArray, List.set_cons_zero, List.set_cons_succ]
    refine wpAnyH_take (i := 3) (v := ?_) (oi := { dst := some 32, op := _, type := _, pos := _, after := _, guard := none }) rfl (by kernel_rfl) (by kernel_rfl) (by kernel_rfl) (fun _ _ _ h => h) (Or.inl ⟨by kernel_rfl, ?_⟩) (by assumption) ?_
    case refine_2 => (intro w9 hSw; clear hSw; go_simp; try with_reducible rfl)
    simp only [Act.put, List.setIfInBounds_toArray, List.set_cons_zero, List.set_cons_succ]
    refine wpAnyH_take (i := 4) (v := ?_) (oi := { dst := some 33, op := _, type := _, pos := _, after := _, guard := none }) rfl (by kernel_rfl) (by kernel_rfl) (by kernel_rfl) (fun _ _ _ h => h) (Or.inl ⟨by kernel_rfl, ?_⟩) (by assumption) ?_
    case refine_2 => (intro w9 hSw; clear hSw; go_simp; try with_reducible rfl)
    simp only [Act.put, List.setIfInBounds_toArray, List.set_cons_zero, List.set_cons_succ]
    refine wpAnyH_take (i := 6) (v := ?_) (oi := { dst := some 35, op := _, type := _, pos := _, after := _, guard := none }) rfl (by kernel_rfl) (by kernel_rfl) (by kernel_rfl) (fun _ _ _ h => h) (Or.inl ⟨by kernel_rfl, ?_⟩) (by assumption) ?_
    case refine_2 => (intro w9 hSw; clear hSw; go_simp; try with_reducible rfl)
    simp only [Act.put, List.setIfInBounds_toArray, List.set_cons_zero, List.set_cons_succ]
    refine wpAnyH_take (i := 7) (v := ?_) (oi := { dst := some 36, op := _, type := _, pos := _, after := _, guard := none }) rfl (by kernel_rfl) (by kernel_rfl) (by kernel_rfl) (fun _ _ _ h => h) (Or.inl ⟨by kernel_rfl, ?_⟩) (by assumption) ?_
    case refine_2 => (intro w9 hSw; clear hSw; go_simp; try with_reducible rfl)
    simp only [Act.put, List.setIfInBounds_toArray, List.set_cons_zero, List.set_cons_succ]
    refine wpAnyH_take (i := 11) (v := ?_) (oi := { dst := some 40, op := _, type := _, pos := _, after := _, guard := none }) rfl (by kernel_rfl) (by kernel_rfl) (by kernel_rfl) (fun _ _ _ h => h) (Or.inl ⟨by kernel_rfl, ?_⟩) (by assumption) ?_
    case refine_2 => (intro w9 hSw; clear hSw; go_simp; try with_reducible rfl)
    simp only [Act.put, List.setIfInBounds_toArray, List.set_cons_zero, List.set_cons_succ]
    refine wpAnyH_take (i := 12) (v := ?_) (oi := { dst := some 41, op := _, type := _, pos := _, after := _, guard := none }) rfl (by kernel_rfl) (by kernel_rfl) (by kernel_rfl) (fun _ _ _ h => h) (Or.inl ⟨by kernel_rfl, ?_⟩) (by assumption) ?_
    case refine_2 => (intro w9 hSw; have l0_0 := (hSw.at (w.heap.size) [.int .i64 0, .int .i64 M, .int .i64 D, .int .i64 U] (by simp)).c 0 rfl; have l0_1 := (hSw.at (w.heap.size) [.int .i64 0, .int .i64 M, .int .i64 D, .int .i64 U] (by simp)).c 1 rfl; have l0_2 := (hSw.at (w.heap.size) [.int .i64 0, .int .i64 M, .int .i64 D, .int .i64 U] (by simp)).c 2 rfl; have l0_3 := (hSw.at (w.heap.size) [.int .i64 0, .int .i64 M, .int .i64 D, .int .i64 U] (by simp)).c 3 rfl; clear hSw; go_simp; try with_reducible rfl)
    simp only [Act.put, List.setIfInBounds_toArray, List.set_cons_zero, List.set_cons_succ]
    refine wpAnyH_take (i := 14) (v := ?_) (oi := { dst := some 43, op := _, type := _, pos := _, after := _, guard := none }) rfl (by kernel_rfl) (by kernel_rfl) (by kernel_rfl) (fun _ _ _ h => h) (Or.inl ⟨by kernel_rfl, ?_⟩) (by assumption) ?_
    case refine_2 => (intro w9 hSw; clear hSw; go_simp; try with_reducible rfl)
    simp only [Act.put, List.setIfInBounds_toArray, List.set_cons_zero, List.set_cons_succ]
    refine wpAnyH_take (i := 18) (v := ?_) (oi := { dst := some 47, op := _, type := _, pos := _, after := _, guard := none }) rfl (by kernel_rfl) (by kernel_rfl) (by kernel_rfl) (fun _ _ _ h => h) (Or.inl ⟨by kernel_rfl, ?_⟩) (by assumption) ?_
    case refine_2 => (intro w9 hSw; clear hSw; go_simp; try with_reducible rfl)
    simp only [Act.put, List.setIfInBounds_toArray, List.set_cons_zero, List.set_cons_succ]
    refine wpAnyH_take (i := 19) (v := ?_) (oi := { dst := some 48, op := _, type := _, pos := _, after := _, guard := none }) rfl (by kernel_rfl) (by kernel_rfl) (by kernel_rfl) (fun _ _ _ h => h) (Or.inl ⟨by kernel_rfl, ?_⟩) (by assumption) ?_
    case refine_2 => (intro w9 hSw; have l0_0 := (hSw.at (w.heap.size) [.int .i64 0, .int .i64 M, .int .i64 D, .int .i64 U] (by simp)).c 0 rfl; have l0_1 := (hSw.at (w.heap.size) [.int .i64 0, .int .i64 M, .int .i64 D, .int .i64 U] (by simp)).c 1 rfl; have l0_2 := (hSw.at (w.heap.size) [.int .i64 0, .int .i64 M, .int .i64 D, .int .i64 U] (by simp)).c 2 rfl; have l0_3 := (hSw.at (w.heap.size) [.int .i64 0, .int .i64 M, .int .i64 D, .int .i64 U] (by simp)).c 3 rfl; clear hSw; go_simp; try with_reducible rfl)
    simp only [Act.put, List.setIfInBounds_toArray, List.set_cons_zero, List.set_cons_succ]
    refine wpAnyH_take (i := 21) (v := ?_) (oi := { dst := some 50, op := _, type := _, pos := _, after := _, guard := none }) rfl (by kernel_rfl) (by kernel_rfl) (by kernel_rfl) (fun _ _ _ h => h) (Or.inl ⟨by kernel_rfl, ?_⟩) (by assumption) ?_
    case refine_2 => (intro w9 hSw; clear hSw; go_simp; try with_reducible rfl)
    simp only [Act.put, List.setIfInBounds_toArray, List.set_cons_zero, List.set_cons_succ]
    refine wpAnyH_take (i := 22) (v := ?_) (oi := { dst := some 51, op := _, type := _, pos := _, after := _, guard := none }) rfl (by kernel_rfl) (by kernel_rfl) (by kernel_rfl) (fun _ _ _ h => h) (Or.inl ⟨by kernel_rfl, ?_⟩) (by assumption) ?_
    case refine_2 => (intro w9 hSw; clear hSw; go_simp; try with_reducible rfl)
    simp only [Act.put, List.setIfInBounds_toArray, List.set_cons_zero, List.set_cons_succ]
    refine wpAnyH_take (i := 23) (v := ?_) (oi := { dst := some 52, op := _, type := _, pos := _, after := _, guard := none }) rfl (by kernel_rfl) (by kernel_rfl) (by kernel_rfl) (fun _ _ _ h => h) (Or.inl ⟨by kernel_rfl, ?_⟩) (by assumption) ?_
    case refine_2 => (intro w9 hSw; clear hSw; go_simp; try with_reducible rfl)
    simp only [Act.put, List.setIfInBounds_toArray, List.set_cons_zero, List.set_cons_succ]
    refine wpAnyH_ready (rs := [2]) (by kernel_rfl) (by simp) (AllReadyH.cons (o := { dst := some 31, op := _, type := _, pos := _, after := _, guard := none }) rfl (fun K hK => ?_) AllReadyH.nil)
    go_simp
    refine (P1.out _).mono ?_
    rintro e v1 ⟨rfl, hw1⟩
    rw [hw1]
    clear hw1 v1
    refine hK.out _ _ hHeld (fun hHeld => ?_)
    clear hK K
    refine wpAnyH_ready (rs := [5]) (by kernel_rfl) (by simp) (AllReadyH.cons (o := { dst := some 34, op := _, type := _, pos := _, after := _, guard := none }) rfl (fun K hK => ?_) AllReadyH.nil)
    go_simp
    refine (G4.out _ (hL.out _ hHeld.1)).mono ?_
    rintro e v2 ⟨rfl, hb2⟩
    refine hK.out _ _ (hHeld.below hb2) (fun hHeld => ?_)
    clear hK K hb2
    refine wpAnyH_ready (rs := [8]) (by kernel_rfl) (by simp) (AllReadyH.cons (o := { dst := some 37, op := _, type := _, pos := _, after := _, guard := none }) rfl (fun K hK => ?_) AllReadyH.nil)
    go_simp
    refine (G5.out _ (hL.out _ hHeld.1)).mono ?_
    rintro e v3 ⟨rfl, hb3⟩
    refine hK.out _ _ (hHeld.below hb3) (fun hHeld => ?_)
    clear hK K hb3
    refine wpAnyH_ready (rs := [9]) (by kernel_rfl) (by simp) (AllReadyH.cons (o := { dst := some 38, op := _, type := _, pos := _, after := _, guard := none }) rfl (fun K hK => ?_) AllReadyH.nil)
    go_simp
    refine hK.out _ _ (hHeld.alloc _) (fun hHeld => ?_)
    have HX := bx_held _ hHeld
    clear hK K
    refine wpAnyH_ready (rs := [10]) (by kernel_rfl) (by simp) (AllReadyH.cons (o := { dst := some 39, op := _, type := _, pos := _, after := _, guard := none }) rfl (fun K hK => ?_) AllReadyH.nil)
    go_simp
    refine (J2.out _ _ HX.out).mono ?_
    rintro e v5 ⟨rfl, hb5⟩
    refine hK.out _ _ (hHeld.below hb5) (fun hHeld => ?_)
    clear hK K hb5 HX
    refine wpAnyH_ready (rs := [13]) (by kernel_rfl) (by simp) (AllReadyH.cons (o := { dst := some 42, op := _, type := _, pos := _, after := _, guard := none }) rfl (fun K hK => ?_) AllReadyH.nil)
    go_simp
    refine (P2.out _).mono ?_
    rintro e v6 ⟨rfl, hw6⟩
    rw [hw6]
    clear hw6 v6
    refine hK.out _ _ hHeld (fun hHeld => ?_)
    clear hK K
    refine wpAnyH_ready (rs := [15]) (by kernel_rfl) (by simp) (AllReadyH.cons (o := { dst := some 44, op := _, type := _, pos := _, after := _, guard := none }) rfl (fun K hK => ?_) AllReadyH.nil)
    go_simp
    refine (G6.out _ (hL.out _ hHeld.1)).mono ?_
    rintro e v7 ⟨rfl, hb7⟩
    refine hK.out _ _ (hHeld.below hb7) (fun hHeld => ?_)
    clear hK K hb7
    refine wpAnyH_ready (rs := [16]) (by kernel_rfl) (by simp) (AllReadyH.cons (o := { dst := some 45, op := _, type := _, pos := _, after := _, guard := none }) rfl (fun K hK => ?_) AllReadyH.nil)
    go_simp
    refine hK.out _ _ (hHeld.alloc _) (fun hHeld => ?_)
    have HX := bx_held _ hHeld
    clear hK K
    refine wpAnyH_ready (rs := [17]) (by kernel_rfl) (by simp) (AllReadyH.cons (o := { dst := some 46, op := _, type := _, pos := _, after := _, guard := none }) rfl (fun K hK => ?_) AllReadyH.nil)
    go_simp
    refine (J3.out _ _ HX.out).mono ?_
    rintro e v9 ⟨rfl, hb9⟩
    refine hK.out _ _ (hHeld.below hb9) (fun hHeld => ?_)
    clear hK K hb9 HX
    refine wpAnyH_ready (rs := [20]) (by kernel_rfl) (by simp) (AllReadyH.cons (o := { dst := some 49, op := _, type := _, pos := _, after := _, guard := none }) rfl (fun K hK => ?_) AllReadyH.nil)
    go_simp
    refine (P3.out _).mono ?_
    rintro e v10 ⟨rfl, hw10⟩
    rw [hw10]
    clear hw10 v10
    refine hK.out _ _ hHeld (fun hHeld => ?_)
    clear hK K
    refine wpAnyH_ready (rs := [24]) (by kernel_rfl) (by simp) (AllReadyH.cons (o := { dst := some 53, op := _, type := _, pos := _, after := _, guard := none }) rfl (fun K hK => ?_) AllReadyH.nil)
    go_simp
    refine (G7.out _ (hL.out _ hHeld.1)).mono ?_
    rintro e v11 ⟨rfl, hb11⟩
    refine hK.out _ _ (hHeld.below hb11) (fun hHeld => ?_)
    clear hK K hb11
    refine wpAnyH_ready (rs := [25]) (by kernel_rfl) (by simp) (AllReadyH.cons (o := { dst := some 54, op := _, type := _, pos := _, after := _, guard := none }) rfl (fun K hK => ?_) AllReadyH.nil)
    go_simp
    refine hK.out _ _ (hHeld.alloc _) (fun hHeld => ?_)
    have HX := bx_held _ hHeld
    clear hK K
    refine wpAnyH_ready (rs := [26]) (by kernel_rfl) (by simp) (AllReadyH.cons (o := { dst := some 55, op := _, type := _, pos := _, after := _, guard := none }) rfl (fun K hK => ?_) AllReadyH.nil)
    go_simp
    refine (J4.out _ _ HX.out).mono ?_
    rintro e v13 ⟨rfl, hb13⟩
    refine hK.out _ _ (hHeld.below hb13) (fun hHeld => ?_)
    clear hK K hb13 HX
    refine wpAnyH_ready (rs := [27]) (by kernel_rfl) (by simp) (AllReadyH.cons (o := { dst := some 56, op := _, type := _, pos := _, after := _, guard := none }) rfl (fun K hK => ?_) AllReadyH.nil)
    go_simp
    refine hK.out _ _ (hHeld.alloc _) (fun hHeld => ?_)
    have HX := bx_held _ hHeld
    clear hK K
    refine wpAnyH_ready (rs := [28]) (by kernel_rfl) (by simp) (AllReadyH.cons (o := { dst := some 57, op := _, type := _, pos := _, after := _, guard := none }) rfl (fun K hK => ?_) AllReadyH.nil)
    go_simp
    refine (J5.out _ _ HX.out).mono ?_
    rintro e v15 ⟨rfl, hb15⟩
    refine hK.out _ _ (hHeld.below hb15) (fun hHeld => ?_)
    clear hK K hb15 HX
    refine wpAnyH_take (i := 29) (v := ?_) (oi := { dst := some 2, op := _, type := _, pos := _, after := _, guard := none }) rfl (by kernel_rfl) (by kernel_rfl) (by kernel_rfl) (fun _ _ _ h => h) (Or.inl ⟨by kernel_rfl, ?_⟩) (by assumption) ?_
    case refine_2 => (intro w9 hSw; clear hSw; go_simp; try with_reducible rfl)
    simp only [Act.put, List.setIfInBounds_toArray, List.set_cons_zero, List.set_cons_succ]
    refine wpAnyH_done (by kernel_rfl) ?_ _
    have HB : Hid (Below w.heap.size w _) := hHeld.1
    clear hHeld
    go_wp2
    go_ret
    exact ⟨rfl, HB.out⟩


set_option maxRecDepth 100000 in
set_option maxHeartbeats 4000000 in
theorem iso_t (M D U y m h q mi us : Int) (T1 T2 T3 T4 T5 T6 X Y : ByteArray) (hU : U ≠ 0) (hy : M.tdiv 12 = y) (hm : M.tmod 12 = m) (y1 : -9223372036854775808 ≤ y) (y9 : y ≤ 9223372036854775807) (m1 : -9223372036854775808 ≤ m) (m9 : m ≤ 9223372036854775807) (hh : U.tdiv 3600000000 = h) (hq : U.tdiv 60000000 = q) (hi : q.tmod 60 = mi) (hu : U.tmod 60000000 = us) (h1 : -9223372036854775808 ≤ h) (h9 : h ≤ 9223372036854775807) (q1 : -9223372036854775808 ≤ q) (q9 : q ≤ 9223372036854775807) (mi1 : -9223372036854775808 ≤ mi) (mi9 : mi ≤ 9223372036854775807) (us1 : -9223372036854775808 ≤ us) (us9 : us ≤ 9223372036854775807)
    (hEQ : ∀ W : World, (Op.equalIn 10000 40 (.agg #[.int .i64 0, .int .i64 M, .int .i64 D, .int .i64 U]) (.agg #[.int .i64 0, .int .i64 0, .int .i64 0, .int .i64 0])).run Tryz.prog W = .ok false W)
    (M1 : Hid (∀ w : World, Clk.Tab w → Calls Tryz.prog 63 #[.int .i64 y, .string ⟨#[89]⟩] w fun r' w' => r' = .returned (.string T1) ∧ Below w.heap.size w w'))
    (M2 : Hid (∀ w : World, Clk.Tab w → Calls Tryz.prog 63 #[.int .i64 m, .string ⟨#[77]⟩] w fun r' w' => r' = .returned (.string T2) ∧ Below w.heap.size w w'))
    (M3 : Hid (∀ w : World, Clk.Tab w → Calls Tryz.prog 63 #[.int .i64 D, .string ⟨#[68]⟩] w fun r' w' => r' = .returned (.string T3) ∧ Below w.heap.size w w'))
    (J1 : Hid (∀ (b : Nat) (w : World), Bx w b [.string ⟨#[80]⟩, .string T1, .string T2, .string T3] → Calls Tryz.prog 20 #[.string ⟨#[]⟩, .slice (some ⟨b, 0, none⟩) 4 4] w fun r' w' => r' = .returned (.string (X)) ∧ Below w.heap.size w w'))
    (M4 : Hid (∀ w : World, Clk.Tab w → Calls Tryz.prog 63 #[.int .i64 h, .string ⟨#[72]⟩] w fun r' w' => r' = .returned (.string T4) ∧ Below w.heap.size w w'))
    (M5 : Hid (∀ w : World, Clk.Tab w → Calls Tryz.prog 63 #[.int .i64 mi, .string ⟨#[77]⟩] w fun r' w' => r' = .returned (.string T5) ∧ Below w.heap.size w w'))
    (MS : Hid (∀ w : World, Clk.Tab w → Calls Tryz.prog 64 #[.int .i64 us] w fun r' w' => r' = .returned (.string T6) ∧ Below w.heap.size w w'))
    (J2 : Hid (∀ (b : Nat) (w : World), Bx w b [.string X, .string ⟨#[84]⟩, .string T4, .string T5, .string T6] → Calls Tryz.prog 20 #[.string ⟨#[]⟩, .slice (some ⟨b, 0, none⟩) 5 5] w fun r' w' => r' = .returned (.string (Y)) ∧ Below w.heap.size w w'))
    (w : World) (hL : Hid (∀ W : World, Below w.heap.size w W → Clk.Tab W)) :
    Calls Tryz.prog 36 #[.agg #[.int .i64 0, .int .i64 M, .int .i64 D, .int .i64 U]] w fun r' w' => r' = .returned (.string Y) ∧ Below w.heap.size w w' := by
  have w_y : IntKind.i64.wrap y = y := by rw [IntKind.wrap_i64]; omega
  have w_m : IntKind.i64.wrap m = m := by rw [IntKind.wrap_i64]; omega
  have w_h : IntKind.i64.wrap h = h := by rw [IntKind.wrap_i64]; omega
  have w_q : IntKind.i64.wrap q = q := by rw [IntKind.wrap_i64]; omega
  have w_mi : IntKind.i64.wrap mi = mi := by rw [IntKind.wrap_i64]; omega
  have w_us : IntKind.i64.wrap us = us := by rw [IntKind.wrap_i64]; omega
  have n1 : (U == 0) = false := by simpa using hU
  have K0 : Hid (BS w [(w.heap.size, [.int .i64 0, .int .i64 M, .int .i64 D, .int .i64 U])] (w.alloc (.cells #[.int .i64 0, .int .i64 M, .int .i64 D, .int .i64 U] 40))) := ((BS.start w).new [.int .i64 0, .int .i64 M, .int .i64 D, .int .i64 U] 40 rfl)
  go_enter Tryz.func36, Tryz.ntmps36
  go_upto_region 3 with fail
  refine bs_to K0 ?_
  clear K0
  intro W0 K0
  go_cut [3] (fun v0 wx => v0 = .string X ∧ Hid (BS w [(w.heap.size, [.int .i64 0, .int .i64 M, .int .i64 D, .int .i64 U])] wx))
  case first =>
    refine wp_region_held_drew (S := BS w [(w.heap.size, [.int .i64 0, .int .i64 M, .int .i64 D, .int .i64 U])]) (by kernel_rfl) K0.out.drew (fun hHeld => ?_)
    refine wpAnyH_take (i := 0) (v := ?_) (oi := { dst := some 10, op := _, type := _, pos := _, after := _, guard := none }) rfl (by kernel_rfl) (by kernel_rfl) (by kernel_rfl) (fun _ _ _ h => h) (Or.inl ⟨by kernel_rfl, ?_⟩) (by assumption) ?_
    case refine_2 => (intro w9 hSw; clear hSw; go_simp; try with_reducible rfl)
    simp only [Act.put, List.setIfInBounds_toArray, List.set_cons_zero, List.set_cons_succ]
    refine wpAnyH_take (i := 1) (v := ?_) (oi := { dst := some 11, op := _, type := _, pos := _, after := _, guard := none }) rfl (by kernel_rfl) (by kernel_rfl) (by kernel_rfl) (fun _ _ _ h => h) (Or.inl ⟨by kernel_rfl, ?_⟩) (by assumption) ?_
    case refine_2 => (intro w9 hSw; have l0_0 := (hSw.at (w.heap.size) [.int .i64 0, .int .i64 M, .int .i64 D, .int .i64 U] (by simp)).c 0 rfl; have l0_1 := (hSw.at (w.heap.size) [.int .i64 0, .int .i64 M, .int .i64 D, .int .i64 U] (by simp)).c 1 rfl; have l0_2 := (hSw.at (w.heap.size) [.int .i64 0, .int .i64 M, .int .i64 D, .int .i64 U] (by simp)).c 2 rfl; have l0_3 := (hSw.at (w.heap.size) [.int .i64 0, .int .i64 M, .int .i64 D, .int .i64 U] (by simp)).c 3 rfl; clear hSw; go_simp; try with_reducible rfl)
    simp only [Act.put, List.setIfInBounds_toArray, List.set_cons_zero, List.set_cons_succ]
    refine wpAnyH_take (i := 2) (v := ?_) (oi := { dst := some 12, op := _, type := _, pos := _, after := _, guard := none }) rfl (by kernel_rfl) (by kernel_rfl) (by kernel_rfl) (fun _ _ _ h => h) (Or.inl ⟨by kernel_rfl, ?_⟩) (by assumption) ?_
    case refine_2 => (intro w9 hSw; clear hSw; go_simp; try with_reducible rfl)
    simp only [Act.put, List.setIfInBounds_toArray, List.set_cons_zero, List.set_cons_succ]
    refine wpAnyH_take (i := 4) (v := ?_) (oi := { dst := some 14, op := _, type := _, pos := _, after := _, guard := none }) rfl (by kernel_rfl) (by kernel_rfl) (by kernel_rfl) (fun _ _ _ h => h) (Or.inl ⟨by kernel_rfl, ?_⟩) (by assumption) ?_
    case refine_2 => (intro w9 hSw; clear hSw; go_simp; try with_reducible rfl)
    simp only [Act.put, List.setIfInBounds_toArray, List.set_cons_zero, List.set_cons_succ]
    refine wpAnyH_take (i := 5) (v := ?_) (oi := { dst := some 15, op := _, type := _, pos := _, after := _, guard := none }) rfl (by kernel_rfl) (by kernel_rfl) (by kernel_rfl) (fun _ _ _ h => h) (Or.inl ⟨by kernel_rfl, ?_⟩) (by assumption) ?_
    case refine_2 => (intro w9 hSw; have l0_0 := (hSw.at (w.heap.size) [.int .i64 0, .int .i64 M, .int .i64 D, .int .i64 U] (by simp)).c 0 rfl; have l0_1 := (hSw.at (w.heap.size) [.int .i64 0, .int .i64 M, .int .i64 D, .int .i64 U] (by simp)).c 1 rfl; have l0_2 := (hSw.at (w.heap.size) [.int .i64 0, .int .i64 M, .int .i64 D, .int .i64 U] (by simp)).c 2 rfl; have l0_3 := (hSw.at (w.heap.size) [.int .i64 0, .int .i64 M, .int .i64 D, .int .i64 U] (by simp)).c 3 rfl; clear hSw; go_simp; try with_reducible rfl)
    simp only [Act.put, List.setIfInBounds_toArray, List.set_cons_zero, List.set_cons_succ]
    refine wpAnyH_take (i := 6) (v := ?_) (oi := { dst := some 16, op := _, type := _, pos := _, after := _, guard := none }) rfl (by kernel_rfl) (by kernel_rfl) (by kernel_rfl) (fun _ _ _ h => h) (Or.inl ⟨by kernel_rfl, ?_⟩) (by assumption) ?_
    case refine_2 => (intro w9 hSw; clear hSw; go_simp; try with_reducible rfl)
    simp only [Act.put, List.setIfInBounds_toArray, List.set_cons_zero, List.set_cons_succ]
    refine wpAnyH_take (i := 8) (v := ?_) (oi := { dst := some 18, op := _, type := _, pos := _, after := _, guard := none }) rfl (by kernel_rfl) (by kernel_rfl) (by kernel_rfl) (fun _ _ _ h => h) (Or.inl ⟨by kernel_rfl, ?_⟩) (by assumption) ?_
    case refine_2 => (intro w9 hSw; clear hSw; go_simp; try with_reducible rfl)
    simp only [Act.put, List.setIfInBounds_toArray, List.set_cons_zero, List.set_cons_succ]
    refine wpAnyH_take (i := 9) (v := ?_) (oi := { dst := some 19, op := _, type := _, pos := _, after := _, guard := none }) rfl (by kernel_rfl) (by kernel_rfl) (by kernel_rfl) (fun _ _ _ h => h) (Or.inl ⟨by kernel_rfl, ?_⟩) (by assumption) ?_
    case refine_2 => (intro w9 hSw; have l0_0 := (hSw.at (w.heap.size) [.int .i64 0, .int .i64 M, .int .i64 D, .int .i64 U] (by simp)).c 0 rfl; have l0_1 := (hSw.at (w.heap.size) [.int .i64 0, .int .i64 M, .int .i64 D, .int .i64 U] (by simp)).c 1 rfl; have l0_2 := (hSw.at (w.heap.size) [.int .i64 0, .int .i64 M, .int .i64 D, .int .i64 U] (by simp)).c 2 rfl; have l0_3 := (hSw.at (w.heap.size) [.int .i64 0, .int .i64 M, .int .i64 D, .int .i64 U] (by simp)).c 3 rfl; clear hSw; go_simp; try with_reducible rfl)
    simp only [Act.put, List.setIfInBounds_toArray, List.set_cons_zero, List.set_cons_succ]
    refine wpAnyH_ready (rs := [3]) (by kernel_rfl) (by simp) (AllReadyH.cons (o := { dst := some 13, op := _, type := _, pos := _, after := _, guard := none }) rfl (fun K hK => ?_) AllReadyH.nil)
    go_simp
    refine (M1.out _ (hL.out _ hHeld.1)).mono ?_
    rintro e v1 ⟨rfl, hb1⟩
    refine hK.out _ _ (hHeld.below hb1) (fun hHeld => ?_)
    clear hK K hb1
    refine wpAnyH_ready (rs := [7]) (by kernel_rfl) (by simp) (AllReadyH.cons (o := { dst := some 17, op := _, type := _, pos := _, after := _, guard := none }) rfl (fun K hK => ?_) AllReadyH.nil)
    go_simp
    refine (M2.out _ (hL.out _ hHeld.1)).mono ?_
    rintro e v2 ⟨rfl, hb2⟩
    refine hK.out _ _ (hHeld.below hb2) (fun hHeld => ?_)
    clear hK K hb2
    refine wpAnyH_ready (rs := [10]) (by kernel_rfl) (by simp) (AllReadyH.cons (o := { dst := some 20, op := _, type := _, pos := _, after := _, guard := none }) rfl (fun K hK => ?_) AllReadyH.nil)
    go_simp
    refine (M3.out _ (hL.out _ hHeld.1)).mono ?_
    rintro e v3 ⟨rfl, hb3⟩
    refine hK.out _ _ (hHeld.below hb3) (fun hHeld => ?_)
    clear hK K hb3
    refine wpAnyH_ready (rs := [11]) (by kernel_rfl) (by simp) (AllReadyH.cons (o := { dst := some 21, op := _, type := _, pos := _, after := _, guard := none }) rfl (fun K hK => ?_) AllReadyH.nil)
    go_simp
    refine hK.out _ _ (hHeld.alloc _) (fun hHeld => ?_)
    have HX := bx_held _ hHeld
    clear hK K
    refine wpAnyH_ready (rs := [12]) (by kernel_rfl) (by simp) (AllReadyH.cons (o := { dst := some 22, op := _, type := _, pos := _, after := _, guard := none }) rfl (fun K hK => ?_) AllReadyH.nil)
    go_simp
    refine (J1.out _ _ HX.out).mono ?_
    rintro e v5 ⟨rfl, hb5⟩
    refine hK.out _ _ (hHeld.below hb5) (fun hHeld => ?_)
    clear hK K hb5 HX
    refine wpAnyH_take (i := 13) (v := ?_) (oi := { dst := some 3, op := _, type := _, pos := _, after := _, guard := none }) rfl (by kernel_rfl) (by kernel_rfl) (by kernel_rfl) (fun _ _ _ h => h) (Or.inl ⟨by kernel_rfl, ?_⟩) (by assumption) ?_
    case refine_2 => (intro w9 hSw; clear hSw; go_simp; try with_reducible rfl)
    simp only [Act.put, List.setIfInBounds_toArray, List.set_cons_zero, List.set_cons_succ]
    refine wpAnyH_done (by kernel_rfl) ?_ _
    go_wp2_with fail
    go_meet
    case rel => exact ⟨rfl, hHeld⟩
  case rest =>
    obtain ⟨rfl, K1⟩ := hcut
    clear K0
    obtain ⟨c1_0_0, c1_0_1, c1_0_2, c1_0_3⟩ := (bo1 K1).c4
    go_upto_region 6 with fail
    clear c1_0_0 c1_0_1 c1_0_2 c1_0_3
    go_cut [4, 5, 6] (fun v0 v1 v2 wx => v0 = .int .i64 h ∧ v1 = .int .i64 mi ∧ v2 = .int .i64 us ∧ Hid (BS w [(w.heap.size, [.int .i64 0, .int .i64 M, .int .i64 D, .int .i64 U])] wx))
    case first =>
      refine wp_region_held_drew (S := BS w [(w.heap.size, [.int .i64 0, .int .i64 M, .int .i64 D, .int .i64 U])]) (by kernel_rfl) K1.out.drew (fun hHeld => ?_)
      refine wpAnyH_take (i := 0) (v := ?_) (oi := { dst := some 27, op := _, type := _, pos := _, after := _, guard := none }) rfl (by kernel_rfl) (by kernel_rfl) (by kernel_rfl) (fun _ _ _ h => h) (Or.inl ⟨by kernel_rfl, ?_⟩) (by assumption) ?_
      case refine_2 => (intro w9 hSw; clear hSw; go_simp; try with_reducible rfl)
      simp only [Act.put, List.setIfInBounds_toArray, List.set_cons_zero, List.set_cons_succ]
      refine wpAnyH_take (i := 1) (v := ?_) (oi := { dst := some 28, op := _, type := _, pos := _, after := _, guard := none }) rfl (by kernel_rfl) (by kernel_rfl) (by kernel_rfl) (fun _ _ _ h => h) (Or.inl ⟨by kernel_rfl, ?_⟩) (by assumption) ?_
      case refine_2 => (intro w9 hSw; have l0_0 := (hSw.at (w.heap.size) [.int .i64 0, .int .i64 M, .int .i64 D, .int .i64 U] (by simp)).c 0 rfl; have l0_1 := (hSw.at (w.heap.size) [.int .i64 0, .int .i64 M, .int .i64 D, .int .i64 U] (by simp)).c 1 rfl; have l0_2 := (hSw.at (w.heap.size) [.int .i64 0, .int .i64 M, .int .i64 D, .int .i64 U] (by simp)).c 2 rfl; have l0_3 := (hSw.at (w.heap.size) [.int .i64 0, .int .i64 M, .int .i64 D, .int .i64 U] (by simp)).c 3 rfl; clear hSw; go_simp; try with_reducible rfl)
      simp only [Act.put, List.setIfInBounds_toArray, List.set_cons_zero, List.set_cons_succ]
      refine wpAnyH_take (i := 2) (v := ?_) (oi := { dst := some 29, op := _, type := _, pos := _, after := _, guard := none }) rfl (by kernel_rfl) (by kernel_rfl) (by kernel_rfl) (fun _ _ _ h => h) (Or.inl ⟨by kernel_rfl, ?_⟩) (by assumption) ?_
      case refine_2 => (intro w9 hSw; clear hSw; go_simp; try with_reducible rfl)
      simp only [Act.put, List.setIfInBounds_toArray, List.set_cons_zero, List.set_cons_succ]
      refine wpAnyH_take (i := 3) (v := ?_) (oi := { dst := some 30, op := _, type := _, pos := _, after := _, guard := none }) rfl (by kernel_rfl) (by kernel_rfl) (by kernel_rfl) (fun _ _ _ h => h) (Or.inl ⟨by kernel_rfl, ?_⟩) (by assumption) ?_
      case refine_2 => (intro w9 hSw; clear hSw; go_simp; try with_reducible rfl)
      simp only [Act.put, List.setIfInBounds_toArray, List.set_cons_zero, List.set_cons_succ]
      refine wpAnyH_take (i := 4) (v := ?_) (oi := { dst := some 31, op := _, type := _, pos := _, after := _, guard := none }) rfl (by kernel_rfl) (by kernel_rfl) (by kernel_rfl) (fun _ _ _ h => h) (Or.inl ⟨by kernel_rfl, ?_⟩) (by assumption) ?_
      case refine_2 => (intro w9 hSw; have l0_0 := (hSw.at (w.heap.size) [.int .i64 0, .int .i64 M, .int .i64 D, .int .i64 U] (by simp)).c 0 rfl; have l0_1 := (hSw.at (w.heap.size) [.int .i64 0, .int .i64 M, .int .i64 D, .int .i64 U] (by simp)).c 1 rfl; have l0_2 := (hSw.at (w.heap.size) [.int .i64 0, .int .i64 M, .int .i64 D, .int .i64 U] (by simp)).c 2 rfl; have l0_3 := (hSw.at (w.heap.size) [.int .i64 0, .int .i64 M, .int .i64 D, .int .i64 U] (by simp)).c 3 rfl; clear hSw; go_simp; try with_reducible rfl)
      simp only [Act.put, List.setIfInBounds_toArray, List.set_cons_zero, List.set_cons_succ]
      refine wpAnyH_take (i := 5) (v := ?_) (oi := { dst := some 32, op := _, type := _, pos := _, after := _, guard := none }) rfl (by kernel_rfl) (by kernel_rfl) (by kernel_rfl) (fun _ _ _ h => h) (Or.inl ⟨by kernel_rfl, ?_⟩) (by assumption) ?_
      case refine_2 => (intro w9 hSw; clear hSw; go_simp; try with_reducible rfl)
      simp only [Act.put, List.setIfInBounds_toArray, List.set_cons_zero, List.set_cons_succ]
      refine wpAnyH_take (i := 6) (v := ?_) (oi := { dst := some 33, op := _, type := _, pos := _, after := _, guard := none }) rfl (by kernel_rfl) (by kernel_rfl) (by kernel_rfl) (fun _ _ _ h => h) (Or.inl ⟨by kernel_rfl, ?_⟩) (by assumption) ?_
      case refine_2 => (intro w9 hSw; clear hSw; go_simp; try with_reducible rfl)
      simp only [Act.put, List.setIfInBounds_toArray, List.set_cons_zero, List.set_cons_succ]
      refine wpAnyH_take (i := 7) (v := ?_) (oi := { dst := some 34, op := _, type := _, pos := _, after := _, guard := none }) rfl (by kernel_rfl) (by kernel_rfl) (by kernel_rfl) (fun _ _ _ h => h) (Or.inl ⟨by kernel_rfl, ?_⟩) (by assumption) ?_
      case refine_2 => (intro w9 hSw; clear hSw; go_simp; try with_reducible rfl)
      simp only [Act.put, List.setIfInBounds_toArray, List.set_cons_zero, List.set_cons_succ]
      refine wpAnyH_take (i := 8) (v := ?_) (oi := { dst := some 35, op := _, type := _, pos := _, after := _, guard := none }) rfl (by kernel_rfl) (by kernel_rfl) (by kernel_rfl) (fun _ _ _ h => h) (Or.inl ⟨by kernel_rfl, ?_⟩) (by assumption) ?_
      case refine_2 => (intro w9 hSw; have l0_0 := (hSw.at (w.heap.size) [.int .i64 0, .int .i64 M, .int .i64 D, .int .i64 U] (by simp)).c 0 rfl; have l0_1 := (hSw.at (w.heap.size) [.int .i64 0, .int .i64 M, .int .i64 D, .int .i64 U] (by simp)).c 1 rfl; have l0_2 := (hSw.at (w.heap.size) [.int .i64 0, .int .i64 M, .int .i64 D, .int .i64 U] (by simp)).c 2 rfl; have l0_3 := (hSw.at (w.heap.size) [.int .i64 0, .int .i64 M, .int .i64 D, .int .i64 U] (by simp)).c 3 rfl; clear hSw; go_simp; try with_reducible rfl)
      simp only [Act.put, List.setIfInBounds_toArray, List.set_cons_zero, List.set_cons_succ]
      refine wpAnyH_take (i := 9) (v := ?_) (oi := { dst := some 36, op := _, type := _, pos := _, after := _, guard := none }) rfl (by kernel_rfl) (by kernel_rfl) (by kernel_rfl) (fun _ _ _ h => h) (Or.inl ⟨by kernel_rfl, ?_⟩) (by assumption) ?_
      case refine_2 => (intro w9 hSw; clear hSw; go_simp; try with_reducible rfl)
      simp only [Act.put, List.setIfInBounds_toArray, List.set_cons_zero, List.set_cons_succ]
      refine wpAnyH_take (i := 10) (v := ?_) (oi := { dst := some 4, op := _, type := _, pos := _, after := _, guard := none }) rfl (by kernel_rfl) (by kernel_rfl) (by kernel_rfl) (fun _ _ _ h => h) (Or.inl ⟨by kernel_rfl, ?_⟩) (by assumption) ?_
      case refine_2 => (intro w9 hSw; clear hSw; go_simp; try with_reducible rfl)
      simp only [Act.put, List.setIfInBounds_toArray, List.set_cons_zero, List.set_cons_succ]
      refine wpAnyH_take (i := 11) (v := ?_) (oi := { dst := some 5, op := _, type := _, pos := _, after := _, guard := none }) rfl (by kernel_rfl) (by kernel_rfl) (by kernel_rfl) (fun _ _ _ h => h) (Or.inl ⟨by kernel_rfl, ?_⟩) (by assumption) ?_
      case refine_2 => (intro w9 hSw; clear hSw; go_simp; try with_reducible rfl)
      simp only [Act.put, List.setIfInBounds_toArray, List.set_cons_zero, List.set_cons_succ]
      refine wpAnyH_take (i := 12) (v := ?_) (oi := { dst := some 6, op := _, type := _, pos := _, after := _, guard := none }) rfl (by kernel_rfl) (by kernel_rfl) (by kernel_rfl) (fun _ _ _ h => h) (Or.inl ⟨by kernel_rfl, ?_⟩) (by assumption) ?_
      case refine_2 => (intro w9 hSw; clear hSw; go_simp; try with_reducible rfl)
      simp only [Act.put, List.setIfInBounds_toArray, List.set_cons_zero, List.set_cons_succ]
      refine wpAnyH_done (by kernel_rfl) ?_ _
      go_wp2_with fail
      go_meet
      case rel => exact ⟨rfl, rfl, rfl, hHeld⟩
    case rest =>
      obtain ⟨rfl, rfl, rfl, K2⟩ := hcut
      clear K1
      obtain ⟨c2_0_0, c2_0_1, c2_0_2, c2_0_3⟩ := (bo1 K2).c4
      go_wp2_with fail
      refine (M4.out _ (hL.out _ K2.out.1)).mono ?_
      rintro e W3 ⟨rfl, hb⟩
      have K3 := bsb K2 hb
      clear c2_0_0 c2_0_1 c2_0_2 c2_0_3
      clear hb K2
      obtain ⟨c3_0_0, c3_0_1, c3_0_2, c3_0_3⟩ := (bo1 K3).c4
      go_wp2_with fail
      refine (M5.out _ (hL.out _ K3.out.1)).mono ?_
      rintro e W4 ⟨rfl, hb⟩
      have K4 := bsb K3 hb
      clear c3_0_0 c3_0_1 c3_0_2 c3_0_3
      clear hb K3
      obtain ⟨c4_0_0, c4_0_1, c4_0_2, c4_0_3⟩ := (bo1 K4).c4
      go_wp2_with fail
      refine (MS.out _ (hL.out _ K4.out.1)).mono ?_
      rintro e W5 ⟨rfl, hb⟩
      have K5 := bsb K4 hb
      clear c4_0_0 c4_0_1 c4_0_2 c4_0_3
      clear hb K4
      obtain ⟨c5_0_0, c5_0_1, c5_0_2, c5_0_3⟩ := (bo1 K5).c4
      have Kj6 : Hid (BS w [(W5.heap.size, [.string X, .string ⟨#[84]⟩, .string T4, .string T5, .string T6]), (w.heap.size, [.int .i64 0, .int .i64 M, .int .i64 D, .int .i64 U])] (W5.alloc (.cells #[.string X, .string ⟨#[84]⟩, .string T4, .string T5, .string T6] 9))) := K5.out.new [.string X, .string ⟨#[84]⟩, .string T4, .string T5, .string T6] 9 rfl
      go_wp2_with fail
      refine (J2.out _ _ (bo1 Kj6)).mono ?_
      rintro e W6 ⟨rfl, hb⟩
      have K6 := bsb Kj6 hb
      clear c5_0_0 c5_0_1 c5_0_2 c5_0_3
      clear hb Kj6 K5
      go_wp2
      go_ret
      exact ⟨rfl, K6.out.1⟩



end Go.Proofs.YtmohhbgmbicklaaGreatDoor
