/- stamp: Instant, moveByClocks, AddTz, way by way. -/
import Derived.Test.YtpdmndlpgjjopaaGreatDoorStBq
import Derived.Test.YtpdmndlpgjjopaaGreatDoorBxCq
namespace Go.Proofs.YtpdmndlpgjjopaaGreatDoor
open Go.RowKit
set_option linter.unusedVariables false

set_option maxRecDepth 100000 in
set_option maxHeartbeats 4000000 in
theorem in_ok (Ok : World → Prop) (T : List Value) (hT : T.length = 25) (u s a9 how d9 d6 V e : Int) (h9 : IntKind.i64.wrap (a9 - s) = d9) (h6 : IntKind.i64.wrap (d9 * 1000000) = d6)
    (RT : Hid (∀ w : World, Ok w → Calls Tryz.prog 16 #[.agg T.toArray] w fun r' w' => r' = .returned (.bool true) ∧ Below w.heap.size w w'))
    (R : Hid (∀ w : World, Ok w → Calls Tryz.prog 17 #[.agg #[.int .i64 0, .int .i64 u]] w fun r' w' => r' = .returned (.bool true) ∧ Below w.heap.size w w'))
    (SE : Hid (∀ w : World, Calls Tryz.prog 78 #[.agg #[.int .i64 0, .int .i64 u]] w fun r' w' => r' = .returned (.int .i64 s) ∧ Below w.heap.size w w'))
    (IN : Hid (∀ w : World, Ok w → Calls Tryz.prog 80 #[.agg T.toArray, .int .i64 s] w fun r' w' => r' = .returned (.tuple #[.int .i64 a9, .int .i64 how, .int .i64 0]) ∧ Below w.heap.size w w'))
    (MO : Hid (∀ w : World, Ok w → Calls Tryz.prog 30 #[.agg #[.int .i64 0, .int .i64 u], .int .i64 d6] w fun r' w' => r' = .returned (.tuple #[.agg #[.int .i64 0, .int .i64 V], .int .i64 0]) ∧ Below w.heap.size w w'))
    (w : World) (hL : Hid (∀ W : World, Below w.heap.size w W → Ok W)) :
    Calls Tryz.prog 54 #[.agg T.toArray, .agg #[.int .i64 0, .int .i64 u]] w fun r' w' => r' = .returned (.tuple #[.agg #[.int .i64 0, .int .i64 V], .int .i64 how, .int .i64 0]) ∧ Below w.heap.size w w' := by
  have K0 : Hid (BS w [(w.heap.size + 2, [.int .i64 0, .int .i64 0]), (w.heap.size + 1, [.int .i64 0, .int .i64 u]), (w.heap.size, T)] (((w.alloc (.cells T.toArray 46)).alloc (.cells #[.int .i64 0, .int .i64 u] 36)).alloc (.cells #[.int .i64 0, .int .i64 0] 36))) := ((((BS.start w).new T 46 rfl).new [.int .i64 0, .int .i64 u] 36 (by simp)).new [.int .i64 0, .int .i64 0] 36 (by simp))
  go_enter Tryz.func54, Tryz.ntmps54
  generalize hUA : T.toArray = UA at *
  go_upto_region 1 with fail
  refine gen_to (BS w [(w.heap.size + 2, [.int .i64 0, .int .i64 0]), (w.heap.size + 1, [.int .i64 0, .int .i64 u]), (w.heap.size, T)]) K0.out ?_
  clear K0
  intro W0 K0'
  have K0 : Hid (BS w [(w.heap.size + 2, [.int .i64 0, .int .i64 0]), (w.heap.size + 1, [.int .i64 0, .int .i64 u]), (w.heap.size, T)] W0) := K0'
  clear K0'
  obtain ⟨c0_0_0, c0_0_1⟩ := (bo1 K0).c2
  obtain ⟨c0_1_0, c0_1_1⟩ := (bo2 K0).c2
  go_wp2_with (first | (refine wpList_load_mid rfl 46 _ rfl (w.heap.size) 0 rfl T _ (K0.out.at (w.heap.size) T (by simp)).all Tryz.underlying46 rfl (by rw [hT]; kernel_rfl) ?_; rw [hUA]) | fail)
  refine (RT.out _ (hL.out _ K0.out.1)).mono ?_
  rintro e W1 ⟨rfl, hb⟩
  have K1 := bsb K0 hb
  clear c0_0_0 c0_0_1 c0_1_0 c0_1_1
  clear hb K0
  obtain ⟨c1_0_0, c1_0_1⟩ := (bo1 K1).c2
  obtain ⟨c1_1_0, c1_1_1⟩ := (bo2 K1).c2
  go_wp2_with (first | (refine wpList_load_mid rfl 46 _ rfl (w.heap.size) 0 rfl T _ (K1.out.at (w.heap.size) T (by simp)).all Tryz.underlying46 rfl (by rw [hT]; kernel_rfl) ?_; rw [hUA]) | fail)
  refine (R.out _ (hL.out _ K1.out.1)).mono ?_
  rintro e W2 ⟨rfl, hb⟩
  have K2 := bsb K1 hb
  clear c1_0_0 c1_0_1 c1_1_0 c1_1_1
  clear hb K1
  obtain ⟨c2_0_0, c2_0_1⟩ := (bo1 K2).c2
  obtain ⟨c2_1_0, c2_1_1⟩ := (bo2 K2).c2
  go_wp2_with fail
  go_cut [7, 8, 9] (fun v0 v1 v2 wx => v0 = .int .i64 a9 ∧ v1 = .int .i64 how ∧ v2 = .int .i64 0 ∧ Hid (BS w [(w.heap.size + 2, [.int .i64 0, .int .i64 0]), (w.heap.size + 1, [.int .i64 0, .int .i64 u]), (w.heap.size, T)] wx))
  case first =>
    refine wp_region_held_drew (S := BS w [(w.heap.size + 2, [.int .i64 0, .int .i64 0]), (w.heap.size + 1, [.int .i64 0, .int .i64 u]), (w.heap.size, T)]) (by kernel_rfl) K2.out.drew (fun hHeld => ?_)
    refine wpAnyH_take (i := 0) (v := .agg UA) (oi := { dst := some 25, op := _, type := _, pos := _, after := _, guard := none }) rfl (by kernel_rfl) (by kernel_rfl) (by kernel_rfl) (fun _ _ _ h => h) (Or.inl ⟨by kernel_rfl, ?_⟩) (by assumption) ?_
    case refine_1 => (intro w9 hSw; rw [← hUA]; exact exec_row9 rfl rfl (hSw.at (w.heap.size) T (by simp)).all Tryz.underlying46 rfl (by rw [hT]; kernel_rfl))
    simp only [Act.put, List.setIfInBounds_toArray, List.set_cons_zero, List.set_cons_succ]
    refine wpAnyH_take (i := 1) (v := ?_) (oi := { dst := some 26, op := _, type := _, pos := _, after := _, guard := none }) rfl (by kernel_rfl) (by kernel_rfl) (by kernel_rfl) (fun _ _ _ h => h) (Or.inl ⟨by kernel_rfl, ?_⟩) (by assumption) ?_
    case refine_2 => (intro w9 hSw; have l0_0 := (hSw.at (w.heap.size + 2) [.int .i64 0, .int .i64 0] (by simp)).c 0 rfl; have l0_1 := (hSw.at (w.heap.size + 2) [.int .i64 0, .int .i64 0] (by simp)).c 1 rfl; have l1_0 := (hSw.at (w.heap.size + 1) [.int .i64 0, .int .i64 u] (by simp)).c 0 rfl; have l1_1 := (hSw.at (w.heap.size + 1) [.int .i64 0, .int .i64 u] (by simp)).c 1 rfl; clear hSw; go_simp; try with_reducible rfl)
    simp only [Act.put, List.setIfInBounds_toArray, List.set_cons_zero, List.set_cons_succ]
    refine wpAnyH_ready (rs := [2]) (by kernel_rfl) (by simp) (AllReadyH.cons (o := { dst := some 27, op := _, type := _, pos := _, after := _, guard := none }) rfl (fun K hK => ?_) AllReadyH.nil)
    go_simp
    refine (SE.out _).mono ?_
    rintro e v1 ⟨rfl, hb1⟩
    refine hK.out _ _ (hHeld.below hb1) (fun hHeld => ?_)
    clear hK K hb1
    refine wpAnyH_ready (rs := [3]) (by kernel_rfl) (by simp) (AllReadyH.cons (o := { dst := some 28, op := _, type := _, pos := _, after := _, guard := none }) rfl (fun K hK => ?_) AllReadyH.nil)
    go_simp
    refine (IN.out _ (hL.out _ hHeld.1)).mono ?_
    rintro e v2 ⟨rfl, hb2⟩
    refine hK.out _ _ (hHeld.below hb2) (fun hHeld => ?_)
    clear hK K hb2
    refine wpAnyH_take (i := 4) (v := ?_) (oi := { dst := some 24, op := _, type := _, pos := _, after := _, guard := none }) rfl (by kernel_rfl) (by kernel_rfl) (by kernel_rfl) (fun _ _ _ h => h) (Or.inl ⟨by kernel_rfl, ?_⟩) (by assumption) ?_
    case refine_2 => (intro w9 hSw; clear hSw; go_simp; try with_reducible rfl)
    simp only [Act.put, List.setIfInBounds_toArray, List.set_cons_zero, List.set_cons_succ]
    refine wpAnyH_take (i := 5) (v := ?_) (oi := { dst := some 29, op := _, type := _, pos := _, after := _, guard := none }) rfl (by kernel_rfl) (by kernel_rfl) (by kernel_rfl) (fun _ _ _ h => h) (Or.inl ⟨by kernel_rfl, ?_⟩) (by assumption) ?_
    case refine_2 => (intro w9 hSw; clear hSw; go_simp; try with_reducible rfl)
    simp only [Act.put, List.setIfInBounds_toArray, List.set_cons_zero, List.set_cons_succ]
    refine wpAnyH_take (i := 6) (v := ?_) (oi := { dst := some 30, op := _, type := _, pos := _, after := _, guard := none }) rfl (by kernel_rfl) (by kernel_rfl) (by kernel_rfl) (fun _ _ _ h => h) (Or.inl ⟨by kernel_rfl, ?_⟩) (by assumption) ?_
    case refine_2 => (intro w9 hSw; clear hSw; go_simp; try with_reducible rfl)
    simp only [Act.put, List.setIfInBounds_toArray, List.set_cons_zero, List.set_cons_succ]
    refine wpAnyH_take (i := 7) (v := ?_) (oi := { dst := some 31, op := _, type := _, pos := _, after := _, guard := none }) rfl (by kernel_rfl) (by kernel_rfl) (by kernel_rfl) (fun _ _ _ h => h) (Or.inl ⟨by kernel_rfl, ?_⟩) (by assumption) ?_
    case refine_2 => (intro w9 hSw; clear hSw; go_simp; try with_reducible rfl)
    simp only [Act.put, List.setIfInBounds_toArray, List.set_cons_zero, List.set_cons_succ]
    refine wpAnyH_take (i := 8) (v := ?_) (oi := { dst := some 7, op := _, type := _, pos := _, after := _, guard := none }) rfl (by kernel_rfl) (by kernel_rfl) (by kernel_rfl) (fun _ _ _ h => h) (Or.inl ⟨by kernel_rfl, ?_⟩) (by assumption) ?_
    case refine_2 => (intro w9 hSw; clear hSw; go_simp; try with_reducible rfl)
    simp only [Act.put, List.setIfInBounds_toArray, List.set_cons_zero, List.set_cons_succ]
    refine wpAnyH_take (i := 9) (v := ?_) (oi := { dst := some 8, op := _, type := _, pos := _, after := _, guard := none }) rfl (by kernel_rfl) (by kernel_rfl) (by kernel_rfl) (fun _ _ _ h => h) (Or.inl ⟨by kernel_rfl, ?_⟩) (by assumption) ?_
    case refine_2 => (intro w9 hSw; clear hSw; go_simp; try with_reducible rfl)
    simp only [Act.put, List.setIfInBounds_toArray, List.set_cons_zero, List.set_cons_succ]
    refine wpAnyH_take (i := 10) (v := ?_) (oi := { dst := some 9, op := _, type := _, pos := _, after := _, guard := none }) rfl (by kernel_rfl) (by kernel_rfl) (by kernel_rfl) (fun _ _ _ h => h) (Or.inl ⟨by kernel_rfl, ?_⟩) (by assumption) ?_
    case refine_2 => (intro w9 hSw; clear hSw; go_simp; try with_reducible rfl)
    simp only [Act.put, List.setIfInBounds_toArray, List.set_cons_zero, List.set_cons_succ]
    refine wpAnyH_done (by kernel_rfl) ?_ _
    go_wp2_with fail
    go_meet
    case rel => exact ⟨rfl, rfl, rfl, hHeld⟩
  case rest =>
    clear c2_0_0 c2_0_1 c2_1_0 c2_1_1
    obtain ⟨rfl, rfl, rfl, K3⟩ := hcut
    clear K2
    skip
    obtain ⟨c3_0_0, c3_0_1⟩ := (bo1 K3).c2
    obtain ⟨c3_1_0, c3_1_1⟩ := (bo2 K3).c2
    go_wp2_with fail
    go_cut [10, 9] (fun v0 v1 wx => ∃ nb, v0 = .pointer (some ⟨nb, 0, none⟩) ∧ v1 = .int .i64 0 ∧ Hid (BS w ((nb, [.int .i64 0, .int .i64 V]) :: [(w.heap.size + 2, [.int .i64 0, .int .i64 0]), (w.heap.size + 1, [.int .i64 0, .int .i64 u]), (w.heap.size, T)]) wx ∧ (∀ x ∈ [(w.heap.size + 2, [.int .i64 0, .int .i64 0]), (w.heap.size + 1, [.int .i64 0, .int .i64 u]), (w.heap.size, T)], x.1 ≠ nb)))
    case first =>
      refine wp_region_held_drew (S := BS w [(w.heap.size + 2, [.int .i64 0, .int .i64 0]), (w.heap.size + 1, [.int .i64 0, .int .i64 u]), (w.heap.size, T)]) (by kernel_rfl) K3.out.drew (fun hHeld => ?_)
      refine wpAnyH_take (i := 0) (v := ?_) (oi := { dst := some 37, op := _, type := _, pos := _, after := _, guard := none }) rfl (by kernel_rfl) (by kernel_rfl) (by kernel_rfl) (fun _ _ _ h => h) (Or.inl ⟨by kernel_rfl, ?_⟩) (by assumption) ?_
      case refine_2 => (intro w9 hSw; have l0_0 := (hSw.at (w.heap.size + 2) [.int .i64 0, .int .i64 0] (by simp)).c 0 rfl; have l0_1 := (hSw.at (w.heap.size + 2) [.int .i64 0, .int .i64 0] (by simp)).c 1 rfl; have l1_0 := (hSw.at (w.heap.size + 1) [.int .i64 0, .int .i64 u] (by simp)).c 0 rfl; have l1_1 := (hSw.at (w.heap.size + 1) [.int .i64 0, .int .i64 u] (by simp)).c 1 rfl; clear hSw; go_simp; try with_reducible rfl)
      simp only [Act.put, List.setIfInBounds_toArray, List.set_cons_zero, List.set_cons_succ]
      refine wpAnyH_take (i := 1) (v := ?_) (oi := { dst := some 38, op := _, type := _, pos := _, after := _, guard := none }) rfl (by kernel_rfl) (by kernel_rfl) (by kernel_rfl) (fun _ _ _ h => h) (Or.inl ⟨by kernel_rfl, ?_⟩) (by assumption) ?_
      case refine_2 => (intro w9 hSw; clear hSw; go_simp; try with_reducible rfl)
      simp only [Act.put, List.setIfInBounds_toArray, List.set_cons_zero, List.set_cons_succ]
      refine wpAnyH_take (i := 2) (v := ?_) (oi := { dst := some 39, op := _, type := _, pos := _, after := _, guard := none }) rfl (by kernel_rfl) (by kernel_rfl) (by kernel_rfl) (fun _ _ _ h => h) (Or.inl ⟨by kernel_rfl, ?_⟩) (by assumption) ?_
      case refine_2 => (intro w9 hSw; have l0_0 := (hSw.at (w.heap.size + 2) [.int .i64 0, .int .i64 0] (by simp)).c 0 rfl; have l0_1 := (hSw.at (w.heap.size + 2) [.int .i64 0, .int .i64 0] (by simp)).c 1 rfl; have l1_0 := (hSw.at (w.heap.size + 1) [.int .i64 0, .int .i64 u] (by simp)).c 0 rfl; have l1_1 := (hSw.at (w.heap.size + 1) [.int .i64 0, .int .i64 u] (by simp)).c 1 rfl; clear hSw; go_simp; try with_reducible rfl)
      simp only [Act.put, List.setIfInBounds_toArray, List.set_cons_zero, List.set_cons_succ]
      refine wpAnyH_ready (rs := [3, 10]) (by kernel_rfl) (by simp) (AllReadyH.cons (o := { dst := some 40, op := _, type := _, pos := _, after := _, guard := none }) rfl (fun K hK => ?_) (AllReadyH.cons (o := { dst := some 10, op := _, type := _, pos := _, after := _, guard := none }) rfl (fun K hK => ?_) AllReadyH.nil))
      ·
        go_simp
        refine (SE.out _).mono ?_
        rintro e v1 ⟨rfl, hb1⟩
        refine hK.out _ _ (hHeld.below hb1) (fun hHeld => ?_)
        try (have HN2 := HN.out.below hb1; clear HN; have HN : Hid (NB _ _ _ _ _) := HN2; clear HN2)
        clear hK K hb1
        refine wpAnyH_take (i := 4) (v := ?_) (oi := { dst := some 41, op := _, type := _, pos := _, after := _, guard := none }) rfl (by kernel_rfl) (by kernel_rfl) (by kernel_rfl) (fun _ _ _ h => h) (Or.inl ⟨by kernel_rfl, ?_⟩) (by assumption) ?_
        case refine_2 => (intro w9 hSw; clear hSw; go_simp; try with_reducible rfl)
        simp only [Act.put, List.setIfInBounds_toArray, List.set_cons_zero, List.set_cons_succ]
        refine wpAnyH_take (i := 5) (v := ?_) (oi := { dst := some 42, op := _, type := _, pos := _, after := _, guard := none }) rfl (by kernel_rfl) (by kernel_rfl) (by kernel_rfl) (fun _ _ _ h => h) (Or.inl ⟨by kernel_rfl, ?_⟩) (by assumption) ?_
        case refine_2 => (intro w9 hSw; clear hSw; go_simp; try with_reducible rfl)
        simp only [Act.put, List.setIfInBounds_toArray, List.set_cons_zero, List.set_cons_succ]
        refine wpAnyH_ready (rs := [6, 10]) (by kernel_rfl) (by simp) (AllReadyH.cons (o := { dst := some 43, op := _, type := _, pos := _, after := _, guard := none }) rfl (fun K hK => ?_) (AllReadyH.cons (o := { dst := some 10, op := _, type := _, pos := _, after := _, guard := none }) rfl (fun K hK => ?_) AllReadyH.nil))
        ·
          go_simp
          refine (MO.out _ (hL.out _ hHeld.1)).mono ?_
          rintro e v2 ⟨rfl, hb2⟩
          refine hK.out _ _ (hHeld.below hb2) (fun hHeld => ?_)
          try (have HN2 := HN.out.below hb2; clear HN; have HN : Hid (NB _ _ _ _ _) := HN2; clear HN2)
          clear hK K hb2
          refine wpAnyH_take (i := 7) (v := ?_) (oi := { dst := some 36, op := _, type := _, pos := _, after := _, guard := none }) rfl (by kernel_rfl) (by kernel_rfl) (by kernel_rfl) (fun _ _ _ h => h) (Or.inl ⟨by kernel_rfl, ?_⟩) (by assumption) ?_
          case refine_2 => (intro w9 hSw; clear hSw; go_simp; try with_reducible rfl)
          simp only [Act.put, List.setIfInBounds_toArray, List.set_cons_zero, List.set_cons_succ]
          refine wpAnyH_take (i := 8) (v := ?_) (oi := { dst := some 44, op := _, type := _, pos := _, after := _, guard := none }) rfl (by kernel_rfl) (by kernel_rfl) (by kernel_rfl) (fun _ _ _ h => h) (Or.inl ⟨by kernel_rfl, ?_⟩) (by assumption) ?_
          case refine_2 => (intro w9 hSw; clear hSw; go_simp; try with_reducible rfl)
          simp only [Act.put, List.setIfInBounds_toArray, List.set_cons_zero, List.set_cons_succ]
          refine wpAnyH_take (i := 9) (v := ?_) (oi := { dst := some 45, op := _, type := _, pos := _, after := _, guard := none }) rfl (by kernel_rfl) (by kernel_rfl) (by kernel_rfl) (fun _ _ _ h => h) (Or.inl ⟨by kernel_rfl, ?_⟩) (by assumption) ?_
          case refine_2 => (intro w9 hSw; clear hSw; go_simp; try with_reducible rfl)
          simp only [Act.put, List.setIfInBounds_toArray, List.set_cons_zero, List.set_cons_succ]
          refine wpAnyH_ready (rs := [10]) (by kernel_rfl) (by simp) (AllReadyH.cons (o := { dst := some 10, op := _, type := _, pos := _, after := _, guard := none }) rfl (fun K hK => ?_) AllReadyH.nil)
          go_simp
          have hH0 := hHeld
          refine hK.out _ _ (hHeld.alloc _) (fun hHeld => ?_)
          have HN : Hid (NB _ _ _ _ [.int .i64 0, .int .i64 0]) := hH0.nb hHeld
          clear hK K hH0
          refine wpAnyH_ready (rs := [11]) (by kernel_rfl) (by simp) (AllReadyH.cons (o := { dst := none, op := _, type := _, pos := _, after := _, guard := none }) rfl (fun K hK => ?_) AllReadyH.nil)
          refine (if_pos (by kernel_rfl)).mpr (wp_store_mid 36 _ _ rfl _ 0 #[.int .i64 0, .int .i64 V] rfl rfl HN.out.1.there (by kernel_rfl) (by simp [Value.oneCell']) (hK.out _ _ (hHeld.off HN.out.2.1 HN.out.2.2 _) (fun hHeld => ?_)))
          have HN2 : Hid (BS w ((_, [.int .i64 0, .int .i64 V]) :: [(w.heap.size + 2, [.int .i64 0, .int .i64 0]), (w.heap.size + 1, [.int .i64 0, .int .i64 u]), (w.heap.size, T)]) _ ∧ _) := ⟨⟨hHeld.1, fun x hx => by rcases List.mem_cons.1 hx with rfl | hx; exact ⟨HN.out.2.1, HN.out.1.setAll _ rfl⟩; exact hHeld.2 x hx⟩, HN.out.2.2⟩
          clear hK K HN
          refine wpAnyH_take (i := 12) (v := ?_) (oi := { dst := some 9, op := _, type := _, pos := _, after := _, guard := none }) rfl (by kernel_rfl) (by kernel_rfl) (by kernel_rfl) (fun _ _ _ h => h) (Or.inl ⟨by kernel_rfl, ?_⟩) (by assumption) ?_
          case refine_2 => (intro w9 hSw; clear hSw; go_simp; try with_reducible rfl)
          simp only [Act.put, List.setIfInBounds_toArray, List.set_cons_zero, List.set_cons_succ]
          refine wpAnyH_done (by kernel_rfl) ?_ _
          go_wp2_with fail
          go_meet
          case rel => exact ⟨_, rfl, rfl, HN2.out⟩
        ·
          go_simp
          have hH0 := hHeld
          refine hK.out _ _ (hHeld.alloc _) (fun hHeld => ?_)
          have HN : Hid (NB _ _ _ _ [.int .i64 0, .int .i64 0]) := hH0.nb hHeld
          clear hK K hH0
          refine wpAnyH_ready (rs := [6]) (by kernel_rfl) (by simp) (AllReadyH.cons (o := { dst := some 43, op := _, type := _, pos := _, after := _, guard := none }) rfl (fun K hK => ?_) AllReadyH.nil)
          go_simp
          refine (MO.out _ (hL.out _ hHeld.1)).mono ?_
          rintro e v6 ⟨rfl, hb6⟩
          refine hK.out _ _ (hHeld.below hb6) (fun hHeld => ?_)
          try (have HN2 := HN.out.below hb6; clear HN; have HN : Hid (NB _ _ _ _ _) := HN2; clear HN2)
          clear hK K hb6
          refine wpAnyH_take (i := 7) (v := ?_) (oi := { dst := some 36, op := _, type := _, pos := _, after := _, guard := none }) rfl (by kernel_rfl) (by kernel_rfl) (by kernel_rfl) (fun _ _ _ h => h) (Or.inl ⟨by kernel_rfl, ?_⟩) (by assumption) ?_
          case refine_2 => (intro w9 hSw; clear hSw; go_simp; try with_reducible rfl)
          simp only [Act.put, List.setIfInBounds_toArray, List.set_cons_zero, List.set_cons_succ]
          refine wpAnyH_take (i := 8) (v := ?_) (oi := { dst := some 44, op := _, type := _, pos := _, after := _, guard := none }) rfl (by kernel_rfl) (by kernel_rfl) (by kernel_rfl) (fun _ _ _ h => h) (Or.inl ⟨by kernel_rfl, ?_⟩) (by assumption) ?_
          case refine_2 => (intro w9 hSw; clear hSw; go_simp; try with_reducible rfl)
          simp only [Act.put, List.setIfInBounds_toArray, List.set_cons_zero, List.set_cons_succ]
          refine wpAnyH_take (i := 9) (v := ?_) (oi := { dst := some 45, op := _, type := _, pos := _, after := _, guard := none }) rfl (by kernel_rfl) (by kernel_rfl) (by kernel_rfl) (fun _ _ _ h => h) (Or.inl ⟨by kernel_rfl, ?_⟩) (by assumption) ?_
          case refine_2 => (intro w9 hSw; clear hSw; go_simp; try with_reducible rfl)
          simp only [Act.put, List.setIfInBounds_toArray, List.set_cons_zero, List.set_cons_succ]
          refine wpAnyH_ready (rs := [11]) (by kernel_rfl) (by simp) (AllReadyH.cons (o := { dst := none, op := _, type := _, pos := _, after := _, guard := none }) rfl (fun K hK => ?_) AllReadyH.nil)
          refine (if_pos (by kernel_rfl)).mpr (wp_store_mid 36 _ _ rfl _ 0 #[.int .i64 0, .int .i64 V] rfl rfl HN.out.1.there (by kernel_rfl) (by simp [Value.oneCell']) (hK.out _ _ (hHeld.off HN.out.2.1 HN.out.2.2 _) (fun hHeld => ?_)))
          have HN2 : Hid (BS w ((_, [.int .i64 0, .int .i64 V]) :: [(w.heap.size + 2, [.int .i64 0, .int .i64 0]), (w.heap.size + 1, [.int .i64 0, .int .i64 u]), (w.heap.size, T)]) _ ∧ _) := ⟨⟨hHeld.1, fun x hx => by rcases List.mem_cons.1 hx with rfl | hx; exact ⟨HN.out.2.1, HN.out.1.setAll _ rfl⟩; exact hHeld.2 x hx⟩, HN.out.2.2⟩
          clear hK K HN
          refine wpAnyH_take (i := 12) (v := ?_) (oi := { dst := some 9, op := _, type := _, pos := _, after := _, guard := none }) rfl (by kernel_rfl) (by kernel_rfl) (by kernel_rfl) (fun _ _ _ h => h) (Or.inl ⟨by kernel_rfl, ?_⟩) (by assumption) ?_
          case refine_2 => (intro w9 hSw; clear hSw; go_simp; try with_reducible rfl)
          simp only [Act.put, List.setIfInBounds_toArray, List.set_cons_zero, List.set_cons_succ]
          refine wpAnyH_done (by kernel_rfl) ?_ _
          go_wp2_with fail
          go_meet
          case rel => exact ⟨_, rfl, rfl, HN2.out⟩
      ·
        go_simp
        have hH0 := hHeld
        refine hK.out _ _ (hHeld.alloc _) (fun hHeld => ?_)
        have HN : Hid (NB _ _ _ _ [.int .i64 0, .int .i64 0]) := hH0.nb hHeld
        clear hK K hH0
        refine wpAnyH_ready (rs := [3]) (by kernel_rfl) (by simp) (AllReadyH.cons (o := { dst := some 40, op := _, type := _, pos := _, after := _, guard := none }) rfl (fun K hK => ?_) AllReadyH.nil)
        go_simp
        refine (SE.out _).mono ?_
        rintro e v9 ⟨rfl, hb9⟩
        refine hK.out _ _ (hHeld.below hb9) (fun hHeld => ?_)
        try (have HN2 := HN.out.below hb9; clear HN; have HN : Hid (NB _ _ _ _ _) := HN2; clear HN2)
        clear hK K hb9
        refine wpAnyH_take (i := 4) (v := ?_) (oi := { dst := some 41, op := _, type := _, pos := _, after := _, guard := none }) rfl (by kernel_rfl) (by kernel_rfl) (by kernel_rfl) (fun _ _ _ h => h) (Or.inl ⟨by kernel_rfl, ?_⟩) (by assumption) ?_
        case refine_2 => (intro w9 hSw; clear hSw; go_simp; try with_reducible rfl)
        simp only [Act.put, List.setIfInBounds_toArray, List.set_cons_zero, List.set_cons_succ]
        refine wpAnyH_take (i := 5) (v := ?_) (oi := { dst := some 42, op := _, type := _, pos := _, after := _, guard := none }) rfl (by kernel_rfl) (by kernel_rfl) (by kernel_rfl) (fun _ _ _ h => h) (Or.inl ⟨by kernel_rfl, ?_⟩) (by assumption) ?_
        case refine_2 => (intro w9 hSw; clear hSw; go_simp; try with_reducible rfl)
        simp only [Act.put, List.setIfInBounds_toArray, List.set_cons_zero, List.set_cons_succ]
        refine wpAnyH_ready (rs := [6]) (by kernel_rfl) (by simp) (AllReadyH.cons (o := { dst := some 43, op := _, type := _, pos := _, after := _, guard := none }) rfl (fun K hK => ?_) AllReadyH.nil)
        go_simp
        refine (MO.out _ (hL.out _ hHeld.1)).mono ?_
        rintro e v10 ⟨rfl, hb10⟩
        refine hK.out _ _ (hHeld.below hb10) (fun hHeld => ?_)
        try (have HN2 := HN.out.below hb10; clear HN; have HN : Hid (NB _ _ _ _ _) := HN2; clear HN2)
        clear hK K hb10
        refine wpAnyH_take (i := 7) (v := ?_) (oi := { dst := some 36, op := _, type := _, pos := _, after := _, guard := none }) rfl (by kernel_rfl) (by kernel_rfl) (by kernel_rfl) (fun _ _ _ h => h) (Or.inl ⟨by kernel_rfl, ?_⟩) (by assumption) ?_
        case refine_2 => (intro w9 hSw; clear hSw; go_simp; try with_reducible rfl)
        simp only [Act.put, List.setIfInBounds_toArray, List.set_cons_zero, List.set_cons_succ]
        refine wpAnyH_take (i := 8) (v := ?_) (oi := { dst := some 44, op := _, type := _, pos := _, after := _, guard := none }) rfl (by kernel_rfl) (by kernel_rfl) (by kernel_rfl) (fun _ _ _ h => h) (Or.inl ⟨by kernel_rfl, ?_⟩) (by assumption) ?_
        case refine_2 => (intro w9 hSw; clear hSw; go_simp; try with_reducible rfl)
        simp only [Act.put, List.setIfInBounds_toArray, List.set_cons_zero, List.set_cons_succ]
        refine wpAnyH_take (i := 9) (v := ?_) (oi := { dst := some 45, op := _, type := _, pos := _, after := _, guard := none }) rfl (by kernel_rfl) (by kernel_rfl) (by kernel_rfl) (fun _ _ _ h => h) (Or.inl ⟨by kernel_rfl, ?_⟩) (by assumption) ?_
        case refine_2 => (intro w9 hSw; clear hSw; go_simp; try with_reducible rfl)
        simp only [Act.put, List.setIfInBounds_toArray, List.set_cons_zero, List.set_cons_succ]
        refine wpAnyH_ready (rs := [11]) (by kernel_rfl) (by simp) (AllReadyH.cons (o := { dst := none, op := _, type := _, pos := _, after := _, guard := none }) rfl (fun K hK => ?_) AllReadyH.nil)
        refine (if_pos (by kernel_rfl)).mpr (wp_store_mid 36 _ _ rfl _ 0 #[.int .i64 0, .int .i64 V] rfl rfl HN.out.1.there (by kernel_rfl) (by simp [Value.oneCell']) (hK.out _ _ (hHeld.off HN.out.2.1 HN.out.2.2 _) (fun hHeld => ?_)))
        have HN2 : Hid (BS w ((_, [.int .i64 0, .int .i64 V]) :: [(w.heap.size + 2, [.int .i64 0, .int .i64 0]), (w.heap.size + 1, [.int .i64 0, .int .i64 u]), (w.heap.size, T)]) _ ∧ _) := ⟨⟨hHeld.1, fun x hx => by rcases List.mem_cons.1 hx with rfl | hx; exact ⟨HN.out.2.1, HN.out.1.setAll _ rfl⟩; exact hHeld.2 x hx⟩, HN.out.2.2⟩
        clear hK K HN
        refine wpAnyH_take (i := 12) (v := ?_) (oi := { dst := some 9, op := _, type := _, pos := _, after := _, guard := none }) rfl (by kernel_rfl) (by kernel_rfl) (by kernel_rfl) (fun _ _ _ h => h) (Or.inl ⟨by kernel_rfl, ?_⟩) (by assumption) ?_
        case refine_2 => (intro w9 hSw; clear hSw; go_simp; try with_reducible rfl)
        simp only [Act.put, List.setIfInBounds_toArray, List.set_cons_zero, List.set_cons_succ]
        refine wpAnyH_done (by kernel_rfl) ?_ _
        go_wp2_with fail
        go_meet
        case rel => exact ⟨_, rfl, rfl, HN2.out⟩
    case rest =>
      clear c3_0_0 c3_0_1 c3_1_0 c3_1_1
      obtain ⟨nb3, rfl, rfl, KK⟩ := hcut
      clear K3
      have K4 : Hid (BS w [(nb3, [.int .i64 0, .int .i64 V]), (w.heap.size + 2, [.int .i64 0, .int .i64 0]), (w.heap.size + 1, [.int .i64 0, .int .i64 u]), (w.heap.size, T)] wc) := KK.out.1
      have ne4_0 : w.heap.size + 2 ≠ nb3 := KK.out.2 (w.heap.size + 2, [.int .i64 0, .int .i64 0]) (by simp)
      have ne4_1 : w.heap.size + 1 ≠ nb3 := KK.out.2 (w.heap.size + 1, [.int .i64 0, .int .i64 u]) (by simp)
      have ne4_2 : w.heap.size ≠ nb3 := KK.out.2 (w.heap.size, T) (by simp)
      clear KK
      obtain ⟨c4_0_0, c4_0_1⟩ := (bo1 K4).c2
      obtain ⟨c4_1_0, c4_1_1⟩ := (bo2 K4).c2
      obtain ⟨c4_2_0, c4_2_1⟩ := (bo3 K4).c2
      clear c4_0_0 c4_0_1 c4_1_0 c4_1_1 c4_2_0 c4_2_1
      obtain ⟨c4_0_0, c4_0_1⟩ := (bo1 K4).c2
      obtain ⟨c4_1_0, c4_1_1⟩ := (bo2 K4).c2
      obtain ⟨z4_1_0, z4_1_1⟩ := (bo2 K4).f2
      obtain ⟨c4_2_0, c4_2_1⟩ := (bo3 K4).c2
      have XF : Hid (Bx (wc.setCells (w.heap.size + 2) 0 [.int .i64 0, .int .i64 V]) (w.heap.size + 2) [.int .i64 0, .int .i64 V]) := (K4.out.at (w.heap.size + 2) [.int .i64 0, .int .i64 0] (by simp)).setAll _ rfl
      have BF : Hid (Below w.heap.size w (wc.setCells (w.heap.size + 2) 0 [.int .i64 0, .int .i64 V])) := below_setCells (by omega) _ _ _ K4.out.1
      have y0 := XF.out.c 0 rfl
      have y1 := XF.out.c 1 rfl
      simp only [World.setCells, Nat.zero_add] at y0 y1
      clear XF
      go_wp2
      exact bodyPost_ret (v := .tuple #[.agg #[.int .i64 0, .int .i64 V], .int .i64 how, .int .i64 0]) (by simp [results, Tryz.results54, go_sem, y0, y1]) rfl ⟨rfl, BF.out⟩

set_option maxRecDepth 100000 in
set_option maxHeartbeats 4000000 in
theorem mb_err2 (Ok : World → Prop) (T : List Value) (hT : T.length = 25) (u j M D U V1 V2 e : Int) (he : e ≠ 0)
    (LO : Hid (∀ w : World, Ok w → Calls Tryz.prog 52 #[.agg T.toArray, .agg #[.int .i64 0, .int .i64 u]] w fun r' w' => r' = .returned (.tuple #[.agg #[.int .i64 0, .int .i64 V1], .int .i64 0]) ∧ Below w.heap.size w w'))
    (AD : Hid (∀ w : World, Ok w → Calls Tryz.prog 53 #[.agg #[.int .i64 0, .int .i64 V1], .agg #[.int .i64 0, .int .i64 M, .int .i64 D, .int .i64 0]] w fun r' w' => r' = .returned (.tuple #[.agg #[.int .i64 0, .int .i64 V2], .int .i64 e]) ∧ Below w.heap.size w w'))
    (w : World) (hL : Hid (∀ W : World, Below w.heap.size w W → Ok W)) :
    Calls Tryz.prog 29 #[.agg T.toArray, .agg #[.int .i64 0, .int .i64 u], .agg #[.int .i64 j, .int .i64 M, .int .i64 D, .int .i64 U]] w fun r' w' => r' = .returned (.tuple #[.agg #[.int .i64 0, .int .i64 0], .int .i64 e]) ∧ Below w.heap.size w w' := by
  have e1 : (e != 0) = true := bne_iff_ne.2 he
  have K0 : Hid (BS w [(w.heap.size + 3, [.int .i64 0, .int .i64 0]), (w.heap.size + 2, [.int .i64 j, .int .i64 M, .int .i64 D, .int .i64 U]), (w.heap.size + 1, [.int .i64 0, .int .i64 u]), (w.heap.size, T)] ((((w.alloc (.cells T.toArray 46)).alloc (.cells #[.int .i64 0, .int .i64 u] 36)).alloc (.cells #[.int .i64 j, .int .i64 M, .int .i64 D, .int .i64 U] 38)).alloc (.cells #[.int .i64 0, .int .i64 0] 36))) := (((((BS.start w).new T 46 rfl).new [.int .i64 0, .int .i64 u] 36 (by simp)).new [.int .i64 j, .int .i64 M, .int .i64 D, .int .i64 U] 38 (by simp)).new [.int .i64 0, .int .i64 0] 36 (by simp))
  go_enter Tryz.func29, Tryz.ntmps29
  generalize hUA : T.toArray = UA at *
  go_upto_region 1 with fail
  refine gen_to (BS w [(w.heap.size + 3, [.int .i64 0, .int .i64 0]), (w.heap.size + 2, [.int .i64 j, .int .i64 M, .int .i64 D, .int .i64 U]), (w.heap.size + 1, [.int .i64 0, .int .i64 u]), (w.heap.size, T)]) K0.out ?_
  clear K0
  intro W0 K0'
  have K0 : Hid (BS w [(w.heap.size + 3, [.int .i64 0, .int .i64 0]), (w.heap.size + 2, [.int .i64 j, .int .i64 M, .int .i64 D, .int .i64 U]), (w.heap.size + 1, [.int .i64 0, .int .i64 u]), (w.heap.size, T)] W0) := K0'
  clear K0'
  obtain ⟨c0_0_0, c0_0_1⟩ := (bo1 K0).c2
  obtain ⟨c0_1_0, c0_1_1, c0_1_2, c0_1_3⟩ := (bo2 K0).c4
  obtain ⟨c0_2_0, c0_2_1⟩ := (bo3 K0).c2
  go_wp2_with (first | (refine wpList_load_mid rfl 46 _ rfl (w.heap.size) 0 rfl T _ (K0.out.at (w.heap.size) T (by simp)).all Tryz.underlying46 rfl (by rw [hT]; kernel_rfl) ?_; rw [hUA]) | fail)
  refine (LO.out _ (hL.out _ K0.out.1)).mono ?_
  rintro e W1 ⟨rfl, hb⟩
  have K1 := bsb K0 hb
  clear c0_0_0 c0_0_1 c0_1_0 c0_1_1 c0_1_2 c0_1_3 c0_2_0 c0_2_1
  clear hb K0
  obtain ⟨c1_0_0, c1_0_1⟩ := (bo1 K1).c2
  obtain ⟨c1_1_0, c1_1_1, c1_1_2, c1_1_3⟩ := (bo2 K1).c4
  obtain ⟨c1_2_0, c1_2_1⟩ := (bo3 K1).c2
  have Mz1 := bsn K1 [.int .i64 0, .int .i64 V1] 36
  have lt1_0 := (bo1 K1).1
  have lt1_1 := (bo2 K1).1
  have lt1_2 := (bo3 K1).1
  have lt1_3 := (bo4 K1).1
  go_upto_region 2 with fail
  refine bs_to Mz1 ?_
  clear c1_0_0 c1_0_1 c1_1_0 c1_1_1 c1_1_2 c1_1_3 c1_2_0 c1_2_1
  intro W2 K2
  clear Mz1 K1
  obtain ⟨c2_0_0, c2_0_1⟩ := (bo1 K2).c2
  obtain ⟨c2_1_0, c2_1_1⟩ := (bo2 K2).c2
  obtain ⟨c2_2_0, c2_2_1, c2_2_2, c2_2_3⟩ := (bo3 K2).c4
  obtain ⟨c2_3_0, c2_3_1⟩ := (bo4 K2).c2
  go_wp2_with (first | (refine wpList_load_mid rfl 46 _ rfl (w.heap.size) 0 rfl T _ (K2.out.at (w.heap.size) T (by simp)).all Tryz.underlying46 rfl (by rw [hT]; kernel_rfl) ?_; rw [hUA]) | fail)
  refine (AD.out _ (hL.out _ K2.out.1)).mono ?_
  rintro e W3 ⟨rfl, hb⟩
  have K3 := bsb K2 hb
  clear c2_0_0 c2_0_1 c2_1_0 c2_1_1 c2_2_0 c2_2_1 c2_2_2 c2_2_3 c2_3_0 c2_3_1
  clear hb K2
  obtain ⟨c3_0_0, c3_0_1⟩ := (bo1 K3).c2
  obtain ⟨c3_1_0, c3_1_1⟩ := (bo2 K3).c2
  obtain ⟨c3_2_0, c3_2_1, c3_2_2, c3_2_3⟩ := (bo3 K3).c4
  obtain ⟨c3_3_0, c3_3_1⟩ := (bo4 K3).c2
  clear c3_0_0 c3_0_1 c3_1_0 c3_1_1 c3_2_0 c3_2_1 c3_2_2 c3_2_3 c3_3_0 c3_3_1
  have r3_0 : W3.cell? ⟨W1.heap.size, 0, none⟩ = some (.int .i64 0) := (K3.out.at (W1.heap.size) [.int .i64 0, .int .i64 V1] (by simp)).c 0 rfl
  have sr3_0 : W3.frozen? ⟨W1.heap.size, 0, none⟩ = false := (K3.out.at (W1.heap.size) [.int .i64 0, .int .i64 V1] (by simp)).f 0 rfl
  have r3_1 : W3.cell? ⟨W1.heap.size, 1, none⟩ = some (.int .i64 V1) := (K3.out.at (W1.heap.size) [.int .i64 0, .int .i64 V1] (by simp)).c 1 rfl
  have sr3_1 : W3.frozen? ⟨W1.heap.size, 1, none⟩ = false := (K3.out.at (W1.heap.size) [.int .i64 0, .int .i64 V1] (by simp)).f 1 rfl
  have Mz3 : Hid (BS w [(W1.heap.size, [.int .i64 0, .int .i64 V2]), (w.heap.size + 3, [.int .i64 0, .int .i64 0]), (w.heap.size + 2, [.int .i64 j, .int .i64 M, .int .i64 D, .int .i64 U]), (w.heap.size + 1, [.int .i64 0, .int .i64 u]), (w.heap.size, T)] (W3.setCells (W1.heap.size) 0 [.int .i64 0, .int .i64 V2])) := ((K3.out.perm (l' := [(W1.heap.size, [.int .i64 0, .int .i64 V1]), (w.heap.size + 3, [.int .i64 0, .int .i64 0]), (w.heap.size + 2, [.int .i64 j, .int .i64 M, .int .i64 D, .int .i64 U]), (w.heap.size + 1, [.int .i64 0, .int .i64 u]), (w.heap.size, T)]) (by intro x hx; simp only [List.mem_cons, List.not_mem_nil, or_false] at hx ⊢; rcases hx with h | h | h | h | h <;> simp [h])).set [.int .i64 0, .int .i64 V2] rfl (by intro x hx; simp only [List.mem_cons, List.not_mem_nil, or_false] at hx; rcases hx with rfl | rfl | rfl | rfl <;> simp only [] <;> omega))
  simp only [World.setCells, Nat.zero_add] at Mz3
  go_upto_region 5 with fail
  refine gen_to (BS w [(W1.heap.size, [.int .i64 0, .int .i64 V2]), (w.heap.size + 3, [.int .i64 0, .int .i64 0]), (w.heap.size + 2, [.int .i64 j, .int .i64 M, .int .i64 D, .int .i64 U]), (w.heap.size + 1, [.int .i64 0, .int .i64 u]), (w.heap.size, T)]) Mz3.out ?_
  clear r3_0 sr3_0 r3_1 sr3_1
  intro W4 K4'
  have K4 : Hid (BS w [(W1.heap.size, [.int .i64 0, .int .i64 V2]), (w.heap.size + 3, [.int .i64 0, .int .i64 0]), (w.heap.size + 2, [.int .i64 j, .int .i64 M, .int .i64 D, .int .i64 U]), (w.heap.size + 1, [.int .i64 0, .int .i64 u]), (w.heap.size, T)] W4) := K4'
  clear K4' Mz3 K3
  obtain ⟨c4_0_0, c4_0_1⟩ := (bo1 K4).c2
  obtain ⟨c4_1_0, c4_1_1⟩ := (bo2 K4).c2
  obtain ⟨z4_1_0, z4_1_1⟩ := (bo2 K4).f2
  obtain ⟨c4_2_0, c4_2_1, c4_2_2, c4_2_3⟩ := (bo3 K4).c4
  obtain ⟨c4_3_0, c4_3_1⟩ := (bo4 K4).c2
  have XF : Hid (Bx (W4.setCells (w.heap.size + 3) 0 [.int .i64 0, .int .i64 0]) (w.heap.size + 3) [.int .i64 0, .int .i64 0]) := (K4.out.at (w.heap.size + 3) [.int .i64 0, .int .i64 0] (by simp)).setAll _ rfl
  have BF : Hid (Below w.heap.size w (W4.setCells (w.heap.size + 3) 0 [.int .i64 0, .int .i64 0])) := below_setCells (by omega) _ _ _ K4.out.1
  have y0 := XF.out.c 0 rfl
  have y1 := XF.out.c 1 rfl
  simp only [World.setCells, Nat.zero_add] at y0 y1
  clear XF
  go_wp2
  exact bodyPost_ret (v := .tuple #[.agg #[.int .i64 0, .int .i64 0], .int .i64 e]) (by simp [results, Tryz.results29, go_sem, y0, y1]) rfl ⟨rfl, BF.out⟩

set_option maxRecDepth 100000 in
set_option maxHeartbeats 4000000 in
theorem mb_ok (Ok : World → Prop) (T : List Value) (hT : T.length = 25) (u j M D U V1 V2 V3 how e3 : Int)
    (LO : Hid (∀ w : World, Ok w → Calls Tryz.prog 52 #[.agg T.toArray, .agg #[.int .i64 0, .int .i64 u]] w fun r' w' => r' = .returned (.tuple #[.agg #[.int .i64 0, .int .i64 V1], .int .i64 0]) ∧ Below w.heap.size w w'))
    (AD : Hid (∀ w : World, Ok w → Calls Tryz.prog 53 #[.agg #[.int .i64 0, .int .i64 V1], .agg #[.int .i64 0, .int .i64 M, .int .i64 D, .int .i64 0]] w fun r' w' => r' = .returned (.tuple #[.agg #[.int .i64 0, .int .i64 V2], .int .i64 0]) ∧ Below w.heap.size w w'))
    (IN : Hid (∀ w : World, Ok w → Calls Tryz.prog 54 #[.agg T.toArray, .agg #[.int .i64 0, .int .i64 V2]] w fun r' w' => r' = .returned (.tuple #[.agg #[.int .i64 0, .int .i64 V3], .int .i64 how, .int .i64 e3]) ∧ Below w.heap.size w w'))
    (w : World) (hL : Hid (∀ W : World, Below w.heap.size w W → Ok W)) :
    Calls Tryz.prog 29 #[.agg T.toArray, .agg #[.int .i64 0, .int .i64 u], .agg #[.int .i64 j, .int .i64 M, .int .i64 D, .int .i64 U]] w fun r' w' => r' = .returned (.tuple #[.agg #[.int .i64 0, .int .i64 V3], .int .i64 e3]) ∧ Below w.heap.size w w' := by
  have K0 : Hid (BS w [(w.heap.size + 3, [.int .i64 0, .int .i64 0]), (w.heap.size + 2, [.int .i64 j, .int .i64 M, .int .i64 D, .int .i64 U]), (w.heap.size + 1, [.int .i64 0, .int .i64 u]), (w.heap.size, T)] ((((w.alloc (.cells T.toArray 46)).alloc (.cells #[.int .i64 0, .int .i64 u] 36)).alloc (.cells #[.int .i64 j, .int .i64 M, .int .i64 D, .int .i64 U] 38)).alloc (.cells #[.int .i64 0, .int .i64 0] 36))) := (((((BS.start w).new T 46 rfl).new [.int .i64 0, .int .i64 u] 36 (by simp)).new [.int .i64 j, .int .i64 M, .int .i64 D, .int .i64 U] 38 (by simp)).new [.int .i64 0, .int .i64 0] 36 (by simp))
  go_enter Tryz.func29, Tryz.ntmps29
  generalize hUA : T.toArray = UA at *
  go_upto_region 1 with fail
  refine gen_to (BS w [(w.heap.size + 3, [.int .i64 0, .int .i64 0]), (w.heap.size + 2, [.int .i64 j, .int .i64 M, .int .i64 D, .int .i64 U]), (w.heap.size + 1, [.int .i64 0, .int .i64 u]), (w.heap.size, T)]) K0.out ?_
  clear K0
  intro W0 K0'
  have K0 : Hid (BS w [(w.heap.size + 3, [.int .i64 0, .int .i64 0]), (w.heap.size + 2, [.int .i64 j, .int .i64 M, .int .i64 D, .int .i64 U]), (w.heap.size + 1, [.int .i64 0, .int .i64 u]), (w.heap.size, T)] W0) := K0'
  clear K0'
  obtain ⟨c0_0_0, c0_0_1⟩ := (bo1 K0).c2
  obtain ⟨c0_1_0, c0_1_1, c0_1_2, c0_1_3⟩ := (bo2 K0).c4
  obtain ⟨c0_2_0, c0_2_1⟩ := (bo3 K0).c2
  go_wp2_with (first | (refine wpList_load_mid rfl 46 _ rfl (w.heap.size) 0 rfl T _ (K0.out.at (w.heap.size) T (by simp)).all Tryz.underlying46 rfl (by rw [hT]; kernel_rfl) ?_; rw [hUA]) | fail)
  refine (LO.out _ (hL.out _ K0.out.1)).mono ?_
  rintro e W1 ⟨rfl, hb⟩
  have K1 := bsb K0 hb
  clear c0_0_0 c0_0_1 c0_1_0 c0_1_1 c0_1_2 c0_1_3 c0_2_0 c0_2_1
  clear hb K0
  obtain ⟨c1_0_0, c1_0_1⟩ := (bo1 K1).c2
  obtain ⟨c1_1_0, c1_1_1, c1_1_2, c1_1_3⟩ := (bo2 K1).c4
  obtain ⟨c1_2_0, c1_2_1⟩ := (bo3 K1).c2
  have Mz1 := bsn K1 [.int .i64 0, .int .i64 V1] 36
  have lt1_0 := (bo1 K1).1
  have lt1_1 := (bo2 K1).1
  have lt1_2 := (bo3 K1).1
  have lt1_3 := (bo4 K1).1
  go_upto_region 2 with fail
  refine bs_to Mz1 ?_
  clear c1_0_0 c1_0_1 c1_1_0 c1_1_1 c1_1_2 c1_1_3 c1_2_0 c1_2_1
  intro W2 K2
  clear Mz1 K1
  obtain ⟨c2_0_0, c2_0_1⟩ := (bo1 K2).c2
  obtain ⟨c2_1_0, c2_1_1⟩ := (bo2 K2).c2
  obtain ⟨c2_2_0, c2_2_1, c2_2_2, c2_2_3⟩ := (bo3 K2).c4
  obtain ⟨c2_3_0, c2_3_1⟩ := (bo4 K2).c2
  go_wp2_with (first | (refine wpList_load_mid rfl 46 _ rfl (w.heap.size) 0 rfl T _ (K2.out.at (w.heap.size) T (by simp)).all Tryz.underlying46 rfl (by rw [hT]; kernel_rfl) ?_; rw [hUA]) | fail)
  refine (AD.out _ (hL.out _ K2.out.1)).mono ?_
  rintro e W3 ⟨rfl, hb⟩
  have K3 := bsb K2 hb
  clear c2_0_0 c2_0_1 c2_1_0 c2_1_1 c2_2_0 c2_2_1 c2_2_2 c2_2_3 c2_3_0 c2_3_1
  clear hb K2
  obtain ⟨c3_0_0, c3_0_1⟩ := (bo1 K3).c2
  obtain ⟨c3_1_0, c3_1_1⟩ := (bo2 K3).c2
  obtain ⟨c3_2_0, c3_2_1, c3_2_2, c3_2_3⟩ := (bo3 K3).c4
  obtain ⟨c3_3_0, c3_3_1⟩ := (bo4 K3).c2
  clear c3_0_0 c3_0_1 c3_1_0 c3_1_1 c3_2_0 c3_2_1 c3_2_2 c3_2_3 c3_3_0 c3_3_1
  have r3_0 : W3.cell? ⟨W1.heap.size, 0, none⟩ = some (.int .i64 0) := (K3.out.at (W1.heap.size) [.int .i64 0, .int .i64 V1] (by simp)).c 0 rfl
  have sr3_0 : W3.frozen? ⟨W1.heap.size, 0, none⟩ = false := (K3.out.at (W1.heap.size) [.int .i64 0, .int .i64 V1] (by simp)).f 0 rfl
  have r3_1 : W3.cell? ⟨W1.heap.size, 1, none⟩ = some (.int .i64 V1) := (K3.out.at (W1.heap.size) [.int .i64 0, .int .i64 V1] (by simp)).c 1 rfl
  have sr3_1 : W3.frozen? ⟨W1.heap.size, 1, none⟩ = false := (K3.out.at (W1.heap.size) [.int .i64 0, .int .i64 V1] (by simp)).f 1 rfl
  have Mz3 : Hid (BS w [(W1.heap.size, [.int .i64 0, .int .i64 V2]), (w.heap.size + 3, [.int .i64 0, .int .i64 0]), (w.heap.size + 2, [.int .i64 j, .int .i64 M, .int .i64 D, .int .i64 U]), (w.heap.size + 1, [.int .i64 0, .int .i64 u]), (w.heap.size, T)] (W3.setCells (W1.heap.size) 0 [.int .i64 0, .int .i64 V2])) := ((K3.out.perm (l' := [(W1.heap.size, [.int .i64 0, .int .i64 V1]), (w.heap.size + 3, [.int .i64 0, .int .i64 0]), (w.heap.size + 2, [.int .i64 j, .int .i64 M, .int .i64 D, .int .i64 U]), (w.heap.size + 1, [.int .i64 0, .int .i64 u]), (w.heap.size, T)]) (by intro x hx; simp only [List.mem_cons, List.not_mem_nil, or_false] at hx ⊢; rcases hx with h | h | h | h | h <;> simp [h])).set [.int .i64 0, .int .i64 V2] rfl (by intro x hx; simp only [List.mem_cons, List.not_mem_nil, or_false] at hx; rcases hx with rfl | rfl | rfl | rfl <;> simp only [] <;> omega))
  simp only [World.setCells, Nat.zero_add] at Mz3
  go_upto_region 5 with fail
  refine gen_to (BS w [(W1.heap.size, [.int .i64 0, .int .i64 V2]), (w.heap.size + 3, [.int .i64 0, .int .i64 0]), (w.heap.size + 2, [.int .i64 j, .int .i64 M, .int .i64 D, .int .i64 U]), (w.heap.size + 1, [.int .i64 0, .int .i64 u]), (w.heap.size, T)]) Mz3.out ?_
  clear r3_0 sr3_0 r3_1 sr3_1
  intro W4 K4'
  have K4 : Hid (BS w [(W1.heap.size, [.int .i64 0, .int .i64 V2]), (w.heap.size + 3, [.int .i64 0, .int .i64 0]), (w.heap.size + 2, [.int .i64 j, .int .i64 M, .int .i64 D, .int .i64 U]), (w.heap.size + 1, [.int .i64 0, .int .i64 u]), (w.heap.size, T)] W4) := K4'
  clear K4' Mz3 K3
  obtain ⟨c4_0_0, c4_0_1⟩ := (bo1 K4).c2
  obtain ⟨c4_1_0, c4_1_1⟩ := (bo2 K4).c2
  obtain ⟨c4_2_0, c4_2_1, c4_2_2, c4_2_3⟩ := (bo3 K4).c4
  obtain ⟨c4_3_0, c4_3_1⟩ := (bo4 K4).c2
  go_wp2_with (first | (refine wpList_load_mid rfl 46 _ rfl (w.heap.size) 0 rfl T _ (K4.out.at (w.heap.size) T (by simp)).all Tryz.underlying46 rfl (by rw [hT]; kernel_rfl) ?_; rw [hUA]) | fail)
  refine (IN.out _ (hL.out _ K4.out.1)).mono ?_
  rintro e W5 ⟨rfl, hb⟩
  have K5 := bsb K4 hb
  clear c4_0_0 c4_0_1 c4_1_0 c4_1_1 c4_2_0 c4_2_1 c4_2_2 c4_2_3 c4_3_0 c4_3_1
  clear hb K4
  obtain ⟨c5_0_0, c5_0_1⟩ := (bo1 K5).c2
  obtain ⟨c5_1_0, c5_1_1⟩ := (bo2 K5).c2
  obtain ⟨c5_2_0, c5_2_1, c5_2_2, c5_2_3⟩ := (bo3 K5).c4
  obtain ⟨c5_3_0, c5_3_1⟩ := (bo4 K5).c2
  clear c5_0_0 c5_0_1 c5_1_0 c5_1_1 c5_2_0 c5_2_1 c5_2_2 c5_2_3 c5_3_0 c5_3_1
  have r5_0 : W5.cell? ⟨w.heap.size + 1, 0, none⟩ = some (.int .i64 0) := (K5.out.at (w.heap.size + 1) [.int .i64 0, .int .i64 u] (by simp)).c 0 rfl
  have sr5_0 : W5.frozen? ⟨w.heap.size + 1, 0, none⟩ = false := (K5.out.at (w.heap.size + 1) [.int .i64 0, .int .i64 u] (by simp)).f 0 rfl
  have r5_1 : W5.cell? ⟨w.heap.size + 1, 1, none⟩ = some (.int .i64 u) := (K5.out.at (w.heap.size + 1) [.int .i64 0, .int .i64 u] (by simp)).c 1 rfl
  have sr5_1 : W5.frozen? ⟨w.heap.size + 1, 1, none⟩ = false := (K5.out.at (w.heap.size + 1) [.int .i64 0, .int .i64 u] (by simp)).f 1 rfl
  have Mz5 : Hid (BS w [(w.heap.size + 1, [.int .i64 0, .int .i64 V3]), (W1.heap.size, [.int .i64 0, .int .i64 V2]), (w.heap.size + 3, [.int .i64 0, .int .i64 0]), (w.heap.size + 2, [.int .i64 j, .int .i64 M, .int .i64 D, .int .i64 U]), (w.heap.size, T)] (W5.setCells (w.heap.size + 1) 0 [.int .i64 0, .int .i64 V3])) := ((K5.out.perm (l' := [(w.heap.size + 1, [.int .i64 0, .int .i64 u]), (W1.heap.size, [.int .i64 0, .int .i64 V2]), (w.heap.size + 3, [.int .i64 0, .int .i64 0]), (w.heap.size + 2, [.int .i64 j, .int .i64 M, .int .i64 D, .int .i64 U]), (w.heap.size, T)]) (by intro x hx; simp only [List.mem_cons, List.not_mem_nil, or_false] at hx ⊢; rcases hx with h | h | h | h | h <;> simp [h])).set [.int .i64 0, .int .i64 V3] rfl (by intro x hx; simp only [List.mem_cons, List.not_mem_nil, or_false] at hx; rcases hx with rfl | rfl | rfl | rfl <;> simp only [] <;> omega))
  simp only [World.setCells, Nat.zero_add] at Mz5
  go_upto_region 8 with fail
  refine gen_to (BS w [(w.heap.size + 1, [.int .i64 0, .int .i64 V3]), (W1.heap.size, [.int .i64 0, .int .i64 V2]), (w.heap.size + 3, [.int .i64 0, .int .i64 0]), (w.heap.size + 2, [.int .i64 j, .int .i64 M, .int .i64 D, .int .i64 U]), (w.heap.size, T)]) Mz5.out ?_
  clear r5_0 sr5_0 r5_1 sr5_1
  intro W6 K6'
  have K6 : Hid (BS w [(w.heap.size + 1, [.int .i64 0, .int .i64 V3]), (W1.heap.size, [.int .i64 0, .int .i64 V2]), (w.heap.size + 3, [.int .i64 0, .int .i64 0]), (w.heap.size + 2, [.int .i64 j, .int .i64 M, .int .i64 D, .int .i64 U]), (w.heap.size, T)] W6) := K6'
  clear K6' Mz5 K5
  obtain ⟨c6_0_0, c6_0_1⟩ := (bo1 K6).c2
  obtain ⟨c6_1_0, c6_1_1⟩ := (bo2 K6).c2
  obtain ⟨c6_2_0, c6_2_1⟩ := (bo3 K6).c2
  obtain ⟨z6_2_0, z6_2_1⟩ := (bo3 K6).f2
  obtain ⟨c6_3_0, c6_3_1, c6_3_2, c6_3_3⟩ := (bo4 K6).c4
  have XF : Hid (Bx (W6.setCells (w.heap.size + 3) 0 [.int .i64 0, .int .i64 V3]) (w.heap.size + 3) [.int .i64 0, .int .i64 V3]) := (K6.out.at (w.heap.size + 3) [.int .i64 0, .int .i64 0] (by simp)).setAll _ rfl
  have BF : Hid (Below w.heap.size w (W6.setCells (w.heap.size + 3) 0 [.int .i64 0, .int .i64 V3])) := below_setCells (by omega) _ _ _ K6.out.1
  have y0 := XF.out.c 0 rfl
  have y1 := XF.out.c 1 rfl
  simp only [World.setCells, Nat.zero_add] at y0 y1
  clear XF
  go_wp2
  exact bodyPost_ret (v := .tuple #[.agg #[.int .i64 0, .int .i64 V3], .int .i64 e3]) (by simp [results, Tryz.results29, go_sem, y0, y1]) rfl ⟨rfl, BF.out⟩

set_option maxRecDepth 100000 in
set_option maxHeartbeats 4000000 in
theorem az_none (Ok : World → Prop) (T : List Value) (hT : T.length = 25) (i u j n X E : Int) (ka kb : Value)
    (RT : Hid (∀ w : World, Ok w → Calls Tryz.prog 16 #[.agg T.toArray] w fun r' w' => r' = .returned (.bool true) ∧ Below w.heap.size w w'))
    (R : Hid (∀ w : World, Ok w → Calls Tryz.prog 17 #[.agg #[.int .i64 i, .int .i64 u]] w fun r' w' => r' = .returned (.bool true) ∧ Below w.heap.size w w'))
    (PR : Hid (∀ w : World, Calls Tryz.prog 18 #[.agg #[.int .i64 j, .int .i64 0, .int .i64 0, .int .i64 n]] w fun r' w' => r' = .returned (.bool true) ∧ Below w.heap.size w w'))
    (KA : Hid (∀ w : World, Calls Tryz.prog 28 #[.int .i64 i] w fun r' w' => r' = .returned (ka) ∧ Below w.heap.size w w'))
    (KB : Hid (∀ w : World, Calls Tryz.prog 28 #[.int .i64 j] w fun r' w' => r' = .returned (kb) ∧ Below w.heap.size w w'))
    (TG : Hid (∀ w : World, Calls Tryz.prog 27 #[ka, kb] w fun r' w' => r' = .returned (.tuple #[.int .i64 0, .int .i64 0]) ∧ Below w.heap.size w w'))
    (MO : Hid (∀ w : World, Ok w → Calls Tryz.prog 30 #[.agg #[.int .i64 i, .int .i64 u], .int .i64 n] w fun r' w' => r' = .returned (.tuple #[.agg #[.int .i64 0, .int .i64 X], .int .i64 E]) ∧ Below w.heap.size w w'))
    (w : World) (hL : Hid (∀ W : World, Below w.heap.size w W → Ok W)) :
    Calls Tryz.prog 10 #[.agg T.toArray, .agg #[.int .i64 i, .int .i64 u], .agg #[.int .i64 j, .int .i64 0, .int .i64 0, .int .i64 n]] w fun r' w' => r' = .returned (.tuple #[.agg #[.int .i64 0, .int .i64 X], .int .i64 E]) ∧ Below w.heap.size w w' := by
  have K0 : Hid (BS w [(w.heap.size + 3, [.int .i64 0, .int .i64 0]), (w.heap.size + 2, [.int .i64 j, .int .i64 0, .int .i64 0, .int .i64 n]), (w.heap.size + 1, [.int .i64 i, .int .i64 u]), (w.heap.size, T)] ((((w.alloc (.cells T.toArray 46)).alloc (.cells #[.int .i64 i, .int .i64 u] 36)).alloc (.cells #[.int .i64 j, .int .i64 0, .int .i64 0, .int .i64 n] 38)).alloc (.cells #[.int .i64 0, .int .i64 0] 36))) := (((((BS.start w).new T 46 rfl).new [.int .i64 i, .int .i64 u] 36 (by simp)).new [.int .i64 j, .int .i64 0, .int .i64 0, .int .i64 n] 38 (by simp)).new [.int .i64 0, .int .i64 0] 36 (by simp))
  go_enter Tryz.func10, Tryz.ntmps10
  generalize hUA : T.toArray = UA at *
  go_upto_region 1 with fail
  refine gen_to (BS w [(w.heap.size + 3, [.int .i64 0, .int .i64 0]), (w.heap.size + 2, [.int .i64 j, .int .i64 0, .int .i64 0, .int .i64 n]), (w.heap.size + 1, [.int .i64 i, .int .i64 u]), (w.heap.size, T)]) K0.out ?_
  clear K0
  intro W0 K0'
  have K0 : Hid (BS w [(w.heap.size + 3, [.int .i64 0, .int .i64 0]), (w.heap.size + 2, [.int .i64 j, .int .i64 0, .int .i64 0, .int .i64 n]), (w.heap.size + 1, [.int .i64 i, .int .i64 u]), (w.heap.size, T)] W0) := K0'
  clear K0'
  obtain ⟨c0_0_0, c0_0_1⟩ := (bo1 K0).c2
  obtain ⟨c0_1_0, c0_1_1, c0_1_2, c0_1_3⟩ := (bo2 K0).c4
  obtain ⟨c0_2_0, c0_2_1⟩ := (bo3 K0).c2
  go_wp2_with (first | (refine wpList_load_mid rfl 46 _ rfl (w.heap.size) 0 rfl T _ (K0.out.at (w.heap.size) T (by simp)).all Tryz.underlying46 rfl (by rw [hT]; kernel_rfl) ?_; rw [hUA]) | fail)
  refine (RT.out _ (hL.out _ K0.out.1)).mono ?_
  rintro e W1 ⟨rfl, hb⟩
  have K1 := bsb K0 hb
  clear c0_0_0 c0_0_1 c0_1_0 c0_1_1 c0_1_2 c0_1_3 c0_2_0 c0_2_1
  clear hb K0
  obtain ⟨c1_0_0, c1_0_1⟩ := (bo1 K1).c2
  obtain ⟨c1_1_0, c1_1_1, c1_1_2, c1_1_3⟩ := (bo2 K1).c4
  obtain ⟨c1_2_0, c1_2_1⟩ := (bo3 K1).c2
  go_wp2_with (first | (refine wpList_load_mid rfl 46 _ rfl (w.heap.size) 0 rfl T _ (K1.out.at (w.heap.size) T (by simp)).all Tryz.underlying46 rfl (by rw [hT]; kernel_rfl) ?_; rw [hUA]) | fail)
  refine (R.out _ (hL.out _ K1.out.1)).mono ?_
  rintro e W2 ⟨rfl, hb⟩
  have K2 := bsb K1 hb
  clear c1_0_0 c1_0_1 c1_1_0 c1_1_1 c1_1_2 c1_1_3 c1_2_0 c1_2_1
  clear hb K1
  obtain ⟨c2_0_0, c2_0_1⟩ := (bo1 K2).c2
  obtain ⟨c2_1_0, c2_1_1, c2_1_2, c2_1_3⟩ := (bo2 K2).c4
  obtain ⟨c2_2_0, c2_2_1⟩ := (bo3 K2).c2
  go_wp2_with (first | (refine wpList_load_mid rfl 46 _ rfl (w.heap.size) 0 rfl T _ (K2.out.at (w.heap.size) T (by simp)).all Tryz.underlying46 rfl (by rw [hT]; kernel_rfl) ?_; rw [hUA]) | fail)
  refine (PR.out _).mono ?_
  rintro e W3 ⟨rfl, hb⟩
  have K3 := bsb K2 hb
  clear c2_0_0 c2_0_1 c2_1_0 c2_1_1 c2_1_2 c2_1_3 c2_2_0 c2_2_1
  clear hb K2
  obtain ⟨c3_0_0, c3_0_1⟩ := (bo1 K3).c2
  obtain ⟨c3_1_0, c3_1_1, c3_1_2, c3_1_3⟩ := (bo2 K3).c4
  obtain ⟨c3_2_0, c3_2_1⟩ := (bo3 K3).c2
  go_wp2_with fail
  go_cut [8, 9] (fun v0 v1 wx => v0 = .int .i64 0 ∧ v1 = .int .i64 0 ∧ Hid (BS w [(w.heap.size + 3, [.int .i64 0, .int .i64 0]), (w.heap.size + 2, [.int .i64 j, .int .i64 0, .int .i64 0, .int .i64 n]), (w.heap.size + 1, [.int .i64 i, .int .i64 u]), (w.heap.size, T)] wx))
  case first =>
    refine wp_region_held_drew (S := BS w [(w.heap.size + 3, [.int .i64 0, .int .i64 0]), (w.heap.size + 2, [.int .i64 j, .int .i64 0, .int .i64 0, .int .i64 n]), (w.heap.size + 1, [.int .i64 i, .int .i64 u]), (w.heap.size, T)]) (by kernel_rfl) K3.out.drew (fun hHeld => ?_)
    refine wpAnyH_take (i := 0) (v := ?_) (oi := { dst := some 27, op := _, type := _, pos := _, after := _, guard := none }) rfl (by kernel_rfl) (by kernel_rfl) (by kernel_rfl) (fun _ _ _ h => h) (Or.inl ⟨by kernel_rfl, ?_⟩) (by assumption) ?_
    case refine_2 => (intro w9 hSw; clear hSw; go_simp; try with_reducible rfl)
    simp only [Act.put, List.setIfInBounds_toArray, List.set_cons_zero, List.set_cons_succ]
    refine wpAnyH_take (i := 1) (v := ?_) (oi := { dst := some 28, op := _, type := _, pos := _, after := _, guard := none }) rfl (by kernel_rfl) (by kernel_rfl) (by kernel_rfl) (fun _ _ _ h => h) (Or.inl ⟨by kernel_rfl, ?_⟩) (by assumption) ?_
    case refine_2 => (intro w9 hSw; have l0_0 := (hSw.at (w.heap.size + 3) [.int .i64 0, .int .i64 0] (by simp)).c 0 rfl; have l0_1 := (hSw.at (w.heap.size + 3) [.int .i64 0, .int .i64 0] (by simp)).c 1 rfl; have l1_0 := (hSw.at (w.heap.size + 2) [.int .i64 j, .int .i64 0, .int .i64 0, .int .i64 n] (by simp)).c 0 rfl; have l1_1 := (hSw.at (w.heap.size + 2) [.int .i64 j, .int .i64 0, .int .i64 0, .int .i64 n] (by simp)).c 1 rfl; have l1_2 := (hSw.at (w.heap.size + 2) [.int .i64 j, .int .i64 0, .int .i64 0, .int .i64 n] (by simp)).c 2 rfl; have l1_3 := (hSw.at (w.heap.size + 2) [.int .i64 j, .int .i64 0, .int .i64 0, .int .i64 n] (by simp)).c 3 rfl; have l2_0 := (hSw.at (w.heap.size + 1) [.int .i64 i, .int .i64 u] (by simp)).c 0 rfl; have l2_1 := (hSw.at (w.heap.size + 1) [.int .i64 i, .int .i64 u] (by simp)).c 1 rfl; clear hSw; go_simp; try with_reducible rfl)
    simp only [Act.put, List.setIfInBounds_toArray, List.set_cons_zero, List.set_cons_succ]
    refine wpAnyH_take (i := 3) (v := ?_) (oi := { dst := some 30, op := _, type := _, pos := _, after := _, guard := none }) rfl (by kernel_rfl) (by kernel_rfl) (by kernel_rfl) (fun _ _ _ h => h) (Or.inl ⟨by kernel_rfl, ?_⟩) (by assumption) ?_
    case refine_2 => (intro w9 hSw; clear hSw; go_simp; try with_reducible rfl)
    simp only [Act.put, List.setIfInBounds_toArray, List.set_cons_zero, List.set_cons_succ]
    refine wpAnyH_take (i := 4) (v := ?_) (oi := { dst := some 31, op := _, type := _, pos := _, after := _, guard := none }) rfl (by kernel_rfl) (by kernel_rfl) (by kernel_rfl) (fun _ _ _ h => h) (Or.inl ⟨by kernel_rfl, ?_⟩) (by assumption) ?_
    case refine_2 => (intro w9 hSw; have l0_0 := (hSw.at (w.heap.size + 3) [.int .i64 0, .int .i64 0] (by simp)).c 0 rfl; have l0_1 := (hSw.at (w.heap.size + 3) [.int .i64 0, .int .i64 0] (by simp)).c 1 rfl; have l1_0 := (hSw.at (w.heap.size + 2) [.int .i64 j, .int .i64 0, .int .i64 0, .int .i64 n] (by simp)).c 0 rfl; have l1_1 := (hSw.at (w.heap.size + 2) [.int .i64 j, .int .i64 0, .int .i64 0, .int .i64 n] (by simp)).c 1 rfl; have l1_2 := (hSw.at (w.heap.size + 2) [.int .i64 j, .int .i64 0, .int .i64 0, .int .i64 n] (by simp)).c 2 rfl; have l1_3 := (hSw.at (w.heap.size + 2) [.int .i64 j, .int .i64 0, .int .i64 0, .int .i64 n] (by simp)).c 3 rfl; have l2_0 := (hSw.at (w.heap.size + 1) [.int .i64 i, .int .i64 u] (by simp)).c 0 rfl; have l2_1 := (hSw.at (w.heap.size + 1) [.int .i64 i, .int .i64 u] (by simp)).c 1 rfl; clear hSw; go_simp; try with_reducible rfl)
    simp only [Act.put, List.setIfInBounds_toArray, List.set_cons_zero, List.set_cons_succ]
    refine wpAnyH_ready (rs := [2]) (by kernel_rfl) (by simp) (AllReadyH.cons (o := { dst := some 29, op := _, type := _, pos := _, after := _, guard := none }) rfl (fun K hK => ?_) AllReadyH.nil)
    go_simp
    refine (KA.out _).mono ?_
    rintro e v1 ⟨rfl, hb1⟩
    refine hK.out _ _ (hHeld.below hb1) (fun hHeld => ?_)
    clear hK K hb1
    refine wpAnyH_ready (rs := [5]) (by kernel_rfl) (by simp) (AllReadyH.cons (o := { dst := some 32, op := _, type := _, pos := _, after := _, guard := none }) rfl (fun K hK => ?_) AllReadyH.nil)
    go_simp
    refine (KB.out _).mono ?_
    rintro e v2 ⟨rfl, hb2⟩
    refine hK.out _ _ (hHeld.below hb2) (fun hHeld => ?_)
    clear hK K hb2
    refine wpAnyH_ready (rs := [6]) (by kernel_rfl) (by simp) (AllReadyH.cons (o := { dst := some 33, op := _, type := _, pos := _, after := _, guard := none }) rfl (fun K hK => ?_) AllReadyH.nil)
    go_simp
    refine (TG.out _).mono ?_
    rintro e v3 ⟨rfl, hb3⟩
    refine hK.out _ _ (hHeld.below hb3) (fun hHeld => ?_)
    clear hK K hb3
    refine wpAnyH_take (i := 7) (v := ?_) (oi := { dst := some 26, op := _, type := _, pos := _, after := _, guard := none }) rfl (by kernel_rfl) (by kernel_rfl) (by kernel_rfl) (fun _ _ _ h => h) (Or.inl ⟨by kernel_rfl, ?_⟩) (by assumption) ?_
    case refine_2 => (intro w9 hSw; clear hSw; go_simp; try with_reducible rfl)
    simp only [Act.put, List.setIfInBounds_toArray, List.set_cons_zero, List.set_cons_succ]
    refine wpAnyH_take (i := 8) (v := ?_) (oi := { dst := some 34, op := _, type := _, pos := _, after := _, guard := none }) rfl (by kernel_rfl) (by kernel_rfl) (by kernel_rfl) (fun _ _ _ h => h) (Or.inl ⟨by kernel_rfl, ?_⟩) (by assumption) ?_
    case refine_2 => (intro w9 hSw; clear hSw; go_simp; try with_reducible rfl)
    simp only [Act.put, List.setIfInBounds_toArray, List.set_cons_zero, List.set_cons_succ]
    refine wpAnyH_take (i := 9) (v := ?_) (oi := { dst := some 35, op := _, type := _, pos := _, after := _, guard := none }) rfl (by kernel_rfl) (by kernel_rfl) (by kernel_rfl) (fun _ _ _ h => h) (Or.inl ⟨by kernel_rfl, ?_⟩) (by assumption) ?_
    case refine_2 => (intro w9 hSw; clear hSw; go_simp; try with_reducible rfl)
    simp only [Act.put, List.setIfInBounds_toArray, List.set_cons_zero, List.set_cons_succ]
    refine wpAnyH_take (i := 10) (v := ?_) (oi := { dst := some 8, op := _, type := _, pos := _, after := _, guard := none }) rfl (by kernel_rfl) (by kernel_rfl) (by kernel_rfl) (fun _ _ _ h => h) (Or.inl ⟨by kernel_rfl, ?_⟩) (by assumption) ?_
    case refine_2 => (intro w9 hSw; clear hSw; go_simp; try with_reducible rfl)
    simp only [Act.put, List.setIfInBounds_toArray, List.set_cons_zero, List.set_cons_succ]
    refine wpAnyH_take (i := 11) (v := ?_) (oi := { dst := some 9, op := _, type := _, pos := _, after := _, guard := none }) rfl (by kernel_rfl) (by kernel_rfl) (by kernel_rfl) (fun _ _ _ h => h) (Or.inl ⟨by kernel_rfl, ?_⟩) (by assumption) ?_
    case refine_2 => (intro w9 hSw; clear hSw; go_simp; try with_reducible rfl)
    simp only [Act.put, List.setIfInBounds_toArray, List.set_cons_zero, List.set_cons_succ]
    refine wpAnyH_done (by kernel_rfl) ?_ _
    go_wp2_with fail
    go_meet
    case rel => exact ⟨rfl, rfl, hHeld⟩
  case rest =>
    clear c3_0_0 c3_0_1 c3_1_0 c3_1_1 c3_1_2 c3_1_3 c3_2_0 c3_2_1
    obtain ⟨rfl, rfl, K4⟩ := hcut
    clear K3
    skip
    obtain ⟨c4_0_0, c4_0_1⟩ := (bo1 K4).c2
    obtain ⟨c4_1_0, c4_1_1, c4_1_2, c4_1_3⟩ := (bo2 K4).c4
    obtain ⟨c4_2_0, c4_2_1⟩ := (bo3 K4).c2
    go_wp2_with (first | (refine wpList_load_mid rfl 46 _ rfl (w.heap.size) 0 rfl T _ (K4.out.at (w.heap.size) T (by simp)).all Tryz.underlying46 rfl (by rw [hT]; kernel_rfl) ?_; rw [hUA]) | fail)
    refine (MO.out _ (hL.out _ K4.out.1)).mono ?_
    rintro e W5 ⟨rfl, hb⟩
    have K5 := bsb K4 hb
    clear c4_0_0 c4_0_1 c4_1_0 c4_1_1 c4_1_2 c4_1_3 c4_2_0 c4_2_1
    clear hb K4
    obtain ⟨c5_0_0, c5_0_1⟩ := (bo1 K5).c2
    obtain ⟨z5_0_0, z5_0_1⟩ := (bo1 K5).f2
    obtain ⟨c5_1_0, c5_1_1, c5_1_2, c5_1_3⟩ := (bo2 K5).c4
    obtain ⟨c5_2_0, c5_2_1⟩ := (bo3 K5).c2
    have XF : Hid (Bx (W5.setCells (w.heap.size + 3) 0 [.int .i64 0, .int .i64 X]) (w.heap.size + 3) [.int .i64 0, .int .i64 X]) := (K5.out.at (w.heap.size + 3) [.int .i64 0, .int .i64 0] (by simp)).setAll _ rfl
    have BF : Hid (Below w.heap.size w (W5.setCells (w.heap.size + 3) 0 [.int .i64 0, .int .i64 X])) := below_setCells (by omega) _ _ _ K5.out.1
    have y0 := XF.out.c 0 rfl
    have y1 := XF.out.c 1 rfl
    simp only [World.setCells, Nat.zero_add] at y0 y1
    clear XF
    go_wp2
    exact bodyPost_ret (v := .tuple #[.agg #[.int .i64 0, .int .i64 X], .int .i64 E]) (by simp [results, Tryz.results10, go_sem, y0, y1]) rfl ⟨rfl, BF.out⟩

set_option maxRecDepth 100000 in
set_option maxHeartbeats 4000000 in
theorem az_errd (Ok : World → Prop) (T : List Value) (hT : T.length = 25) (i u j d n V e : Int) (ka kb : Value) (he : e ≠ 0) (hd : d ≠ 0)
    (RT : Hid (∀ w : World, Ok w → Calls Tryz.prog 16 #[.agg T.toArray] w fun r' w' => r' = .returned (.bool true) ∧ Below w.heap.size w w'))
    (R : Hid (∀ w : World, Ok w → Calls Tryz.prog 17 #[.agg #[.int .i64 i, .int .i64 u]] w fun r' w' => r' = .returned (.bool true) ∧ Below w.heap.size w w'))
    (PR : Hid (∀ w : World, Calls Tryz.prog 18 #[.agg #[.int .i64 j, .int .i64 0, .int .i64 d, .int .i64 n]] w fun r' w' => r' = .returned (.bool true) ∧ Below w.heap.size w w'))
    (KA : Hid (∀ w : World, Calls Tryz.prog 28 #[.int .i64 i] w fun r' w' => r' = .returned (ka) ∧ Below w.heap.size w w'))
    (KB : Hid (∀ w : World, Calls Tryz.prog 28 #[.int .i64 j] w fun r' w' => r' = .returned (kb) ∧ Below w.heap.size w w'))
    (TG : Hid (∀ w : World, Calls Tryz.prog 27 #[ka, kb] w fun r' w' => r' = .returned (.tuple #[.int .i64 0, .int .i64 0]) ∧ Below w.heap.size w w'))
    (MB : Hid (∀ w : World, Ok w → Calls Tryz.prog 29 #[.agg T.toArray, .agg #[.int .i64 i, .int .i64 u], .agg #[.int .i64 j, .int .i64 0, .int .i64 d, .int .i64 n]] w fun r' w' => r' = .returned (.tuple #[.agg #[.int .i64 0, .int .i64 V], .int .i64 e]) ∧ Below w.heap.size w w'))
    (w : World) (hL : Hid (∀ W : World, Below w.heap.size w W → Ok W)) :
    Calls Tryz.prog 10 #[.agg T.toArray, .agg #[.int .i64 i, .int .i64 u], .agg #[.int .i64 j, .int .i64 0, .int .i64 d, .int .i64 n]] w fun r' w' => r' = .returned (.tuple #[.agg #[.int .i64 0, .int .i64 0], .int .i64 e]) ∧ Below w.heap.size w w' := by
  have m1 : (d != 0) = true := bne_iff_ne.2 hd
  have e1 : (e != 0) = true := bne_iff_ne.2 he
  have K0 : Hid (BS w [(w.heap.size + 3, [.int .i64 0, .int .i64 0]), (w.heap.size + 2, [.int .i64 j, .int .i64 0, .int .i64 d, .int .i64 n]), (w.heap.size + 1, [.int .i64 i, .int .i64 u]), (w.heap.size, T)] ((((w.alloc (.cells T.toArray 46)).alloc (.cells #[.int .i64 i, .int .i64 u] 36)).alloc (.cells #[.int .i64 j, .int .i64 0, .int .i64 d, .int .i64 n] 38)).alloc (.cells #[.int .i64 0, .int .i64 0] 36))) := (((((BS.start w).new T 46 rfl).new [.int .i64 i, .int .i64 u] 36 (by simp)).new [.int .i64 j, .int .i64 0, .int .i64 d, .int .i64 n] 38 (by simp)).new [.int .i64 0, .int .i64 0] 36 (by simp))
  go_enter Tryz.func10, Tryz.ntmps10
  generalize hUA : T.toArray = UA at *
  go_upto_region 1 with fail
  refine gen_to (BS w [(w.heap.size + 3, [.int .i64 0, .int .i64 0]), (w.heap.size + 2, [.int .i64 j, .int .i64 0, .int .i64 d, .int .i64 n]), (w.heap.size + 1, [.int .i64 i, .int .i64 u]), (w.heap.size, T)]) K0.out ?_
  clear K0
  intro W0 K0'
  have K0 : Hid (BS w [(w.heap.size + 3, [.int .i64 0, .int .i64 0]), (w.heap.size + 2, [.int .i64 j, .int .i64 0, .int .i64 d, .int .i64 n]), (w.heap.size + 1, [.int .i64 i, .int .i64 u]), (w.heap.size, T)] W0) := K0'
  clear K0'
  obtain ⟨c0_0_0, c0_0_1⟩ := (bo1 K0).c2
  obtain ⟨c0_1_0, c0_1_1, c0_1_2, c0_1_3⟩ := (bo2 K0).c4
  obtain ⟨c0_2_0, c0_2_1⟩ := (bo3 K0).c2
  go_wp2_with (first | (refine wpList_load_mid rfl 46 _ rfl (w.heap.size) 0 rfl T _ (K0.out.at (w.heap.size) T (by simp)).all Tryz.underlying46 rfl (by rw [hT]; kernel_rfl) ?_; rw [hUA]) | fail)
  refine (RT.out _ (hL.out _ K0.out.1)).mono ?_
  rintro e W1 ⟨rfl, hb⟩
  have K1 := bsb K0 hb
  clear c0_0_0 c0_0_1 c0_1_0 c0_1_1 c0_1_2 c0_1_3 c0_2_0 c0_2_1
  clear hb K0
  obtain ⟨c1_0_0, c1_0_1⟩ := (bo1 K1).c2
  obtain ⟨c1_1_0, c1_1_1, c1_1_2, c1_1_3⟩ := (bo2 K1).c4
  obtain ⟨c1_2_0, c1_2_1⟩ := (bo3 K1).c2
  go_wp2_with (first | (refine wpList_load_mid rfl 46 _ rfl (w.heap.size) 0 rfl T _ (K1.out.at (w.heap.size) T (by simp)).all Tryz.underlying46 rfl (by rw [hT]; kernel_rfl) ?_; rw [hUA]) | fail)
  refine (R.out _ (hL.out _ K1.out.1)).mono ?_
  rintro e W2 ⟨rfl, hb⟩
  have K2 := bsb K1 hb
  clear c1_0_0 c1_0_1 c1_1_0 c1_1_1 c1_1_2 c1_1_3 c1_2_0 c1_2_1
  clear hb K1
  obtain ⟨c2_0_0, c2_0_1⟩ := (bo1 K2).c2
  obtain ⟨c2_1_0, c2_1_1, c2_1_2, c2_1_3⟩ := (bo2 K2).c4
  obtain ⟨c2_2_0, c2_2_1⟩ := (bo3 K2).c2
  go_wp2_with (first | (refine wpList_load_mid rfl 46 _ rfl (w.heap.size) 0 rfl T _ (K2.out.at (w.heap.size) T (by simp)).all Tryz.underlying46 rfl (by rw [hT]; kernel_rfl) ?_; rw [hUA]) | fail)
  refine (PR.out _).mono ?_
  rintro e W3 ⟨rfl, hb⟩
  have K3 := bsb K2 hb
  clear c2_0_0 c2_0_1 c2_1_0 c2_1_1 c2_1_2 c2_1_3 c2_2_0 c2_2_1
  clear hb K2
  obtain ⟨c3_0_0, c3_0_1⟩ := (bo1 K3).c2
  obtain ⟨c3_1_0, c3_1_1, c3_1_2, c3_1_3⟩ := (bo2 K3).c4
  obtain ⟨c3_2_0, c3_2_1⟩ := (bo3 K3).c2
  go_wp2_with fail
  go_cut [8, 9] (fun v0 v1 wx => v0 = .int .i64 0 ∧ v1 = .int .i64 0 ∧ Hid (BS w [(w.heap.size + 3, [.int .i64 0, .int .i64 0]), (w.heap.size + 2, [.int .i64 j, .int .i64 0, .int .i64 d, .int .i64 n]), (w.heap.size + 1, [.int .i64 i, .int .i64 u]), (w.heap.size, T)] wx))
  case first =>
    refine wp_region_held_drew (S := BS w [(w.heap.size + 3, [.int .i64 0, .int .i64 0]), (w.heap.size + 2, [.int .i64 j, .int .i64 0, .int .i64 d, .int .i64 n]), (w.heap.size + 1, [.int .i64 i, .int .i64 u]), (w.heap.size, T)]) (by kernel_rfl) K3.out.drew (fun hHeld => ?_)
    refine wpAnyH_take (i := 0) (v := ?_) (oi := { dst := some 27, op := _, type := _, pos := _, after := _, guard := none }) rfl (by kernel_rfl) (by kernel_rfl) (by kernel_rfl) (fun _ _ _ h => h) (Or.inl ⟨by kernel_rfl, ?_⟩) (by assumption) ?_
    case refine_2 => (intro w9 hSw; clear hSw; go_simp; try with_reducible rfl)
    simp only [Act.put, List.setIfInBounds_toArray, List.set_cons_zero, List.set_cons_succ]
    refine wpAnyH_take (i := 1) (v := ?_) (oi := { dst := some 28, op := _, type := _, pos := _, after := _, guard := none }) rfl (by kernel_rfl) (by kernel_rfl) (by kernel_rfl) (fun _ _ _ h => h) (Or.inl ⟨by kernel_rfl, ?_⟩) (by assumption) ?_
    case refine_2 => (intro w9 hSw; have l0_0 := (hSw.at (w.heap.size + 3) [.int .i64 0, .int .i64 0] (by simp)).c 0 rfl; have l0_1 := (hSw.at (w.heap.size + 3) [.int .i64 0, .int .i64 0] (by simp)).c 1 rfl; have l1_0 := (hSw.at (w.heap.size + 2) [.int .i64 j, .int .i64 0, .int .i64 d, .int .i64 n] (by simp)).c 0 rfl; have l1_1 := (hSw.at (w.heap.size + 2) [.int .i64 j, .int .i64 0, .int .i64 d, .int .i64 n] (by simp)).c 1 rfl; have l1_2 := (hSw.at (w.heap.size + 2) [.int .i64 j, .int .i64 0, .int .i64 d, .int .i64 n] (by simp)).c 2 rfl; have l1_3 := (hSw.at (w.heap.size + 2) [.int .i64 j, .int .i64 0, .int .i64 d, .int .i64 n] (by simp)).c 3 rfl; have l2_0 := (hSw.at (w.heap.size + 1) [.int .i64 i, .int .i64 u] (by simp)).c 0 rfl; have l2_1 := (hSw.at (w.heap.size + 1) [.int .i64 i, .int .i64 u] (by simp)).c 1 rfl; clear hSw; go_simp; try with_reducible rfl)
    simp only [Act.put, List.setIfInBounds_toArray, List.set_cons_zero, List.set_cons_succ]
    refine wpAnyH_take (i := 3) (v := ?_) (oi := { dst := some 30, op := _, type := _, pos := _, after := _, guard := none }) rfl (by kernel_rfl) (by kernel_rfl) (by kernel_rfl) (fun _ _ _ h => h) (Or.inl ⟨by kernel_rfl, ?_⟩) (by assumption) ?_
    case refine_2 => (intro w9 hSw; clear hSw; go_simp; try with_reducible rfl)
    simp only [Act.put, List.setIfInBounds_toArray, List.set_cons_zero, List.set_cons_succ]
    refine wpAnyH_take (i := 4) (v := ?_) (oi := { dst := some 31, op := _, type := _, pos := _, after := _, guard := none }) rfl (by kernel_rfl) (by kernel_rfl) (by kernel_rfl) (fun _ _ _ h => h) (Or.inl ⟨by kernel_rfl, ?_⟩) (by assumption) ?_
    case refine_2 => (intro w9 hSw; have l0_0 := (hSw.at (w.heap.size + 3) [.int .i64 0, .int .i64 0] (by simp)).c 0 rfl; have l0_1 := (hSw.at (w.heap.size + 3) [.int .i64 0, .int .i64 0] (by simp)).c 1 rfl; have l1_0 := (hSw.at (w.heap.size + 2) [.int .i64 j, .int .i64 0, .int .i64 d, .int .i64 n] (by simp)).c 0 rfl; have l1_1 := (hSw.at (w.heap.size + 2) [.int .i64 j, .int .i64 0, .int .i64 d, .int .i64 n] (by simp)).c 1 rfl; have l1_2 := (hSw.at (w.heap.size + 2) [.int .i64 j, .int .i64 0, .int .i64 d, .int .i64 n] (by simp)).c 2 rfl; have l1_3 := (hSw.at (w.heap.size + 2) [.int .i64 j, .int .i64 0, .int .i64 d, .int .i64 n] (by simp)).c 3 rfl; have l2_0 := (hSw.at (w.heap.size + 1) [.int .i64 i, .int .i64 u] (by simp)).c 0 rfl; have l2_1 := (hSw.at (w.heap.size + 1) [.int .i64 i, .int .i64 u] (by simp)).c 1 rfl; clear hSw; go_simp; try with_reducible rfl)
    simp only [Act.put, List.setIfInBounds_toArray, List.set_cons_zero, List.set_cons_succ]
    refine wpAnyH_ready (rs := [2]) (by kernel_rfl) (by simp) (AllReadyH.cons (o := { dst := some 29, op := _, type := _, pos := _, after := _, guard := none }) rfl (fun K hK => ?_) AllReadyH.nil)
    go_simp
    refine (KA.out _).mono ?_
    rintro e v1 ⟨rfl, hb1⟩
    refine hK.out _ _ (hHeld.below hb1) (fun hHeld => ?_)
    clear hK K hb1
    refine wpAnyH_ready (rs := [5]) (by kernel_rfl) (by simp) (AllReadyH.cons (o := { dst := some 32, op := _, type := _, pos := _, after := _, guard := none }) rfl (fun K hK => ?_) AllReadyH.nil)
    go_simp
    refine (KB.out _).mono ?_
    rintro e v2 ⟨rfl, hb2⟩
    refine hK.out _ _ (hHeld.below hb2) (fun hHeld => ?_)
    clear hK K hb2
    refine wpAnyH_ready (rs := [6]) (by kernel_rfl) (by simp) (AllReadyH.cons (o := { dst := some 33, op := _, type := _, pos := _, after := _, guard := none }) rfl (fun K hK => ?_) AllReadyH.nil)
    go_simp
    refine (TG.out _).mono ?_
    rintro e v3 ⟨rfl, hb3⟩
    refine hK.out _ _ (hHeld.below hb3) (fun hHeld => ?_)
    clear hK K hb3
    refine wpAnyH_take (i := 7) (v := ?_) (oi := { dst := some 26, op := _, type := _, pos := _, after := _, guard := none }) rfl (by kernel_rfl) (by kernel_rfl) (by kernel_rfl) (fun _ _ _ h => h) (Or.inl ⟨by kernel_rfl, ?_⟩) (by assumption) ?_
    case refine_2 => (intro w9 hSw; clear hSw; go_simp; try with_reducible rfl)
    simp only [Act.put, List.setIfInBounds_toArray, List.set_cons_zero, List.set_cons_succ]
    refine wpAnyH_take (i := 8) (v := ?_) (oi := { dst := some 34, op := _, type := _, pos := _, after := _, guard := none }) rfl (by kernel_rfl) (by kernel_rfl) (by kernel_rfl) (fun _ _ _ h => h) (Or.inl ⟨by kernel_rfl, ?_⟩) (by assumption) ?_
    case refine_2 => (intro w9 hSw; clear hSw; go_simp; try with_reducible rfl)
    simp only [Act.put, List.setIfInBounds_toArray, List.set_cons_zero, List.set_cons_succ]
    refine wpAnyH_take (i := 9) (v := ?_) (oi := { dst := some 35, op := _, type := _, pos := _, after := _, guard := none }) rfl (by kernel_rfl) (by kernel_rfl) (by kernel_rfl) (fun _ _ _ h => h) (Or.inl ⟨by kernel_rfl, ?_⟩) (by assumption) ?_
    case refine_2 => (intro w9 hSw; clear hSw; go_simp; try with_reducible rfl)
    simp only [Act.put, List.setIfInBounds_toArray, List.set_cons_zero, List.set_cons_succ]
    refine wpAnyH_take (i := 10) (v := ?_) (oi := { dst := some 8, op := _, type := _, pos := _, after := _, guard := none }) rfl (by kernel_rfl) (by kernel_rfl) (by kernel_rfl) (fun _ _ _ h => h) (Or.inl ⟨by kernel_rfl, ?_⟩) (by assumption) ?_
    case refine_2 => (intro w9 hSw; clear hSw; go_simp; try with_reducible rfl)
    simp only [Act.put, List.setIfInBounds_toArray, List.set_cons_zero, List.set_cons_succ]
    refine wpAnyH_take (i := 11) (v := ?_) (oi := { dst := some 9, op := _, type := _, pos := _, after := _, guard := none }) rfl (by kernel_rfl) (by kernel_rfl) (by kernel_rfl) (fun _ _ _ h => h) (Or.inl ⟨by kernel_rfl, ?_⟩) (by assumption) ?_
    case refine_2 => (intro w9 hSw; clear hSw; go_simp; try with_reducible rfl)
    simp only [Act.put, List.setIfInBounds_toArray, List.set_cons_zero, List.set_cons_succ]
    refine wpAnyH_done (by kernel_rfl) ?_ _
    go_wp2_with fail
    go_meet
    case rel => exact ⟨rfl, rfl, hHeld⟩
  case rest =>
    clear c3_0_0 c3_0_1 c3_1_0 c3_1_1 c3_1_2 c3_1_3 c3_2_0 c3_2_1
    obtain ⟨rfl, rfl, K4⟩ := hcut
    clear K3
    skip
    obtain ⟨c4_0_0, c4_0_1⟩ := (bo1 K4).c2
    obtain ⟨c4_1_0, c4_1_1, c4_1_2, c4_1_3⟩ := (bo2 K4).c4
    obtain ⟨c4_2_0, c4_2_1⟩ := (bo3 K4).c2
    go_wp2_with (first | (refine wpList_load_mid rfl 46 _ rfl (w.heap.size) 0 rfl T _ (K4.out.at (w.heap.size) T (by simp)).all Tryz.underlying46 rfl (by rw [hT]; kernel_rfl) ?_; rw [hUA]) | fail)
    refine (MB.out _ (hL.out _ K4.out.1)).mono ?_
    rintro e W5 ⟨rfl, hb⟩
    have K5 := bsb K4 hb
    clear c4_0_0 c4_0_1 c4_1_0 c4_1_1 c4_1_2 c4_1_3 c4_2_0 c4_2_1
    clear hb K4
    obtain ⟨c5_0_0, c5_0_1⟩ := (bo1 K5).c2
    obtain ⟨c5_1_0, c5_1_1, c5_1_2, c5_1_3⟩ := (bo2 K5).c4
    obtain ⟨c5_2_0, c5_2_1⟩ := (bo3 K5).c2
    have Mz5 := bsn K5 [.int .i64 0, .int .i64 V] 36
    have lt5_0 := (bo1 K5).1
    have lt5_1 := (bo2 K5).1
    have lt5_2 := (bo3 K5).1
    have lt5_3 := (bo4 K5).1
    go_upto_region 8 with fail
    refine bs_to Mz5 ?_
    clear c5_0_0 c5_0_1 c5_1_0 c5_1_1 c5_1_2 c5_1_3 c5_2_0 c5_2_1
    intro W6 K6
    clear Mz5 K5
    obtain ⟨c6_0_0, c6_0_1⟩ := (bo1 K6).c2
    obtain ⟨c6_1_0, c6_1_1⟩ := (bo2 K6).c2
    obtain ⟨z6_1_0, z6_1_1⟩ := (bo2 K6).f2
    obtain ⟨c6_2_0, c6_2_1, c6_2_2, c6_2_3⟩ := (bo3 K6).c4
    obtain ⟨c6_3_0, c6_3_1⟩ := (bo4 K6).c2
    have XF : Hid (Bx (W6.setCells (w.heap.size + 3) 0 [.int .i64 0, .int .i64 0]) (w.heap.size + 3) [.int .i64 0, .int .i64 0]) := (K6.out.at (w.heap.size + 3) [.int .i64 0, .int .i64 0] (by simp)).setAll _ rfl
    have BF : Hid (Below w.heap.size w (W6.setCells (w.heap.size + 3) 0 [.int .i64 0, .int .i64 0])) := below_setCells (by omega) _ _ _ K6.out.1
    have y0 := XF.out.c 0 rfl
    have y1 := XF.out.c 1 rfl
    simp only [World.setCells, Nat.zero_add] at y0 y1
    clear XF
    go_wp2
    exact bodyPost_ret (v := .tuple #[.agg #[.int .i64 0, .int .i64 0], .int .i64 e]) (by simp [results, Tryz.results10, go_sem, y0, y1]) rfl ⟨rfl, BF.out⟩

set_option maxRecDepth 100000 in
set_option maxHeartbeats 4000000 in
theorem az_okd (Ok : World → Prop) (T : List Value) (hT : T.length = 25) (i u j d n V X E : Int) (ka kb : Value) (hd : d ≠ 0)
    (RT : Hid (∀ w : World, Ok w → Calls Tryz.prog 16 #[.agg T.toArray] w fun r' w' => r' = .returned (.bool true) ∧ Below w.heap.size w w'))
    (R : Hid (∀ w : World, Ok w → Calls Tryz.prog 17 #[.agg #[.int .i64 i, .int .i64 u]] w fun r' w' => r' = .returned (.bool true) ∧ Below w.heap.size w w'))
    (PR : Hid (∀ w : World, Calls Tryz.prog 18 #[.agg #[.int .i64 j, .int .i64 0, .int .i64 d, .int .i64 n]] w fun r' w' => r' = .returned (.bool true) ∧ Below w.heap.size w w'))
    (KA : Hid (∀ w : World, Calls Tryz.prog 28 #[.int .i64 i] w fun r' w' => r' = .returned (ka) ∧ Below w.heap.size w w'))
    (KB : Hid (∀ w : World, Calls Tryz.prog 28 #[.int .i64 j] w fun r' w' => r' = .returned (kb) ∧ Below w.heap.size w w'))
    (TG : Hid (∀ w : World, Calls Tryz.prog 27 #[ka, kb] w fun r' w' => r' = .returned (.tuple #[.int .i64 0, .int .i64 0]) ∧ Below w.heap.size w w'))
    (MB : Hid (∀ w : World, Ok w → Calls Tryz.prog 29 #[.agg T.toArray, .agg #[.int .i64 i, .int .i64 u], .agg #[.int .i64 j, .int .i64 0, .int .i64 d, .int .i64 n]] w fun r' w' => r' = .returned (.tuple #[.agg #[.int .i64 0, .int .i64 V], .int .i64 0]) ∧ Below w.heap.size w w'))
    (MO : Hid (∀ w : World, Ok w → Calls Tryz.prog 30 #[.agg #[.int .i64 0, .int .i64 V], .int .i64 n] w fun r' w' => r' = .returned (.tuple #[.agg #[.int .i64 0, .int .i64 X], .int .i64 E]) ∧ Below w.heap.size w w'))
    (w : World) (hL : Hid (∀ W : World, Below w.heap.size w W → Ok W)) :
    Calls Tryz.prog 10 #[.agg T.toArray, .agg #[.int .i64 i, .int .i64 u], .agg #[.int .i64 j, .int .i64 0, .int .i64 d, .int .i64 n]] w fun r' w' => r' = .returned (.tuple #[.agg #[.int .i64 0, .int .i64 X], .int .i64 E]) ∧ Below w.heap.size w w' := by
  have m1 : (d != 0) = true := bne_iff_ne.2 hd
  have K0 : Hid (BS w [(w.heap.size + 3, [.int .i64 0, .int .i64 0]), (w.heap.size + 2, [.int .i64 j, .int .i64 0, .int .i64 d, .int .i64 n]), (w.heap.size + 1, [.int .i64 i, .int .i64 u]), (w.heap.size, T)] ((((w.alloc (.cells T.toArray 46)).alloc (.cells #[.int .i64 i, .int .i64 u] 36)).alloc (.cells #[.int .i64 j, .int .i64 0, .int .i64 d, .int .i64 n] 38)).alloc (.cells #[.int .i64 0, .int .i64 0] 36))) := (((((BS.start w).new T 46 rfl).new [.int .i64 i, .int .i64 u] 36 (by simp)).new [.int .i64 j, .int .i64 0, .int .i64 d, .int .i64 n] 38 (by simp)).new [.int .i64 0, .int .i64 0] 36 (by simp))
  go_enter Tryz.func10, Tryz.ntmps10
  generalize hUA : T.toArray = UA at *
  go_upto_region 1 with fail
  refine gen_to (BS w [(w.heap.size + 3, [.int .i64 0, .int .i64 0]), (w.heap.size + 2, [.int .i64 j, .int .i64 0, .int .i64 d, .int .i64 n]), (w.heap.size + 1, [.int .i64 i, .int .i64 u]), (w.heap.size, T)]) K0.out ?_
  clear K0
  intro W0 K0'
  have K0 : Hid (BS w [(w.heap.size + 3, [.int .i64 0, .int .i64 0]), (w.heap.size + 2, [.int .i64 j, .int .i64 0, .int .i64 d, .int .i64 n]), (w.heap.size + 1, [.int .i64 i, .int .i64 u]), (w.heap.size, T)] W0) := K0'
  clear K0'
  obtain ⟨c0_0_0, c0_0_1⟩ := (bo1 K0).c2
  obtain ⟨c0_1_0, c0_1_1, c0_1_2, c0_1_3⟩ := (bo2 K0).c4
  obtain ⟨c0_2_0, c0_2_1⟩ := (bo3 K0).c2
  go_wp2_with (first | (refine wpList_load_mid rfl 46 _ rfl (w.heap.size) 0 rfl T _ (K0.out.at (w.heap.size) T (by simp)).all Tryz.underlying46 rfl (by rw [hT]; kernel_rfl) ?_; rw [hUA]) | fail)
  refine (RT.out _ (hL.out _ K0.out.1)).mono ?_
  rintro e W1 ⟨rfl, hb⟩
  have K1 := bsb K0 hb
  clear c0_0_0 c0_0_1 c0_1_0 c0_1_1 c0_1_2 c0_1_3 c0_2_0 c0_2_1
  clear hb K0
  obtain ⟨c1_0_0, c1_0_1⟩ := (bo1 K1).c2
  obtain ⟨c1_1_0, c1_1_1, c1_1_2, c1_1_3⟩ := (bo2 K1).c4
  obtain ⟨c1_2_0, c1_2_1⟩ := (bo3 K1).c2
  go_wp2_with (first | (refine wpList_load_mid rfl 46 _ rfl (w.heap.size) 0 rfl T _ (K1.out.at (w.heap.size) T (by simp)).all Tryz.underlying46 rfl (by rw [hT]; kernel_rfl) ?_; rw [hUA]) | fail)
  refine (R.out _ (hL.out _ K1.out.1)).mono ?_
  rintro e W2 ⟨rfl, hb⟩
  have K2 := bsb K1 hb
  clear c1_0_0 c1_0_1 c1_1_0 c1_1_1 c1_1_2 c1_1_3 c1_2_0 c1_2_1
  clear hb K1
  obtain ⟨c2_0_0, c2_0_1⟩ := (bo1 K2).c2
  obtain ⟨c2_1_0, c2_1_1, c2_1_2, c2_1_3⟩ := (bo2 K2).c4
  obtain ⟨c2_2_0, c2_2_1⟩ := (bo3 K2).c2
  go_wp2_with (first | (refine wpList_load_mid rfl 46 _ rfl (w.heap.size) 0 rfl T _ (K2.out.at (w.heap.size) T (by simp)).all Tryz.underlying46 rfl (by rw [hT]; kernel_rfl) ?_; rw [hUA]) | fail)
  refine (PR.out _).mono ?_
  rintro e W3 ⟨rfl, hb⟩
  have K3 := bsb K2 hb
  clear c2_0_0 c2_0_1 c2_1_0 c2_1_1 c2_1_2 c2_1_3 c2_2_0 c2_2_1
  clear hb K2
  obtain ⟨c3_0_0, c3_0_1⟩ := (bo1 K3).c2
  obtain ⟨c3_1_0, c3_1_1, c3_1_2, c3_1_3⟩ := (bo2 K3).c4
  obtain ⟨c3_2_0, c3_2_1⟩ := (bo3 K3).c2
  go_wp2_with fail
  go_cut [8, 9] (fun v0 v1 wx => v0 = .int .i64 0 ∧ v1 = .int .i64 0 ∧ Hid (BS w [(w.heap.size + 3, [.int .i64 0, .int .i64 0]), (w.heap.size + 2, [.int .i64 j, .int .i64 0, .int .i64 d, .int .i64 n]), (w.heap.size + 1, [.int .i64 i, .int .i64 u]), (w.heap.size, T)] wx))
  case first =>
    refine wp_region_held_drew (S := BS w [(w.heap.size + 3, [.int .i64 0, .int .i64 0]), (w.heap.size + 2, [.int .i64 j, .int .i64 0, .int .i64 d, .int .i64 n]), (w.heap.size + 1, [.int .i64 i, .int .i64 u]), (w.heap.size, T)]) (by kernel_rfl) K3.out.drew (fun hHeld => ?_)
    refine wpAnyH_take (i := 0) (v := ?_) (oi := { dst := some 27, op := _, type := _, pos := _, after := _, guard := none }) rfl (by kernel_rfl) (by kernel_rfl) (by kernel_rfl) (fun _ _ _ h => h) (Or.inl ⟨by kernel_rfl, ?_⟩) (by assumption) ?_
    case refine_2 => (intro w9 hSw; clear hSw; go_simp; try with_reducible rfl)
    simp only [Act.put, List.setIfInBounds_toArray, List.set_cons_zero, List.set_cons_succ]
    refine wpAnyH_take (i := 1) (v := ?_) (oi := { dst := some 28, op := _, type := _, pos := _, after := _, guard := none }) rfl (by kernel_rfl) (by kernel_rfl) (by kernel_rfl) (fun _ _ _ h => h) (Or.inl ⟨by kernel_rfl, ?_⟩) (by assumption) ?_
    case refine_2 => (intro w9 hSw; have l0_0 := (hSw.at (w.heap.size + 3) [.int .i64 0, .int .i64 0] (by simp)).c 0 rfl; have l0_1 := (hSw.at (w.heap.size + 3) [.int .i64 0, .int .i64 0] (by simp)).c 1 rfl; have l1_0 := (hSw.at (w.heap.size + 2) [.int .i64 j, .int .i64 0, .int .i64 d, .int .i64 n] (by simp)).c 0 rfl; have l1_1 := (hSw.at (w.heap.size + 2) [.int .i64 j, .int .i64 0, .int .i64 d, .int .i64 n] (by simp)).c 1 rfl; have l1_2 := (hSw.at (w.heap.size + 2) [.int .i64 j, .int .i64 0, .int .i64 d, .int .i64 n] (by simp)).c 2 rfl; have l1_3 := (hSw.at (w.heap.size + 2) [.int .i64 j, .int .i64 0, .int .i64 d, .int .i64 n] (by simp)).c 3 rfl; have l2_0 := (hSw.at (w.heap.size + 1) [.int .i64 i, .int .i64 u] (by simp)).c 0 rfl; have l2_1 := (hSw.at (w.heap.size + 1) [.int .i64 i, .int .i64 u] (by simp)).c 1 rfl; clear hSw; go_simp; try with_reducible rfl)
    simp only [Act.put, List.setIfInBounds_toArray, List.set_cons_zero, List.set_cons_succ]
    refine wpAnyH_take (i := 3) (v := ?_) (oi := { dst := some 30, op := _, type := _, pos := _, after := _, guard := none }) rfl (by kernel_rfl) (by kernel_rfl) (by kernel_rfl) (fun _ _ _ h => h) (Or.inl ⟨by kernel_rfl, ?_⟩) (by assumption) ?_
    case refine_2 => (intro w9 hSw; clear hSw; go_simp; try with_reducible rfl)
    simp only [Act.put, List.setIfInBounds_toArray, List.set_cons_zero, List.set_cons_succ]
    refine wpAnyH_take (i := 4) (v := ?_) (oi := { dst := some 31, op := _, type := _, pos := _, after := _, guard := none }) rfl (by kernel_rfl) (by kernel_rfl) (by kernel_rfl) (fun _ _ _ h => h) (Or.inl ⟨by kernel_rfl, ?_⟩) (by assumption) ?_
    case refine_2 => (intro w9 hSw; have l0_0 := (hSw.at (w.heap.size + 3) [.int .i64 0, .int .i64 0] (by simp)).c 0 rfl; have l0_1 := (hSw.at (w.heap.size + 3) [.int .i64 0, .int .i64 0] (by simp)).c 1 rfl; have l1_0 := (hSw.at (w.heap.size + 2) [.int .i64 j, .int .i64 0, .int .i64 d, .int .i64 n] (by simp)).c 0 rfl; have l1_1 := (hSw.at (w.heap.size + 2) [.int .i64 j, .int .i64 0, .int .i64 d, .int .i64 n] (by simp)).c 1 rfl; have l1_2 := (hSw.at (w.heap.size + 2) [.int .i64 j, .int .i64 0, .int .i64 d, .int .i64 n] (by simp)).c 2 rfl; have l1_3 := (hSw.at (w.heap.size + 2) [.int .i64 j, .int .i64 0, .int .i64 d, .int .i64 n] (by simp)).c 3 rfl; have l2_0 := (hSw.at (w.heap.size + 1) [.int .i64 i, .int .i64 u] (by simp)).c 0 rfl; have l2_1 := (hSw.at (w.heap.size + 1) [.int .i64 i, .int .i64 u] (by simp)).c 1 rfl; clear hSw; go_simp; try with_reducible rfl)
    simp only [Act.put, List.setIfInBounds_toArray, List.set_cons_zero, List.set_cons_succ]
    refine wpAnyH_ready (rs := [2]) (by kernel_rfl) (by simp) (AllReadyH.cons (o := { dst := some 29, op := _, type := _, pos := _, after := _, guard := none }) rfl (fun K hK => ?_) AllReadyH.nil)
    go_simp
    refine (KA.out _).mono ?_
    rintro e v1 ⟨rfl, hb1⟩
    refine hK.out _ _ (hHeld.below hb1) (fun hHeld => ?_)
    clear hK K hb1
    refine wpAnyH_ready (rs := [5]) (by kernel_rfl) (by simp) (AllReadyH.cons (o := { dst := some 32, op := _, type := _, pos := _, after := _, guard := none }) rfl (fun K hK => ?_) AllReadyH.nil)
    go_simp
    refine (KB.out _).mono ?_
    rintro e v2 ⟨rfl, hb2⟩
    refine hK.out _ _ (hHeld.below hb2) (fun hHeld => ?_)
    clear hK K hb2
    refine wpAnyH_ready (rs := [6]) (by kernel_rfl) (by simp) (AllReadyH.cons (o := { dst := some 33, op := _, type := _, pos := _, after := _, guard := none }) rfl (fun K hK => ?_) AllReadyH.nil)
    go_simp
    refine (TG.out _).mono ?_
    rintro e v3 ⟨rfl, hb3⟩
    refine hK.out _ _ (hHeld.below hb3) (fun hHeld => ?_)
    clear hK K hb3
    refine wpAnyH_take (i := 7) (v := ?_) (oi := { dst := some 26, op := _, type := _, pos := _, after := _, guard := none }) rfl (by kernel_rfl) (by kernel_rfl) (by kernel_rfl) (fun _ _ _ h => h) (Or.inl ⟨by kernel_rfl, ?_⟩) (by assumption) ?_
    case refine_2 => (intro w9 hSw; clear hSw; go_simp; try with_reducible rfl)
    simp only [Act.put, List.setIfInBounds_toArray, List.set_cons_zero, List.set_cons_succ]
    refine wpAnyH_take (i := 8) (v := ?_) (oi := { dst := some 34, op := _, type := _, pos := _, after := _, guard := none }) rfl (by kernel_rfl) (by kernel_rfl) (by kernel_rfl) (fun _ _ _ h => h) (Or.inl ⟨by kernel_rfl, ?_⟩) (by assumption) ?_
    case refine_2 => (intro w9 hSw; clear hSw; go_simp; try with_reducible rfl)
    simp only [Act.put, List.setIfInBounds_toArray, List.set_cons_zero, List.set_cons_succ]
    refine wpAnyH_take (i := 9) (v := ?_) (oi := { dst := some 35, op := _, type := _, pos := _, after := _, guard := none }) rfl (by kernel_rfl) (by kernel_rfl) (by kernel_rfl) (fun _ _ _ h => h) (Or.inl ⟨by kernel_rfl, ?_⟩) (by assumption) ?_
    case refine_2 => (intro w9 hSw; clear hSw; go_simp; try with_reducible rfl)
    simp only [Act.put, List.setIfInBounds_toArray, List.set_cons_zero, List.set_cons_succ]
    refine wpAnyH_take (i := 10) (v := ?_) (oi := { dst := some 8, op := _, type := _, pos := _, after := _, guard := none }) rfl (by kernel_rfl) (by kernel_rfl) (by kernel_rfl) (fun _ _ _ h => h) (Or.inl ⟨by kernel_rfl, ?_⟩) (by assumption) ?_
    case refine_2 => (intro w9 hSw; clear hSw; go_simp; try with_reducible rfl)
    simp only [Act.put, List.setIfInBounds_toArray, List.set_cons_zero, List.set_cons_succ]
    refine wpAnyH_take (i := 11) (v := ?_) (oi := { dst := some 9, op := _, type := _, pos := _, after := _, guard := none }) rfl (by kernel_rfl) (by kernel_rfl) (by kernel_rfl) (fun _ _ _ h => h) (Or.inl ⟨by kernel_rfl, ?_⟩) (by assumption) ?_
    case refine_2 => (intro w9 hSw; clear hSw; go_simp; try with_reducible rfl)
    simp only [Act.put, List.setIfInBounds_toArray, List.set_cons_zero, List.set_cons_succ]
    refine wpAnyH_done (by kernel_rfl) ?_ _
    go_wp2_with fail
    go_meet
    case rel => exact ⟨rfl, rfl, hHeld⟩
  case rest =>
    clear c3_0_0 c3_0_1 c3_1_0 c3_1_1 c3_1_2 c3_1_3 c3_2_0 c3_2_1
    obtain ⟨rfl, rfl, K4⟩ := hcut
    clear K3
    skip
    obtain ⟨c4_0_0, c4_0_1⟩ := (bo1 K4).c2
    obtain ⟨c4_1_0, c4_1_1, c4_1_2, c4_1_3⟩ := (bo2 K4).c4
    obtain ⟨c4_2_0, c4_2_1⟩ := (bo3 K4).c2
    go_wp2_with (first | (refine wpList_load_mid rfl 46 _ rfl (w.heap.size) 0 rfl T _ (K4.out.at (w.heap.size) T (by simp)).all Tryz.underlying46 rfl (by rw [hT]; kernel_rfl) ?_; rw [hUA]) | fail)
    refine (MB.out _ (hL.out _ K4.out.1)).mono ?_
    rintro e W5 ⟨rfl, hb⟩
    have K5 := bsb K4 hb
    clear c4_0_0 c4_0_1 c4_1_0 c4_1_1 c4_1_2 c4_1_3 c4_2_0 c4_2_1
    clear hb K4
    obtain ⟨c5_0_0, c5_0_1⟩ := (bo1 K5).c2
    obtain ⟨c5_1_0, c5_1_1, c5_1_2, c5_1_3⟩ := (bo2 K5).c4
    obtain ⟨c5_2_0, c5_2_1⟩ := (bo3 K5).c2
    have Mz5 := bsn K5 [.int .i64 0, .int .i64 V] 36
    have lt5_0 := (bo1 K5).1
    have lt5_1 := (bo2 K5).1
    have lt5_2 := (bo3 K5).1
    have lt5_3 := (bo4 K5).1
    go_upto_region 8 with fail
    refine bs_to Mz5 ?_
    clear c5_0_0 c5_0_1 c5_1_0 c5_1_1 c5_1_2 c5_1_3 c5_2_0 c5_2_1
    intro W6 K6
    clear Mz5 K5
    obtain ⟨c6_0_0, c6_0_1⟩ := (bo1 K6).c2
    obtain ⟨c6_1_0, c6_1_1⟩ := (bo2 K6).c2
    obtain ⟨c6_2_0, c6_2_1, c6_2_2, c6_2_3⟩ := (bo3 K6).c4
    obtain ⟨c6_3_0, c6_3_1⟩ := (bo4 K6).c2
    clear c6_0_0 c6_0_1 c6_1_0 c6_1_1 c6_2_0 c6_2_1 c6_2_2 c6_2_3 c6_3_0 c6_3_1
    obtain ⟨c6_0_0, c6_0_1⟩ := (bo1 K6).c2
    have r6_0 : W6.cell? ⟨w.heap.size + 1, 0, none⟩ = some (.int .i64 i) := (K6.out.at (w.heap.size + 1) [.int .i64 i, .int .i64 u] (by simp)).c 0 rfl
    have sr6_0 : W6.frozen? ⟨w.heap.size + 1, 0, none⟩ = false := (K6.out.at (w.heap.size + 1) [.int .i64 i, .int .i64 u] (by simp)).f 0 rfl
    have r6_1 : W6.cell? ⟨w.heap.size + 1, 1, none⟩ = some (.int .i64 u) := (K6.out.at (w.heap.size + 1) [.int .i64 i, .int .i64 u] (by simp)).c 1 rfl
    have sr6_1 : W6.frozen? ⟨w.heap.size + 1, 1, none⟩ = false := (K6.out.at (w.heap.size + 1) [.int .i64 i, .int .i64 u] (by simp)).f 1 rfl
    have Mz6 : Hid (BS w [(w.heap.size + 1, [.int .i64 0, .int .i64 V]), (W5.heap.size, [.int .i64 0, .int .i64 V]), (w.heap.size + 3, [.int .i64 0, .int .i64 0]), (w.heap.size + 2, [.int .i64 j, .int .i64 0, .int .i64 d, .int .i64 n]), (w.heap.size, T)] (W6.setCells (w.heap.size + 1) 0 [.int .i64 0, .int .i64 V])) := ((K6.out.perm (l' := [(w.heap.size + 1, [.int .i64 i, .int .i64 u]), (W5.heap.size, [.int .i64 0, .int .i64 V]), (w.heap.size + 3, [.int .i64 0, .int .i64 0]), (w.heap.size + 2, [.int .i64 j, .int .i64 0, .int .i64 d, .int .i64 n]), (w.heap.size, T)]) (by intro x hx; simp only [List.mem_cons, List.not_mem_nil, or_false] at hx ⊢; rcases hx with h | h | h | h | h <;> simp [h])).set [.int .i64 0, .int .i64 V] rfl (by intro x hx; simp only [List.mem_cons, List.not_mem_nil, or_false] at hx; rcases hx with rfl | rfl | rfl | rfl <;> simp only [] <;> omega))
    simp only [World.setCells, Nat.zero_add] at Mz6
    go_upto_region 11 with fail
    refine gen_to (BS w [(w.heap.size + 1, [.int .i64 0, .int .i64 V]), (W5.heap.size, [.int .i64 0, .int .i64 V]), (w.heap.size + 3, [.int .i64 0, .int .i64 0]), (w.heap.size + 2, [.int .i64 j, .int .i64 0, .int .i64 d, .int .i64 n]), (w.heap.size, T)]) Mz6.out ?_
    clear c6_0_0 c6_0_1 r6_0 sr6_0 r6_1 sr6_1
    intro W7 K7'
    have K7 : Hid (BS w [(w.heap.size + 1, [.int .i64 0, .int .i64 V]), (W5.heap.size, [.int .i64 0, .int .i64 V]), (w.heap.size + 3, [.int .i64 0, .int .i64 0]), (w.heap.size + 2, [.int .i64 j, .int .i64 0, .int .i64 d, .int .i64 n]), (w.heap.size, T)] W7) := K7'
    clear K7' Mz6 K6
    obtain ⟨c7_0_0, c7_0_1⟩ := (bo1 K7).c2
    obtain ⟨c7_1_0, c7_1_1⟩ := (bo2 K7).c2
    obtain ⟨c7_2_0, c7_2_1⟩ := (bo3 K7).c2
    obtain ⟨c7_3_0, c7_3_1, c7_3_2, c7_3_3⟩ := (bo4 K7).c4
    go_wp2_with (first | (refine wpList_load_mid rfl 46 _ rfl (w.heap.size) 0 rfl T _ (K7.out.at (w.heap.size) T (by simp)).all Tryz.underlying46 rfl (by rw [hT]; kernel_rfl) ?_; rw [hUA]) | fail)
    refine (MO.out _ (hL.out _ K7.out.1)).mono ?_
    rintro e W8 ⟨rfl, hb⟩
    have K8 := bsb K7 hb
    clear c7_0_0 c7_0_1 c7_1_0 c7_1_1 c7_2_0 c7_2_1 c7_3_0 c7_3_1 c7_3_2 c7_3_3
    clear hb K7
    obtain ⟨c8_0_0, c8_0_1⟩ := (bo1 K8).c2
    obtain ⟨c8_1_0, c8_1_1⟩ := (bo2 K8).c2
    obtain ⟨c8_2_0, c8_2_1⟩ := (bo3 K8).c2
    obtain ⟨z8_2_0, z8_2_1⟩ := (bo3 K8).f2
    obtain ⟨c8_3_0, c8_3_1, c8_3_2, c8_3_3⟩ := (bo4 K8).c4
    have XF : Hid (Bx (W8.setCells (w.heap.size + 3) 0 [.int .i64 0, .int .i64 X]) (w.heap.size + 3) [.int .i64 0, .int .i64 X]) := (K8.out.at (w.heap.size + 3) [.int .i64 0, .int .i64 0] (by simp)).setAll _ rfl
    have BF : Hid (Below w.heap.size w (W8.setCells (w.heap.size + 3) 0 [.int .i64 0, .int .i64 X])) := below_setCells (by omega) _ _ _ K8.out.1
    have y0 := XF.out.c 0 rfl
    have y1 := XF.out.c 1 rfl
    simp only [World.setCells, Nat.zero_add] at y0 y1
    clear XF
    go_wp2
    exact bodyPost_ret (v := .tuple #[.agg #[.int .i64 0, .int .i64 X], .int .i64 E]) (by simp [results, Tryz.results10, go_sem, y0, y1]) rfl ⟨rfl, BF.out⟩


end Go.Proofs.YtpdmndlpgjjopaaGreatDoor
