/- SeriesTimes over its callees. -/
import Derived.Test.YtpdmndlpgjjopaaGreatDoorSeOq
namespace Go.Proofs.YtpdmndlpgjjopaaGreatDoor
open Go.RowKit Sr
set_option linter.unusedVariables false

set_option maxRecDepth 100000 in
set_option maxHeartbeats 8000000 in
theorem st_no (i a j b d u m D U E : Int) (L : List Int) (hE : E ≠ 0) (hd : d.tmod 100000 = D) (hu : u.tmod 86400000000000 = U) (UT : Hid (∀ w : World, Calls Tryz.prog 11 #[] w fun r' w' => r' = .returned (.agg utL.toArray) ∧ Below w.heap.size w w'))
    (TZ : Hid (∀ w : World, Cvl.Lens w → Calls Tryz.prog 6 #[.agg utL.toArray, .agg #[.int .i64 i, .int .i64 a], .agg #[.int .i64 j, .int .i64 b], .agg #[.int .i64 0, .int .i64 0, .int .i64 D, .int .i64 U], .int .i64 m] w fun r' w' => ∃ v, r' = .returned (.tuple #[v, .int .i64 E]) ∧ Below w.heap.size w w' ∧ TRow w' v L))
    (TS : Hid (∀ w : World, Cvl.Lens w → Calls Tryz.prog 12 #[.agg #[.int .i64 i, .int .i64 a], .agg #[.int .i64 j, .int .i64 b], .agg #[.int .i64 0, .int .i64 0, .int .i64 D, .int .i64 U], .int .i64 m] w fun r' w' => ∃ v, r' = .returned (.tuple #[v, .int .i64 E]) ∧ Below w.heap.size w w' ∧ TRow w' v L))
    (KN : Hid (∀ w : World, Cvl.Lens w → Calls Tryz.prog 7 #[] w fun r w' => r = .returned (.bool true) ∧ Below w.heap.size w w')) (w : World) (hL : Hid (∀ W : World, Below w.heap.size w W → Cvl.Lens W)) :
    Calls Tryz.prog 4 #[.agg #[.int .i64 i, .int .i64 a], .agg #[.int .i64 j, .int .i64 b], .int .i64 d, .int .i64 u, .int .i64 m] w fun r w' => r = .returned (.bool true) ∧ Below w.heap.size w w' := by
  have hE0 : (E == 0) = false := by simpa using hE
  have hE1 : (E != 0) = true := by simpa using hE
  clear hE
  generalize hUA : utL.toArray = UA at *
  clear hUA
  have K0 : Hid (BS w [(w.heap.size + 2, [.int .i64 0, .int .i64 0, .int .i64 D, .int .i64 U]), (w.heap.size + 1, [.int .i64 j, .int .i64 b]), (w.heap.size, [.int .i64 i, .int .i64 a])] (((w.alloc (.cells #[.int .i64 i, .int .i64 a] 36)).alloc (.cells #[.int .i64 j, .int .i64 b] 36)).alloc (.cells #[.int .i64 0, .int .i64 0, .int .i64 D, .int .i64 U] 38))) := (((BS.start w).new [.int .i64 i, .int .i64 a] 36 rfl).new [.int .i64 j, .int .i64 b] 36 (by simp)).new [.int .i64 0, .int .i64 0, .int .i64 D, .int .i64 U] 38 (by simp)
  go_enter Tryz.func4, Tryz.ntmps4
  go_upto_region 4 with fail
  refine bs_to K0 ?_
  clear K0
  intro W0 K0
  go_cut [12, 13] (fun v12 v13 wx => v13 = .int .i64 E ∧ Hid (BS w [(w.heap.size + 2, [.int .i64 0, .int .i64 0, .int .i64 D, .int .i64 U]), (w.heap.size + 1, [.int .i64 j, .int .i64 b]), (w.heap.size, [.int .i64 i, .int .i64 a])] wx) ∧ Hid (TRow wx v12 L))
  case first =>
    refine wp_region_held_drew (S := BS w [(w.heap.size + 2, [.int .i64 0, .int .i64 0, .int .i64 D, .int .i64 U]), (w.heap.size + 1, [.int .i64 j, .int .i64 b]), (w.heap.size, [.int .i64 i, .int .i64 a])]) (by kernel_rfl) K0.out.drew (fun hHeld => ?_)
    refine wpAnyH_take (i := 1) (v := ?_) (oi := { dst := some 26, op := _, type := _, pos := _, after := _, guard := none }) rfl (by kernel_rfl) (by kernel_rfl) (by kernel_rfl) (fun _ _ _ h => h) (Or.inl ⟨by kernel_rfl, ?_⟩) (by assumption) ?_
    case refine_2 => (intro w9 hSw; have l2_0 := (hSw.at (w.heap.size + 2) [.int .i64 0, .int .i64 0, .int .i64 D, .int .i64 U] (by simp)).c 0 rfl; have l2_1 := (hSw.at (w.heap.size + 2) [.int .i64 0, .int .i64 0, .int .i64 D, .int .i64 U] (by simp)).c 1 rfl; have l2_2 := (hSw.at (w.heap.size + 2) [.int .i64 0, .int .i64 0, .int .i64 D, .int .i64 U] (by simp)).c 2 rfl; have l2_3 := (hSw.at (w.heap.size + 2) [.int .i64 0, .int .i64 0, .int .i64 D, .int .i64 U] (by simp)).c 3 rfl; have l1_0 := (hSw.at (w.heap.size + 1) [.int .i64 j, .int .i64 b] (by simp)).c 0 rfl; have l1_1 := (hSw.at (w.heap.size + 1) [.int .i64 j, .int .i64 b] (by simp)).c 1 rfl; have l0_0 := (hSw.at (w.heap.size) [.int .i64 i, .int .i64 a] (by simp)).c 0 rfl; have l0_1 := (hSw.at (w.heap.size) [.int .i64 i, .int .i64 a] (by simp)).c 1 rfl; clear hSw; go_simp; try with_reducible rfl)
    simp only [Act.put, List.setIfInBounds_toArray, List.set_cons_zero, List.set_cons_succ]
    refine wpAnyH_take (i := 2) (v := ?_) (oi := { dst := some 27, op := _, type := _, pos := _, after := _, guard := none }) rfl (by kernel_rfl) (by kernel_rfl) (by kernel_rfl) (fun _ _ _ h => h) (Or.inl ⟨by kernel_rfl, ?_⟩) (by assumption) ?_
    case refine_2 => (intro w9 hSw; have l2_0 := (hSw.at (w.heap.size + 2) [.int .i64 0, .int .i64 0, .int .i64 D, .int .i64 U] (by simp)).c 0 rfl; have l2_1 := (hSw.at (w.heap.size + 2) [.int .i64 0, .int .i64 0, .int .i64 D, .int .i64 U] (by simp)).c 1 rfl; have l2_2 := (hSw.at (w.heap.size + 2) [.int .i64 0, .int .i64 0, .int .i64 D, .int .i64 U] (by simp)).c 2 rfl; have l2_3 := (hSw.at (w.heap.size + 2) [.int .i64 0, .int .i64 0, .int .i64 D, .int .i64 U] (by simp)).c 3 rfl; have l1_0 := (hSw.at (w.heap.size + 1) [.int .i64 j, .int .i64 b] (by simp)).c 0 rfl; have l1_1 := (hSw.at (w.heap.size + 1) [.int .i64 j, .int .i64 b] (by simp)).c 1 rfl; have l0_0 := (hSw.at (w.heap.size) [.int .i64 i, .int .i64 a] (by simp)).c 0 rfl; have l0_1 := (hSw.at (w.heap.size) [.int .i64 i, .int .i64 a] (by simp)).c 1 rfl; clear hSw; go_simp; try with_reducible rfl)
    simp only [Act.put, List.setIfInBounds_toArray, List.set_cons_zero, List.set_cons_succ]
    refine wpAnyH_take (i := 3) (v := ?_) (oi := { dst := some 28, op := _, type := _, pos := _, after := _, guard := none }) rfl (by kernel_rfl) (by kernel_rfl) (by kernel_rfl) (fun _ _ _ h => h) (Or.inl ⟨by kernel_rfl, ?_⟩) (by assumption) ?_
    case refine_2 => (intro w9 hSw; have l2_0 := (hSw.at (w.heap.size + 2) [.int .i64 0, .int .i64 0, .int .i64 D, .int .i64 U] (by simp)).c 0 rfl; have l2_1 := (hSw.at (w.heap.size + 2) [.int .i64 0, .int .i64 0, .int .i64 D, .int .i64 U] (by simp)).c 1 rfl; have l2_2 := (hSw.at (w.heap.size + 2) [.int .i64 0, .int .i64 0, .int .i64 D, .int .i64 U] (by simp)).c 2 rfl; have l2_3 := (hSw.at (w.heap.size + 2) [.int .i64 0, .int .i64 0, .int .i64 D, .int .i64 U] (by simp)).c 3 rfl; have l1_0 := (hSw.at (w.heap.size + 1) [.int .i64 j, .int .i64 b] (by simp)).c 0 rfl; have l1_1 := (hSw.at (w.heap.size + 1) [.int .i64 j, .int .i64 b] (by simp)).c 1 rfl; have l0_0 := (hSw.at (w.heap.size) [.int .i64 i, .int .i64 a] (by simp)).c 0 rfl; have l0_1 := (hSw.at (w.heap.size) [.int .i64 i, .int .i64 a] (by simp)).c 1 rfl; clear hSw; go_simp; try with_reducible rfl)
    simp only [Act.put, List.setIfInBounds_toArray, List.set_cons_zero, List.set_cons_succ]
    refine wpAnyH_take (i := 4) (v := ?_) (oi := { dst := some 29, op := _, type := _, pos := _, after := _, guard := none }) rfl (by kernel_rfl) (by kernel_rfl) (by kernel_rfl) (fun _ _ _ h => h) (Or.inl ⟨by kernel_rfl, ?_⟩) (by assumption) ?_
    case refine_2 => (intro w9 hSw; clear hSw; go_simp; try with_reducible rfl)
    simp only [Act.put, List.setIfInBounds_toArray, List.set_cons_zero, List.set_cons_succ]
    refine wpAnyH_ready (rs := [0]) (by kernel_rfl) (by simp) (AllReadyH.cons (o := { dst := some 25, op := _, type := _, pos := _, after := _, guard := none }) rfl (fun K hK => ?_) AllReadyH.nil)
    go_simp
    refine (UT.out _).mono ?_
    rintro e v1 ⟨rfl, hb1⟩
    refine hK.out _ _ (hHeld.below hb1) (fun hHeld => ?_)
    clear hK K hb1
    refine wpAnyH_ready (rs := [5]) (by kernel_rfl) (by simp) (AllReadyH.cons (o := { dst := some 30, op := _, type := _, pos := _, after := _, guard := none }) rfl (fun K hK => ?_) AllReadyH.nil)
    go_simp
    refine (TZ.out _ (hL.out _ hHeld.1)).mono ?_
    rintro e v2 ⟨vv, rfl, hb2, ht⟩
    refine hK.out _ _ (hHeld.below hb2) (fun hHeld => ?_)
    have HT : Hid (TRow v2 vv L) := ht
    clear hK K hb2 ht
    refine wpAnyH_take (i := 6) (v := ?_) (oi := { dst := some 24, op := _, type := _, pos := _, after := _, guard := none }) rfl (by kernel_rfl) (by kernel_rfl) (by kernel_rfl) (fun _ _ _ h => h) (Or.inl ⟨by kernel_rfl, ?_⟩) (by assumption) ?_
    case refine_2 => (intro w9 hSw; clear hSw; go_simp; try with_reducible rfl)
    simp only [Act.put, List.setIfInBounds_toArray, List.set_cons_zero, List.set_cons_succ]
    refine wpAnyH_take (i := 7) (v := ?_) (oi := { dst := some 31, op := _, type := _, pos := _, after := _, guard := none }) rfl (by kernel_rfl) (by kernel_rfl) (by kernel_rfl) (fun _ _ _ h => h) (Or.inl ⟨by kernel_rfl, ?_⟩) (by assumption) ?_
    case refine_2 => (intro w9 hSw; clear hSw; go_simp; try with_reducible rfl)
    simp only [Act.put, List.setIfInBounds_toArray, List.set_cons_zero, List.set_cons_succ]
    refine wpAnyH_take (i := 8) (v := ?_) (oi := { dst := some 32, op := _, type := _, pos := _, after := _, guard := none }) rfl (by kernel_rfl) (by kernel_rfl) (by kernel_rfl) (fun _ _ _ h => h) (Or.inl ⟨by kernel_rfl, ?_⟩) (by assumption) ?_
    case refine_2 => (intro w9 hSw; clear hSw; go_simp; try with_reducible rfl)
    simp only [Act.put, List.setIfInBounds_toArray, List.set_cons_zero, List.set_cons_succ]
    refine wpAnyH_take (i := 9) (v := ?_) (oi := { dst := some 12, op := _, type := _, pos := _, after := _, guard := none }) rfl (by kernel_rfl) (by kernel_rfl) (by kernel_rfl) (fun _ _ _ h => h) (Or.inl ⟨by kernel_rfl, ?_⟩) (by assumption) ?_
    case refine_2 => (intro w9 hSw; clear hSw; go_simp; try with_reducible rfl)
    simp only [Act.put, List.setIfInBounds_toArray, List.set_cons_zero, List.set_cons_succ]
    refine wpAnyH_take (i := 10) (v := ?_) (oi := { dst := some 13, op := _, type := _, pos := _, after := _, guard := none }) rfl (by kernel_rfl) (by kernel_rfl) (by kernel_rfl) (fun _ _ _ h => h) (Or.inl ⟨by kernel_rfl, ?_⟩) (by assumption) ?_
    case refine_2 => (intro w9 hSw; clear hSw; go_simp; try with_reducible rfl)
    simp only [Act.put, List.setIfInBounds_toArray, List.set_cons_zero, List.set_cons_succ]
    refine wpAnyH_done (by kernel_rfl) ?_ _
    go_wp2_with fail
    go_meet
    case rel => exact ⟨rfl, hHeld, HT⟩
  case rest =>
    clear K0
    obtain ⟨rfl, K1, HT⟩ := hcut
    obtain ⟨c0, c1, c2, c3⟩ := (bo1 K1).c4
    obtain ⟨d0, d1⟩ := (bo2 K1).c2
    obtain ⟨e0, e1⟩ := (bo3 K1).c2
    go_wp2_with fail
    refine (TS.out _ (hL.out _ K1.out.1)).mono ?_
    rintro e W2 ⟨v, rfl, hb, ht⟩
    have K2 := bsb K1 hb
    have HT2 := HT.out.below hb
    have HS2 : Hid (TRow W2 v L) := ht
    have HT1 : Hid (TRow W2 _ L) := HT2
    clear hb K1 HT HT2 ht c0 c1 c2 c3 d0 d1 e0 e1
    go_wp2_with fail
    refine (KN.out _ (hL.out _ K2.out.1)).mono ?_
    rintro e W9 ⟨rfl, hb⟩
    have K9 := bsb K2 hb
    clear hb K2
    go_wp2_with fail
    go_ret
    exact ⟨rfl, K9.out.1⟩

set_option maxRecDepth 100000 in
set_option maxHeartbeats 8000000 in
theorem st_ok (i a j b d u m D U t : Int) (L : List Int) (hl : L.length ≤ 1000) (t1 : IntKind.i64.wrap (D * 86400000000) = D * 86400000000) (t2 : IntKind.i64.wrap (D * 86400000000 + U) = t) (HE : Hid (∀ (k : Nat) (x : Int), L[k]? = some x → ∃ y : Int, IntKind.i64.wrap ((k : Int) * t) = y ∧ IntKind.i64.wrap (a + y) = x)) (hd : d.tmod 100000 = D) (hu : u.tmod 86400000000000 = U) (UT : Hid (∀ w : World, Calls Tryz.prog 11 #[] w fun r' w' => r' = .returned (.agg utL.toArray) ∧ Below w.heap.size w w'))
    (TZ : Hid (∀ w : World, Cvl.Lens w → Calls Tryz.prog 6 #[.agg utL.toArray, .agg #[.int .i64 i, .int .i64 a], .agg #[.int .i64 j, .int .i64 b], .agg #[.int .i64 0, .int .i64 0, .int .i64 D, .int .i64 U], .int .i64 m] w fun r' w' => ∃ v, r' = .returned (.tuple #[v, .int .i64 0]) ∧ Below w.heap.size w w' ∧ TRow w' v L))
    (TS : Hid (∀ w : World, Cvl.Lens w → Calls Tryz.prog 12 #[.agg #[.int .i64 i, .int .i64 a], .agg #[.int .i64 j, .int .i64 b], .agg #[.int .i64 0, .int .i64 0, .int .i64 D, .int .i64 U], .int .i64 m] w fun r' w' => ∃ v, r' = .returned (.tuple #[v, .int .i64 0]) ∧ Below w.heap.size w w' ∧ TRow w' v L))
    (KN : Hid (∀ w : World, Cvl.Lens w → Calls Tryz.prog 7 #[] w fun r w' => r = .returned (.bool true) ∧ Below w.heap.size w w')) (w : World) (hL : Hid (∀ W : World, Below w.heap.size w W → Cvl.Lens W)) :
    Calls Tryz.prog 4 #[.agg #[.int .i64 i, .int .i64 a], .agg #[.int .i64 j, .int .i64 b], .int .i64 d, .int .i64 u, .int .i64 m] w fun r w' => r = .returned (.bool true) ∧ Below w.heap.size w w' := by
  generalize hUA : utL.toArray = UA at *
  clear hUA
  have K0 : Hid (BS w [(w.heap.size + 2, [.int .i64 0, .int .i64 0, .int .i64 D, .int .i64 U]), (w.heap.size + 1, [.int .i64 j, .int .i64 b]), (w.heap.size, [.int .i64 i, .int .i64 a])] (((w.alloc (.cells #[.int .i64 i, .int .i64 a] 36)).alloc (.cells #[.int .i64 j, .int .i64 b] 36)).alloc (.cells #[.int .i64 0, .int .i64 0, .int .i64 D, .int .i64 U] 38))) := (((BS.start w).new [.int .i64 i, .int .i64 a] 36 rfl).new [.int .i64 j, .int .i64 b] 36 (by simp)).new [.int .i64 0, .int .i64 0, .int .i64 D, .int .i64 U] 38 (by simp)
  go_enter Tryz.func4, Tryz.ntmps4
  go_upto_region 4 with fail
  refine bs_to K0 ?_
  clear K0
  intro W0 K0
  go_cut [12, 13] (fun v12 v13 wx => v13 = .int .i64 0 ∧ Hid (BS w [(w.heap.size + 2, [.int .i64 0, .int .i64 0, .int .i64 D, .int .i64 U]), (w.heap.size + 1, [.int .i64 j, .int .i64 b]), (w.heap.size, [.int .i64 i, .int .i64 a])] wx) ∧ Hid (TRow wx v12 L))
  case first =>
    refine wp_region_held_drew (S := BS w [(w.heap.size + 2, [.int .i64 0, .int .i64 0, .int .i64 D, .int .i64 U]), (w.heap.size + 1, [.int .i64 j, .int .i64 b]), (w.heap.size, [.int .i64 i, .int .i64 a])]) (by kernel_rfl) K0.out.drew (fun hHeld => ?_)
    refine wpAnyH_take (i := 1) (v := ?_) (oi := { dst := some 26, op := _, type := _, pos := _, after := _, guard := none }) rfl (by kernel_rfl) (by kernel_rfl) (by kernel_rfl) (fun _ _ _ h => h) (Or.inl ⟨by kernel_rfl, ?_⟩) (by assumption) ?_
    case refine_2 => (intro w9 hSw; have l2_0 := (hSw.at (w.heap.size + 2) [.int .i64 0, .int .i64 0, .int .i64 D, .int .i64 U] (by simp)).c 0 rfl; have l2_1 := (hSw.at (w.heap.size + 2) [.int .i64 0, .int .i64 0, .int .i64 D, .int .i64 U] (by simp)).c 1 rfl; have l2_2 := (hSw.at (w.heap.size + 2) [.int .i64 0, .int .i64 0, .int .i64 D, .int .i64 U] (by simp)).c 2 rfl; have l2_3 := (hSw.at (w.heap.size + 2) [.int .i64 0, .int .i64 0, .int .i64 D, .int .i64 U] (by simp)).c 3 rfl; have l1_0 := (hSw.at (w.heap.size + 1) [.int .i64 j, .int .i64 b] (by simp)).c 0 rfl; have l1_1 := (hSw.at (w.heap.size + 1) [.int .i64 j, .int .i64 b] (by simp)).c 1 rfl; have l0_0 := (hSw.at (w.heap.size) [.int .i64 i, .int .i64 a] (by simp)).c 0 rfl; have l0_1 := (hSw.at (w.heap.size) [.int .i64 i, .int .i64 a] (by simp)).c 1 rfl; clear hSw; go_simp; try with_reducible rfl)
    simp only [Act.put, List.setIfInBounds_toArray, List.set_cons_zero, List.set_cons_succ]
    refine wpAnyH_take (i := 2) (v := ?_) (oi := { dst := some 27, op := _, type := _, pos := _, after := _, guard := none }) rfl (by kernel_rfl) (by kernel_rfl) (by kernel_rfl) (fun _ _ _ h => h) (Or.inl ⟨by kernel_rfl, ?_⟩) (by assumption) ?_
    case refine_2 => (intro w9 hSw; have l2_0 := (hSw.at (w.heap.size + 2) [.int .i64 0, .int .i64 0, .int .i64 D, .int .i64 U] (by simp)).c 0 rfl; have l2_1 := (hSw.at (w.heap.size + 2) [.int .i64 0, .int .i64 0, .int .i64 D, .int .i64 U] (by simp)).c 1 rfl; have l2_2 := (hSw.at (w.heap.size + 2) [.int .i64 0, .int .i64 0, .int .i64 D, .int .i64 U] (by simp)).c 2 rfl; have l2_3 := (hSw.at (w.heap.size + 2) [.int .i64 0, .int .i64 0, .int .i64 D, .int .i64 U] (by simp)).c 3 rfl; have l1_0 := (hSw.at (w.heap.size + 1) [.int .i64 j, .int .i64 b] (by simp)).c 0 rfl; have l1_1 := (hSw.at (w.heap.size + 1) [.int .i64 j, .int .i64 b] (by simp)).c 1 rfl; have l0_0 := (hSw.at (w.heap.size) [.int .i64 i, .int .i64 a] (by simp)).c 0 rfl; have l0_1 := (hSw.at (w.heap.size) [.int .i64 i, .int .i64 a] (by simp)).c 1 rfl; clear hSw; go_simp; try with_reducible rfl)
    simp only [Act.put, List.setIfInBounds_toArray, List.set_cons_zero, List.set_cons_succ]
    refine wpAnyH_take (i := 3) (v := ?_) (oi := { dst := some 28, op := _, type := _, pos := _, after := _, guard := none }) rfl (by kernel_rfl) (by kernel_rfl) (by kernel_rfl) (fun _ _ _ h => h) (Or.inl ⟨by kernel_rfl, ?_⟩) (by assumption) ?_
    case refine_2 => (intro w9 hSw; have l2_0 := (hSw.at (w.heap.size + 2) [.int .i64 0, .int .i64 0, .int .i64 D, .int .i64 U] (by simp)).c 0 rfl; have l2_1 := (hSw.at (w.heap.size + 2) [.int .i64 0, .int .i64 0, .int .i64 D, .int .i64 U] (by simp)).c 1 rfl; have l2_2 := (hSw.at (w.heap.size + 2) [.int .i64 0, .int .i64 0, .int .i64 D, .int .i64 U] (by simp)).c 2 rfl; have l2_3 := (hSw.at (w.heap.size + 2) [.int .i64 0, .int .i64 0, .int .i64 D, .int .i64 U] (by simp)).c 3 rfl; have l1_0 := (hSw.at (w.heap.size + 1) [.int .i64 j, .int .i64 b] (by simp)).c 0 rfl; have l1_1 := (hSw.at (w.heap.size + 1) [.int .i64 j, .int .i64 b] (by simp)).c 1 rfl; have l0_0 := (hSw.at (w.heap.size) [.int .i64 i, .int .i64 a] (by simp)).c 0 rfl; have l0_1 := (hSw.at (w.heap.size) [.int .i64 i, .int .i64 a] (by simp)).c 1 rfl; clear hSw; go_simp; try with_reducible rfl)
    simp only [Act.put, List.setIfInBounds_toArray, List.set_cons_zero, List.set_cons_succ]
    refine wpAnyH_take (i := 4) (v := ?_) (oi := { dst := some 29, op := _, type := _, pos := _, after := _, guard := none }) rfl (by kernel_rfl) (by kernel_rfl) (by kernel_rfl) (fun _ _ _ h => h) (Or.inl ⟨by kernel_rfl, ?_⟩) (by assumption) ?_
    case refine_2 => (intro w9 hSw; clear hSw; go_simp; try with_reducible rfl)
    simp only [Act.put, List.setIfInBounds_toArray, List.set_cons_zero, List.set_cons_succ]
    refine wpAnyH_ready (rs := [0]) (by kernel_rfl) (by simp) (AllReadyH.cons (o := { dst := some 25, op := _, type := _, pos := _, after := _, guard := none }) rfl (fun K hK => ?_) AllReadyH.nil)
    go_simp
    refine (UT.out _).mono ?_
    rintro e v1 ⟨rfl, hb1⟩
    refine hK.out _ _ (hHeld.below hb1) (fun hHeld => ?_)
    clear hK K hb1
    refine wpAnyH_ready (rs := [5]) (by kernel_rfl) (by simp) (AllReadyH.cons (o := { dst := some 30, op := _, type := _, pos := _, after := _, guard := none }) rfl (fun K hK => ?_) AllReadyH.nil)
    go_simp
    refine (TZ.out _ (hL.out _ hHeld.1)).mono ?_
    rintro e v2 ⟨vv, rfl, hb2, ht⟩
    refine hK.out _ _ (hHeld.below hb2) (fun hHeld => ?_)
    have HT : Hid (TRow v2 vv L) := ht
    clear hK K hb2 ht
    refine wpAnyH_take (i := 6) (v := ?_) (oi := { dst := some 24, op := _, type := _, pos := _, after := _, guard := none }) rfl (by kernel_rfl) (by kernel_rfl) (by kernel_rfl) (fun _ _ _ h => h) (Or.inl ⟨by kernel_rfl, ?_⟩) (by assumption) ?_
    case refine_2 => (intro w9 hSw; clear hSw; go_simp; try with_reducible rfl)
    simp only [Act.put, List.setIfInBounds_toArray, List.set_cons_zero, List.set_cons_succ]
    refine wpAnyH_take (i := 7) (v := ?_) (oi := { dst := some 31, op := _, type := _, pos := _, after := _, guard := none }) rfl (by kernel_rfl) (by kernel_rfl) (by kernel_rfl) (fun _ _ _ h => h) (Or.inl ⟨by kernel_rfl, ?_⟩) (by assumption) ?_
    case refine_2 => (intro w9 hSw; clear hSw; go_simp; try with_reducible rfl)
    simp only [Act.put, List.setIfInBounds_toArray, List.set_cons_zero, List.set_cons_succ]
    refine wpAnyH_take (i := 8) (v := ?_) (oi := { dst := some 32, op := _, type := _, pos := _, after := _, guard := none }) rfl (by kernel_rfl) (by kernel_rfl) (by kernel_rfl) (fun _ _ _ h => h) (Or.inl ⟨by kernel_rfl, ?_⟩) (by assumption) ?_
    case refine_2 => (intro w9 hSw; clear hSw; go_simp; try with_reducible rfl)
    simp only [Act.put, List.setIfInBounds_toArray, List.set_cons_zero, List.set_cons_succ]
    refine wpAnyH_take (i := 9) (v := ?_) (oi := { dst := some 12, op := _, type := _, pos := _, after := _, guard := none }) rfl (by kernel_rfl) (by kernel_rfl) (by kernel_rfl) (fun _ _ _ h => h) (Or.inl ⟨by kernel_rfl, ?_⟩) (by assumption) ?_
    case refine_2 => (intro w9 hSw; clear hSw; go_simp; try with_reducible rfl)
    simp only [Act.put, List.setIfInBounds_toArray, List.set_cons_zero, List.set_cons_succ]
    refine wpAnyH_take (i := 10) (v := ?_) (oi := { dst := some 13, op := _, type := _, pos := _, after := _, guard := none }) rfl (by kernel_rfl) (by kernel_rfl) (by kernel_rfl) (fun _ _ _ h => h) (Or.inl ⟨by kernel_rfl, ?_⟩) (by assumption) ?_
    case refine_2 => (intro w9 hSw; clear hSw; go_simp; try with_reducible rfl)
    simp only [Act.put, List.setIfInBounds_toArray, List.set_cons_zero, List.set_cons_succ]
    refine wpAnyH_done (by kernel_rfl) ?_ _
    go_wp2_with fail
    go_meet
    case rel => exact ⟨rfl, hHeld, HT⟩
  case rest =>
    clear K0
    obtain ⟨rfl, K1, HT⟩ := hcut
    obtain ⟨c0, c1, c2, c3⟩ := (bo1 K1).c4
    obtain ⟨d0, d1⟩ := (bo2 K1).c2
    obtain ⟨e0, e1⟩ := (bo3 K1).c2
    go_wp2_with fail
    refine (TS.out _ (hL.out _ K1.out.1)).mono ?_
    rintro e W2 ⟨v, rfl, hb, ht⟩
    have K2 := bsb K1 hb
    have HT2 := HT.out.below hb
    have HS2 : Hid (TRow W2 v L) := ht
    have HT1 : Hid (TRow W2 _ L) := HT2
    clear hb K1 HT HT2 ht c0 c1 c2 c3 d0 d1 e0 e1
    obtain ⟨n, hn⟩ : ∃ n, L.length = n := ⟨_, rfl⟩
    rw [hn] at hl
    have HN : Hid (L.length = n) := hn
    clear hn
    go_wp2_with fail
    refine (Same_yes _ _ L (by rw [HN.out]; omega) _ HT1 HS2).mono ?_
    rintro e W3 ⟨rfl, hb⟩
    have K3 := bsb K2 hb
    have HS3 : Hid (TRow W3 v L) := HS2.out.below hb
    clear hb K2 HT1 HS2
    obtain ⟨ao, c, hv, hc⟩ := HS3.out
    rw [HN.out] at hv
    subst hv
    have HC : Hid (∀ j x, L[j]? = some x → ∃ g, ao = some ⟨g, 0, none⟩ ∧ W3.cell? ⟨g, j * 2, none⟩ = some (.int .i64 0) ∧ W3.cell? ⟨g, j * 2 + 1, none⟩ = some (.int .i64 x)) := hc
    clear hc HS3
    go_wp2_with fail
    go_loopw [16] (fun iv W => ∃ k : Nat, k ≤ n ∧ iv = .int .i64 (k : Int) ∧ Hid (BS w [(w.heap.size + 2, [.int .i64 0, .int .i64 0, .int .i64 D, .int .i64 U]), (w.heap.size + 1, [.int .i64 j, .int .i64 b]), (w.heap.size, [.int .i64 i, .int .i64 a])] W ∧ Below W3.heap.size W3 W)) (fun iv _ => n - (intOf iv).toNat)
    case atStart => exact ⟨0, Nat.zero_le _, rfl, K3.out, Below.refl _ _⟩
    case round =>
      clear K3
      obtain ⟨k, hk, rfl, HB⟩ := hrel
      by_cases hlt : k < n
      · obtain ⟨x, hx⟩ : ∃ x, L[k]? = some x := ⟨L[k]'(by rw [HN.out]; exact hlt), List.getElem?_eq_getElem (by rw [HN.out]; exact hlt)⟩
        obtain ⟨g, rfl, _, h2⟩ := HC.out k x hx
        have HH : Hid (wr.cell? ⟨g, k * 2 + 1, none⟩ = some (.int .i64 x)) := (HB.out.2.cell (World.block_lt_of_cell? W3 _ h2)).trans h2
        obtain ⟨y, y1, y2⟩ := HE.out k x hx
        clear h2 hx HC
        go_wp2_with fail
        refine wp_region_held_drew (S := fun W : World => (W.cell? ⟨g, k * 2 + 1, none⟩ = some (.int .i64 x)) ∧ BS w [(w.heap.size + 2, [.int .i64 0, .int .i64 0, .int .i64 D, .int .i64 U]), (w.heap.size + 1, [.int .i64 j, .int .i64 b]), (w.heap.size, [.int .i64 i, .int .i64 a])] W ∧ Below W3.heap.size W3 W) (by kernel_rfl) ⟨HH.out, HB.out.1.drew, HB.out.2.drew⟩ (fun hHeld => ?_)
        refine wpAnyH_take (i := 0) (v := ?_) (oi := { dst := some 62, op := _, type := _, pos := _, after := _, guard := none }) rfl (by kernel_rfl) (by kernel_rfl) (by kernel_rfl) (fun _ _ _ h => h) (Or.inl ⟨by kernel_rfl, ?_⟩) (by assumption) ?_
        case refine_2 => (intro w9 hSw; clear hSw; go_simp; try with_reducible rfl)
        simp only [Act.put, List.setIfInBounds_toArray, List.set_cons_zero, List.set_cons_succ]
        refine wpAnyH_take (i := 1) (v := ?_) (oi := { dst := some 63, op := _, type := _, pos := _, after := _, guard := none }) rfl (by kernel_rfl) (by kernel_rfl) (by kernel_rfl) (fun _ _ _ h => h) (Or.inl ⟨by kernel_rfl, ?_⟩) (by assumption) ?_
        case refine_2 => (intro w9 hSw; clear hSw; go_simp; try with_reducible rfl)
        simp only [Act.put, List.setIfInBounds_toArray, List.set_cons_zero, List.set_cons_succ]
        refine wpAnyH_take (i := 2) (v := ?_) (oi := { dst := some 64, op := _, type := _, pos := _, after := _, guard := none }) rfl (by kernel_rfl) (by kernel_rfl) (by kernel_rfl) (fun _ _ _ h => h) (Or.inl ⟨by kernel_rfl, ?_⟩) (by assumption) ?_
        case refine_2 => (intro w9 hSw; clear hSw; go_simp; try with_reducible rfl)
        simp only [Act.put, List.setIfInBounds_toArray, List.set_cons_zero, List.set_cons_succ]
        refine wpAnyH_take (i := 3) (v := ?_) (oi := { dst := some 65, op := _, type := _, pos := _, after := _, guard := none }) rfl (by kernel_rfl) (by kernel_rfl) (by kernel_rfl) (fun _ _ _ h => h) (Or.inl ⟨by kernel_rfl, ?_⟩) (by assumption) ?_
        case refine_2 => (intro w9 hSw; clear hSw; go_simp; try with_reducible rfl)
        simp only [Act.put, List.setIfInBounds_toArray, List.set_cons_zero, List.set_cons_succ]
        refine wpAnyH_take (i := 4) (v := ?_) (oi := { dst := some 66, op := _, type := _, pos := _, after := _, guard := none }) rfl (by kernel_rfl) (by kernel_rfl) (by kernel_rfl) (fun _ _ _ h => h) (Or.inl ⟨by kernel_rfl, ?_⟩) (by assumption) ?_
        case refine_2 => (intro w9 hSw; obtain ⟨la, lk, _⟩ := hSw; have le := (lk.at (w.heap.size) [.int .i64 i, .int .i64 a] (by simp)).c 1 rfl; go_simp; try with_reducible rfl)
        simp only [Act.put, List.setIfInBounds_toArray, List.set_cons_zero, List.set_cons_succ]
        refine wpAnyH_take (i := 5) (v := ?_) (oi := { dst := some 67, op := _, type := _, pos := _, after := _, guard := none }) rfl (by kernel_rfl) (by kernel_rfl) (by kernel_rfl) (fun _ _ _ h => h) (Or.inl ⟨by kernel_rfl, ?_⟩) (by assumption) ?_
        case refine_2 => (intro w9 hSw; clear hSw; go_simp; try with_reducible rfl)
        simp only [Act.put, List.setIfInBounds_toArray, List.set_cons_zero, List.set_cons_succ]
        refine wpAnyH_take (i := 6) (v := ?_) (oi := { dst := some 68, op := _, type := _, pos := _, after := _, guard := none }) rfl (by kernel_rfl) (by kernel_rfl) (by kernel_rfl) (fun _ _ _ h => h) (Or.inl ⟨by kernel_rfl, ?_⟩) (by assumption) ?_
        case refine_2 => (intro w9 hSw; obtain ⟨la, lk, _⟩ := hSw; have le := (lk.at (w.heap.size) [.int .i64 i, .int .i64 a] (by simp)).c 1 rfl; go_simp; try with_reducible rfl)
        simp only [Act.put, List.setIfInBounds_toArray, List.set_cons_zero, List.set_cons_succ]
        refine wpAnyH_take (i := 7) (v := ?_) (oi := { dst := some 69, op := _, type := _, pos := _, after := _, guard := none }) rfl (by kernel_rfl) (by kernel_rfl) (by kernel_rfl) (fun _ _ _ h => h) (Or.inl ⟨by kernel_rfl, ?_⟩) (by assumption) ?_
        case refine_2 => (intro w9 hSw; clear hSw; go_simp; try with_reducible rfl)
        simp only [Act.put, List.setIfInBounds_toArray, List.set_cons_zero, List.set_cons_succ]
        refine wpAnyH_take (i := 8) (v := ?_) (oi := { dst := some 70, op := _, type := _, pos := _, after := _, guard := none }) rfl (by kernel_rfl) (by kernel_rfl) (by kernel_rfl) (fun _ _ _ h => h) (Or.inl ⟨by kernel_rfl, ?_⟩) (by assumption) ?_
        case refine_2 => (intro w9 hSw; clear hSw; go_simp; try with_reducible rfl)
        simp only [Act.put, List.setIfInBounds_toArray, List.set_cons_zero, List.set_cons_succ]
        refine wpAnyH_take (i := 9) (v := ?_) (oi := { dst := some 71, op := _, type := _, pos := _, after := _, guard := none }) rfl (by kernel_rfl) (by kernel_rfl) (by kernel_rfl) (fun _ _ _ h => h) (Or.inl ⟨by kernel_rfl, ?_⟩) (by assumption) ?_
        case refine_2 => (intro w9 hSw; clear hSw; go_simp; try with_reducible rfl)
        simp only [Act.put, List.setIfInBounds_toArray, List.set_cons_zero, List.set_cons_succ]
        refine wpAnyH_take (i := 10) (v := ?_) (oi := { dst := some 72, op := _, type := _, pos := _, after := _, guard := none }) rfl (by kernel_rfl) (by kernel_rfl) (by kernel_rfl) (fun _ _ _ h => h) (Or.inl ⟨by kernel_rfl, ?_⟩) (by assumption) ?_
        case refine_2 => (intro w9 hSw; clear hSw; go_simp; try with_reducible rfl)
        simp only [Act.put, List.setIfInBounds_toArray, List.set_cons_zero, List.set_cons_succ]
        refine wpAnyH_take (i := 11) (v := ?_) (oi := { dst := some 73, op := _, type := _, pos := _, after := _, guard := none }) rfl (by kernel_rfl) (by kernel_rfl) (by kernel_rfl) (fun _ _ _ h => h) (Or.inl ⟨by kernel_rfl, ?_⟩) (by assumption) ?_
        case refine_2 => (intro w9 hSw; clear hSw; go_simp; try with_reducible rfl)
        simp only [Act.put, List.setIfInBounds_toArray, List.set_cons_zero, List.set_cons_succ]
        refine wpAnyH_take (i := 12) (v := ?_) (oi := { dst := some 74, op := _, type := _, pos := _, after := _, guard := none }) rfl (by kernel_rfl) (by kernel_rfl) (by kernel_rfl) (fun _ _ _ h => h) (Or.inl ⟨by kernel_rfl, ?_⟩) (by assumption) ?_
        case refine_2 => (intro w9 hSw; clear hSw; go_simp; try with_reducible rfl)
        simp only [Act.put, List.setIfInBounds_toArray, List.set_cons_zero, List.set_cons_succ]
        refine wpAnyH_take (i := 13) (v := ?_) (oi := { dst := some 75, op := _, type := _, pos := _, after := _, guard := none }) rfl (by kernel_rfl) (by kernel_rfl) (by kernel_rfl) (fun _ _ _ h => h) (Or.inl ⟨by kernel_rfl, ?_⟩) (by assumption) ?_
        case refine_2 => (intro w9 hSw; clear hSw; go_simp; try with_reducible rfl)
        simp only [Act.put, List.setIfInBounds_toArray, List.set_cons_zero, List.set_cons_succ]
        refine wpAnyH_take (i := 14) (v := ?_) (oi := { dst := some 76, op := _, type := _, pos := _, after := _, guard := none }) rfl (by kernel_rfl) (by kernel_rfl) (by kernel_rfl) (fun _ _ _ h => h) (Or.inl ⟨by kernel_rfl, ?_⟩) (by assumption) ?_
        case refine_2 => (intro w9 hSw; clear hSw; go_simp; try with_reducible rfl)
        simp only [Act.put, List.setIfInBounds_toArray, List.set_cons_zero, List.set_cons_succ]
        refine wpAnyH_done (by kernel_rfl) ?_ _
        go_wp2_with fail
        go_roundw
        case rel => exact ⟨k + 1, by omega, by go_num, hHeld.2⟩
        case measure => simp [intOf]; omega
      · go_wp2_with fail
        refine (KN.out _ (hL.out _ HB.out.1.1)).mono ?_
        rintro e W9 ⟨rfl, hb⟩
        have HB9 : Hid (Below w.heap.size w W9) := HB.out.1.1.trans (hb.mono HB.out.1.1.size)
        clear hb HB
        go_wp2_with fail
        go_ret
        exact ⟨rfl, HB9.out⟩


end Go.Proofs.YtpdmndlpgjjopaaGreatDoor
